/-
  What is drawn from bytes: a reader, one of a list. No condition.
-/
import Derived.Test.YtmhdciohpmofbacRows
import Derived.Test.YtmhdciohpmofbacSym
import Derived.Test.YtmhdciohpmofbacIds
import Derived.Test.YtmhdciohpmofbacDraw
import Derived.WalkKit
import Derived.ProofKit
import Derived.OpenShut
namespace Go.Proofs.Ytmhdciohpmofbac.Draw
open Go.ChangeShapes Go.WideShapes Go.ChangeAt Go.RowKit Go.Sx Go.Proofs.Ytmhdciohpmofbac.Ids
set_option linter.unusedVariables false
set_option linter.unusedSimpArgs false

theorem bldR (xs : List (V Sy)) : abuild (symNum []) (tiOf Try.prog) 65 [(0, .slice xs)] = some (.agg [.slice xs, .int .i64 (.c 0)]) := by kernel_rfl
theorem refs_u8s (bs : List Int) : refsL (u8s bs) = [] := by
  induction bs with
  | nil => rfl
  | cons b r ih => simpa [u8s, refsL, V.refs] using ih
theorem sl2 (bs : List Int) (h : 2000 < bs.length) : aslice (symNum []) (tiOf Try.prog) 22 (.slice (u8s bs)) none (some (.int .i64 (.c 2000))) none = some (.slice (u8s (bs.take 2000))) := by
  have h2 : (2000 : Nat) ≤ bs.length := by omega
  simp [aslice, tiY, tiU, bound, idx?, h2, u8s_take, symNum]

attribute [local simp] aops wants aop apure St.eval setTm_some setTm_none Tr.get_set aload evals apureB alen tiS tiI tiB tiY tiU fa0 fa1 abin aint isCmp sym_lt sym_eqs sym_neqs sym_eq sym_neq sym_gtr sym_leq sym_geq sym_add sym_sub sym_mul aeff idx? ofV aindexAddr astore look_cons aggDesc Sto.write u8s_length acallV_func symIn_run aifc_int

theorem newReader (bs : List Int) (m : Nat) :
    symRun Try.prog noK [] (m + 1) 37 [.slice (u8s bs)] ⟨0, [], 0⟩ = some (.ptr 0 0, ⟨1, [(0, [.slice (u8s (bs.take 2000)), .int .i64 (.c 0)])], 0⟩) := by
  refine own_run rfl Try.func37 rfl rfl ?_
  simp only [Try.f37]
  have h3 := True.intro
  by_cases h : 2000 < bs.length
  · have h1 : (2000 : Int) < bs.length := by omega
    repeat' (first | refine Wp.seq ?_ | refine Wp.block ?_ | (apply Wp.region; focus ((try simp [setArgs, h1, oeval, sl2 bs h, pevals, bldR, abox, V.cells]) <;> rfl)) | (refine Wp.cond_t ?_ ?_; focus (simp [setArgs, h1, oeval, sl2 bs h, pevals, bldR, abox, V.cells]; done)) | (refine Wp.cond_f ?_ ?_; focus (simp [setArgs, h1, oeval, sl2 bs h, pevals, bldR, abox, V.cells]; done)) | refine Wp.skip ?_ | refine Wp.ret ?_ | refine Wp.exit ?_ | refine Blk.here ?_ | (refine Blk.past ?_ ?_; focus (simp; done)))
    refine ⟨rfl, ?_⟩
    simp [answer, aresults, aresult, Sto.trim, Sto.new, V.refs, Nat.blt, deeper, refsL, refs_u8s, keepNew, h3]
  · have h1 : ¬ (2000 : Int) < bs.length := by omega
    have h2 : bs.take 2000 = bs := List.take_of_length_le (by omega)
    have h3 := h2
    repeat' (first | refine Wp.seq ?_ | refine Wp.block ?_ | (apply Wp.region; focus ((try simp [setArgs, h1, h2, pevals, bldR, abox, V.cells]) <;> rfl)) | (refine Wp.cond_t ?_ ?_; focus (simp [setArgs, h1, h2, pevals, bldR, abox, V.cells]; done)) | (refine Wp.cond_f ?_ ?_; focus (simp [setArgs, h1, h2, pevals, bldR, abox, V.cells]; done)) | refine Wp.skip ?_ | refine Wp.ret ?_ | refine Wp.exit ?_ | refine Blk.here ?_ | (refine Blk.past ?_ ?_; focus (simp; done)))
    refine ⟨rfl, ?_⟩
    simp [answer, aresults, aresult, Sto.trim, Sto.new, V.refs, Nat.blt, deeper, refsL, refs_u8s, keepNew, h3]

theorem _root_.Go.Sx.Nx.call {bs : List Int} {o : Nat} {p q : Int} {sto s1 : Sto Sy} (h : Nx bs o p q ⟨sto.next, sto.obs, sto.next⟩ s1) : Nx bs o p q sto ⟨s1.next, s1.obs, if s1.low < sto.low then s1.low else sto.low⟩ := by
  obtain ⟨p', h1, h2, h3⟩ := h.rd
  refine ⟨⟨p', h1, h2, h3.obj, h3.desc, h3.p0⟩, h.next, ?_, h.keep⟩
  have := h.low
  simp only
  split <;> omega

theorem one (bs : List Int) (hbs : ∀ b, b ∈ bs → 0 ≤ b ∧ b < 256) (o : Nat) (p : Int) (zs : List Int) (sto : Sto Sy) (h : Rd bs o p sto) (hp : p ≤ 1000000) (q : Nat) (hq : q ≠ o) (hz : Go.Sx.look sto.obs q = some (ints (nums zs)))
    (h1 : 1 ≤ zs.length) (h2 : zs.length ≤ 1000000) (m : Nat) :
    ∃ r, symRun Try.prog noK [] (m + 2) 72 [.ptr o 0, .rsl q 0 zs.length (some zs.length)] sto = some r ∧ ∃ x sto', r = (.int .i64 (.c x), sto') ∧ x ∈ zs ∧ Nx bs o p (p + 1) sto sto' := by
  refine own_run2 rfl Try.func72 rfl rfl ?_
  simp only [Try.f72]
  obtain ⟨_, hr, x, s1, rfl, hx0, hx1, hn⟩ := pick bs hbs o p zs.length ⟨sto.next, sto.obs, sto.next⟩ ⟨h.obj, h.desc, h.p0⟩ hp (by omega) m
  have hk := hn.keep q _ hq hz
  have hxl : x.toNat < zs.length := by omega
  have hge : zs[x.toNat]? = some zs[x.toNat] := List.getElem?_eq_getElem hxl
  have hlow := hn.low
  have hlt := h.lt
  repeat' (first | refine Wp.seq ?_ | refine Wp.block ?_ | (apply Wp.region; focus ((try simp [setArgs, hr, hx0, hx1, hk, hge, hxl]) <;> rfl)) | (refine Wp.cond_t ?_ ?_; focus (simp [setArgs, hr, hx0, hx1, hk, hge, hxl]; done)) | (refine Wp.cond_f ?_ ?_; focus (simp [setArgs, hr, hx0, hx1, hk, hge, hxl]; done)) | refine Wp.skip ?_ | refine Wp.ret ?_ | refine Wp.exit ?_ | refine Blk.here ?_ | (refine Blk.past ?_ ?_; focus (simp; done)))
  have hn2 := hn.call
  refine ⟨rfl, (.int .i64 (.c zs[x.toNat]), ⟨s1.next, s1.obs, if s1.low < sto.low then s1.low else sto.low⟩), ?_, _, _, rfl, List.getElem_mem hxl, hn2⟩
  simp [answer, aresults, aresult]
  exact trim_low (Nat.lt_of_le_of_lt hn2.low hlt)

theorem ten (sto : Sto Sy) : abuildSlice (symNum []) (tiOf Try.prog) sto 23 8 [(0, .int .i64 (.c 3)), (1, .int .i64 (.c 4)), (2, .int .i64 (.c 5)), (3, .int .i64 (.c 2)), (4, .int .i64 (.c 1)), (5, .int .i64 (.c 0)), (6, .int .i64 (.c 6)), (7, .int .i64 (.c (-1)))] = some (.rsl sto.next 0 8 (some 8), sto.new (ints (nums [3, 4, 5, 2, 1, 0, 6, -1]))) := by kernel_rfl

theorem ans1 {T : TypeId → Option Ti} {st : St Sy} {n0 t : Nat} {v : V Sy} (h : st.tm.get .any t = v) {Q : V Sy × Sto Sy → Prop} (hq : ∀ S, Q (v, S)) : ∃ r, answer T st n0 [.tmp t] = some r ∧ Q r :=
  ⟨(v, st.sto.trim n0 v), by simp [answer, aresults, aresult, h], hq _⟩

theorem take2000 {bs : List Int} (h : ∀ b, b ∈ bs → 0 ≤ b ∧ b < 256) : ∀ b, b ∈ bs.take 2000 → 0 ≤ b ∧ b < 256 := fun b hb => h b (List.mem_of_mem_take hb)

theorem drawParts (bs : List Int) (hbs : ∀ b, b ∈ bs → 0 ≤ b ∧ b < 256) (m : Nat) :
    ∃ r, symRun Try.prog noK [] (m + 3) 57 [.slice (u8s bs)] ⟨0, [], 0⟩ = some r ∧ ∃ x S, r = (.int .i64 (.c x), S) ∧ x ∈ ([3, 4, 5, 2, 1, 0, 6, -1] : List Int) := by
  refine own_run2 rfl Try.func57 rfl rfl ?_
  simp only [Try.f57]
  have hr := newReader bs (m + 1)
  obtain ⟨_, ho, x, s1, rfl, hx, hn⟩ := one (bs.take 2000) (take2000 hbs) 0 0 [3, 4, 5, 2, 1, 0, 6, -1] ⟨2, [(1, ints (nums [3, 4, 5, 2, 1, 0, 6, -1])), (0, [.slice (u8s (bs.take 2000)), .int .i64 (.c 0)])], 2⟩
    ⟨rfl, ⟨Nat.lt_succ_self 1, Nat.lt_succ_self 0, trivial⟩, Int.le_refl 0⟩ (by decide) 1 (by decide) rfl (by decide) (by decide) m
  rw [show ([3, 4, 5, 2, 1, 0, 6, -1] : List Int).length = 8 from rfl] at ho
  repeat' (first | refine Wp.seq ?_ | refine Wp.block ?_ | (apply Wp.region; focus ((try simp [setArgs, hr, ten, pevals, Sto.new, ho]) <;> rfl)) | (refine Wp.cond_t ?_ ?_; focus (simp [setArgs, hr, ten, pevals, Sto.new, ho]; done)) | (refine Wp.cond_f ?_ ?_; focus (simp [setArgs, hr, ten, pevals, Sto.new, ho]; done)) | refine Wp.skip ?_ | refine Wp.ret ?_ | refine Wp.exit ?_ | refine Blk.here ?_ | (refine Blk.past ?_ ?_; focus (simp; done)))
  exact ⟨rfl, ans1 (v := .int .i64 (.c x)) (by simp) (fun S => ⟨x, S, rfl, hx⟩)⟩

theorem drawBell (bs : List Int) (hbs : ∀ b, b ∈ bs → 0 ≤ b ∧ b < 256) (m : Nat) :
    ∃ r, symRun Try.prog noK [] (m + 4) 27 [.slice (u8s bs)] ⟨0, [], 0⟩ = some r ∧ ∃ x S, r = (.int .i64 (.c x), S) ∧ x ∈ ([3, 4, 5, 2, 1, 0, 6, -1] : List Int) := by
  refine own_run2 rfl Try.func27 rfl rfl ?_
  simp only [Try.f27]
  obtain ⟨_, hr, x, S, rfl, hx⟩ := drawParts bs hbs m
  repeat' (first | refine Wp.seq ?_ | refine Wp.block ?_ | (apply Wp.region; focus ((try simp [setArgs, hr]) <;> rfl)) | (refine Wp.cond_t ?_ ?_; focus (simp [setArgs, hr]; done)) | (refine Wp.cond_f ?_ ?_; focus (simp [setArgs, hr]; done)) | refine Wp.skip ?_ | refine Wp.ret ?_ | refine Wp.exit ?_ | refine Blk.here ?_ | (refine Blk.past ?_ ?_; focus (simp; done)))
  exact ⟨rfl, ans1 (v := .int .i64 (.c x)) (by simp) (fun S => ⟨x, S, rfl, hx⟩)⟩
theorem drawLost (bs : List Int) (hbs : ∀ b, b ∈ bs → 0 ≤ b ∧ b < 256) (m : Nat) :
    ∃ r, symRun Try.prog noK [] (m + 4) 31 [.slice (u8s bs)] ⟨0, [], 0⟩ = some r ∧ ∃ x S, r = (.int .i64 (.c x), S) ∧ x ∈ ([3, 4, 5, 2, 1, 0, 6, -1] : List Int) := by
  refine own_run2 rfl Try.func31 rfl rfl ?_
  simp only [Try.f31]
  obtain ⟨_, hr, x, S, rfl, hx⟩ := drawParts bs hbs m
  repeat' (first | refine Wp.seq ?_ | refine Wp.block ?_ | (apply Wp.region; focus ((try simp [setArgs, hr]) <;> rfl)) | (refine Wp.cond_t ?_ ?_; focus (simp [setArgs, hr]; done)) | (refine Wp.cond_f ?_ ?_; focus (simp [setArgs, hr]; done)) | refine Wp.skip ?_ | refine Wp.ret ?_ | refine Wp.exit ?_ | refine Blk.here ?_ | (refine Blk.past ?_ ?_; focus (simp; done)))
  exact ⟨rfl, ans1 (v := .int .i64 (.c x)) (by simp) (fun S => ⟨x, S, rfl, hx⟩)⟩
theorem drawUpDown (bs : List Int) (hbs : ∀ b, b ∈ bs → 0 ≤ b ∧ b < 256) (m : Nat) :
    ∃ r, symRun Try.prog noK [] (m + 4) 34 [.slice (u8s bs)] ⟨0, [], 0⟩ = some r ∧ ∃ x S, r = (.int .i64 (.c x), S) ∧ x ∈ ([3, 4, 5, 2, 1, 0, 6, -1] : List Int) := by
  refine own_run2 rfl Try.func34 rfl rfl ?_
  simp only [Try.f34]
  obtain ⟨_, hr, x, S, rfl, hx⟩ := drawParts bs hbs m
  repeat' (first | refine Wp.seq ?_ | refine Wp.block ?_ | (apply Wp.region; focus ((try simp [setArgs, hr]) <;> rfl)) | (refine Wp.cond_t ?_ ?_; focus (simp [setArgs, hr]; done)) | (refine Wp.cond_f ?_ ?_; focus (simp [setArgs, hr]; done)) | refine Wp.skip ?_ | refine Wp.ret ?_ | refine Wp.exit ?_ | refine Blk.here ?_ | (refine Blk.past ?_ ?_; focus (simp; done)))
  exact ⟨rfl, ans1 (v := .int .i64 (.c x)) (by simp) (fun S => ⟨x, S, rfl, hx⟩)⟩
end Go.Proofs.Ytmhdciohpmofbac.Draw

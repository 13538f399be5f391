/-
  What is drawn from bytes: a reader, one of a list. No condition.
-/
import Derived.Test.YtmhdciohpmofbabRows
import Derived.Test.YtmhdciohpmofbabSym
import Derived.Test.YtmhdciohpmofbabIds
import Derived.Test.YtmhdciohpmofbabDraw
import Derived.WalkKit
import Derived.ProofKit
import Derived.OpenShut
namespace Go.Proofs.Ytmhdciohpmofbab.Draw
open Go.ChangeShapes Go.WideShapes Go.ChangeAt Go.RowKit Go.Sx Go.Proofs.Ytmhdciohpmofbab.Ids
set_option linter.unusedVariables false
set_option linter.unusedSimpArgs false

theorem bldR (xs : List (V Sy)) : abuild (symNum []) (tiOf Try.prog) 99 [(0, .slice xs)] = some (.agg [.slice xs, .int .i64 (.c 0)]) := by kernel_rfl
theorem refs_u8s (bs : List Int) : refsL (u8s bs) = [] := by
  induction bs with
  | nil => rfl
  | cons b r ih => simpa [u8s, refsL, V.refs] using ih
theorem sl2 (bs : List Int) (h : 2000 < bs.length) : aslice (symNum []) (tiOf Try.prog) 22 (.slice (u8s bs)) none (some (.int .i64 (.c 2000))) none = some (.slice (u8s (bs.take 2000))) := by
  have h2 : (2000 : Nat) ≤ bs.length := by omega
  simp [aslice, tiY, tiU, bound, idx?, h2, u8s_take, symNum]

attribute [local simp] aops wants aop apure St.eval setTm_some setTm_none Tr.get_set aload evals apureB alen tiS tiI tiB tiY tiU fa0 fa1 abin aint isCmp sym_lt sym_eqs sym_neqs sym_eq sym_neq sym_gtr sym_leq sym_geq sym_add sym_sub sym_mul aeff idx? ofV aindexAddr astore look_cons aggDesc Sto.write u8s_length acallV_func symIn_run aifc_int

theorem newReader (bs : List Int) (m : Nat) :
    symRun Try.prog noK [] (m + 1) 53 [.slice (u8s bs)] ⟨0, [], 0⟩ = some (.ptr 0 0, ⟨1, [(0, [.slice (u8s (bs.take 2000)), .int .i64 (.c 0)])], 0⟩) := by
  refine own_run rfl Try.func53 rfl rfl ?_
  simp only [Try.f53]
  have h3 := True.intro
  by_cases h : 2000 < bs.length
  · have h1 : (2000 : Int) < bs.length := by omega
    repeat' (first | refine Wp.seq ?_ | refine Wp.block ?_ | (apply Wp.region; focus ((try simp [setArgs, h1, oeval, sl2 bs h, pevals, bldR, abox, V.cells]) <;> rfl)) | (refine Wp.cond_t ?_ ?_; focus (simp [setArgs, h1, oeval, sl2 bs h, pevals, bldR, abox, V.cells]; done)) | (refine Wp.cond_f ?_ ?_; focus (simp [setArgs, h1, oeval, sl2 bs h, pevals, bldR, abox, V.cells]; done)) | refine Wp.skip ?_ | refine Wp.ret ?_ | refine Wp.exit ?_ | refine Blk.here ?_ | (refine Blk.past ?_ ?_; focus (simp; done)))
    refine ⟨rfl, ?_⟩
    simp [answer, aresults, aresult, Sto.trim, Sto.new, V.refs, Nat.blt, deeper, refsL, refs_u8s, keepNew, h3]
  · have h1 : ¬ (2000 : Int) < bs.length := by omega
    have h2 : bs.take 2000 = bs := List.take_of_length_le (by omega)
    have h3 := h2
    repeat' (first | refine Wp.seq ?_ | refine Wp.block ?_ | (apply Wp.region; focus ((try simp [setArgs, h1, h2, pevals, bldR, abox, V.cells]) <;> rfl)) | (refine Wp.cond_t ?_ ?_; focus (simp [setArgs, h1, h2, pevals, bldR, abox, V.cells]; done)) | (refine Wp.cond_f ?_ ?_; focus (simp [setArgs, h1, h2, pevals, bldR, abox, V.cells]; done)) | refine Wp.skip ?_ | refine Wp.ret ?_ | refine Wp.exit ?_ | refine Blk.here ?_ | (refine Blk.past ?_ ?_; focus (simp; done)))
    refine ⟨rfl, ?_⟩
    simp [answer, aresults, aresult, Sto.trim, Sto.new, V.refs, Nat.blt, deeper, refsL, refs_u8s, keepNew, h3]

theorem _root_.Go.Sx.Nx.call {bs : List Int} {o : Nat} {p q : Int} {sto s1 : Sto Sy} (h : Nx bs o p q ⟨sto.next, sto.obs, sto.next⟩ s1) : Nx bs o p q sto ⟨s1.next, s1.obs, if s1.low < sto.low then s1.low else sto.low⟩ := by
  obtain ⟨p', h1, h2, h3⟩ := h.rd
  refine ⟨⟨p', h1, h2, h3.obj, h3.desc, h3.p0⟩, h.next, ?_, h.keep⟩
  have := h.low
  simp only
  split <;> omega

theorem one (bs : List Int) (hbs : ∀ b, b ∈ bs → 0 ≤ b ∧ b < 256) (o : Nat) (p : Int) (zs : List Int) (sto : Sto Sy) (h : Rd bs o p sto) (hp : p ≤ 1000000) (q : Nat) (hq : q ≠ o) (hz : Go.Sx.look sto.obs q = some (ints (nums zs)))
    (h1 : 1 ≤ zs.length) (h2 : zs.length ≤ 1000000) (m : Nat) :
    ∃ r, symRun Try.prog noK [] (m + 2) 75 [.ptr o 0, .rsl q 0 zs.length (some zs.length)] sto = some r ∧ ∃ x sto', r = (.int .i64 (.c x), sto') ∧ x ∈ zs ∧ Nx bs o p (p + 1) sto sto' := by
  refine own_run2 rfl Try.func75 rfl rfl ?_
  simp only [Try.f75]
  obtain ⟨_, hr, x, s1, rfl, hx0, hx1, hn⟩ := pick bs hbs o p zs.length ⟨sto.next, sto.obs, sto.next⟩ ⟨h.obj, h.desc, h.p0⟩ hp (by omega) m
  have hk := hn.keep q _ hq hz
  have hxl : x.toNat < zs.length := by omega
  have hge : zs[x.toNat]? = some zs[x.toNat] := List.getElem?_eq_getElem hxl
  have hlow := hn.low
  have hlt := h.lt
  repeat' (first | refine Wp.seq ?_ | refine Wp.block ?_ | (apply Wp.region; focus ((try simp [setArgs, hr, hx0, hx1, hk, hge, hxl]) <;> rfl)) | (refine Wp.cond_t ?_ ?_; focus (simp [setArgs, hr, hx0, hx1, hk, hge, hxl]; done)) | (refine Wp.cond_f ?_ ?_; focus (simp [setArgs, hr, hx0, hx1, hk, hge, hxl]; done)) | refine Wp.skip ?_ | refine Wp.ret ?_ | refine Wp.exit ?_ | refine Blk.here ?_ | (refine Blk.past ?_ ?_; focus (simp; done)))
  have hn2 := hn.call
  refine ⟨rfl, (.int .i64 (.c zs[x.toNat]), ⟨s1.next, s1.obs, if s1.low < sto.low then s1.low else sto.low⟩), ?_, _, _, rfl, List.getElem_mem hxl, hn2⟩
  simp [answer, aresults, aresult]
  exact trim_low (Nat.lt_of_le_of_lt hn2.low hlt)

theorem ans1 {T : TypeId → Option Ti} {st : St Sy} {n0 t : Nat} {v : V Sy} (h : st.tm.get .any t = v) {Q : V Sy × Sto Sy → Prop} (hq : ∀ S, Q (v, S)) : ∃ r, answer T st n0 [.tmp t] = some r ∧ Q r :=
  ⟨(v, st.sto.trim n0 v), by simp [answer, aresults, aresult, h], hq _⟩

theorem take2000 {bs : List Int} (h : ∀ b, b ∈ bs → 0 ≤ b ∧ b < 256) : ∀ b, b ∈ bs.take 2000 → 0 ≤ b ∧ b < 256 := fun b hb => h b (List.mem_of_mem_take hb)

theorem ten_drawFalling (sto : Sto Sy) : abuildSlice (symNum []) (tiOf Try.prog) sto 23 9 [(0, .int .i64 (.c 3)), (1, .int .i64 (.c 4)), (2, .int .i64 (.c 5)), (3, .int .i64 (.c 6)), (4, .int .i64 (.c 2)), (5, .int .i64 (.c 1)), (6, .int .i64 (.c 0)), (7, .int .i64 (.c 7)), (8, .int .i64 (.c (-1)))] = some (.rsl sto.next 0 9 (some 9), sto.new (ints (nums [3, 4, 5, 6, 2, 1, 0, 7, -1]))) := by kernel_rfl

theorem drawFalling (bs : List Int) (hbs : ∀ b, b ∈ bs → 0 ≤ b ∧ b < 256) (m : Nat) :
    ∃ r, symRun Try.prog noK [] (m + 3) 37 [.slice (u8s bs)] ⟨0, [], 0⟩ = some r ∧ ∃ x S, r = (.int .i64 (.c x), S) ∧ x ∈ ([3, 4, 5, 6, 2, 1, 0, 7, -1] : List Int) := by
  refine own_run2 rfl Try.func37 rfl rfl ?_
  simp only [Try.f37]
  have hr := newReader bs (m + 1)
  obtain ⟨_, ho, x, s1, rfl, hx, hn⟩ := one (bs.take 2000) (take2000 hbs) 0 0 [3, 4, 5, 6, 2, 1, 0, 7, -1] ⟨2, [(1, ints (nums [3, 4, 5, 6, 2, 1, 0, 7, -1])), (0, [.slice (u8s (bs.take 2000)), .int .i64 (.c 0)])], 2⟩
    ⟨rfl, ⟨Nat.lt_succ_self 1, Nat.lt_succ_self 0, trivial⟩, Int.le_refl 0⟩ (by decide) 1 (by decide) rfl (by decide) (by decide) m
  rw [show ([3, 4, 5, 6, 2, 1, 0, 7, -1] : List Int).length = 9 from rfl] at ho
  repeat' (first | refine Wp.seq ?_ | refine Wp.block ?_ | (apply Wp.region; focus ((try simp [setArgs, hr, ten_drawFalling, pevals, Sto.new, ho]) <;> rfl)) | (refine Wp.cond_t ?_ ?_; focus (simp [setArgs, hr, ten_drawFalling, pevals, Sto.new, ho]; done)) | (refine Wp.cond_f ?_ ?_; focus (simp [setArgs, hr, ten_drawFalling, pevals, Sto.new, ho]; done)) | refine Wp.skip ?_ | refine Wp.ret ?_ | refine Wp.exit ?_ | refine Blk.here ?_ | (refine Blk.past ?_ ?_; focus (simp; done)))
  exact ⟨rfl, ans1 (v := .int .i64 (.c x)) (by simp) (fun S => ⟨x, S, rfl, hx⟩)⟩

theorem ten_drawParts (sto : Sto Sy) : abuildSlice (symNum []) (tiOf Try.prog) sto 23 8 [(0, .int .i64 (.c 3)), (1, .int .i64 (.c 4)), (2, .int .i64 (.c 5)), (3, .int .i64 (.c 2)), (4, .int .i64 (.c 1)), (5, .int .i64 (.c 0)), (6, .int .i64 (.c 6)), (7, .int .i64 (.c (-1)))] = some (.rsl sto.next 0 8 (some 8), sto.new (ints (nums [3, 4, 5, 2, 1, 0, 6, -1]))) := by kernel_rfl

theorem drawParts (bs : List Int) (hbs : ∀ b, b ∈ bs → 0 ≤ b ∧ b < 256) (m : Nat) :
    ∃ r, symRun Try.prog noK [] (m + 3) 42 [.slice (u8s bs)] ⟨0, [], 0⟩ = some r ∧ ∃ x S, r = (.int .i64 (.c x), S) ∧ x ∈ ([3, 4, 5, 2, 1, 0, 6, -1] : List Int) := by
  refine own_run2 rfl Try.func42 rfl rfl ?_
  simp only [Try.f42]
  have hr := newReader bs (m + 1)
  obtain ⟨_, ho, x, s1, rfl, hx, hn⟩ := one (bs.take 2000) (take2000 hbs) 0 0 [3, 4, 5, 2, 1, 0, 6, -1] ⟨2, [(1, ints (nums [3, 4, 5, 2, 1, 0, 6, -1])), (0, [.slice (u8s (bs.take 2000)), .int .i64 (.c 0)])], 2⟩
    ⟨rfl, ⟨Nat.lt_succ_self 1, Nat.lt_succ_self 0, trivial⟩, Int.le_refl 0⟩ (by decide) 1 (by decide) rfl (by decide) (by decide) m
  rw [show ([3, 4, 5, 2, 1, 0, 6, -1] : List Int).length = 8 from rfl] at ho
  repeat' (first | refine Wp.seq ?_ | refine Wp.block ?_ | (apply Wp.region; focus ((try simp [setArgs, hr, ten_drawParts, pevals, Sto.new, ho]) <;> rfl)) | (refine Wp.cond_t ?_ ?_; focus (simp [setArgs, hr, ten_drawParts, pevals, Sto.new, ho]; done)) | (refine Wp.cond_f ?_ ?_; focus (simp [setArgs, hr, ten_drawParts, pevals, Sto.new, ho]; done)) | refine Wp.skip ?_ | refine Wp.ret ?_ | refine Wp.exit ?_ | refine Blk.here ?_ | (refine Blk.past ?_ ?_; focus (simp; done)))
  exact ⟨rfl, ans1 (v := .int .i64 (.c x)) (by simp) (fun S => ⟨x, S, rfl, hx⟩)⟩

theorem ten_c1 (sto : Sto Sy) : abuildSlice (symNum []) (tiOf Try.prog) sto 23 8 [(0, .int .i64 (.c 4)), (1, .int .i64 (.c 5)), (2, .int .i64 (.c 3)), (3, .int .i64 (.c 2)), (4, .int .i64 (.c 1)), (5, .int .i64 (.c 0)), (6, .int .i64 (.c 6)), (7, .int .i64 (.c (-1)))] = some (.rsl sto.next 0 8 (some 8), sto.new (ints (nums [4, 5, 3, 2, 1, 0, 6, -1]))) := by kernel_rfl
theorem ten_c2 (sto : Sto Sy) : abuildSlice (symNum []) (tiOf Try.prog) sto 23 8 [(0, .int .i64 (.c 2)), (1, .int .i64 (.c 1)), (2, .int .i64 (.c 3)), (3, .int .i64 (.c 0)), (4, .int .i64 (.c 4)), (5, .int .i64 (.c 5)), (6, .int .i64 (.c 6)), (7, .int .i64 (.c (-1)))] = some (.rsl sto.next 0 8 (some 8), sto.new (ints (nums [2, 1, 3, 0, 4, 5, 6, -1]))) := by kernel_rfl

theorem _root_.Go.Sx.Rd.new {bs : List Int} {o : Nat} {p : Int} {sto : Sto Sy} (h : Rd bs o p sto) (xs : Ob Sy) (low : Nat) : Rd bs o p ⟨sto.next + 1, (sto.next, xs) :: sto.obs, low⟩ := by
  have := h.lt
  refine ⟨?_, ⟨Nat.lt_succ_self _, h.desc⟩, h.p0⟩
  simp only [look_cons]
  rw [if_neg (by omega)]
  exact h.obj

theorem ans2 {T : TypeId → Option Ti} {st : St Sy} {n0 t u : Nat} {v y : V Sy} (h : st.tm.get .any t = v) (h2 : st.tm.get .any u = y) {Q : V Sy × Sto Sy → Prop} (hq : ∀ S, Q (.tup [v, y], S)) : ∃ r, answer T st n0 [.tmp t, .tmp u] = some r ∧ Q r :=
  ⟨(.tup [v, y], st.sto.trim n0 (.tup [v, y])), by simp [answer, aresults, aresult, h, h2], hq _⟩

set_option maxRecDepth 10000 in
theorem counts (bs : List Int) (hbs : ∀ b, b ∈ bs → 0 ≤ b ∧ b < 256) (o : Nat) (p : Int) (sto : Sto Sy) (h : Rd bs o p sto) (hp : p ≤ 1000) (m : Nat) :
    ∃ r, symRun Try.prog noK [] (m + 3) 99 [.ptr o 0] sto = some r ∧ ∃ x y S, r = (.tup [.int .i64 (.c x), .int .i64 (.c y)], S) ∧ x ∈ ([4, 5, 3, 2, 1, 0, 6, -1] : List Int) ∧ y ∈ ([2, 1, 3, 0, 4, 5, 6, -1] : List Int) := by
  refine own_run2 rfl Try.func99 rfl rfl ?_
  simp only [Try.f99]
  have hlt := h.lt
  obtain ⟨_, h1, x, s1, rfl, hx, hn⟩ := one bs hbs o p [4, 5, 3, 2, 1, 0, 6, -1] ⟨sto.next + 1, (sto.next, ints (nums [4, 5, 3, 2, 1, 0, 6, -1])) :: sto.obs, sto.next + 1⟩ (h.new _ _) (by omega) sto.next (by omega) (by simp [look_cons]) (by decide) (by decide) m
  rw [show ([4, 5, 3, 2, 1, 0, 6, -1] : List Int).length = 8 from rfl] at h1
  obtain ⟨p', hp1, hp2, hr⟩ := hn.rd
  have hnx := hn.next
  simp only at hnx
  obtain ⟨_, h2, y, s2, rfl, hy, hn2⟩ := one bs hbs o p' [2, 1, 3, 0, 4, 5, 6, -1] ⟨s1.next + 1, (s1.next, ints (nums [2, 1, 3, 0, 4, 5, 6, -1])) :: s1.obs, s1.next + 1⟩ (hr.new _ _) (by omega) s1.next (by omega) (by simp [look_cons]) (by decide) (by decide) m
  rw [show ([2, 1, 3, 0, 4, 5, 6, -1] : List Int).length = 8 from rfl] at h2
  repeat' (first | refine Wp.seq ?_ | refine Wp.block ?_ | (apply Wp.region; focus ((try simp [setArgs, ten_c1, ten_c2, pevals, Sto.new, h1, h2]) <;> rfl)) | (refine Wp.cond_t ?_ ?_; focus (simp [setArgs, ten_c1, ten_c2, pevals, Sto.new, h1, h2]; done)) | (refine Wp.cond_f ?_ ?_; focus (simp [setArgs, ten_c1, ten_c2, pevals, Sto.new, h1, h2]; done)) | refine Wp.skip ?_ | refine Wp.ret ?_ | refine Wp.exit ?_ | refine Blk.here ?_ | (refine Blk.past ?_ ?_; focus (simp; done)))
  exact ⟨rfl, ans2 (v := .int .i64 (.c x)) (y := .int .i64 (.c y)) (by simp) (by simp) (fun S => ⟨x, y, S, rfl, hx, hy⟩)⟩

set_option maxRecDepth 10000 in
theorem drawPartCount (bs : List Int) (hbs : ∀ b, b ∈ bs → 0 ≤ b ∧ b < 256) (m : Nat) :
    ∃ r, symRun Try.prog noK [] (m + 4) 47 [.slice (u8s bs)] ⟨0, [], 0⟩ = some r ∧ ∃ x y S, r = (.tup [.int .i64 (.c x), .int .i64 (.c y)], S) ∧ x ∈ ([4, 5, 3, 2, 1, 0, 6, -1] : List Int) ∧ y ∈ ([2, 1, 3, 0, 4, 5, 6, -1] : List Int) := by
  refine own_run2 rfl Try.func47 rfl rfl ?_
  simp only [Try.f47]
  have hr := newReader bs (m + 2)
  obtain ⟨_, h1, x, y, S, rfl, hx, hy⟩ := counts (bs.take 2000) (take2000 hbs) 0 0 ⟨1, [(0, [.slice (u8s (bs.take 2000)), .int .i64 (.c 0)])], 1⟩ ⟨rfl, ⟨Nat.lt_succ_self 0, trivial⟩, Int.le_refl 0⟩ (by decide) m
  repeat' (first | refine Wp.seq ?_ | refine Wp.block ?_ | (apply Wp.region; focus ((try simp [setArgs, hr, h1]) <;> rfl)) | (refine Wp.cond_t ?_ ?_; focus (simp [setArgs, hr, h1]; done)) | (refine Wp.cond_f ?_ ?_; focus (simp [setArgs, hr, h1]; done)) | refine Wp.skip ?_ | refine Wp.ret ?_ | refine Wp.exit ?_ | refine Blk.here ?_ | (refine Blk.past ?_ ?_; focus (simp; done)))
  exact ⟨rfl, ans2 (v := .int .i64 (.c x)) (y := .int .i64 (.c y)) (by simp) (by simp) (fun S => ⟨x, y, S, rfl, hx, hy⟩)⟩

end Go.Proofs.Ytmhdciohpmofbab.Draw

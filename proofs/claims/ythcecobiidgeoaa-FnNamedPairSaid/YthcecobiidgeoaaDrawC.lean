/-
  What functions that draw from bytes make, by runs by hand: a reader, numbers, lists. No condition.
-/
import Derived.Test.YthcecobiidgeoaaRows
import Derived.Test.YthcecobiidgeoaaSym
import Derived.Test.YthcecobiidgeoaaIds
import Derived.Test.YthcecobiidgeoaaDraw
import Derived.WalkKit
import Derived.ProofKit
import Derived.OpenShut
namespace Go.Proofs.Ythcecobiidgeoaa.Draw
open Go.ChangeShapes Go.WideShapes Go.ChangeAt Go.RowKit Go.Sx Go.Proofs.Ythcecobiidgeoaa.Ids
set_option linter.unusedVariables false
set_option linter.unusedSimpArgs false

theorem bldR (xs : List (V Sy)) : abuild (symNum []) (tiOf Try.prog) 87 [(0, .slice xs)] = some (.agg [.slice xs, .int .i64 (.c 0)]) := by kernel_rfl
theorem refs_u8s (bs : List Int) : refsL (u8s bs) = [] := by
  induction bs with
  | nil => rfl
  | cons b r ih => simpa [u8s, refsL, V.refs] using ih
theorem sl2 (bs : List Int) (h : 2000 < bs.length) : aslice (symNum []) (tiOf Try.prog) 27 (.slice (u8s bs)) none (some (.int .i64 (.c 2000))) none = some (.slice (u8s (bs.take 2000))) := by
  have h2 : (2000 : Nat) ≤ bs.length := by omega
  simp [aslice, tiY, tiU, bound, idx?, h2, u8s_take, symNum]

section
attribute [local simp] aops wants aop apure St.eval setTm_some setTm_none Tr.get_set aload evals apureB alen tiS tiI tiB tiY tiU fa0 fa1 abin aint isCmp sym_lt sym_eqs sym_neqs sym_eq sym_neq sym_gtr sym_leq sym_geq sym_add sym_sub sym_mul aeff idx? ofV aindexAddr astore look_cons aggDesc Sto.write u8s_length acallV_func symIn_run aifc_int

theorem newReader (bs : List Int) (m : Nat) :
    symRun Try.prog K0 [] (m + 1) 55 [.slice (u8s bs)] ⟨0, [], 0⟩ = some (.ptr 0 0, ⟨1, [(0, [.slice (u8s (bs.take 2000)), .int .i64 (.c 0)])], 0⟩) := by
  refine own_run hK0 Try.func55 rfl rfl ?_
  simp only [Try.f55]
  have h3 := True.intro
  by_cases h : 2000 < bs.length
  · have h1 : (2000 : Int) < bs.length := by omega
    repeat' (first | refine Wp.seq ?_ | refine Wp.block ?_ | (apply Wp.region; focus ((try simp [setArgs, h1, oeval, sl2 bs h, pevals, bldR, abox, V.cells]) <;> rfl)) | (refine Wp.cond_t ?_ ?_; focus (simp [setArgs, h1, oeval, sl2 bs h, pevals, bldR, abox, V.cells]; done)) | (refine Wp.cond_f ?_ ?_; focus (simp [setArgs, h1, oeval, sl2 bs h, pevals, bldR, abox, V.cells]; done)) | refine Wp.skip ?_ | refine Wp.ret ?_ | refine Wp.exit ?_ | refine Blk.here ?_ | (refine Blk.past ?_ ?_; focus (simp; done)))
    refine ⟨rfl, ?_⟩
    simp [answer, aresults, aresult, Sto.trim, Sto.new, V.refs, Nat.blt, deeper, refsL, refs_u8s, keepNew, h3]
  · have h1 : ¬ (2000 : Int) < bs.length := by omega
    have h2 : bs.take 2000 = bs := List.take_of_length_le (by omega)
    have h3 := h2
    repeat' (first | refine Wp.seq ?_ | refine Wp.block ?_ | (apply Wp.region; focus ((try simp [setArgs, h1, h2, pevals, bldR, abox, V.cells]) <;> rfl)) | (refine Wp.cond_t ?_ ?_; focus (simp [setArgs, h1, h2, pevals, bldR, abox, V.cells]; done)) | (refine Wp.cond_f ?_ ?_; focus (simp [setArgs, h1, h2, pevals, bldR, abox, V.cells]; done)) | refine Wp.skip ?_ | refine Wp.ret ?_ | refine Wp.exit ?_ | refine Blk.here ?_ | (refine Blk.past ?_ ?_; focus (simp; done)))
    refine ⟨rfl, ?_⟩
    simp [answer, aresults, aresult, Sto.trim, Sto.new, V.refs, Nat.blt, deeper, refsL, refs_u8s, keepNew, h3]

theorem _root_.Go.Sx.Nx.call {bs : List Int} {o : Nat} {p q : Int} {sto s1 : Sto Sy} (h : Nx bs o p q ⟨sto.next, sto.obs, sto.next⟩ s1) : Nx bs o p q sto ⟨s1.next, s1.obs, if s1.low < sto.low then s1.low else sto.low⟩ := by
  obtain ⟨p', h1, h2, h3⟩ := h.rd
  refine ⟨⟨p', h1, h2, h3.obj, h3.desc, h3.p0⟩, h.next, ?_, h.keep⟩
  have := h.low
  simp only
  split <;> omega

theorem one (bs : List Int) (hbs : ∀ b, b ∈ bs → 0 ≤ b ∧ b < 256) (o : Nat) (p : Int) (zs : List Int) (sto : Sto Sy) (h : Rd bs o p sto) (hp : p ≤ 1000000) (q : Nat) (hq : q ≠ o) (hz : Go.Sx.look sto.obs q = some (ints (nums zs)))
    (h1 : 1 ≤ zs.length) (h2 : zs.length ≤ 1000000) (m : Nat) :
    ∃ r, symRun Try.prog K0 [] (m + 2) 56 [.ptr o 0, .rsl q 0 zs.length (some zs.length)] sto = some r ∧ ∃ x sto', r = (.int .i64 (.c x), sto') ∧ x ∈ zs ∧ Nx bs o p (p + 1) sto sto' := by
  refine own_run2 hK0 Try.func56 rfl rfl ?_
  simp only [Try.f56]
  obtain ⟨_, hr, x, s1, rfl, hx0, hx1, hn⟩ := pick bs hbs o p zs.length ⟨sto.next, sto.obs, sto.next⟩ ⟨h.obj, h.desc, h.p0⟩ hp (by omega) m
  have hk := hn.keep q _ hq hz
  have hxl : x.toNat < zs.length := by omega
  have hge : zs[x.toNat]? = some zs[x.toNat] := List.getElem?_eq_getElem hxl
  have hlow := hn.low
  have hlt := h.lt
  repeat' (first | refine Wp.seq ?_ | refine Wp.block ?_ | (apply Wp.region; focus ((try simp [setArgs, hr, hx0, hx1, hk, hge, hxl]) <;> rfl)) | (refine Wp.cond_t ?_ ?_; focus (simp [setArgs, hr, hx0, hx1, hk, hge, hxl]; done)) | (refine Wp.cond_f ?_ ?_; focus (simp [setArgs, hr, hx0, hx1, hk, hge, hxl]; done)) | refine Wp.skip ?_ | refine Wp.ret ?_ | refine Wp.exit ?_ | refine Blk.here ?_ | (refine Blk.past ?_ ?_; focus (simp; done)))
  have hn2 := hn.call
  refine ⟨rfl, (.int .i64 (.c zs[x.toNat]), ⟨s1.next, s1.obs, if s1.low < sto.low then s1.low else sto.low⟩), ?_, _, _, rfl, List.getElem_mem hxl, hn2⟩
  simp [answer, aresults, aresult]
  exact trim_low (Nat.lt_of_le_of_lt hn2.low hlt)
end

theorem ans1 {T : TypeId → Option Ti} {st : St Sy} {n0 t : Nat} {v : V Sy} (h : st.tm.get .any t = v) {Q : V Sy × Sto Sy → Prop} (hq : ∀ S, Q (v, S)) : ∃ r, answer T st n0 [.tmp t] = some r ∧ Q r :=
  ⟨(v, st.sto.trim n0 v), by simp [answer, aresults, aresult, h], hq _⟩

theorem take2000 {bs : List Int} (h : ∀ b, b ∈ bs → 0 ≤ b ∧ b < 256) : ∀ b, b ∈ bs.take 2000 → 0 ≤ b ∧ b < 256 := fun b hb => h b (List.mem_of_mem_take hb)

/-- A number is picked. -/
theorem pickC (bs : List Int) (hbs : ∀ b, b ∈ bs → 0 ≤ b ∧ b < 256) {o : Nat} {P : Int} {S : Sto Sy} (h : Rdy bs o P S) (hP : P ≤ 1000000) (n : Int) (hn : 1 ≤ n) (f : Nat) (hf : 1 ≤ f) :
    ∃ x S1, acallV (symIn Try.prog K0 [] f) S (.func 90 [] []) [.ptr o 0, .int .i64 (.c n)] = some (.int .i64 (.c x), S1) ∧ Nw bs o (P + 1) [] S S1 ∧ 0 ≤ x ∧ x < n := by
  obtain ⟨m, rfl⟩ : ∃ m, f = m + 1 := ⟨f - 1, by omega⟩
  obtain ⟨p, hp, hr⟩ := h.lows S.next
  obtain ⟨_, h1, x, s1, rfl, h2, h3, h4⟩ := pick bs hbs o p n _ hr (by omega) hn m
  obtain ⟨v, S1, k1, k2, k3⟩ := run_call (Φ := fun v _ => v = .int .i64 (.c x)) ⟨_, h1, h4.nw (Q := P + 1) (by omega), rfl⟩
  subst k3
  exact ⟨x, S1, k1, k2, h2, h3⟩

/-- One of a list that is written out. -/
theorem oneC (bs : List Int) (hbs : ∀ b, b ∈ bs → 0 ≤ b ∧ b < 256) {o : Nat} {P : Int} {S : Sto Sy} (h : Rdy bs o P S) (hP : P ≤ 1000000) (zs : List Int) (k : Nat) (hk : zs.length = k) (hk1 : 1 ≤ k) (hk2 : k ≤ 1000000) (f : Nat) (hf : 2 ≤ f) :
    ∃ x S1, acallV (symIn Try.prog K0 [] f) (S.new (ints (nums zs))) (.func 56 [] []) [.ptr o 0, .rsl S.next 0 k (some k)] = some (.int .i64 (.c x), S1) ∧ Nw bs o (P + 1) [] S S1 ∧ x ∈ zs := by
  subst hk
  obtain ⟨m, rfl⟩ : ∃ m, f = m + 2 := ⟨f - 2, by omega⟩
  obtain ⟨p, hp, hr⟩ := (h.new (ints (nums zs))).lows (S.new (ints (nums zs))).next
  obtain ⟨_, h1, x, s1, rfl, h2, h4⟩ := one bs hbs o p zs _ hr (by omega) S.next (by have := h.lt; omega) (look_new S _) hk1 hk2 m
  obtain ⟨v, S1, k1, k2, k3⟩ := run_call (Φ := fun v _ => v = .int .i64 (.c x)) ⟨_, h1, h4.nw (Q := P + 1) (by omega), rfl⟩
  subst k3
  exact ⟨x, S1, k1, k2.ahead h.desc (fun k hk => by cases hk), h2⟩

attribute [local simp] aops wants aop apure St.eval setTm_some setTm_none Tr.get_set aload evals pevals apureB alen tiS tiI tiB tiY tiU fa0 fa1 abin aint isCmp sym_lt sym_eqs sym_neqs sym_eq sym_neq sym_gtr sym_leq sym_geq sym_add sym_sub sym_mul aeff aeffB idx? ofV aindexAddr aggDesc aifc_int

theorem readerC (bs : List Int) (f : Nat) (hf : 1 ≤ f) : acallV (symIn Try.prog K0 [] f) ⟨0, [], 0⟩ (.func 55 [] []) [.slice (u8s bs)] = some (.ptr 0 0, ⟨1, [(0, [.slice (u8s (bs.take 2000)), .int .i64 (.c 0)])], 0⟩) := by
  obtain ⟨m, rfl⟩ : ∃ m, f = m + 1 := ⟨f - 1, by omega⟩
  rw [acallV_func (by decide), List.nil_append, List.append_nil, symIn_run (by decide), newReader bs m]
  rfl
theorem reader0 (bs : List Int) : ∃ S, S = (⟨1, [(0, [.slice (u8s (bs.take 2000)), .int .i64 (.c 0)])], 0⟩ : Sto Sy) ∧ Rdy (bs.take 2000) 0 0 S := ⟨_, rfl, 0, Int.le_refl 0, rfl, ⟨Nat.lt_succ_self 0, trivial⟩, Int.le_refl 0⟩

theorem lit0 (sto : Sto Sy) : abuildSlice (symNum []) (tiOf Try.prog) sto 30 8 [(0, .int .i64 (.c 3)), (1, .int .i64 (.c 4)), (2, .int .i64 (.c 5)), (3, .int .i64 (.c 2)), (4, .int .i64 (.c 1)), (5, .int .i64 (.c 0)), (6, .int .i64 (.c 6)), (7, .int .i64 (.c (-1)))] = some (.rsl sto.next 0 8 (some 8), sto.new (ints (nums [3, 4, 5, 2, 1, 0, 6, -1]))) := by kernel_rfl
theorem litx (sto : Sto Sy) (x : Int) : abuildSlice (symNum []) (tiOf Try.prog) sto 30 1 [(0, .int .i64 (.c x))] = some (.rsl sto.next 0 1 (some 1), sto.new (ints (nums [x]))) := by kernel_rfl

set_option maxRecDepth 10000 in
theorem drawAllPartitions (bs : List Int) (hbs0 : ∀ b, b ∈ bs → 0 ≤ b ∧ b < 256) (m : Nat) : ∃ r, symRun Try.prog K0 [] (m + 100) 17 [.slice (u8s bs)] ⟨0, [], 0⟩ = some r ∧ ∃ x, r.1 = .int .i64 (.c x) ∧ -1000000 ≤ x ∧ x ≤ 1000000 := by
  refine own_run2 (n := m + 99) rfl Try.func17 rfl rfl ?_
  simp only [Try.f17]
  have hr := readerC bs (m + 99) (by omega)
  have hbs := take2000 hbs0
  obtain ⟨S0, e0, h0⟩ := reader0 bs
  rw [← e0] at hr
  clear e0
  generalize bs.take 2000 = bs1 at hbs h0
  obtain ⟨x, S1, hc1, hn1, hx⟩ := oneC bs1 hbs h0 (by omega) [3, 4, 5, 2, 1, 0, 6, -1] 8 rfl (by omega) (by omega) (m + 99) (by omega)
  repeat' (first | refine Wp.seq ?_ | refine Wp.block ?_ | (apply Wp.region; focus ((try simp [setArgs, hr, lit0, hc1]) <;> rfl)) | (refine Wp.cond_t ?_ ?_; focus (simp [setArgs, hr, lit0, hc1]; done)) | (refine Wp.cond_f ?_ ?_; focus (simp [setArgs, hr, lit0, hc1]; done)) | refine Wp.skip ?_ | refine Wp.ret ?_ | refine Wp.exit ?_ | refine Blk.here ?_ | (refine Blk.past ?_ ?_; focus (simp; done)))
  exact ⟨rfl, answer_trim1 (v := .int .i64 (.c x)) (by simp) ⟨x, rfl, by simp at hx; omega, by simp at hx; omega⟩⟩

end Go.Proofs.Ythcecobiidgeoaa.Draw

/-
  What functions that draw from bytes make, by runs by hand: a reader, numbers, lists. No condition.
-/
import Derived.Test.YtobdnpnohaonkaaRows
import Derived.Test.YtobdnpnohaonkaaSym
import Derived.Test.YtobdnpnohaonkaaIds
import Derived.Test.YtobdnpnohaonkaaDraw
import Derived.WalkKit
import Derived.ProofKit
import Derived.OpenShut
namespace Go.Proofs.Ytobdnpnohaonkaa.Draw
open Go.ChangeShapes Go.WideShapes Go.ChangeAt Go.RowKit Go.Sx Go.Proofs.Ytobdnpnohaonkaa.Ids
set_option linter.unusedVariables false
set_option linter.unusedSimpArgs false

theorem bldR (xs : List (V Sy)) : abuild (symNum []) (tiOf Try.prog) 66 [(0, .slice xs)] = some (.agg [.slice xs, .int .i64 (.c 0)]) := by kernel_rfl
theorem refs_u8s (bs : List Int) : refsL (u8s bs) = [] := by
  induction bs with
  | nil => rfl
  | cons b r ih => simpa [u8s, refsL, V.refs] using ih
theorem sl2 (bs : List Int) (h : 2000 < bs.length) : aslice (symNum []) (tiOf Try.prog) 22 (.slice (u8s bs)) none (some (.int .i64 (.c 2000))) none = some (.slice (u8s (bs.take 2000))) := by
  have h2 : (2000 : Nat) ≤ bs.length := by omega
  simp [aslice, tiY, tiU, bound, idx?, h2, u8s_take, symNum]

section
attribute [local simp] aops wants aop apure St.eval setTm_some setTm_none Tr.get_set aload evals apureB alen tiS tiI tiB tiY tiU fa0 fa1 abin aint isCmp sym_lt sym_eqs sym_neqs sym_eq sym_neq sym_gtr sym_leq sym_geq sym_add sym_sub sym_mul aeff idx? ofV aindexAddr astore look_cons aggDesc Sto.write u8s_length acallV_func symIn_run aifc_int

theorem newReader (bs : List Int) (m : Nat) :
    symRun Try.prog K0 [] (m + 1) 11 [.slice (u8s bs)] ⟨0, [], 0⟩ = some (.ptr 0 0, ⟨1, [(0, [.slice (u8s (bs.take 2000)), .int .i64 (.c 0)])], 0⟩) := by
  refine own_run hK0 Try.func11 rfl rfl ?_
  simp only [Try.f11]
  have h3 := True.intro
  by_cases h : 2000 < bs.length
  · have h1 : (2000 : Int) < bs.length := by omega
    repeat' (first | refine Wp.seq ?_ | refine Wp.block ?_ | (apply Wp.region; focus ((try simp [setArgs, h1, oeval, sl2 bs h, pevals, bldR, abox, V.cells]) <;> rfl)) | (refine Wp.cond_t ?_ ?_; focus (simp [setArgs, h1, oeval, sl2 bs h, pevals, bldR, abox, V.cells]; done)) | (refine Wp.cond_f ?_ ?_; focus (simp [setArgs, h1, oeval, sl2 bs h, pevals, bldR, abox, V.cells]; done)) | refine Wp.skip ?_ | refine Wp.ret ?_ | refine Wp.exit ?_ | refine Blk.here ?_ | (refine Blk.past ?_ ?_; focus (simp; done)))
    refine ⟨rfl, ?_⟩
    simp [answer, aresults, aresult, Sto.trim, Sto.new, V.refs, Nat.blt, deeper, refsL, refs_u8s, keepNew, h3]
  · have h1 : ¬ (2000 : Int) < bs.length := by omega
    have h2 : bs.take 2000 = bs := List.take_of_length_le (by omega)
    have h3 := h2
    repeat' (first | refine Wp.seq ?_ | refine Wp.block ?_ | (apply Wp.region; focus ((try simp [setArgs, h1, h2, pevals, bldR, abox, V.cells]) <;> rfl)) | (refine Wp.cond_t ?_ ?_; focus (simp [setArgs, h1, h2, pevals, bldR, abox, V.cells]; done)) | (refine Wp.cond_f ?_ ?_; focus (simp [setArgs, h1, h2, pevals, bldR, abox, V.cells]; done)) | refine Wp.skip ?_ | refine Wp.ret ?_ | refine Wp.exit ?_ | refine Blk.here ?_ | (refine Blk.past ?_ ?_; focus (simp; done)))
    refine ⟨rfl, ?_⟩
    simp [answer, aresults, aresult, Sto.trim, Sto.new, V.refs, Nat.blt, deeper, refsL, refs_u8s, keepNew, h3]

theorem _root_.Go.Sx.Nx.call {bs : List Int} {o : Nat} {p q : Int} {sto s1 : Sto Sy} (h : Nx bs o p q ⟨sto.next, sto.obs, sto.next⟩ s1) : Nx bs o p q sto ⟨s1.next, s1.obs, if s1.low < sto.low then s1.low else sto.low⟩ := by
  obtain ⟨p', h1, h2, h3⟩ := h.rd
  refine ⟨⟨p', h1, h2, h3.obj, h3.desc, h3.p0⟩, h.next, ?_, h.keep⟩
  have := h.low
  simp only
  split <;> omega

theorem one (bs : List Int) (hbs : ∀ b, b ∈ bs → 0 ≤ b ∧ b < 256) (o : Nat) (p : Int) (zs : List Int) (sto : Sto Sy) (h : Rd bs o p sto) (hp : p ≤ 1000000) (q : Nat) (hq : q ≠ o) (hz : Go.Sx.look sto.obs q = some (ints (nums zs)))
    (h1 : 1 ≤ zs.length) (h2 : zs.length ≤ 1000000) (m : Nat) :
    ∃ r, symRun Try.prog K0 [] (m + 2) 36 [.ptr o 0, .rsl q 0 zs.length (some zs.length)] sto = some r ∧ ∃ x sto', r = (.int .i64 (.c x), sto') ∧ x ∈ zs ∧ Nx bs o p (p + 1) sto sto' := by
  refine own_run2 hK0 Try.func36 rfl rfl ?_
  simp only [Try.f36]
  obtain ⟨_, hr, x, s1, rfl, hx0, hx1, hn⟩ := pick bs hbs o p zs.length ⟨sto.next, sto.obs, sto.next⟩ ⟨h.obj, h.desc, h.p0⟩ hp (by omega) m
  have hk := hn.keep q _ hq hz
  have hxl : x.toNat < zs.length := by omega
  have hge : zs[x.toNat]? = some zs[x.toNat] := List.getElem?_eq_getElem hxl
  have hlow := hn.low
  have hlt := h.lt
  repeat' (first | refine Wp.seq ?_ | refine Wp.block ?_ | (apply Wp.region; focus ((try simp [setArgs, hr, hx0, hx1, hk, hge, hxl]) <;> rfl)) | (refine Wp.cond_t ?_ ?_; focus (simp [setArgs, hr, hx0, hx1, hk, hge, hxl]; done)) | (refine Wp.cond_f ?_ ?_; focus (simp [setArgs, hr, hx0, hx1, hk, hge, hxl]; done)) | refine Wp.skip ?_ | refine Wp.ret ?_ | refine Wp.exit ?_ | refine Blk.here ?_ | (refine Blk.past ?_ ?_; focus (simp; done)))
  have hn2 := hn.call
  refine ⟨rfl, (.int .i64 (.c zs[x.toNat]), ⟨s1.next, s1.obs, if s1.low < sto.low then s1.low else sto.low⟩), ?_, _, _, rfl, List.getElem_mem hxl, hn2⟩
  simp [answer, aresults, aresult]
  exact trim_low (Nat.lt_of_le_of_lt hn2.low hlt)
end

theorem ans1 {T : TypeId → Option Ti} {st : St Sy} {n0 t : Nat} {v : V Sy} (h : st.tm.get .any t = v) {Q : V Sy × Sto Sy → Prop} (hq : ∀ S, Q (v, S)) : ∃ r, answer T st n0 [.tmp t] = some r ∧ Q r :=
  ⟨(v, st.sto.trim n0 v), by simp [answer, aresults, aresult, h], hq _⟩

theorem take2000 {bs : List Int} (h : ∀ b, b ∈ bs → 0 ≤ b ∧ b < 256) : ∀ b, b ∈ bs.take 2000 → 0 ≤ b ∧ b < 256 := fun b hb => h b (List.mem_of_mem_take hb)

/-- A number is picked. -/
theorem pickC (bs : List Int) (hbs : ∀ b, b ∈ bs → 0 ≤ b ∧ b < 256) {o : Nat} {P : Int} {S : Sto Sy} (h : Rdy bs o P S) (hP : P ≤ 1000000) (n : Int) (hn : 1 ≤ n) (f : Nat) (hf : 1 ≤ f) :
    ∃ x S1, acallV (symIn Try.prog K0 [] f) S (.func 13 [] []) [.ptr o 0, .int .i64 (.c n)] = some (.int .i64 (.c x), S1) ∧ Nw bs o (P + 1) [] S S1 ∧ 0 ≤ x ∧ x < n := by
  obtain ⟨m, rfl⟩ : ∃ m, f = m + 1 := ⟨f - 1, by omega⟩
  obtain ⟨p, hp, hr⟩ := h.lows S.next
  obtain ⟨_, h1, x, s1, rfl, h2, h3, h4⟩ := pick bs hbs o p n _ hr (by omega) hn m
  obtain ⟨v, S1, k1, k2, k3⟩ := run_call (Φ := fun v _ => v = .int .i64 (.c x)) ⟨_, h1, h4.nw (Q := P + 1) (by omega), rfl⟩
  subst k3
  exact ⟨x, S1, k1, k2, h2, h3⟩

/-- One of a list that is written out. -/
theorem oneC (bs : List Int) (hbs : ∀ b, b ∈ bs → 0 ≤ b ∧ b < 256) {o : Nat} {P : Int} {S : Sto Sy} (h : Rdy bs o P S) (hP : P ≤ 1000000) (zs : List Int) (k : Nat) (hk : zs.length = k) (hk1 : 1 ≤ k) (hk2 : k ≤ 1000000) (f : Nat) (hf : 2 ≤ f) :
    ∃ x S1, acallV (symIn Try.prog K0 [] f) (S.new (ints (nums zs))) (.func 36 [] []) [.ptr o 0, .rsl S.next 0 k (some k)] = some (.int .i64 (.c x), S1) ∧ Nw bs o (P + 1) [] S S1 ∧ x ∈ zs := by
  subst hk
  obtain ⟨m, rfl⟩ : ∃ m, f = m + 2 := ⟨f - 2, by omega⟩
  obtain ⟨p, hp, hr⟩ := (h.new (ints (nums zs))).lows (S.new (ints (nums zs))).next
  obtain ⟨_, h1, x, s1, rfl, h2, h4⟩ := one bs hbs o p zs _ hr (by omega) S.next (by have := h.lt; omega) (look_new S _) hk1 hk2 m
  obtain ⟨v, S1, k1, k2, k3⟩ := run_call (Φ := fun v _ => v = .int .i64 (.c x)) ⟨_, h1, h4.nw (Q := P + 1) (by omega), rfl⟩
  subst k3
  exact ⟨x, S1, k1, k2.ahead h.desc (fun k hk => by cases hk), h2⟩

attribute [local simp] aops wants aop apure St.eval setTm_some setTm_none Tr.get_set aload evals pevals apureB alen tiS tiI tiB tiY tiU fa0 fa1 abin aint isCmp sym_lt sym_eqs sym_neqs sym_eq sym_neq sym_gtr sym_leq sym_geq sym_add sym_sub sym_mul aeff aeffB idx? ofV aindexAddr aggDesc aifc_int

theorem readerC (bs : List Int) (f : Nat) (hf : 1 ≤ f) : acallV (symIn Try.prog K0 [] f) ⟨0, [], 0⟩ (.func 11 [] []) [.slice (u8s bs)] = some (.ptr 0 0, ⟨1, [(0, [.slice (u8s (bs.take 2000)), .int .i64 (.c 0)])], 0⟩) := by
  obtain ⟨m, rfl⟩ : ∃ m, f = m + 1 := ⟨f - 1, by omega⟩
  rw [acallV_func (by decide), List.nil_append, List.append_nil, symIn_run (by decide), newReader bs m]
  rfl
theorem reader0 (bs : List Int) : ∃ S, S = (⟨1, [(0, [.slice (u8s (bs.take 2000)), .int .i64 (.c 0)])], 0⟩ : Sto Sy) ∧ Rdy (bs.take 2000) 0 0 S := ⟨_, rfl, 0, Int.le_refl 0, rfl, ⟨Nat.lt_succ_self 0, trivial⟩, Int.le_refl 0⟩

theorem lit0 (sto : Sto Sy) : abuildSlice (symNum []) (tiOf Try.prog) sto 23 6 [(0, .int .i64 (.c 4)), (1, .int .i64 (.c 5)), (2, .int .i64 (.c 6)), (3, .int .i64 (.c 3)), (4, .int .i64 (.c 2)), (5, .int .i64 (.c 1))] = some (.rsl sto.next 0 6 (some 6), sto.new (ints (nums [4, 5, 6, 3, 2, 1]))) := by kernel_rfl
theorem lit1 (sto : Sto Sy) : abuildSlice (symNum []) (tiOf Try.prog) sto 23 0 [] = some (.rsl sto.next 0 0 (some 0), sto.new (ints (nums []))) := by kernel_rfl
theorem lit2 (sto : Sto Sy) : abuildSlice (symNum []) (tiOf Try.prog) sto 23 7 [(0, .int .i64 (.c 1)), (1, .int .i64 (.c 0)), (2, .int .i64 (.c 1)), (3, .int .i64 (.c (-1))), (4, .int .i64 (.c 2)), (5, .int .i64 (.c 3)), (6, .int .i64 (.c (-2)))] = some (.rsl sto.next 0 7 (some 7), sto.new (ints (nums [1, 0, 1, -1, 2, 3, -2]))) := by kernel_rfl
theorem lit3 (sto : Sto Sy) : abuildSlice (symNum []) (tiOf Try.prog) sto 23 7 [(0, .int .i64 (.c 6)), (1, .int .i64 (.c 24)), (2, .int .i64 (.c 120)), (3, .int .i64 (.c (-5))), (4, .int .i64 (.c 52)), (5, .int .i64 (.c 600)), (6, .int .i64 (.c (-600)))] = some (.rsl sto.next 0 7 (some 7), sto.new (ints (nums [6, 24, 120, -5, 52, 600, -600]))) := by kernel_rfl
theorem lit4 (sto : Sto Sy) : abuildSlice (symNum []) (tiOf Try.prog) sto 23 4 [(0, .int .i64 (.c 1)), (1, .int .i64 (.c 1)), (2, .int .i64 (.c 1)), (3, .int .i64 (.c (-1)))] = some (.rsl sto.next 0 4 (some 4), sto.new (ints (nums [1, 1, 1, -1]))) := by kernel_rfl
theorem lit5 (sto : Sto Sy) : abuildSlice (symNum []) (tiOf Try.prog) sto 23 2 [(0, .int .i64 (.c 0)), (1, .int .i64 (.c 2))] = some (.rsl sto.next 0 2 (some 2), sto.new (ints (nums [0, 2]))) := by kernel_rfl
theorem lit6 (sto : Sto Sy) : abuildSlice (symNum []) (tiOf Try.prog) sto 23 4 [(0, .int .i64 (.c 1)), (1, .int .i64 (.c 1)), (2, .int .i64 (.c (-1))), (3, .int .i64 (.c 1))] = some (.rsl sto.next 0 4 (some 4), sto.new (ints (nums [1, 1, -1, 1]))) := by kernel_rfl
theorem lit7 (sto : Sto Sy) : abuildSlice (symNum []) (tiOf Try.prog) sto 23 7 [(0, .int .i64 (.c 1)), (1, .int .i64 (.c 0)), (2, .int .i64 (.c 2)), (3, .int .i64 (.c (-1))), (4, .int .i64 (.c 3)), (5, .int .i64 (.c 10)), (6, .int .i64 (.c (-7)))] = some (.rsl sto.next 0 7 (some 7), sto.new (ints (nums [1, 0, 2, -1, 3, 10, -7]))) := by kernel_rfl
theorem lit8 (sto : Sto Sy) : abuildSlice (symNum []) (tiOf Try.prog) sto 23 3 [(0, .int .i64 (.c 1000000)), (1, .int .i64 (.c (-1000000))), (2, .int .i64 (.c 1000001))] = some (.rsl sto.next 0 3 (some 3), sto.new (ints (nums [1000000, -1000000, 1000001]))) := by kernel_rfl
theorem lit9 (sto : Sto Sy) : abuildSlice (symNum []) (tiOf Try.prog) sto 23 5 [(0, .int .i64 (.c 1)), (1, .int .i64 (.c 1)), (2, .int .i64 (.c 1)), (3, .int .i64 (.c 1)), (4, .int .i64 (.c 1))] = some (.rsl sto.next 0 5 (some 5), sto.new (ints (nums [1, 1, 1, 1, 1]))) := by kernel_rfl
theorem litx (sto : Sto Sy) (x : Int) : abuildSlice (symNum []) (tiOf Try.prog) sto 23 1 [(0, .int .i64 (.c x))] = some (.rsl sto.next 0 1 (some 1), sto.new (ints (nums [x]))) := by kernel_rfl

theorem longOf (bs : List Int) (hbs : ∀ b, b ∈ bs → 0 ≤ b ∧ b < 256) {o : Nat} {P : Int} {S : Sto Sy} (h : Rdy bs o P S) (hP : P ≤ 900000) (f : Nat) (hf : 3 ≤ f) :
    ∃ v S1, acallV (symIn Try.prog K0 [] f) S (.func 35 [] []) [.ptr o 0] = some (v, S1) ∧ Nw bs o (P + 1) [] S S1 ∧ ∃ x : Nat, v = .int .i64 (.c x) ∧ 1 ≤ x ∧ x ≤ 6 := by
  obtain ⟨g, rfl⟩ : ∃ g, f = g + 1 := ⟨f - 1, by omega⟩
  refine run_call (Φ := fun v _ => ∃ x : Nat, v = .int .i64 (.c x) ∧ 1 ≤ x ∧ x ≤ 6) (own_run2 hK0 Try.func35 rfl rfl ?_)
  simp only [Try.f35]
  have h0 := h.lows S.next
  have hlt := h.lt
  have hN : (⟨S.next, S.obs, S.next⟩ : Sto Sy).next = S.next := rfl
  generalize (⟨S.next, S.obs, S.next⟩ : Sto Sy) = S0 at h0 hN ⊢
  obtain ⟨x, S1, hc, hn, hx⟩ := oneC bs hbs h0 (by omega) [4, 5, 6, 3, 2, 1] 6 rfl (by omega) (by omega) g (by omega)
  repeat' (first | refine Wp.seq ?_ | refine Wp.block ?_ | (apply Wp.region; focus ((try simp [setArgs, lit0, hc]) <;> rfl)) | (refine Wp.cond_t ?_ ?_; focus (simp [setArgs, lit0, hc]; done)) | (refine Wp.cond_f ?_ ?_; focus (simp [setArgs, lit0, hc]; done)) | refine Wp.skip ?_ | refine Wp.ret ?_ | refine Wp.exit ?_ | refine Blk.here ?_ | (refine Blk.past ?_ ?_; focus (simp; done)))
  refine ⟨rfl, answer_one (v := .int .i64 (.c x)) (by simp) (hn.lowlt h0 hN) ⟨hn, x.toNat, ?_⟩⟩
  simp at hx
  have : 1 ≤ x ∧ x ≤ 6 := by omega
  exact ⟨by rw [Int.toNat_of_nonneg (by omega)], by omega, by omega⟩

set_option maxRecDepth 10000 in
theorem seriesOf (bs : List Int) (hbs : ∀ b, b ∈ bs → 0 ≤ b ∧ b < 256) {o : Nat} {P : Int} {S : Sto Sy} (h : Rdy bs o P S) (hP : P ≤ 900000) (n : Nat) (hn : n ≤ 25) (f : Nat) (hf : 30 ≤ f) :
    ∃ v S1, acallV (symIn Try.prog K0 [] f) S (.func 78 [] []) [.ptr o 0, .int .i64 (.c n)] = some (v, S1) ∧ Nw bs o (P + 100) [] S S1 ∧ ∃ q zs, S.next ≤ q ∧ IsL S1.obs q zs v ∧ zs.length = n ∧ ∀ z, z ∈ zs → -600 ≤ z ∧ z ≤ 600 := by
  obtain ⟨g, rfl⟩ : ∃ g, f = g + 1 := ⟨f - 1, by omega⟩
  refine run_call (Φ := fun v obs => ∃ q zs, S.next ≤ q ∧ IsL obs q zs v ∧ zs.length = n ∧ ∀ z, z ∈ zs → -600 ≤ z ∧ z ≤ 600) (own_run2 hK0 Try.func78 rfl rfl ?_)
  simp only [Try.f78]
  have h0 := h.lows S.next
  have hlt := h.lt
  have hN : (⟨S.next, S.obs, S.next⟩ : Sto Sy).next = S.next := rfl
  generalize (⟨S.next, S.obs, S.next⟩ : Sto Sy) = S0 at h0 hN ⊢
  have hlen : ∀ zs : List Int, (zs.length : Int) = (zs.length : Nat) := fun _ => rfl
  obtain ⟨x, S1, hc, hn1, hx⟩ := pickC bs hbs (h0.new (ints (nums []))) (by omega) 8 (by omega) g (by omega)
  repeat' (first | refine Wp.seq ?_ | refine Wp.block ?_ | (apply Wp.region; focus ((try simp [setArgs, lit1, hc]) <;> rfl)) | (refine Wp.cond_t ?_ ?_; focus (simp [setArgs, lit1, hc]; done)) | (refine Wp.cond_f ?_ ?_; focus (simp [setArgs, lit1, hc]; done)) | refine Wp.skip ?_ | refine Wp.ret ?_ | refine Wp.exit ?_ | refine Blk.here ?_ | (refine Blk.past ?_ ?_; focus (simp; done)))
  generalize hw : (x == 0) = w
  refine Wp.loop rfl rfl (fun i st => st.tm.get .any 0 = .ptr o 0 ∧ st.tm.get .any 1 = .int .i64 (.c n) ∧ st.tm.get .any 6 = .bool w ∧ ∃ q zs, S0.next ≤ q ∧ IsL st.sto.obs q zs (st.tm.get .any 5) ∧ zs.length = i ∧
    (∀ z, z ∈ zs → -600 ≤ z ∧ z ≤ 600) ∧ Nw bs o (P + 1 + 3 * i) [] S0 st.sto) n (by omega) ?_ ?_ ?_
  · refine ⟨by simp, by simp, by simp [hw], S0.next, [], Nat.le_refl _, ?_, rfl, by simp, ?_⟩
    · exact IsL.keep (a := S0.new (ints (nums []))) ⟨⟨some 0, by simp, .inr rfl⟩, look_new _ _⟩ hn1 (by omega) (by simp)
    · exact (hn1.ahead h0.desc (by simp)).more (by omega)
  · rintro k i ⟨tm, T⟩ hi ⟨e0, e1, e6, q, zs, hq, hz, hzl, hzb, hT⟩
    simp only at e0 e1 e6 hz hT
    have hzlt : (zs.length : Int) < n := by omega
    have hqo : q ≠ o := by have := h0.lt; omega
    obtain ⟨cp, hv, hcp⟩ := hz.val
    obtain ⟨y, T1, hc1, hn1, hy⟩ := oneC bs hbs hT.rd (by omega) [1, 0, 1, -1, 2, 3, -2] 7 rfl (by omega) (by omega) g (by omega)
    have t1 := hT.trans h0.desc hn1 (by simp)
    have z1 := hz.keep hn1 hqo (by simp)
    have hy2 : -600 ≤ y ∧ y ≤ 600 := by simp at hy; omega
    have fin : ∀ (T2 : Sto Sy) (y : Int), Nw bs o (P + 1 + 3 * ((i + 1 : Nat) : Int)) [] S0 T2 → IsL T2.obs q zs (tm.get .any 5) → (-600 ≤ y ∧ y ≤ 600) → ∃ v' S', aappend (symNum []) (tiOf Try.prog) (T2.new (ints (nums [y]))) 23 23 (tm.get .any 5) (.rsl T2.next 0 1 (some 1)) = some (v', S') ∧ Nw bs o (P + 1 + 3 * ((i + 1 : Nat) : Int)) [] S0 S' ∧ ∃ q', S0.next ≤ q' ∧ IsL S'.obs q' (zs ++ [y]) v' ∧ (zs ++ [y]).length = i + 1 ∧ ∀ z, z ∈ zs ++ [y] → -600 ≤ z ∧ z ≤ 600 := by
      intro T2 y hT2 hz2 hy
      obtain ⟨v', S', k1, k2, q', k3, k4⟩ := append_ok tiS tiI hz2 hqo (.inr hq) h0.desc hT2 (w := y) (ws := []) (by simp; omega)
      refine ⟨v', S', k1, k2, q', by have := hT2.next; omega, k4, by simp [hzl], fun z hz => ?_⟩
      rcases List.mem_append.1 hz with hz | hz
      · exact hzb z hz
      · simp at hz; subst hz; exact hy
    cases w with
    | false =>
      obtain ⟨v', S', k1, k2, q', k3, k4, k5, k6⟩ := fin T1 y (t1.more (by omega)) z1 hy2
      repeat' (first | refine Wp.seq ?_ | refine Wp.block ?_ | (apply Wp.region; focus ((try simp [e0, e1, e6, hv, hzlt, lit2, hc1, litx]) <;> rfl)) | (refine Wp.cond_t ?_ ?_; focus (simp [e0, e1, e6, hv, hzlt, lit2, hc1, litx]; done)) | (refine Wp.cond_f ?_ ?_; focus (simp [e0, e1, e6, hv, hzlt, lit2, hc1, litx]; done)) | refine Wp.skip ?_ | refine Wp.ret ?_ | refine Wp.exit ?_ | refine Blk.here ?_ | (refine Blk.past ?_ ?_; focus (simp; done)))
      rw [hv] at k1
      repeat' (first | refine Wp.seq ?_ | refine Wp.block ?_ | (apply Wp.region; focus ((try simp [e0, e1, e6, hv, hzlt, litx, k1]) <;> rfl)) | (refine Wp.cond_t ?_ ?_; focus (simp [e0, e1, e6, hv, hzlt, litx, k1]; done)) | (refine Wp.cond_f ?_ ?_; focus (simp [e0, e1, e6, hv, hzlt, litx, k1]; done)) | refine Wp.skip ?_ | refine Wp.ret ?_ | refine Wp.exit ?_ | refine Blk.here ?_ | (refine Blk.past ?_ ?_; focus (simp; done)))
      exact ⟨by simp [e0], by simp [e1], by simp [e6], q', _, k3, by simpa using k4, k5, k6, k2⟩
    | true =>
      obtain ⟨u, T2, hc2, hn2, hu⟩ := pickC bs hbs t1.rd (by omega) 2 (by omega) g (by omega)
      have t2 := t1.trans h0.desc hn2 (by simp)
      have z2 := z1.keep hn2 hqo (by simp)
      by_cases hu0 : u = 0
      · obtain ⟨y3, T3, hc3, hn3, hy3⟩ := oneC bs hbs t2.rd (by omega) [6, 24, 120, -5, 52, 600, -600] 7 rfl (by omega) (by omega) g (by omega)
        have t3 := t2.trans h0.desc hn3 (by simp)
        have z3 := z2.keep hn3 hqo (by simp)
        have hy4 : -600 ≤ y3 ∧ y3 ≤ 600 := by simp at hy3; omega
        obtain ⟨v', S', k1, k2, q', k3, k4, k5, k6⟩ := fin T3 y3 (t3.more (by omega)) z3 hy4
        repeat' (first | refine Wp.seq ?_ | refine Wp.block ?_ | (apply Wp.region; focus ((try simp [e0, e1, e6, hv, hzlt, lit2, hc1, hc2, hu0, lit3, hc3, litx]) <;> rfl)) | (refine Wp.cond_t ?_ ?_; focus (simp [e0, e1, e6, hv, hzlt, lit2, hc1, hc2, hu0, lit3, hc3, litx]; done)) | (refine Wp.cond_f ?_ ?_; focus (simp [e0, e1, e6, hv, hzlt, lit2, hc1, hc2, hu0, lit3, hc3, litx]; done)) | refine Wp.skip ?_ | refine Wp.ret ?_ | refine Wp.exit ?_ | refine Blk.here ?_ | (refine Blk.past ?_ ?_; focus (simp; done)))
        rw [hv] at k1
        repeat' (first | refine Wp.seq ?_ | refine Wp.block ?_ | (apply Wp.region; focus ((try simp [e0, e1, e6, hv, hzlt, litx, k1]) <;> rfl)) | (refine Wp.cond_t ?_ ?_; focus (simp [e0, e1, e6, hv, hzlt, litx, k1]; done)) | (refine Wp.cond_f ?_ ?_; focus (simp [e0, e1, e6, hv, hzlt, litx, k1]; done)) | refine Wp.skip ?_ | refine Wp.ret ?_ | refine Wp.exit ?_ | refine Blk.here ?_ | (refine Blk.past ?_ ?_; focus (simp; done)))
        exact ⟨by simp [e0], by simp [e1], by simp [e6], q', _, k3, by simpa using k4, k5, k6, k2⟩
      · obtain ⟨v', S', k1, k2, q', k3, k4, k5, k6⟩ := fin T2 y (t2.more (by omega)) z2 hy2
        repeat' (first | refine Wp.seq ?_ | refine Wp.block ?_ | (apply Wp.region; focus ((try simp [e0, e1, e6, hv, hzlt, lit2, hc1, hc2, hu0, litx]) <;> rfl)) | (refine Wp.cond_t ?_ ?_; focus (simp [e0, e1, e6, hv, hzlt, lit2, hc1, hc2, hu0, litx]; done)) | (refine Wp.cond_f ?_ ?_; focus (simp [e0, e1, e6, hv, hzlt, lit2, hc1, hc2, hu0, litx]; done)) | refine Wp.skip ?_ | refine Wp.ret ?_ | refine Wp.exit ?_ | refine Blk.here ?_ | (refine Blk.past ?_ ?_; focus (simp; done)))
        rw [hv] at k1
        repeat' (first | refine Wp.seq ?_ | refine Wp.block ?_ | (apply Wp.region; focus ((try simp [e0, e1, e6, hv, hzlt, litx, k1]) <;> rfl)) | (refine Wp.cond_t ?_ ?_; focus (simp [e0, e1, e6, hv, hzlt, litx, k1]; done)) | (refine Wp.cond_f ?_ ?_; focus (simp [e0, e1, e6, hv, hzlt, litx, k1]; done)) | refine Wp.skip ?_ | refine Wp.ret ?_ | refine Wp.exit ?_ | refine Blk.here ?_ | (refine Blk.past ?_ ?_; focus (simp; done)))
        exact ⟨by simp [e0], by simp [e1], by simp [e6], q', _, k3, by simpa using k4, k5, k6, k2⟩
  · rintro k ⟨tm, T⟩ ⟨e0, e1, e6, q, zs, hq, hz, hzl, hzb, hT⟩
    simp only at e0 e1 e6 hz hT
    have hzlt : ¬ (zs.length : Int) < n := by omega
    obtain ⟨cp, hv, hcp⟩ := hz.val
    repeat' (first | refine Wp.seq ?_ | refine Wp.block ?_ | (apply Wp.region; focus ((try simp [e0, e1, e6, hv, hzlt]) <;> rfl)) | (refine Wp.cond_t ?_ ?_; focus (simp [e0, e1, e6, hv, hzlt]; done)) | (refine Wp.cond_f ?_ ?_; focus (simp [e0, e1, e6, hv, hzlt]; done)) | refine Wp.skip ?_ | refine Wp.ret ?_ | refine Wp.exit ?_ | refine Blk.here ?_ | (refine Blk.past ?_ ?_; focus (simp; done)))
    refine ⟨rfl, answer_one (by simp; rfl) (hT.lowlt h0 hN) ⟨hT.more (by omega), q, zs, by omega, ?_, by omega, hzb⟩⟩
    show IsL T.obs q zs (.rsl q 0 zs.length cp)
    rw [← hv]; exact hz

set_option maxRecDepth 10000 in
theorem unitSeries (bs : List Int) (hbs : ∀ b, b ∈ bs → 0 ≤ b ∧ b < 256) {o : Nat} {P : Int} {S : Sto Sy} (h : Rdy bs o P S) (hP : P ≤ 800000) (n : Nat) (hn0 : 1 ≤ n) (hn : n ≤ 25) (f : Nat) (hf : 40 ≤ f) :
    ∃ v S1, acallV (symIn Try.prog K0 [] f) S (.func 68 [] []) [.ptr o 0, .int .i64 (.c n)] = some (v, S1) ∧ Nw bs o (P + 200) [] S S1 ∧ Lst S.next n n 600 v S1.obs := by
  obtain ⟨g, rfl⟩ : ∃ g, f = g + 1 := ⟨f - 1, by omega⟩
  refine run_call (Φ := fun v obs => Lst S.next n n 600 v obs) (own_run2 hK0 Try.func68 rfl rfl ?_)
  simp only [Try.f68]
  have h0 := h.lows S.next
  have hlt := h.lt
  have hN : (⟨S.next, S.obs, S.next⟩ : Sto Sy).next = S.next := rfl
  generalize (⟨S.next, S.obs, S.next⟩ : Sto Sy) = S0 at h0 hN ⊢
  obtain ⟨v, S1, hc1, hn1, q, zs, hq, hz, hzl, hzb⟩ := seriesOf bs hbs h0 (by omega) n (by omega) g (by omega)
  have hqo : q ≠ o := by have := h0.lt; omega
  obtain ⟨cp, rfl, hcp⟩ := hz.val
  obtain ⟨w, S2, hc2, hn2, hw⟩ := oneC bs hbs hn1.rd (by omega) [1, 1, 1, -1] 4 rfl (by omega) (by omega) g (by omega)
  have z2 := hz.keep hn2 hqo (by simp)
  have t2 := hn1.trans h0.desc hn2 (by simp)
  have s2 := store_ok tiI z2 (i := 0) (x := w) (by omega)
  have z3 := z2.wrote 0 w
  have t3 := t2.wrote h0.desc hqo (.inr hq) (ints (nums (zs.set 0 w)))
  have hw2 : -600 ≤ w ∧ w ≤ 600 := by simp at hw; omega
  have hb3 := set_bound hzb (i := 0) hw2
  have hl3 : (zs.set 0 w).length = n := by rw [List.length_set]; exact hzl
  have hzp : 0 < zs.length := by omega
  generalize S2.write q (ints (nums (zs.set 0 w))) = S3 at s2 z3 t3
  rw [show (V.rsl q 0 zs.length cp : V Sy) = .rsl q 0 (zs.set 0 w).length cp by rw [List.length_set]] at z3
  generalize zs.set 0 w = ws at z3 hb3 hl3
  obtain ⟨x, S4, hc4, hn4, hx1, hx2⟩ := pickC bs hbs t3.rd (by omega) 24 (by omega) g (by omega)
  have z4 := z3.keep hn4 hqo (by simp)
  have t4 := t3.trans h0.desc hn4 (by simp)
  rw [show ws.length = zs.length by omega] at z4
  by_cases c0 : x = 0
  · subst c0
    obtain ⟨y, S5, hc5, hn5, hy⟩ := oneC bs hbs t4.rd (by omega) [0, 2] 2 rfl (by omega) (by omega) g (by omega)
    have z5 := z4.keep hn5 hqo (by simp)
    have t5 := t4.trans h0.desc hn5 (by simp)
    have s5 := store_ok tiI z5 (i := 0) (x := y) (by omega)
    have z6 := z5.wrote 0 y
    have t6 := t5.wrote h0.desc hqo (.inr hq) (ints (nums (ws.set 0 y)))
    have hy2 : -600 ≤ y ∧ y ≤ 600 := by simp at hy; omega
    repeat' (first | refine Wp.seq ?_ | refine Wp.block ?_ | (apply Wp.region; focus ((try simp [setArgs, hc1, lit4, hc2, hzp, s2, hc4, lit5, hc5, s5]) <;> rfl)) | (refine Wp.cond_t ?_ ?_; focus (simp [setArgs, hc1, lit4, hc2, hzp, s2, hc4, lit5, hc5, s5]; done)) | (refine Wp.cond_f ?_ ?_; focus (simp [setArgs, hc1, lit4, hc2, hzp, s2, hc4, lit5, hc5, s5]; done)) | refine Wp.skip ?_ | refine Wp.ret ?_ | refine Wp.exit ?_ | refine Blk.here ?_ | (refine Blk.past ?_ ?_; focus (simp; done)))
    exact ⟨rfl, answer_one (v := .rsl q 0 zs.length cp) (by simp) (t6.lowlt h0 hN) ⟨t6.more (by omega), q, _, by omega, z6, by rw [List.length_set]; omega, by rw [List.length_set]; omega, set_bound hb3 hy2⟩⟩
  repeat' (first | refine Wp.seq ?_ | refine Wp.block ?_ | (apply Wp.region; focus ((try simp [setArgs, hc1, lit4, hc2, hzp, s2, hc4, c0]) <;> rfl)) | (refine Wp.cond_t ?_ ?_; focus (simp [setArgs, hc1, lit4, hc2, hzp, s2, hc4, c0]; done)) | (refine Wp.cond_f ?_ ?_; focus (simp [setArgs, hc1, lit4, hc2, hzp, s2, hc4, c0]; done)) | refine Wp.skip ?_ | refine Wp.ret ?_ | refine Wp.exit ?_ | refine Blk.here ?_ | (refine Blk.past ?_ ?_; focus (simp; done)))
  exact ⟨rfl, answer_one (v := .rsl q 0 zs.length cp) (by simp) (t4.lowlt h0 hN) ⟨t4.more (by omega), q, ws, by omega, z4, by omega, by omega, hb3⟩⟩

set_option maxRecDepth 10000 in
theorem innerSeries (bs : List Int) (hbs : ∀ b, b ∈ bs → 0 ≤ b ∧ b < 256) {o : Nat} {P : Int} {S : Sto Sy} (h : Rdy bs o P S) (hP : P ≤ 800000) (n : Nat) (hn0 : 1 ≤ n) (hn : n ≤ 25) (f : Nat) (hf : 41 ≤ f) :
    ∃ v S1, acallV (symIn Try.prog K0 [] f) S (.func 79 [] []) [.ptr o 0, .int .i64 (.c n)] = some (v, S1) ∧ Nw bs o (P + 200) [] S S1 ∧ Lst S.next n n 600 v S1.obs := by
  obtain ⟨g, rfl⟩ : ∃ g, f = g + 1 := ⟨f - 1, by omega⟩
  refine run_call (Φ := fun v obs => Lst S.next n n 600 v obs) (own_run2 hK0 Try.func79 rfl rfl ?_)
  simp only [Try.f79]
  have h0 := h.lows S.next
  have hlt := h.lt
  have hN : (⟨S.next, S.obs, S.next⟩ : Sto Sy).next = S.next := rfl
  generalize (⟨S.next, S.obs, S.next⟩ : Sto Sy) = S0 at h0 hN ⊢
  obtain ⟨v, S1, hc1, hn1, q, zs, hq, hz, hzl, hzb⟩ := seriesOf bs hbs h0 (by omega) n (by omega) g (by omega)
  have hqo : q ≠ o := by have := h0.lt; omega
  obtain ⟨cp, rfl, hcp⟩ := hz.val
  have hzp : 0 < zs.length := by omega
  have z1 := hz
  have t1 := hn1
  have s2 := store_ok tiI z1 (i := 0) (x := 0) (by omega)
  have z2 := z1.wrote 0 0
  have t2 := t1.wrote h0.desc hqo (.inr hq) (ints (nums (zs.set 0 0)))
  have hb2 := set_bound hzb (i := 0) (x := 0) (by omega)
  have hl2 : (zs.set 0 0).length = zs.length := by simp only [List.length_set] <;> omega
  generalize S1.write q (ints (nums (zs.set 0 0))) = S2 at s2 z2 t2
  generalize zs.set 0 0 = ws at z2 hb2 hl2
  obtain ⟨x, S3, hc3, hn3, hx1, hx2⟩ := pickC bs hbs t2.rd (by omega) 24 (by omega) g (by omega)
  have z3 := z2.keep hn3 hqo (by simp)
  have t3 := t2.trans h0.desc hn3 (by simp)
  by_cases c0 : x = 0
  · subst c0
    have s4 := store_ok tiI z3 (i := 0) (x := 1) (by omega)
    have z4 := z3.wrote 0 1
    have t4 := t3.wrote h0.desc hqo (.inr hq) (ints (nums (ws.set 0 1)))
    have hb4 := set_bound hb2 (i := 0) (x := 1) (by omega)
    have hl4 : (ws.set 0 1).length = zs.length := by simp only [List.length_set] <;> omega
    generalize S3.write q (ints (nums (ws.set 0 1))) = S4 at s4 z4 t4
    generalize ws.set 0 1 = us at z4 hb4 hl4
    repeat' (first | refine Wp.seq ?_ | refine Wp.block ?_ | (apply Wp.region; focus ((try simp [setArgs, hc1, hzp, s2, hc3, s4]) <;> rfl)) | (refine Wp.cond_t ?_ ?_; focus (simp [setArgs, hc1, hzp, s2, hc3, s4]; done)) | (refine Wp.cond_f ?_ ?_; focus (simp [setArgs, hc1, hzp, s2, hc3, s4]; done)) | refine Wp.skip ?_ | refine Wp.ret ?_ | refine Wp.exit ?_ | refine Blk.here ?_ | (refine Blk.past ?_ ?_; focus (simp; done)))
    exact ⟨rfl, answer_one (v := .rsl q 0 zs.length cp) (by simp) (t4.lowlt h0 hN) ⟨t4.more (by omega), q, us, by omega, z4, by omega, by omega, hb4⟩⟩
  repeat' (first | refine Wp.seq ?_ | refine Wp.block ?_ | (apply Wp.region; focus ((try simp [setArgs, hc1, hzp, s2, hc3, c0]) <;> rfl)) | (refine Wp.cond_t ?_ ?_; focus (simp [setArgs, hc1, hzp, s2, hc3, c0]; done)) | (refine Wp.cond_f ?_ ?_; focus (simp [setArgs, hc1, hzp, s2, hc3, c0]; done)) | refine Wp.skip ?_ | refine Wp.ret ?_ | refine Wp.exit ?_ | refine Blk.here ?_ | (refine Blk.past ?_ ?_; focus (simp; done)))
  exact ⟨rfl, answer_one (v := .rsl q 0 zs.length cp) (by simp) (t3.lowlt h0 hN) ⟨t3.more (by omega), q, ws, by omega, z3, by omega, by omega, hb2⟩⟩

set_option maxRecDepth 10000 in
theorem deltaSeries (bs : List Int) (hbs : ∀ b, b ∈ bs → 0 ≤ b ∧ b < 256) {o : Nat} {P : Int} {S : Sto Sy} (h : Rdy bs o P S) (hP : P ≤ 700000) (n : Nat) (hn0 : 1 ≤ n) (hn : n ≤ 25) (f : Nat) (hf : 42 ≤ f) :
    ∃ v S1, acallV (symIn Try.prog K0 [] f) S (.func 69 [] []) [.ptr o 0, .int .i64 (.c n)] = some (v, S1) ∧ Nw bs o (P + 400) [] S S1 ∧ Lst S.next n n 600 v S1.obs := by
  obtain ⟨g, rfl⟩ : ∃ g, f = g + 1 := ⟨f - 1, by omega⟩
  refine run_call (Φ := fun v obs => Lst S.next n n 600 v obs) (own_run2 hK0 Try.func69 rfl rfl ?_)
  simp only [Try.f69]
  have h0 := h.lows S.next
  have hlt := h.lt
  have hN : (⟨S.next, S.obs, S.next⟩ : Sto Sy).next = S.next := rfl
  generalize (⟨S.next, S.obs, S.next⟩ : Sto Sy) = S0 at h0 hN ⊢
  obtain ⟨v, S1, hc1, hn1, q, zs, hq, hz, hzl, hzl2, hzb⟩ := innerSeries bs hbs h0 (by omega) n (by omega) (by omega) g (by omega)
  have hqo : q ≠ o := by have := h0.lt; omega
  obtain ⟨cp, rfl, hcp⟩ := hz.val
  have z1 := hz
  have t1 := hn1
  by_cases h1n : 1 < n
  · have h1i : (1 : Int) < n := by omega
    have h1z : (1 : Int) < zs.length := by omega
    have h1y : 1 < zs.length := by omega
    obtain ⟨w, S2, hc2, hn2, hw⟩ := oneC bs hbs t1.rd (by omega) [1, 1, -1, 1] 4 rfl (by omega) (by omega) g (by omega)
    have z2 := z1.keep hn2 hqo (by simp)
    have t2 := t1.trans h0.desc hn2 (by simp)
    have hw2 : -600 ≤ w ∧ w ≤ 600 := by simp at hw; omega
    have s3 := store_ok tiI z2 (i := 1) (x := w) (by omega)
    have z3 := z2.wrote 1 w
    have t3 := t2.wrote h0.desc hqo (.inr hq) (ints (nums (zs.set 1 w)))
    have hb3 := set_bound hzb (i := 1) (x := w) hw2
    have hl3 : (zs.set 1 w).length = zs.length := by simp only [List.length_set] <;> omega
    generalize S2.write q (ints (nums (zs.set 1 w))) = S3 at s3 z3 t3
    generalize zs.set 1 w = ws at z3 hb3 hl3
    obtain ⟨x, S4, hc4, hn4, hx1, hx2⟩ := pickC bs hbs t3.rd (by omega) 24 (by omega) g (by omega)
    have z4 := z3.keep hn4 hqo (by simp)
    have t4 := t3.trans h0.desc hn4 (by simp)
    by_cases c0 : x = 0
    · subst c0
      obtain ⟨y, S5, hc5, hn5, hy⟩ := oneC bs hbs t4.rd (by omega) [0, 2] 2 rfl (by omega) (by omega) g (by omega)
      have z5 := z4.keep hn5 hqo (by simp)
      have t5 := t4.trans h0.desc hn5 (by simp)
      have hy2 : -600 ≤ y ∧ y ≤ 600 := by simp at hy; omega
      have s6 := store_ok tiI z5 (i := 1) (x := y) (by omega)
      have z6 := z5.wrote 1 y
      have t6 := t5.wrote h0.desc hqo (.inr hq) (ints (nums (ws.set 1 y)))
      have hb6 := set_bound hb3 (i := 1) (x := y) hy2
      have hl6 : (ws.set 1 y).length = zs.length := by simp only [List.length_set] <;> omega
      generalize S5.write q (ints (nums (ws.set 1 y))) = S6 at s6 z6 t6
      generalize ws.set 1 y = us at z6 hb6 hl6
      repeat' (first | refine Wp.seq ?_ | refine Wp.block ?_ | (apply Wp.region; focus ((try simp [setArgs, hc1, h1i, h1z, h1y, lit6, hc2, s3, hc4, lit5, hc5, s6]) <;> rfl)) | (refine Wp.cond_t ?_ ?_; focus (simp [setArgs, hc1, h1i, h1z, h1y, lit6, hc2, s3, hc4, lit5, hc5, s6]; done)) | (refine Wp.cond_f ?_ ?_; focus (simp [setArgs, hc1, h1i, h1z, h1y, lit6, hc2, s3, hc4, lit5, hc5, s6]; done)) | refine Wp.skip ?_ | refine Wp.ret ?_ | refine Wp.exit ?_ | refine Blk.here ?_ | (refine Blk.past ?_ ?_; focus (simp; done)))
      exact ⟨rfl, answer_one (v := .rsl q 0 zs.length cp) (by simp) (t6.lowlt h0 hN) ⟨t6.more (by omega), q, us, by omega, z6, by omega, by omega, hb6⟩⟩
    repeat' (first | refine Wp.seq ?_ | refine Wp.block ?_ | (apply Wp.region; focus ((try simp [setArgs, hc1, h1i, h1z, h1y, lit6, hc2, s3, hc4, c0]) <;> rfl)) | (refine Wp.cond_t ?_ ?_; focus (simp [setArgs, hc1, h1i, h1z, h1y, lit6, hc2, s3, hc4, c0]; done)) | (refine Wp.cond_f ?_ ?_; focus (simp [setArgs, hc1, h1i, h1z, h1y, lit6, hc2, s3, hc4, c0]; done)) | refine Wp.skip ?_ | refine Wp.ret ?_ | refine Wp.exit ?_ | refine Blk.here ?_ | (refine Blk.past ?_ ?_; focus (simp; done)))
    exact ⟨rfl, answer_one (v := .rsl q 0 zs.length cp) (by simp) (t4.lowlt h0 hN) ⟨t4.more (by omega), q, ws, by omega, z4, by omega, by omega, hb3⟩⟩
  have h1i : ¬ (1 : Int) < n := by omega
  repeat' (first | refine Wp.seq ?_ | refine Wp.block ?_ | (apply Wp.region; focus ((try simp [setArgs, hc1, h1i]) <;> rfl)) | (refine Wp.cond_t ?_ ?_; focus (simp [setArgs, hc1, h1i]; done)) | (refine Wp.cond_f ?_ ?_; focus (simp [setArgs, hc1, h1i]; done)) | refine Wp.skip ?_ | refine Wp.ret ?_ | refine Wp.exit ?_ | refine Blk.here ?_ | (refine Blk.past ?_ ?_; focus (simp; done)))
  exact ⟨rfl, answer_one (v := .rsl q 0 zs.length cp) (by simp) (t1.lowlt h0 hN) ⟨t1.more (by omega), q, zs, by omega, z1, by omega, by omega, hzb⟩⟩

set_option maxRecDepth 10000 in
theorem polyOf (bs : List Int) (hbs : ∀ b, b ∈ bs → 0 ≤ b ∧ b < 256) {o : Nat} {P : Int} {S : Sto Sy} (h : Rdy bs o P S) (hP : P ≤ 900000) (n : Nat) (hn0 : 1 ≤ n) (hn : n ≤ 25) (f : Nat) (hf : 30 ≤ f) :
    ∃ v S1, acallV (symIn Try.prog K0 [] f) S (.func 15 [] []) [.ptr o 0, .int .i64 (.c n)] = some (v, S1) ∧ Nw bs o (P + 100) [] S S1 ∧ Lst S.next n n 1000001 v S1.obs := by
  obtain ⟨g, rfl⟩ : ∃ g, f = g + 1 := ⟨f - 1, by omega⟩
  refine run_call (Φ := fun v obs => Lst S.next n n 1000001 v obs) (own_run2 hK0 Try.func15 rfl rfl ?_)
  simp only [Try.f15]
  have h0 := h.lows S.next
  have hlt := h.lt
  have hN : (⟨S.next, S.obs, S.next⟩ : Sto Sy).next = S.next := rfl
  generalize (⟨S.next, S.obs, S.next⟩ : Sto Sy) = S0 at h0 hN ⊢
  have hq0 : (S0.new (ints (nums []))).next = S0.next + 1 := rfl
  repeat' (first | refine Wp.seq ?_ | refine Wp.block ?_ | (apply Wp.region; focus ((try simp [setArgs, lit1]) <;> rfl)) | (refine Wp.cond_t ?_ ?_; focus (simp [setArgs, lit1]; done)) | (refine Wp.cond_f ?_ ?_; focus (simp [setArgs, lit1]; done)) | refine Wp.skip ?_ | refine Wp.ret ?_ | refine Wp.exit ?_ | refine Blk.here ?_ | (refine Blk.past ?_ ?_; focus (simp; done)))
  refine Wp.loop rfl rfl (fun i st => st.tm.get .any 0 = .ptr o 0 ∧ st.tm.get .any 1 = .int .i64 (.c n) ∧ ∃ q zs, S0.next ≤ q ∧ IsL st.sto.obs q zs (st.tm.get .any 5) ∧ zs.length = i ∧
    (∀ z, z ∈ zs → -1000001 ≤ z ∧ z ≤ 1000001) ∧ Pre bs o (P + 3 * i) [] S0 st.sto ∧ (0 < i → st.sto.low ≤ o)) n (by omega) ?_ ?_ ?_
  · refine ⟨by simp, by simp, S0.next, [], Nat.le_refl _, ⟨⟨some 0, by simp, .inr rfl⟩, look_new _ _⟩, rfl, by simp, ?_, fun h => absurd h (by omega)⟩
    have := Pre.made h0 (ints (nums []))
    exact ⟨this.rd.mono (by omega), this.next, this.keep⟩
  · rintro k i ⟨tm, T⟩ hi ⟨e0, e1, q, zs, hq, hz, hzl, hzb, hT, hlow⟩
    simp only at e0 e1 hz hT
    have hzlt : (zs.length : Int) < n := by omega
    have hqo : q ≠ o := by have := h0.lt; omega
    obtain ⟨cp, hv, hcp⟩ := hz.val
    obtain ⟨y, T1, hc1, hn1, hy⟩ := oneC bs hbs hT.rd (by omega) [1, 0, 2, -1, 3, 10, -7] 7 rfl (by omega) (by omega) g (by omega)
    have t1 := hT.trans h0.desc hn1 (by simp)
    have z1 := hz.keep hn1 hqo (by simp)
    have hy2 : -1000001 ≤ y ∧ y ≤ 1000001 := by simp at hy; omega
    have fin : ∀ (T2 : Sto Sy) (y : Int), Nw bs o (P + 3 * ((i + 1 : Nat) : Int)) [] S0 T2 → IsL T2.obs q zs (tm.get .any 5) → (-1000001 ≤ y ∧ y ≤ 1000001) → ∃ v' S', aappend (symNum []) (tiOf Try.prog) (T2.new (ints (nums [y]))) 23 23 (tm.get .any 5) (.rsl T2.next 0 1 (some 1)) = some (v', S') ∧ Nw bs o (P + 3 * ((i + 1 : Nat) : Int)) [] S0 S' ∧ ∃ q', S0.next ≤ q' ∧ IsL S'.obs q' (zs ++ [y]) v' ∧ (zs ++ [y]).length = i + 1 ∧ ∀ z, z ∈ zs ++ [y] → -1000001 ≤ z ∧ z ≤ 1000001 := by
      intro T2 y hT2 hz2 hy
      obtain ⟨v', S', k1, k2, q', k3, k4⟩ := append_ok tiS tiI hz2 hqo (.inr hq) h0.desc hT2 (w := y) (ws := []) (by simp; omega)
      refine ⟨v', S', k1, k2, q', by have := hT2.next; omega, k4, by simp [hzl], fun z hz => ?_⟩
      rcases List.mem_append.1 hz with hz | hz
      · exact hzb z hz
      · simp at hz; subst hz; exact hy
    obtain ⟨u, T2, hc2, hn2, hu1, hu2⟩ := pickC bs hbs t1.rd (by omega) 40 (by omega) g (by omega)
    have t2 := t1.trans h0.desc hn2 (by simp)
    have z2 := z1.keep hn2 hqo (by simp)
    by_cases hu0 : u = 0
    · obtain ⟨y3, T3, hc3, hn3, hy3⟩ := oneC bs hbs t2.rd (by omega) [1000000, -1000000, 1000001] 3 rfl (by omega) (by omega) g (by omega)
      have t3 := t2.trans h0.desc hn3 (by simp)
      have z3 := z2.keep hn3 hqo (by simp)
      have hy4 : -1000001 ≤ y3 ∧ y3 ≤ 1000001 := by simp at hy3; omega
      obtain ⟨v', S', k1, k2, q', k3, k4, k5, k6⟩ := fin T3 y3 (t3.more (by omega)) z3 hy4
      repeat' (first | refine Wp.seq ?_ | refine Wp.block ?_ | (apply Wp.region; focus ((try simp [e0, e1, hv, hzlt, lit7, hc1, hc2, hu0, lit8, hc3, litx]) <;> rfl)) | (refine Wp.cond_t ?_ ?_; focus (simp [e0, e1, hv, hzlt, lit7, hc1, hc2, hu0, lit8, hc3, litx]; done)) | (refine Wp.cond_f ?_ ?_; focus (simp [e0, e1, hv, hzlt, lit7, hc1, hc2, hu0, lit8, hc3, litx]; done)) | refine Wp.skip ?_ | refine Wp.ret ?_ | refine Wp.exit ?_ | refine Blk.here ?_ | (refine Blk.past ?_ ?_; focus (simp; done)))
      rw [hv] at k1
      repeat' (first | refine Wp.seq ?_ | refine Wp.block ?_ | (apply Wp.region; focus ((try simp [e0, e1, hv, hzlt, litx, k1]) <;> rfl)) | (refine Wp.cond_t ?_ ?_; focus (simp [e0, e1, hv, hzlt, litx, k1]; done)) | (refine Wp.cond_f ?_ ?_; focus (simp [e0, e1, hv, hzlt, litx, k1]; done)) | refine Wp.skip ?_ | refine Wp.ret ?_ | refine Wp.exit ?_ | refine Blk.here ?_ | (refine Blk.past ?_ ?_; focus (simp; done)))
      exact ⟨by simp [e0], by simp [e1], q', _, k3, by simpa using k4, k5, k6, k2.pre, fun _ => k2.low⟩
    · obtain ⟨v', S', k1, k2, q', k3, k4, k5, k6⟩ := fin T2 y (t2.more (by omega)) z2 hy2
      repeat' (first | refine Wp.seq ?_ | refine Wp.block ?_ | (apply Wp.region; focus ((try simp [e0, e1, hv, hzlt, lit7, hc1, hc2, hu0, litx]) <;> rfl)) | (refine Wp.cond_t ?_ ?_; focus (simp [e0, e1, hv, hzlt, lit7, hc1, hc2, hu0, litx]; done)) | (refine Wp.cond_f ?_ ?_; focus (simp [e0, e1, hv, hzlt, lit7, hc1, hc2, hu0, litx]; done)) | refine Wp.skip ?_ | refine Wp.ret ?_ | refine Wp.exit ?_ | refine Blk.here ?_ | (refine Blk.past ?_ ?_; focus (simp; done)))
      rw [hv] at k1
      repeat' (first | refine Wp.seq ?_ | refine Wp.block ?_ | (apply Wp.region; focus ((try simp [e0, e1, hv, hzlt, litx, k1]) <;> rfl)) | (refine Wp.cond_t ?_ ?_; focus (simp [e0, e1, hv, hzlt, litx, k1]; done)) | (refine Wp.cond_f ?_ ?_; focus (simp [e0, e1, hv, hzlt, litx, k1]; done)) | refine Wp.skip ?_ | refine Wp.ret ?_ | refine Wp.exit ?_ | refine Blk.here ?_ | (refine Blk.past ?_ ?_; focus (simp; done)))
      exact ⟨by simp [e0], by simp [e1], q', _, k3, by simpa using k4, k5, k6, k2.pre, fun _ => k2.low⟩
  · rintro k ⟨tm, T⟩ ⟨e0, e1, q, zs, hq, hz, hzl, hzb, hT, hlow⟩
    simp only at e0 e1 hz hT
    have hzlt : ¬ (zs.length : Int) < n := by omega
    obtain ⟨cp, hv, hcp⟩ := hz.val
    have hT2 := hT.nw (hlow (by omega))
    repeat' (first | refine Wp.seq ?_ | refine Wp.block ?_ | (apply Wp.region; focus ((try simp [e0, e1, hv, hzlt]) <;> rfl)) | (refine Wp.cond_t ?_ ?_; focus (simp [e0, e1, hv, hzlt]; done)) | (refine Wp.cond_f ?_ ?_; focus (simp [e0, e1, hv, hzlt]; done)) | refine Wp.skip ?_ | refine Wp.ret ?_ | refine Wp.exit ?_ | refine Blk.here ?_ | (refine Blk.past ?_ ?_; focus (simp; done)))
    refine ⟨rfl, answer_one (by simp; rfl) (hT2.lowlt h0 hN) ⟨hT2.more (by omega), q, zs, by omega, ?_, by omega, by omega, hzb⟩⟩
    show IsL T.obs q zs (.rsl q 0 zs.length cp)
    rw [← hv]; exact hz

set_option maxRecDepth 10000 in
theorem somePoly (bs : List Int) (hbs : ∀ b, b ∈ bs → 0 ≤ b ∧ b < 256) {o : Nat} {P : Int} {S : Sto Sy} (h : Rdy bs o P S) (hP : P ≤ 700000) (f : Nat) (hf : 50 ≤ f) :
    ∃ v S1, acallV (symIn Try.prog K0 [] f) S (.func 14 [] []) [.ptr o 0] = some (v, S1) ∧ Nw bs o (P + 300) [] S S1 ∧ Lst S.next 0 25 1000001 v S1.obs := by
  obtain ⟨g, rfl⟩ : ∃ g, f = g + 1 := ⟨f - 1, by omega⟩
  refine run_call (Φ := fun v obs => Lst S.next 0 25 1000001 v obs) (own_run2 hK0 Try.func14 rfl rfl ?_)
  simp only [Try.f14]
  have h0 := h.lows S.next
  have hlt := h.lt
  have hN : (⟨S.next, S.obs, S.next⟩ : Sto Sy).next = S.next := rfl
  generalize (⟨S.next, S.obs, S.next⟩ : Sto Sy) = S0 at h0 hN ⊢
  obtain ⟨_, S1, hc1, hn1, x, rfl, hx1, hx2⟩ := longOf bs hbs h0 (by omega) g (by omega)
  obtain ⟨v, S2, hc2, hn2, q, zs, hq, hz, hzl, hzl2, hzb⟩ := polyOf bs hbs hn1.rd (by omega) x (by omega) (by omega) g (by omega)
  have hqo : q ≠ o := by have := h0.lt; have := hn1.next; omega
  have hqn := hn1.next
  obtain ⟨cp, rfl, hcp⟩ := hz.val
  have t2 := hn1.trans h0.desc hn2 (by simp)
  have hqS : S0.next ≤ q := by omega
  obtain ⟨y, S3, hc3, hn3, hy1, hy2⟩ := pickC bs hbs t2.rd (by omega) 40 (by omega) g (by omega)
  have z3 := hz.keep hn3 hqo (by simp)
  have t3 := t2.trans h0.desc hn3 (by simp)
  by_cases c0 : y = 0
  · subst c0
    have t := t3.behind (ints (nums []))
    repeat' (first | refine Wp.seq ?_ | refine Wp.block ?_ | (apply Wp.region; focus ((try simp [setArgs, hc1, hc2, hc3, lit1]) <;> rfl)) | (refine Wp.cond_t ?_ ?_; focus (simp [setArgs, hc1, hc2, hc3, lit1]; done)) | (refine Wp.cond_f ?_ ?_; focus (simp [setArgs, hc1, hc2, hc3, lit1]; done)) | refine Wp.skip ?_ | refine Wp.ret ?_ | refine Wp.exit ?_ | refine Blk.here ?_ | (refine Blk.past ?_ ?_; focus (simp; done)))
    exact ⟨rfl, answer_one (v := .rsl S3.next 0 0 (some 0)) (by simp) (t.lowlt h0 hN) ⟨t.more (by omega), S3.next, [], (by have := t3.next; omega), ⟨⟨_, rfl, .inr rfl⟩, look_new _ _⟩, by simp, by simp, by simp⟩⟩
  by_cases c1 : y = 1
  · subst c1
    obtain ⟨v', S', k1, k2, q', k3, k4⟩ := append_ok tiS tiI z3 hqo (ex := []) (.inr hqS) h0.desc t3 (w := 1) (ws := [1, 1, 1, 1]) (by simp; omega)
    replace k1 : aappend (symNum []) (tiOf Try.prog) (S3.new (ints (nums [1, 1, 1, 1, 1]))) 23 23 (.rsl q 0 zs.length cp) (.rsl S3.next 0 5 (some 5)) = some (v', S') := k1
    repeat' (first | refine Wp.seq ?_ | refine Wp.block ?_ | (apply Wp.region; focus ((try simp [setArgs, hc1, hc2, hc3, lit9, k1]) <;> rfl)) | (refine Wp.cond_t ?_ ?_; focus (simp [setArgs, hc1, hc2, hc3, lit9, k1]; done)) | (refine Wp.cond_f ?_ ?_; focus (simp [setArgs, hc1, hc2, hc3, lit9, k1]; done)) | refine Wp.skip ?_ | refine Wp.ret ?_ | refine Wp.exit ?_ | refine Blk.here ?_ | (refine Blk.past ?_ ?_; focus (simp; done)))
    exact ⟨rfl, answer_one (v := v') (by simp) (k2.lowlt h0 hN) ⟨k2.more (by omega), q', _, (by have := t3.next; omega), k4, by simp, by simp; omega, fun z hz => by
      rcases List.mem_append.1 hz with hz | hz
      · exact hzb z hz
      · simp at hz; omega⟩⟩
  repeat' (first | refine Wp.seq ?_ | refine Wp.block ?_ | (apply Wp.region; focus ((try simp [setArgs, hc1, hc2, hc3, c0, c1]) <;> rfl)) | (refine Wp.cond_t ?_ ?_; focus (simp [setArgs, hc1, hc2, hc3, c0, c1]; done)) | (refine Wp.cond_f ?_ ?_; focus (simp [setArgs, hc1, hc2, hc3, c0, c1]; done)) | refine Wp.skip ?_ | refine Wp.ret ?_ | refine Wp.exit ?_ | refine Blk.here ?_ | (refine Blk.past ?_ ?_; focus (simp; done)))
  exact ⟨rfl, answer_one (v := .rsl q 0 zs.length cp) (by simp) (t3.lowlt h0 hN) ⟨t3.more (by omega), q, zs, hN ▸ hqS, z3, by omega, by omega, hzb⟩⟩

end Go.Proofs.Ytobdnpnohaonkaa.Draw

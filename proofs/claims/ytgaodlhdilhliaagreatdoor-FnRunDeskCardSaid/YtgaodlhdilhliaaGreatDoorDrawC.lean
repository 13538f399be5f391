/-
  What functions that draw from bytes make, by runs by hand: a reader, numbers, lists. No condition.
-/
import Derived.Test.YtgaodlhdilhliaaGreatDoorRows
import Derived.Test.YtgaodlhdilhliaaGreatDoorSym
import Derived.Test.YtgaodlhdilhliaaGreatDoorIds
import Derived.Test.YtgaodlhdilhliaaGreatDoorDraw
import Derived.WalkKit
import Derived.ProofKit
import Derived.OpenShut
namespace Go.Proofs.YtgaodlhdilhliaaGreatDoor.Draw
open Go.ChangeShapes Go.WideShapes Go.ChangeAt Go.RowKit Go.Sx Go.Proofs.YtgaodlhdilhliaaGreatDoor.Ids
set_option linter.unusedVariables false
set_option linter.unusedSimpArgs false

theorem bldR (xs : List (V Sy)) : abuild (symNum []) (tiOf Tryz.prog) 52 [(0, .slice xs)] = some (.agg [.slice xs, .int .i64 (.c 0)]) := by kernel_rfl
theorem refs_u8s (bs : List Int) : refsL (u8s bs) = [] := by
  induction bs with
  | nil => rfl
  | cons b r ih => simpa [u8s, refsL, V.refs] using ih
theorem sl2 (bs : List Int) (h : 2000 < bs.length) : aslice (symNum []) (tiOf Tryz.prog) 22 (.slice (u8s bs)) none (some (.int .i64 (.c 2000))) none = some (.slice (u8s (bs.take 2000))) := by
  have h2 : (2000 : Nat) ≤ bs.length := by omega
  simp [aslice, tiY, tiU, bound, idx?, h2, u8s_take, symNum]

section
attribute [local simp] aops wants aop apure St.eval setTm_some setTm_none Tr.get_set aload evals apureB alen tiS tiI tiB tiY tiU fa0 fa1 abin aint isCmp sym_lt sym_eqs sym_neqs sym_eq sym_neq sym_gtr sym_leq sym_geq sym_add sym_sub sym_mul aeff idx? ofV aindexAddr astore look_cons aggDesc Sto.write u8s_length acallV_func symIn_run aifc_int

theorem newReader (bs : List Int) (m : Nat) :
    symRun Tryz.prog K0 [] (m + 1) 12 [.slice (u8s bs)] ⟨0, [], 0⟩ = some (.ptr 0 0, ⟨1, [(0, [.slice (u8s (bs.take 2000)), .int .i64 (.c 0)])], 0⟩) := by
  refine own_run hK0 Tryz.func12 rfl rfl ?_
  simp only [Tryz.f12]
  have h3 := True.intro
  by_cases h : 2000 < bs.length
  · have h1 : (2000 : Int) < bs.length := by omega
    repeat' (first | refine Wp.seq ?_ | refine Wp.block ?_ | (apply Wp.region; focus ((try simp [setArgs, h1, oeval, sl2 bs h, pevals, bldR, abox, V.cells]) <;> rfl)) | (refine Wp.cond_t ?_ ?_; focus (simp [setArgs, h1, oeval, sl2 bs h, pevals, bldR, abox, V.cells]; done)) | (refine Wp.cond_f ?_ ?_; focus (simp [setArgs, h1, oeval, sl2 bs h, pevals, bldR, abox, V.cells]; done)) | refine Wp.skip ?_ | refine Wp.ret ?_ | refine Wp.exit ?_ | refine Blk.here ?_ | (refine Blk.past ?_ ?_; focus (simp; done)))
    refine ⟨rfl, ?_⟩
    simp [answer, aresults, aresult, Sto.trim, Sto.new, V.refs, Nat.blt, deeper, refsL, refs_u8s, keepNew, h3]
  · have h1 : ¬ (2000 : Int) < bs.length := by omega
    have h2 : bs.take 2000 = bs := List.take_of_length_le (by omega)
    have h3 := h2
    repeat' (first | refine Wp.seq ?_ | refine Wp.block ?_ | (apply Wp.region; focus ((try simp [setArgs, h1, h2, pevals, bldR, abox, V.cells]) <;> rfl)) | (refine Wp.cond_t ?_ ?_; focus (simp [setArgs, h1, h2, pevals, bldR, abox, V.cells]; done)) | (refine Wp.cond_f ?_ ?_; focus (simp [setArgs, h1, h2, pevals, bldR, abox, V.cells]; done)) | refine Wp.skip ?_ | refine Wp.ret ?_ | refine Wp.exit ?_ | refine Blk.here ?_ | (refine Blk.past ?_ ?_; focus (simp; done)))
    refine ⟨rfl, ?_⟩
    simp [answer, aresults, aresult, Sto.trim, Sto.new, V.refs, Nat.blt, deeper, refsL, refs_u8s, keepNew, h3]

theorem _root_.Go.Sx.Nx.call {bs : List Int} {o : Nat} {p q : Int} {sto s1 : Sto Sy} (h : Nx bs o p q ⟨sto.next, sto.obs, sto.next⟩ s1) : Nx bs o p q sto ⟨s1.next, s1.obs, if s1.low < sto.low then s1.low else sto.low⟩ := by
  obtain ⟨p', h1, h2, h3⟩ := h.rd
  refine ⟨⟨p', h1, h2, h3.obj, h3.desc, h3.p0⟩, h.next, ?_, h.keep⟩
  have := h.low
  simp only
  split <;> omega

theorem one (bs : List Int) (hbs : ∀ b, b ∈ bs → 0 ≤ b ∧ b < 256) (o : Nat) (p : Int) (zs : List Int) (sto : Sto Sy) (h : Rd bs o p sto) (hp : p ≤ 1000000) (q : Nat) (hq : q ≠ o) (hz : Go.Sx.look sto.obs q = some (ints (nums zs)))
    (h1 : 1 ≤ zs.length) (h2 : zs.length ≤ 1000000) (m : Nat) :
    ∃ r, symRun Tryz.prog K0 [] (m + 2) 13 [.ptr o 0, .rsl q 0 zs.length (some zs.length)] sto = some r ∧ ∃ x sto', r = (.int .i64 (.c x), sto') ∧ x ∈ zs ∧ Nx bs o p (p + 1) sto sto' := by
  refine own_run2 hK0 Tryz.func13 rfl rfl ?_
  simp only [Tryz.f13]
  obtain ⟨_, hr, x, s1, rfl, hx0, hx1, hn⟩ := pick bs hbs o p zs.length ⟨sto.next, sto.obs, sto.next⟩ ⟨h.obj, h.desc, h.p0⟩ hp (by omega) m
  have hk := hn.keep q _ hq hz
  have hxl : x.toNat < zs.length := by omega
  have hge : zs[x.toNat]? = some zs[x.toNat] := List.getElem?_eq_getElem hxl
  have hlow := hn.low
  have hlt := h.lt
  repeat' (first | refine Wp.seq ?_ | refine Wp.block ?_ | (apply Wp.region; focus ((try simp [setArgs, hr, hx0, hx1, hk, hge, hxl]) <;> rfl)) | (refine Wp.cond_t ?_ ?_; focus (simp [setArgs, hr, hx0, hx1, hk, hge, hxl]; done)) | (refine Wp.cond_f ?_ ?_; focus (simp [setArgs, hr, hx0, hx1, hk, hge, hxl]; done)) | refine Wp.skip ?_ | refine Wp.ret ?_ | refine Wp.exit ?_ | refine Blk.here ?_ | (refine Blk.past ?_ ?_; focus (simp; done)))
  have hn2 := hn.call
  refine ⟨rfl, (.int .i64 (.c zs[x.toNat]), ⟨s1.next, s1.obs, if s1.low < sto.low then s1.low else sto.low⟩), ?_, _, _, rfl, List.getElem_mem hxl, hn2⟩
  simp [answer, aresults, aresult]
  exact trim_low (Nat.lt_of_le_of_lt hn2.low hlt)
end

theorem ans1 {T : TypeId → Option Ti} {st : St Sy} {n0 t : Nat} {v : V Sy} (h : st.tm.get .any t = v) {Q : V Sy × Sto Sy → Prop} (hq : ∀ S, Q (v, S)) : ∃ r, answer T st n0 [.tmp t] = some r ∧ Q r :=
  ⟨(v, st.sto.trim n0 v), by simp [answer, aresults, aresult, h], hq _⟩

theorem take2000 {bs : List Int} (h : ∀ b, b ∈ bs → 0 ≤ b ∧ b < 256) : ∀ b, b ∈ bs.take 2000 → 0 ≤ b ∧ b < 256 := fun b hb => h b (List.mem_of_mem_take hb)

/-- A number is picked. -/
theorem pickC (bs : List Int) (hbs : ∀ b, b ∈ bs → 0 ≤ b ∧ b < 256) {o : Nat} {P : Int} {S : Sto Sy} (h : Rdy bs o P S) (hP : P ≤ 1000000) (n : Int) (hn : 1 ≤ n) (f : Nat) (hf : 1 ≤ f) :
    ∃ x S1, acallV (symIn Tryz.prog K0 [] f) S (.func 15 [] []) [.ptr o 0, .int .i64 (.c n)] = some (.int .i64 (.c x), S1) ∧ Nw bs o (P + 1) [] S S1 ∧ 0 ≤ x ∧ x < n := by
  obtain ⟨m, rfl⟩ : ∃ m, f = m + 1 := ⟨f - 1, by omega⟩
  obtain ⟨p, hp, hr⟩ := h.lows S.next
  obtain ⟨_, h1, x, s1, rfl, h2, h3, h4⟩ := pick bs hbs o p n _ hr (by omega) hn m
  obtain ⟨v, S1, k1, k2, k3⟩ := run_call (Φ := fun v _ => v = .int .i64 (.c x)) ⟨_, h1, h4.nw (Q := P + 1) (by omega), rfl⟩
  subst k3
  exact ⟨x, S1, k1, k2, h2, h3⟩

/-- One of a list that is written out. -/
theorem oneC (bs : List Int) (hbs : ∀ b, b ∈ bs → 0 ≤ b ∧ b < 256) {o : Nat} {P : Int} {S : Sto Sy} (h : Rdy bs o P S) (hP : P ≤ 1000000) (zs : List Int) (k : Nat) (hk : zs.length = k) (hk1 : 1 ≤ k) (hk2 : k ≤ 1000000) (f : Nat) (hf : 2 ≤ f) :
    ∃ x S1, acallV (symIn Tryz.prog K0 [] f) (S.new (ints (nums zs))) (.func 13 [] []) [.ptr o 0, .rsl S.next 0 k (some k)] = some (.int .i64 (.c x), S1) ∧ Nw bs o (P + 1) [] S S1 ∧ x ∈ zs := by
  subst hk
  obtain ⟨m, rfl⟩ : ∃ m, f = m + 2 := ⟨f - 2, by omega⟩
  obtain ⟨p, hp, hr⟩ := (h.new (ints (nums zs))).lows (S.new (ints (nums zs))).next
  obtain ⟨_, h1, x, s1, rfl, h2, h4⟩ := one bs hbs o p zs _ hr (by omega) S.next (by have := h.lt; omega) (look_new S _) hk1 hk2 m
  obtain ⟨v, S1, k1, k2, k3⟩ := run_call (Φ := fun v _ => v = .int .i64 (.c x)) ⟨_, h1, h4.nw (Q := P + 1) (by omega), rfl⟩
  subst k3
  exact ⟨x, S1, k1, k2.ahead h.desc (fun k hk => by cases hk), h2⟩

attribute [local simp] aops wants aop apure St.eval setTm_some setTm_none Tr.get_set aload evals pevals apureB alen tiS tiI tiB tiY tiU fa0 fa1 abin aint isCmp sym_lt sym_eqs sym_neqs sym_eq sym_neq sym_gtr sym_leq sym_geq sym_add sym_sub sym_mul aeff aeffB idx? ofV aindexAddr aggDesc aifc_int

theorem readerC (bs : List Int) (f : Nat) (hf : 1 ≤ f) : acallV (symIn Tryz.prog K0 [] f) ⟨0, [], 0⟩ (.func 12 [] []) [.slice (u8s bs)] = some (.ptr 0 0, ⟨1, [(0, [.slice (u8s (bs.take 2000)), .int .i64 (.c 0)])], 0⟩) := by
  obtain ⟨m, rfl⟩ : ∃ m, f = m + 1 := ⟨f - 1, by omega⟩
  rw [acallV_func (by decide), List.nil_append, List.append_nil, symIn_run (by decide), newReader bs m]
  rfl
theorem reader0 (bs : List Int) : ∃ S, S = (⟨1, [(0, [.slice (u8s (bs.take 2000)), .int .i64 (.c 0)])], 0⟩ : Sto Sy) ∧ Rdy (bs.take 2000) 0 0 S := ⟨_, rfl, 0, Int.le_refl 0, rfl, ⟨Nat.lt_succ_self 0, trivial⟩, Int.le_refl 0⟩

theorem lit0 (sto : Sto Sy) : abuildSlice (symNum []) (tiOf Tryz.prog) sto 35 6 [(0, .int .i64 (.c 4)), (1, .int .i64 (.c 5)), (2, .int .i64 (.c 6)), (3, .int .i64 (.c 3)), (4, .int .i64 (.c 2)), (5, .int .i64 (.c 1))] = some (.rsl sto.next 0 6 (some 6), sto.new (ints (nums [4, 5, 6, 3, 2, 1]))) := by kernel_rfl
theorem lit1 (sto : Sto Sy) : abuildSlice (symNum []) (tiOf Tryz.prog) sto 35 0 [] = some (.rsl sto.next 0 0 (some 0), sto.new (ints (nums []))) := by kernel_rfl
theorem lit2 (sto : Sto Sy) : abuildSlice (symNum []) (tiOf Tryz.prog) sto 35 7 [(0, .int .i64 (.c 1)), (1, .int .i64 (.c 0)), (2, .int .i64 (.c 1)), (3, .int .i64 (.c (-1))), (4, .int .i64 (.c 2)), (5, .int .i64 (.c 3)), (6, .int .i64 (.c (-2)))] = some (.rsl sto.next 0 7 (some 7), sto.new (ints (nums [1, 0, 1, -1, 2, 3, -2]))) := by kernel_rfl
theorem lit3 (sto : Sto Sy) : abuildSlice (symNum []) (tiOf Tryz.prog) sto 35 7 [(0, .int .i64 (.c 6)), (1, .int .i64 (.c 24)), (2, .int .i64 (.c 120)), (3, .int .i64 (.c (-5))), (4, .int .i64 (.c 52)), (5, .int .i64 (.c 600)), (6, .int .i64 (.c (-600)))] = some (.rsl sto.next 0 7 (some 7), sto.new (ints (nums [6, 24, 120, -5, 52, 600, -600]))) := by kernel_rfl
theorem lit4 (sto : Sto Sy) : abuildSlice (symNum []) (tiOf Tryz.prog) sto 35 3 [(0, .int .i64 (.c 601)), (1, .int .i64 (.c (-601))), (2, .int .i64 (.c 4611686018427387904))] = some (.rsl sto.next 0 3 (some 3), sto.new (ints (nums [601, -601, 4611686018427387904]))) := by kernel_rfl
theorem lit5 (sto : Sto Sy) : abuildSlice (symNum []) (tiOf Tryz.prog) sto 35 5 [(0, .int .i64 (.c 1)), (1, .int .i64 (.c 1)), (2, .int .i64 (.c 1)), (3, .int .i64 (.c 1)), (4, .int .i64 (.c 1))] = some (.rsl sto.next 0 5 (some 5), sto.new (ints (nums [1, 1, 1, 1, 1]))) := by kernel_rfl
theorem lit6 (sto : Sto Sy) : abuildSlice (symNum []) (tiOf Tryz.prog) sto 35 6 [(0, .int .i64 (.c 4)), (1, .int .i64 (.c 5)), (2, .int .i64 (.c 3)), (3, .int .i64 (.c 2)), (4, .int .i64 (.c 1)), (5, .int .i64 (.c 0))] = some (.rsl sto.next 0 6 (some 6), sto.new (ints (nums [4, 5, 3, 2, 1, 0]))) := by kernel_rfl
theorem lit7 (sto : Sto Sy) : abuildSlice (symNum []) (tiOf Tryz.prog) sto 35 6 [(0, .int .i64 (.c 0)), (1, .int .i64 (.c 0)), (2, .int .i64 (.c 0)), (3, .int .i64 (.c 0)), (4, .int .i64 (.c 0)), (5, .int .i64 (.c 0))] = some (.rsl sto.next 0 6 (some 6), sto.new (ints (nums [0, 0, 0, 0, 0, 0]))) := by kernel_rfl
theorem lit8 (sto : Sto Sy) : abuildSlice (symNum []) (tiOf Tryz.prog) sto 35 3 [(0, .int .i64 (.c (-1))), (1, .int .i64 (.c 5)), (2, .int .i64 (.c 2))] = some (.rsl sto.next 0 3 (some 3), sto.new (ints (nums [-1, 5, 2]))) := by kernel_rfl
theorem litx (sto : Sto Sy) (x : Int) : abuildSlice (symNum []) (tiOf Tryz.prog) sto 35 1 [(0, .int .i64 (.c x))] = some (.rsl sto.next 0 1 (some 1), sto.new (ints (nums [x]))) := by kernel_rfl

theorem longOf (bs : List Int) (hbs : ∀ b, b ∈ bs → 0 ≤ b ∧ b < 256) {o : Nat} {P : Int} {S : Sto Sy} (h : Rdy bs o P S) (hP : P ≤ 900000) (f : Nat) (hf : 3 ≤ f) :
    ∃ v S1, acallV (symIn Tryz.prog K0 [] f) S (.func 17 [] []) [.ptr o 0] = some (v, S1) ∧ Nw bs o (P + 1) [] S S1 ∧ ∃ x : Nat, v = .int .i64 (.c x) ∧ 1 ≤ x ∧ x ≤ 6 := by
  obtain ⟨g, rfl⟩ : ∃ g, f = g + 1 := ⟨f - 1, by omega⟩
  refine run_call (Φ := fun v _ => ∃ x : Nat, v = .int .i64 (.c x) ∧ 1 ≤ x ∧ x ≤ 6) (own_run2 hK0 Tryz.func17 rfl rfl ?_)
  simp only [Tryz.f17]
  have h0 := h.lows S.next
  have hlt := h.lt
  have hN : (⟨S.next, S.obs, S.next⟩ : Sto Sy).next = S.next := rfl
  generalize (⟨S.next, S.obs, S.next⟩ : Sto Sy) = S0 at h0 hN ⊢
  obtain ⟨x, S1, hc, hn, hx⟩ := oneC bs hbs h0 (by omega) [4, 5, 6, 3, 2, 1] 6 rfl (by omega) (by omega) g (by omega)
  repeat' (first | refine Wp.seq ?_ | refine Wp.block ?_ | (apply Wp.region; focus ((try simp [setArgs, lit0, hc]) <;> rfl)) | (refine Wp.cond_t ?_ ?_; focus (simp [setArgs, lit0, hc]; done)) | (refine Wp.cond_f ?_ ?_; focus (simp [setArgs, lit0, hc]; done)) | refine Wp.skip ?_ | refine Wp.ret ?_ | refine Wp.exit ?_ | refine Blk.here ?_ | (refine Blk.past ?_ ?_; focus (simp; done)))
  refine ⟨rfl, answer_one (v := .int .i64 (.c x)) (by simp) (hn.lowlt h0 hN) ⟨hn, x.toNat, ?_⟩⟩
  simp at hx
  have : 1 ≤ x ∧ x ≤ 6 := by omega
  exact ⟨by rw [Int.toNat_of_nonneg (by omega)], by omega, by omega⟩

set_option maxRecDepth 10000 in
theorem seriesOf (bs : List Int) (hbs : ∀ b, b ∈ bs → 0 ≤ b ∧ b < 256) {o : Nat} {P : Int} {S : Sto Sy} (h : Rdy bs o P S) (hP : P ≤ 900000) (n : Nat) (hn : n ≤ 25) (f : Nat) (hf : 30 ≤ f) :
    ∃ v S1, acallV (symIn Tryz.prog K0 [] f) S (.func 26 [] []) [.ptr o 0, .int .i64 (.c n)] = some (v, S1) ∧ Nw bs o (P + 100) [] S S1 ∧ ∃ q zs, S.next ≤ q ∧ IsL S1.obs q zs v ∧ zs.length = n ∧ ∀ z, z ∈ zs → -600 ≤ z ∧ z ≤ 600 := by
  obtain ⟨g, rfl⟩ : ∃ g, f = g + 1 := ⟨f - 1, by omega⟩
  refine run_call (Φ := fun v obs => ∃ q zs, S.next ≤ q ∧ IsL obs q zs v ∧ zs.length = n ∧ ∀ z, z ∈ zs → -600 ≤ z ∧ z ≤ 600) (own_run2 hK0 Tryz.func26 rfl rfl ?_)
  simp only [Tryz.f26]
  have h0 := h.lows S.next
  have hlt := h.lt
  have hN : (⟨S.next, S.obs, S.next⟩ : Sto Sy).next = S.next := rfl
  generalize (⟨S.next, S.obs, S.next⟩ : Sto Sy) = S0 at h0 hN ⊢
  have hlen : ∀ zs : List Int, (zs.length : Int) = (zs.length : Nat) := fun _ => rfl
  obtain ⟨x, S1, hc, hn1, hx⟩ := pickC bs hbs (h0.new (ints (nums []))) (by omega) 8 (by omega) g (by omega)
  repeat' (first | refine Wp.seq ?_ | refine Wp.block ?_ | (apply Wp.region; focus ((try simp [setArgs, lit1, hc]) <;> rfl)) | (refine Wp.cond_t ?_ ?_; focus (simp [setArgs, lit1, hc]; done)) | (refine Wp.cond_f ?_ ?_; focus (simp [setArgs, lit1, hc]; done)) | refine Wp.skip ?_ | refine Wp.ret ?_ | refine Wp.exit ?_ | refine Blk.here ?_ | (refine Blk.past ?_ ?_; focus (simp; done)))
  generalize hw : (x == 0) = w
  refine Wp.loop rfl rfl (fun i st => st.tm.get .any 0 = .ptr o 0 ∧ st.tm.get .any 1 = .int .i64 (.c n) ∧ st.tm.get .any 6 = .bool w ∧ ∃ q zs, S0.next ≤ q ∧ IsL st.sto.obs q zs (st.tm.get .any 5) ∧ zs.length = i ∧
    (∀ z, z ∈ zs → -600 ≤ z ∧ z ≤ 600) ∧ Nw bs o (P + 1 + 3 * i) [] S0 st.sto) n (by omega) ?_ ?_ ?_
  · refine ⟨by simp, by simp, by simp [hw], S0.next, [], Nat.le_refl _, ?_, rfl, by simp, ?_⟩
    · exact IsL.keep (a := S0.new (ints (nums []))) ⟨⟨some 0, by simp, .inr rfl⟩, look_new _ _⟩ hn1 (by omega) (by simp)
    · exact (hn1.ahead h0.desc (by simp)).more (by omega)
  · rintro k i ⟨tm, T⟩ hi ⟨e0, e1, e6, q, zs, hq, hz, hzl, hzb, hT⟩
    simp only at e0 e1 e6 hz hT
    have hzlt : (zs.length : Int) < n := by omega
    have hqo : q ≠ o := by have := h0.lt; omega
    obtain ⟨cp, hv, hcp⟩ := hz.val
    obtain ⟨y, T1, hc1, hn1, hy⟩ := oneC bs hbs hT.rd (by omega) [1, 0, 1, -1, 2, 3, -2] 7 rfl (by omega) (by omega) g (by omega)
    have t1 := hT.trans h0.desc hn1 (by simp)
    have z1 := hz.keep hn1 hqo (by simp)
    have hy2 : -600 ≤ y ∧ y ≤ 600 := by simp at hy; omega
    have fin : ∀ (T2 : Sto Sy) (y : Int), Nw bs o (P + 1 + 3 * ((i + 1 : Nat) : Int)) [] S0 T2 → IsL T2.obs q zs (tm.get .any 5) → (-600 ≤ y ∧ y ≤ 600) → ∃ v' S', aappend (symNum []) (tiOf Tryz.prog) (T2.new (ints (nums [y]))) 35 35 (tm.get .any 5) (.rsl T2.next 0 1 (some 1)) = some (v', S') ∧ Nw bs o (P + 1 + 3 * ((i + 1 : Nat) : Int)) [] S0 S' ∧ ∃ q', S0.next ≤ q' ∧ IsL S'.obs q' (zs ++ [y]) v' ∧ (zs ++ [y]).length = i + 1 ∧ ∀ z, z ∈ zs ++ [y] → -600 ≤ z ∧ z ≤ 600 := by
      intro T2 y hT2 hz2 hy
      obtain ⟨v', S', k1, k2, q', k3, k4⟩ := append_ok tiS tiI hz2 hqo (.inr hq) h0.desc hT2 (w := y) (ws := []) (by simp; omega)
      refine ⟨v', S', k1, k2, q', by have := hT2.next; omega, k4, by simp [hzl], fun z hz => ?_⟩
      rcases List.mem_append.1 hz with hz | hz
      · exact hzb z hz
      · simp at hz; subst hz; exact hy
    cases w with
    | false =>
      obtain ⟨v', S', k1, k2, q', k3, k4, k5, k6⟩ := fin T1 y (t1.more (by omega)) z1 hy2
      repeat' (first | refine Wp.seq ?_ | refine Wp.block ?_ | (apply Wp.region; focus ((try simp [e0, e1, e6, hv, hzlt, lit2, hc1, litx]) <;> rfl)) | (refine Wp.cond_t ?_ ?_; focus (simp [e0, e1, e6, hv, hzlt, lit2, hc1, litx]; done)) | (refine Wp.cond_f ?_ ?_; focus (simp [e0, e1, e6, hv, hzlt, lit2, hc1, litx]; done)) | refine Wp.skip ?_ | refine Wp.ret ?_ | refine Wp.exit ?_ | refine Blk.here ?_ | (refine Blk.past ?_ ?_; focus (simp; done)))
      rw [hv] at k1
      repeat' (first | refine Wp.seq ?_ | refine Wp.block ?_ | (apply Wp.region; focus ((try simp [e0, e1, e6, hv, hzlt, litx, k1]) <;> rfl)) | (refine Wp.cond_t ?_ ?_; focus (simp [e0, e1, e6, hv, hzlt, litx, k1]; done)) | (refine Wp.cond_f ?_ ?_; focus (simp [e0, e1, e6, hv, hzlt, litx, k1]; done)) | refine Wp.skip ?_ | refine Wp.ret ?_ | refine Wp.exit ?_ | refine Blk.here ?_ | (refine Blk.past ?_ ?_; focus (simp; done)))
      exact ⟨by simp [e0], by simp [e1], by simp [e6], q', _, k3, by simpa using k4, k5, k6, k2⟩
    | true =>
      obtain ⟨u, T2, hc2, hn2, hu⟩ := pickC bs hbs t1.rd (by omega) 2 (by omega) g (by omega)
      have t2 := t1.trans h0.desc hn2 (by simp)
      have z2 := z1.keep hn2 hqo (by simp)
      by_cases hu0 : u = 0
      · obtain ⟨y3, T3, hc3, hn3, hy3⟩ := oneC bs hbs t2.rd (by omega) [6, 24, 120, -5, 52, 600, -600] 7 rfl (by omega) (by omega) g (by omega)
        have t3 := t2.trans h0.desc hn3 (by simp)
        have z3 := z2.keep hn3 hqo (by simp)
        have hy4 : -600 ≤ y3 ∧ y3 ≤ 600 := by simp at hy3; omega
        obtain ⟨v', S', k1, k2, q', k3, k4, k5, k6⟩ := fin T3 y3 (t3.more (by omega)) z3 hy4
        repeat' (first | refine Wp.seq ?_ | refine Wp.block ?_ | (apply Wp.region; focus ((try simp [e0, e1, e6, hv, hzlt, lit2, hc1, hc2, hu0, lit3, hc3, litx]) <;> rfl)) | (refine Wp.cond_t ?_ ?_; focus (simp [e0, e1, e6, hv, hzlt, lit2, hc1, hc2, hu0, lit3, hc3, litx]; done)) | (refine Wp.cond_f ?_ ?_; focus (simp [e0, e1, e6, hv, hzlt, lit2, hc1, hc2, hu0, lit3, hc3, litx]; done)) | refine Wp.skip ?_ | refine Wp.ret ?_ | refine Wp.exit ?_ | refine Blk.here ?_ | (refine Blk.past ?_ ?_; focus (simp; done)))
        rw [hv] at k1
        repeat' (first | refine Wp.seq ?_ | refine Wp.block ?_ | (apply Wp.region; focus ((try simp [e0, e1, e6, hv, hzlt, litx, k1]) <;> rfl)) | (refine Wp.cond_t ?_ ?_; focus (simp [e0, e1, e6, hv, hzlt, litx, k1]; done)) | (refine Wp.cond_f ?_ ?_; focus (simp [e0, e1, e6, hv, hzlt, litx, k1]; done)) | refine Wp.skip ?_ | refine Wp.ret ?_ | refine Wp.exit ?_ | refine Blk.here ?_ | (refine Blk.past ?_ ?_; focus (simp; done)))
        exact ⟨by simp [e0], by simp [e1], by simp [e6], q', _, k3, by simpa using k4, k5, k6, k2⟩
      · obtain ⟨v', S', k1, k2, q', k3, k4, k5, k6⟩ := fin T2 y (t2.more (by omega)) z2 hy2
        repeat' (first | refine Wp.seq ?_ | refine Wp.block ?_ | (apply Wp.region; focus ((try simp [e0, e1, e6, hv, hzlt, lit2, hc1, hc2, hu0, litx]) <;> rfl)) | (refine Wp.cond_t ?_ ?_; focus (simp [e0, e1, e6, hv, hzlt, lit2, hc1, hc2, hu0, litx]; done)) | (refine Wp.cond_f ?_ ?_; focus (simp [e0, e1, e6, hv, hzlt, lit2, hc1, hc2, hu0, litx]; done)) | refine Wp.skip ?_ | refine Wp.ret ?_ | refine Wp.exit ?_ | refine Blk.here ?_ | (refine Blk.past ?_ ?_; focus (simp; done)))
        rw [hv] at k1
        repeat' (first | refine Wp.seq ?_ | refine Wp.block ?_ | (apply Wp.region; focus ((try simp [e0, e1, e6, hv, hzlt, litx, k1]) <;> rfl)) | (refine Wp.cond_t ?_ ?_; focus (simp [e0, e1, e6, hv, hzlt, litx, k1]; done)) | (refine Wp.cond_f ?_ ?_; focus (simp [e0, e1, e6, hv, hzlt, litx, k1]; done)) | refine Wp.skip ?_ | refine Wp.ret ?_ | refine Wp.exit ?_ | refine Blk.here ?_ | (refine Blk.past ?_ ?_; focus (simp; done)))
        exact ⟨by simp [e0], by simp [e1], by simp [e6], q', _, k3, by simpa using k4, k5, k6, k2⟩
  · rintro k ⟨tm, T⟩ ⟨e0, e1, e6, q, zs, hq, hz, hzl, hzb, hT⟩
    simp only at e0 e1 e6 hz hT
    have hzlt : ¬ (zs.length : Int) < n := by omega
    obtain ⟨cp, hv, hcp⟩ := hz.val
    repeat' (first | refine Wp.seq ?_ | refine Wp.block ?_ | (apply Wp.region; focus ((try simp [e0, e1, e6, hv, hzlt]) <;> rfl)) | (refine Wp.cond_t ?_ ?_; focus (simp [e0, e1, e6, hv, hzlt]; done)) | (refine Wp.cond_f ?_ ?_; focus (simp [e0, e1, e6, hv, hzlt]; done)) | refine Wp.skip ?_ | refine Wp.ret ?_ | refine Wp.exit ?_ | refine Blk.here ?_ | (refine Blk.past ?_ ?_; focus (simp; done)))
    refine ⟨rfl, answer_one (by simp; rfl) (hT.lowlt h0 hN) ⟨hT.more (by omega), q, zs, by omega, ?_, by omega, hzb⟩⟩
    show IsL T.obs q zs (.rsl q 0 zs.length cp)
    rw [← hv]; exact hz

set_option maxRecDepth 10000 in
theorem goodSeries (bs : List Int) (hbs : ∀ b, b ∈ bs → 0 ≤ b ∧ b < 256) {o : Nat} {P : Int} {S : Sto Sy} (h : Rdy bs o P S) (hP : P ≤ 800000) (f : Nat) (hf : 40 ≤ f) :
    ∃ v S1, acallV (symIn Tryz.prog K0 [] f) S (.func 14 [] []) [.ptr o 0] = some (v, S1) ∧ Nw bs o (P + 200) [] S S1 ∧ Lst S.next 1 6 600 v S1.obs := by
  obtain ⟨g, rfl⟩ : ∃ g, f = g + 1 := ⟨f - 1, by omega⟩
  refine run_call (Φ := fun v obs => Lst S.next 1 6 600 v obs) (own_run2 hK0 Tryz.func14 rfl rfl ?_)
  simp only [Tryz.f14]
  have h0 := h.lows S.next
  have hlt := h.lt
  have hN : (⟨S.next, S.obs, S.next⟩ : Sto Sy).next = S.next := rfl
  generalize (⟨S.next, S.obs, S.next⟩ : Sto Sy) = S0 at h0 hN ⊢
  obtain ⟨_, S1, hc1, hn1, x, rfl, hx1, hx2⟩ := longOf bs hbs h0 (by omega) g (by omega)
  obtain ⟨v, S2, hc2, hn2, q, zs, hq, hz, hzl, hzb⟩ := seriesOf bs hbs hn1.rd (by omega) x (by omega) g (by omega)
  have t := hn1.trans h0.desc hn2 (by simp)
  have := hn1.next
  repeat' (first | refine Wp.seq ?_ | refine Wp.block ?_ | (apply Wp.region; focus ((try simp [setArgs, hc1, hc2]) <;> rfl)) | (refine Wp.cond_t ?_ ?_; focus (simp [setArgs, hc1, hc2]; done)) | (refine Wp.cond_f ?_ ?_; focus (simp [setArgs, hc1, hc2]; done)) | refine Wp.skip ?_ | refine Wp.ret ?_ | refine Wp.exit ?_ | refine Blk.here ?_ | (refine Blk.past ?_ ?_; focus (simp; done)))
  exact ⟨rfl, answer_one (v := v) (by simp) (t.lowlt h0 hN) ⟨t.more (by omega), q, zs, by omega, hz, by omega, by omega, hzb⟩⟩
end Go.Proofs.YtgaodlhdilhliaaGreatDoor.Draw

/-
  A pair of many numbers, as a function draws it from bytes: none of those with names. No condition.
-/
import Derived.Test.YtlenoefcnjcgfaaRows
import Derived.Test.YtlenoefcnjcgfaaSym
import Derived.Test.YtlenoefcnjcgfaaSymD
import Derived.Test.YtlenoefcnjcgfaaSymE
import Derived.Test.YtlenoefcnjcgfaaIds
import Derived.Test.YtlenoefcnjcgfaaDraw
import Derived.Test.YtlenoefcnjcgfaaDrawC
import Derived.Test.YtlenoefcnjcgfaaDrawD
import Derived.WalkKit
import Derived.ProofKit
import Derived.OpenShut
namespace Go.Proofs.Ytlenoefcnjcgfaa.Draw
open Go.ChangeShapes Go.WideShapes Go.ChangeAt Go.RowKit Go.Sx Go.Proofs.Ytlenoefcnjcgfaa.Ids
set_option linter.unusedVariables false
set_option linter.unusedSimpArgs false

section
attribute [local simp] aops wants aop apure St.eval setTm_some setTm_none Tr.get_set evals pevals apureB alen tiS tiI tiB tiY tiU tiSs tiSr abin aint isCmp sym_lt sym_eqs sym_neqs sym_eq sym_neq sym_gtr sym_leq sym_geq sym_add sym_sub sym_mul aeff aeffB idx? ofV aindexAddr aggDesc aifc_int fldP0 fldP1
set_option maxRecDepth 10000 in
theorem inRangeBig (bs : List Int) {o : Nat} {P : Int} {S : Sto Sy} (h : Rdy bs o P S) (z : Int) (hz : 6 < z) (f : Nat) (hf : 2 ≤ f) :
    ∃ v S1, acallV (symIn Try.prog K0 [] f) S (.func 51 [] []) [.int .i64 (.c z), .int .i64 (.c 2), .int .i64 (.c 6)] = some (v, S1) ∧ Pre bs o P [] S S1 ∧ S1.low ≤ S.low ∧ v = .bool false := by
  obtain ⟨g, rfl⟩ : ∃ g, f = g + 1 := ⟨f - 1, by omega⟩
  refine run_callP (Φ := fun v obs => v = .bool false) (own_run2 hK0 Try.func51 rfl rfl ?_)
  simp only [Try.f51]
  have h0 := h.lows S.next
  have hN : (⟨S.next, S.obs, S.next⟩ : Sto Sy).next = S.next := rfl
  generalize (⟨S.next, S.obs, S.next⟩ : Sto Sy) = S0 at h0 hN ⊢
  have h1 : (2 : Int) ≤ z := by omega
  have h1a : ¬ z < 2 := by omega
  have h2 : ¬ z ≤ 6 := by omega
  have h2a : 6 < z := by omega
  repeat' (first | refine Wp.seq ?_ | refine Wp.block ?_ | (apply Wp.region; focus ((try simp [setArgs, h1, h2, h1a, h2a]) <;> rfl)) | (refine Wp.cond_t ?_ ?_; focus (simp [setArgs, h1, h2, h1a, h2a]; done)) | (refine Wp.cond_f ?_ ?_; focus (simp [setArgs, h1, h2, h1a, h2a]; done)) | refine Wp.skip ?_ | refine Wp.ret ?_ | refine Wp.exit ?_ | refine Blk.here ?_ | (refine Blk.past ?_ ?_; focus (simp; done)))
  refine ⟨rfl, answer_trim1 (v := .bool false) (by simp) ⟨?_, rfl⟩⟩
  rw [← hN]
  exact (Pre.self h0).trim h0.desc h0.lt (.bool false)

theorem bldZ : abuild (symNum []) (tiOf Try.prog) 25 [] = some (.agg [.nil, .nil]) := by kernel_rfl
set_option maxRecDepth 10000 in
theorem namedBig (bs : List Int) {o : Nat} {P : Int} {S : Sto Sy} (h : Rdy bs o P S) (nm : ByteArray) (z : Int) (hz : 6 < z) (hKN : ∀ sto, K0 22 [.str nm, .int .i64 (.c z)] sto = none) (f : Nat) (hf : 4 ≤ f) :
    ∃ v S1, acallV (symIn Try.prog K0 [] f) S (.func 22 [] []) [.str nm, .int .i64 (.c z)] = some (v, S1) ∧ Pre bs o P [] S S1 ∧ S1.low ≤ S.low ∧ v = .tup [.agg [.nil, .nil], .bool false] := by
  obtain ⟨g, rfl⟩ : ∃ g, f = g + 1 := ⟨f - 1, by omega⟩
  refine run_callP (Φ := fun v obs => v = .tup [.agg [.nil, .nil], .bool false]) (own_run2 (hKN _) Try.func22 rfl rfl ?_)
  simp only [Try.f22]
  have h0 := h.lows S.next
  have hN : (⟨S.next, S.obs, S.next⟩ : Sto Sy).next = S.next := rfl
  generalize (⟨S.next, S.obs, S.next⟩ : Sto Sy) = S0 at h0 hN ⊢
  have p0 := Pre.made h0 [V.nil, V.nil]
  have k0 := lookN S0 V.nil V.nil
  obtain ⟨_, T, hc, hp, hl, rfl⟩ := inRangeBig bs p0.rd z hz g (by omega)
  have t1 := p0.after h0.desc hp (by simp)
  have hno : S0.next ≠ o := by have := h0.lt; omega
  have k1 := hp.keep _ _ hno (by simp) k0
  have st := storeP (v := .nil) (w := .nil) k1 rfl rfl
  have t2 := t1.wrote h0.desc hno (.inr (Nat.le_refl _)) [V.nil, V.nil]
  have m2 := lookW (a := V.nil) (b := V.nil) k1
  generalize T.write S0.next [V.nil, V.nil] = T2 at st t2 m2
  repeat' (first | refine Wp.seq ?_ | refine Wp.block ?_ | (apply Wp.region; focus ((try simp [setArgs, allocP, hc, bldZ, st]) <;> rfl)) | (refine Wp.cond_t ?_ ?_; focus (simp [setArgs, allocP, hc, bldZ, st]; done)) | (refine Wp.cond_f ?_ ?_; focus (simp [setArgs, allocP, hc, bldZ, st]; done)) | refine Wp.skip ?_ | refine Wp.ret ?_ | refine Wp.exit ?_ | refine Blk.here ?_ | (refine Blk.past ?_ ?_; focus (simp; done)))
  refine ⟨rfl, (.tup [.agg [.nil, .nil], .bool false], T2.trim S.next (.tup [.agg [.nil, .nil], .bool false])), ?_, ?_, rfl⟩
  · simp [answer, aresults, aresult, loadP m2]
  · show Pre bs o P [] S0 (T2.trim S.next (.tup [.agg [.nil, .nil], .bool false]))
    rw [← hN]
    exact t2.trim h0.desc h0.lt _

set_option maxRecDepth 10000 in
theorem alternateN (bs : List Int) {o : Nat} {P : Int} {S : Sto Sy} (h : Rdy bs o P S) (f : Nat) (hf : 30 ≤ f) :
    ∃ v S1, acallV (symIn Try.prog K0 [] f) S (.func 65 [] []) [.nil] = some (v, S1) ∧ Pre bs o P [] S S1 ∧ S1.low ≤ S.low ∧ ∃ q2, S.next ≤ q2 ∧ IsL S1.obs q2 [] v := by
  obtain ⟨g, rfl⟩ : ∃ g, f = g + 1 := ⟨f - 1, by omega⟩
  refine run_callP (Φ := fun v obs => ∃ q2, S.next ≤ q2 ∧ IsL obs q2 [] v) (own_run2 hK0 Try.func65 rfl rfl ?_)
  simp only [Try.f65]
  have h0 := h.lows S.next
  have hN : (⟨S.next, S.obs, S.next⟩ : Sto Sy).next = S.next := rfl
  generalize (⟨S.next, S.obs, S.next⟩ : Sto Sy) = S0 at h0 hN ⊢
  have hz2 : IsL (S0.new (ints (nums []))).obs S0.next [] (.rsl S0.next 0 ([] : List Int).length (some 0)) := ⟨⟨some 0, rfl, .inr rfl⟩, look_new _ _⟩
  have hT := Pre.made h0 (ints (nums []))
  generalize hTe : (S0.new (ints (nums []))) = T at hz2 hT
  repeat' (first | refine Wp.seq ?_ | refine Wp.block ?_ | (apply Wp.region; focus ((try simp [setArgs, lit1]) <;> rfl)) | (refine Wp.cond_t ?_ ?_; focus (simp [setArgs, lit1]; done)) | (refine Wp.cond_f ?_ ?_; focus (simp [setArgs, lit1]; done)) | refine Wp.skip ?_ | refine Wp.ret ?_ | refine Wp.exit ?_ | refine Blk.here ?_ | (refine Blk.past ?_ ?_; focus (simp; done)))
  refine Wp.loop rfl rfl (fun i st => st.tm.get .any 0 = .nil ∧ st.tm.get .any 4 = .int .i64 (.c i) ∧ st.tm.get .any 3 = .rsl S0.next 0 0 (some 0) ∧ st.sto = T) 0 (by omega) ?_ ?_ ?_
  · exact ⟨by simp, by simp, by simp, hTe⟩
  · intro k i st hi; omega
  · rintro k ⟨tm, T'⟩ ⟨e0, e4, e3, rfl⟩
    simp only at e0 e4 e3
    repeat' (first | refine Wp.seq ?_ | refine Wp.block ?_ | (apply Wp.region; focus ((try simp [e0, e4, e3]) <;> rfl)) | (refine Wp.cond_t ?_ ?_; focus (simp [e0, e4, e3]; done)) | (refine Wp.cond_f ?_ ?_; focus (simp [e0, e4, e3]; done)) | refine Wp.skip ?_ | refine Wp.ret ?_ | refine Wp.exit ?_ | refine Blk.here ?_ | (refine Blk.past ?_ ?_; focus (simp; done)))
    refine ⟨rfl, answer_trim1 (v := .rsl S0.next 0 0 (some 0)) (by simp [e3]) ⟨?_, S0.next, by omega, ?_⟩⟩
    · show Pre bs o P [] S0 (T'.trim S.next (.rsl S0.next 0 0 (some 0)))
      rw [← hN]
      exact hT.trim h0.desc h0.lt _
    · exact hz2.trim1
end

/-- Two lists, new; each may be nil. -/
def PrN (n0 : Nat) (v1 v2 : V Sy) (obs : List (Nat × Ob Sy)) : Prop := ∃ q1 q2 z1 z2, n0 ≤ q1 ∧ n0 ≤ q2 ∧ q1 ≠ q2 ∧ Nn.IsN obs q1 z1 v1 ∧ Nn.IsN obs q2 z2 v2 ∧ Fit z1 ∧ Fit z2
set_option maxRecDepth 100000 in
theorem kBig0 (n : Nat) (h0 : 7 ≤ n) (h1 : n ≤ 25) : ∀ sto, K0 22 [.str (ByteArray.mk #[112, 97, 115, 99, 97, 108]), .int .i64 (.c n)] sto = none := by
  intro sto
  have h : n = 7 ∨ n = 8 ∨ n = 9 ∨ n = 10 ∨ n = 11 ∨ n = 12 ∨ n = 13 ∨ n = 14 ∨ n = 15 ∨ n = 16 ∨ n = 17 ∨ n = 18 ∨ n = 19 ∨ n = 20 ∨ n = 21 ∨ n = 22 ∨ n = 23 ∨ n = 24 ∨ n = 25 := by omega
  rcases h with rfl | rfl | rfl | rfl | rfl | rfl | rfl | rfl | rfl | rfl | rfl | rfl | rfl | rfl | rfl | rfl | rfl | rfl | rfl <;> (show _ = none; kernel_rfl)
set_option maxRecDepth 100000 in
theorem kBig1 (n : Nat) (h0 : 7 ≤ n) (h1 : n ≤ 25) : ∀ sto, K0 22 [.str (ByteArray.mk #[112, 97, 114, 116, 105, 116, 105, 111, 110, 115]), .int .i64 (.c n)] sto = none := by
  intro sto
  have h : n = 7 ∨ n = 8 ∨ n = 9 ∨ n = 10 ∨ n = 11 ∨ n = 12 ∨ n = 13 ∨ n = 14 ∨ n = 15 ∨ n = 16 ∨ n = 17 ∨ n = 18 ∨ n = 19 ∨ n = 20 ∨ n = 21 ∨ n = 22 ∨ n = 23 ∨ n = 24 ∨ n = 25 := by omega
  rcases h with rfl | rfl | rfl | rfl | rfl | rfl | rfl | rfl | rfl | rfl | rfl | rfl | rfl | rfl | rfl | rfl | rfl | rfl | rfl <;> (show _ = none; kernel_rfl)
set_option maxRecDepth 100000 in
theorem kBig2 (n : Nat) (h0 : 7 ≤ n) (h1 : n ≤ 25) : ∀ sto, K0 22 [.str (ByteArray.mk #[99, 121, 99, 108, 101, 115]), .int .i64 (.c n)] sto = none := by
  intro sto
  have h : n = 7 ∨ n = 8 ∨ n = 9 ∨ n = 10 ∨ n = 11 ∨ n = 12 ∨ n = 13 ∨ n = 14 ∨ n = 15 ∨ n = 16 ∨ n = 17 ∨ n = 18 ∨ n = 19 ∨ n = 20 ∨ n = 21 ∨ n = 22 ∨ n = 23 ∨ n = 24 ∨ n = 25 := by omega
  rcases h with rfl | rfl | rfl | rfl | rfl | rfl | rfl | rfl | rfl | rfl | rfl | rfl | rfl | rfl | rfl | rfl | rfl | rfl | rfl <;> (show _ = none; kernel_rfl)
set_option maxRecDepth 100000 in
theorem kBig3 (n : Nat) (h0 : 7 ≤ n) (h1 : n ≤ 25) : ∀ sto, K0 22 [.str (ByteArray.mk #[108, 105, 115, 116, 115]), .int .i64 (.c n)] sto = none := by
  intro sto
  have h : n = 7 ∨ n = 8 ∨ n = 9 ∨ n = 10 ∨ n = 11 ∨ n = 12 ∨ n = 13 ∨ n = 14 ∨ n = 15 ∨ n = 16 ∨ n = 17 ∨ n = 18 ∨ n = 19 ∨ n = 20 ∨ n = 21 ∨ n = 22 ∨ n = 23 ∨ n = 24 ∨ n = 25 := by omega
  rcases h with rfl | rfl | rfl | rfl | rfl | rfl | rfl | rfl | rfl | rfl | rfl | rfl | rfl | rfl | rfl | rfl | rfl | rfl | rfl <;> (show _ = none; kernel_rfl)
theorem isnW {S : Sto Sy} {q r : Nat} {zs : List Int} {v : V Sy} {cs : Ob Sy} (h : Nn.IsN S.obs q zs v) (hr : q ≠ r) : Nn.IsN (S.write r cs).obs q zs v := h.imp (fun h => islW h hr) id
section
attribute [local simp] aops wants aop apure St.eval setTm_some setTm_none Tr.get_set evals pevals apureB alen tiS tiI tiB tiY tiU tiSs tiSr abin aint isCmp sym_lt sym_eqs sym_neqs sym_eq sym_neq sym_gtr sym_leq sym_geq sym_add sym_sub sym_mul aeff aeffB idx? ofV aindexAddr aggDesc aifc_int fldP0 fldP1
set_option maxRecDepth 10000 in
theorem pairOfB (bs : List Int) (hbs : ∀ b, b ∈ bs → 0 ≤ b ∧ b < 256) {o : Nat} {P : Int} {S : Sto Sy} (h : Rdy bs o P S) (hP : P ≤ 500000) (n : Nat) (hn0 : 7 ≤ n) (hn : n ≤ 25) (f : Nat) (hf : 60 ≤ f) :
    ∃ v S1, acallV (symIn Try.prog K0 [] f) S (.func 30 [] []) [.ptr o 0, .int .i64 (.c n)] = some (v, S1) ∧ Nw bs o (P + 1000) [] S S1 ∧ ∃ v1 v2, v = .agg [v1, v2] ∧ PrN S.next v1 v2 S1.obs := by
  obtain ⟨g, rfl⟩ : ∃ g, f = g + 1 := ⟨f - 1, by omega⟩
  refine run_call (Φ := fun v obs => ∃ v1 v2, v = .agg [v1, v2] ∧ PrN S.next v1 v2 obs) (own_run2 hK0 Try.func30 rfl rfl ?_)
  simp only [Try.f30]
  have h0 := h.lows S.next
  have hlt := h.lt
  have hN : (⟨S.next, S.obs, S.next⟩ : Sto Sy).next = S.next := rfl
  generalize (⟨S.next, S.obs, S.next⟩ : Sto Sy) = S0 at h0 hN ⊢
  have hno : S0.next ≠ o := by have := h0.lt; omega
  have p0 := Pre.made h0 [V.nil, V.nil]
  have k0 := lookN S0 V.nil V.nil
  -- what is made of a pair in a variable: the result
  have fin : ∀ (T : Sto Sy) (v1 v2 : V Sy) (x : Ob Sy), Nw bs o (P + 900) [] S0 T → Go.Sx.look T.obs S0.next = some x → PrN (S0.next + 1) v1 v2 T.obs →
      Nw bs o (P + 1000) [] S0 (T.write S0.next [v1, v2]) ∧ Go.Sx.look (T.write S0.next [v1, v2]).obs S0.next = some [v1, v2] ∧ PrN S.next v1 v2 (T.write S0.next [v1, v2]).obs := by
    intro T v1 v2 x hT hx htw
    obtain ⟨q1, q2, z1, z2, a1, a2, a3, a4, a5, a6, a7⟩ := htw
    exact ⟨(hT.wrote h0.desc hno (.inr (Nat.le_refl _)) _).more (by omega), lookW hx, q1, q2, z1, z2, by omega, by omega, a3, isnW a4 (by omega), isnW a5 (by omega), a6, a7⟩
  have ans : ∀ (T : Sto Sy) (tm : Tr (V Sy)) (v1 v2 : V Sy), tm.get .any 4 = .ptr S0.next 0 → Nw bs o (P + 1000) [] S0 T → Go.Sx.look T.obs S0.next = some [v1, v2] → PrN S.next v1 v2 T.obs →
      ∃ r, answer (tiOf Try.prog) ⟨tm, T⟩ S.next [.cell 4 25] = some r ∧ Nw bs o (P + 1000) [] S0 r.2 ∧ ∃ v1 v2, r.1 = .agg [v1, v2] ∧ PrN S.next v1 v2 r.2.obs := by
    intro T tm v1 v2 h4 hT hk htw
    refine ⟨(.agg [v1, v2], T), ?_, hT, v1, v2, rfl, htw⟩
    simp [answer, aresults, aresult, h4, loadP hk]
    exact trim_low (hT.lowlt h0 hN)
  have other : ∀ (T : Sto Sy), Pre bs o (P + 1) [] S0 T → Go.Sx.look T.obs S0.next = some [V.nil, V.nil] → S0.next < T.next → ∃ q1 q2 l1 l2 c1 c2 T2 T3, acallV (symIn Try.prog K0 [] g) T (.func 66 [] []) [.ptr o 0, .int .i64 (.c n)] = some (.rsl q1 0 l1 c1, T2) ∧
      acallV (symIn Try.prog K0 [] g) T2 (.func 67 [] []) [.ptr o 0, .int .i64 (.c n)] = some (.rsl q2 0 l2 c2, T3) ∧ Nw bs o (P + 900) [] S0 T3 ∧ Go.Sx.look T3.obs S0.next = some [V.nil, V.nil] ∧ PrN (S0.next + 1) (.rsl q1 0 l1 c1) (.rsl q2 0 l2 c2) T3.obs := by
    intro T hT hk hlt2
    obtain ⟨v, T2, hc1, hn1, q1, z1, a1, a2, a3, a4, a5⟩ := unitSeries bs hbs hT.rd (by omega) n (by omega) (by omega) g (by omega)
    obtain ⟨w, T3, hc2, hn2, q2, z2, b1, b2, b3, b4, b5⟩ := deltaSeries bs hbs hn1.rd (by omega) n (by omega) (by omega) g (by omega)
    have e1 := hn1.next
    have hq1 := hn1.rd.desc.look_lt a2.obj
    obtain ⟨c1, rfl, hc1'⟩ := a2.val
    obtain ⟨c2, rfl, hc2'⟩ := b2.val
    have t1 := hT.trans h0.desc hn1 (by simp)
    exact ⟨q1, q2, _, _, c1, c2, T2, T3, hc1, hc2, (t1.trans h0.desc hn2 (by simp)).more (by omega), hn2.keep _ _ hno (by simp) (hn1.keep _ _ hno (by simp) hk),
      q1, q2, z1, z2, by omega, by omega, by omega, .inl (a2.keep hn2 (by have := h0.lt; omega) (by simp)), .inl b2, ⟨by omega, wrap_bounded (by omega) a5⟩, ⟨by omega, wrap_bounded (by omega) b5⟩⟩
  have h1n : (1 : Int) < n := by omega
  have h1m : 1 < n := by omega
  obtain ⟨x, T1, hcx, hnx, hx1, hx2⟩ := pickC bs hbs p0.rd (by omega) 4 (by omega) g (by omega)
  have t1 := p0.trans h0.desc hnx (by simp)
  have k1 := hnx.keep _ _ hno (by simp) k0
  have e1 := hnx.next
  have hS1 : (S0.new [V.nil, V.nil]).next = S0.next + 1 := rfl
  by_cases hx0 : x = 0
  rotate_left
  · have hxb : (x == 0) = false := by simp [hx0]
    obtain ⟨q1, q2, l1, l2, c1, c2, T2, T3, hc1, hc2, hT3, hk3, htw⟩ := other T1 t1.pre k1 (by omega)
    obtain ⟨f1, f2, f3⟩ := fin T3 _ _ _ hT3 hk3 htw
    repeat' (first | refine Wp.seq ?_ | refine Wp.block ?_ | (apply Wp.region; focus ((try simp [setArgs, allocP, h1n, h1m, hcx, hxb, hc1, hc2, bldP, storeP (v := .rsl q1 0 l1 c1) (w := .rsl q2 0 l2 c2) hk3 rfl rfl]) <;> rfl)) | (refine Wp.cond_t ?_ ?_; focus (simp [setArgs, allocP, h1n, h1m, hcx, hxb, hc1, hc2, bldP, storeP (v := .rsl q1 0 l1 c1) (w := .rsl q2 0 l2 c2) hk3 rfl rfl]; done)) | (refine Wp.cond_f ?_ ?_; focus (simp [setArgs, allocP, h1n, h1m, hcx, hxb, hc1, hc2, bldP, storeP (v := .rsl q1 0 l1 c1) (w := .rsl q2 0 l2 c2) hk3 rfl rfl]; done)) | refine Wp.skip ?_ | refine Wp.ret ?_ | refine Wp.exit ?_ | refine Blk.here ?_ | (refine Blk.past ?_ ?_; focus (simp; done)))
    exact ⟨rfl, ans _ _ _ _ (by simp) f1 f2 f3⟩
  subst hx0
  obtain ⟨nm, T2, hc2, hn2, hnm⟩ := ofC bs hbs t1.rd (by omega) (ByteArray.mk #[112, 97, 115, 99, 97, 108]) (ByteArray.mk #[112, 97, 114, 116, 105, 116, 105, 111, 110, 115]) (ByteArray.mk #[99, 121, 99, 108, 101, 115]) (ByteArray.mk #[108, 105, 115, 116, 115]) g (by omega)
  have t2 := t1.trans h0.desc hn2 (by simp)
  have k2 := hn2.keep _ _ hno (by simp) k1
  have e2 := hn2.next
  have hbn : ∃ b, nm = .str b ∧ ∀ sto, K0 22 [.str b, .int .i64 (.c n)] sto = none := by
    rcases hnm with rfl | rfl | rfl | rfl
    · exact ⟨_, rfl, kBig0 n hn0 hn⟩
    · exact ⟨_, rfl, kBig1 n hn0 hn⟩
    · exact ⟨_, rfl, kBig2 n hn0 hn⟩
    · exact ⟨_, rfl, kBig3 n hn0 hn⟩
  obtain ⟨bn, rfl, hkn⟩ := hbn
  obtain ⟨_, T3, hc3, hp3, hl3, rfl⟩ := namedBig bs t2.rd bn n (by omega) hkn g (by omega)
  have t3 := (t2.pre.after h0.desc hp3 (by simp)).nw (Nat.le_trans hl3 t2.low)
  have k3 := hp3.keep _ _ hno (by simp) k2
  have e3 := hp3.next
  have t4 := (t3.behind [V.nil, V.nil]).wrote h0.desc (q := T3.next) (by have := h0.lt; omega) (.inr (by omega)) [V.nil, V.nil]
  have k4 : Go.Sx.look (T3.new [V.nil, V.nil]).obs S0.next = some [V.nil, V.nil] := by
    show Go.Sx.look ((T3.next, noBc [V.nil, V.nil]) :: T3.obs) S0.next = _
    rw [look_cons, if_neg (by omega)]; exact k3
  have k4' : Go.Sx.look ((T3.new [V.nil, V.nil]).write T3.next [V.nil, V.nil]).obs S0.next = some [V.nil, V.nil] := by
    show Go.Sx.look (put (T3.new [V.nil, V.nil]).obs T3.next _) S0.next = _
    rw [look_put_ne (by omega)]; exact k4
  have m4 := lookW (a := V.nil) (b := V.nil) (lookN T3 V.nil V.nil)
  have st4 := storeP (v := V.nil) (w := V.nil) (lookN T3 V.nil V.nil) rfl rfl
  have e4 : ((T3.new [V.nil, V.nil]).write T3.next [V.nil, V.nil]).next = T3.next + 1 := rfl
  generalize (T3.new [V.nil, V.nil]).write T3.next [V.nil, V.nil] = T4 at t4 k4' m4 st4 e4
  obtain ⟨y, T5, hc5, hn5, hy1, hy2⟩ := pickC bs hbs t4.rd (by omega) 3 (by omega) g (by omega)
  have t5 := t4.trans h0.desc hn5 (by simp)
  have k5 := hn5.keep _ _ hno (by simp) k4'
  have hvo : T3.next ≠ o := by have := h0.lt; omega
  have m5 := hn5.keep _ _ hvo (by simp) m4
  have e5 := hn5.next
  have fitN : Fit [] := ⟨by simp, by simp⟩
  by_cases hy0 : y = 0
  rotate_left
  · obtain ⟨f1, f2, f3⟩ := fin T5 _ _ _ (t5.more (by omega)) k5 ⟨S0.next + 1, S0.next + 2, [], [], by omega, by omega, by omega, .inr ⟨rfl, rfl⟩, .inr ⟨rfl, rfl⟩, fitN, fitN⟩
    repeat' (first | refine Wp.seq ?_ | refine Wp.block ?_ | (apply Wp.region; focus ((try simp [setArgs, allocP, h1n, h1m, hcx, litS, hc2, hc3, st4, hc5, hy0, loadP m5, storeP (v := V.nil) (w := V.nil) k5 rfl rfl]) <;> rfl)) | (refine Wp.cond_t ?_ ?_; focus (simp [setArgs, allocP, h1n, h1m, hcx, litS, hc2, hc3, st4, hc5, hy0, loadP m5, storeP (v := V.nil) (w := V.nil) k5 rfl rfl]; done)) | (refine Wp.cond_f ?_ ?_; focus (simp [setArgs, allocP, h1n, h1m, hcx, litS, hc2, hc3, st4, hc5, hy0, loadP m5, storeP (v := V.nil) (w := V.nil) k5 rfl rfl]; done)) | refine Wp.skip ?_ | refine Wp.ret ?_ | refine Wp.exit ?_ | refine Blk.here ?_ | (refine Blk.past ?_ ?_; focus (simp; done)))
    exact ⟨rfl, ans _ _ _ _ (by simp) f1 f2 f3⟩
  subst hy0
  obtain ⟨w1, T6, hc6, hp6, hl6, r1, d1, d2⟩ := alternateN bs t5.rd g (by omega)
  have t6 := (t5.pre.after h0.desc hp6 (by simp)).nw (Nat.le_trans hl6 t5.low)
  have k6 := hp6.keep _ _ hno (by simp) k5
  have m6 := hp6.keep _ _ hvo (by simp) m5
  have e6 := hp6.next
  obtain ⟨g1, rfl, hg1⟩ := d2.val
  have hr1 := hp6.rd.desc.look_lt d2.obj
  have l6 : aload (tiOf Try.prog) T5 23 (.ptr T3.next 0) = some V.nil := loadS m5 rfl
  have s6 := storeS0 (l := 0) (r := r1) (c := g1) m6
  have t7 := t6.wrote h0.desc hvo (.inr (by omega)) [.rsl r1 0 0 g1, V.nil]
  have k7 : Go.Sx.look (T6.write T3.next [V.rsl r1 0 0 g1, V.nil]).obs S0.next = some [V.nil, V.nil] := by
    show Go.Sx.look (put T6.obs T3.next _) S0.next = _
    rw [look_put_ne (by omega)]; exact k6
  have m7 := lookW (a := V.rsl r1 0 0 g1) (b := V.nil) m6
  have d2' := islW (cs := [.rsl r1 0 0 g1, V.nil]) (r := T3.next) d2 (by omega)
  have e7 : (T6.write T3.next [V.rsl r1 0 0 g1, V.nil]).next = T6.next := rfl
  generalize T6.write T3.next [V.rsl r1 0 0 g1, V.nil] = T7 at t7 k7 m7 s6 d2' e7
  obtain ⟨w2, T8, hc8, hp8, hl8, r2, x1, x2⟩ := alternateN bs t7.rd g (by omega)
  have t8 := (t7.pre.after h0.desc hp8 (by simp)).nw (Nat.le_trans hl8 t7.low)
  have k8 := hp8.keep _ _ hno (by simp) k7
  have m8 := hp8.keep _ _ hvo (by simp) m7
  have d8 := d2'.keepP hp8 (by have := h0.lt; omega) (by simp)
  obtain ⟨g2, rfl, hg2⟩ := x2.val
  have e8 := hp8.next
  have hr2 := hp8.rd.desc.look_lt x2.obj
  have l8 : aload (tiOf Try.prog) T7 23 (.ptr T3.next 1) = some V.nil := loadS m7 rfl
  have s8 := storeS1 (l := 0) (r := r2) (c := g2) m8
  have t9 := t8.wrote h0.desc hvo (.inr (by omega)) [.rsl r1 0 0 g1, .rsl r2 0 0 g2]
  have k9 : Go.Sx.look (T8.write T3.next [V.rsl r1 0 0 g1, .rsl r2 0 0 g2]).obs S0.next = some [V.nil, V.nil] := by
    show Go.Sx.look (put T8.obs T3.next _) S0.next = _
    rw [look_put_ne (by omega)]; exact k8
  have m9 := lookW (a := V.rsl r1 0 0 g1) (b := V.rsl r2 0 0 g2) m8
  have d9 := islW (cs := [.rsl r1 0 0 g1, .rsl r2 0 0 g2]) (r := T3.next) d8 (by omega)
  have x9 := islW (cs := [.rsl r1 0 0 g1, .rsl r2 0 0 g2]) (r := T3.next) x2 (by omega)
  generalize T8.write T3.next [V.rsl r1 0 0 g1, .rsl r2 0 0 g2] = T9 at t9 k9 m9 s8 d9 x9
  obtain ⟨f1, f2, f3⟩ := fin T9 _ _ _ (t9.more (by omega)) k9 ⟨r1, r2, [], [], by omega, by omega, by omega, .inl d9, .inl x9, fitN, fitN⟩
  have hc6' : acallV (symIn Try.prog K0 [] g) T5 (.func 65 [] []) [V.nil] = some (.rsl r1 0 0 g1, T6) := hc6
  have hc8' : acallV (symIn Try.prog K0 [] g) T7 (.func 65 [] []) [V.nil] = some (.rsl r2 0 0 g2, T8) := hc8
  repeat' (first | refine Wp.seq ?_ | refine Wp.block ?_ | (apply Wp.region; focus ((try simp [setArgs, allocP, h1n, h1m, hcx, litS, hc2, hc3, st4, hc5, l6, hc6', s6, l8, hc8', s8, loadP m9, storeP (v := .rsl r1 0 0 g1) (w := .rsl r2 0 0 g2) k9 rfl rfl]) <;> rfl)) | (refine Wp.cond_t ?_ ?_; focus (simp [setArgs, allocP, h1n, h1m, hcx, litS, hc2, hc3, st4, hc5, l6, hc6', s6, l8, hc8', s8, loadP m9, storeP (v := .rsl r1 0 0 g1) (w := .rsl r2 0 0 g2) k9 rfl rfl]; done)) | (refine Wp.cond_f ?_ ?_; focus (simp [setArgs, allocP, h1n, h1m, hcx, litS, hc2, hc3, st4, hc5, l6, hc6', s6, l8, hc8', s8, loadP m9, storeP (v := .rsl r1 0 0 g1) (w := .rsl r2 0 0 g2) k9 rfl rfl]; done)) | refine Wp.skip ?_ | refine Wp.ret ?_ | refine Wp.exit ?_ | refine Blk.here ?_ | (refine Blk.past ?_ ?_; focus (simp; done)))
  exact ⟨rfl, ans _ _ _ _ (by simp) f1 f2 f3⟩
end

section
attribute [local simp] aops wants aop apure St.eval setTm_some setTm_none Tr.get_set evals pevals apureB alen tiS tiI tiB tiY tiU tiSs tiSr abin aint isCmp sym_lt sym_eqs sym_neqs sym_eq sym_neq sym_gtr sym_leq sym_geq sym_add sym_sub sym_mul aeff aeffB idx? ofV aindexAddr aggDesc aifc_int fldP0 fldP1 aload astore look_cons Sto.write u8s_length acallV_func symIn_run
set_option maxRecDepth 10000 in
theorem newReaderP2 (bs : List Int) (m : Nat) :
    symRun Try.prog K0 [] (m + 1) 27 [.slice (u8s bs)] ⟨2, [(1, [.nil, .nil]), (0, [.nil, .nil])], 2⟩ = some (.ptr 2 0, ⟨3, [(2, [.slice (u8s (bs.take 2000)), .int .i64 (.c 0)]), (1, [.nil, .nil]), (0, [.nil, .nil])], 2⟩) := by
  refine own_run hK0 Try.func27 rfl rfl ?_
  simp only [Try.f27]
  have h3 := True.intro
  by_cases h : 2000 < bs.length
  · have h1 : (2000 : Int) < bs.length := by omega
    repeat' (first | refine Wp.seq ?_ | refine Wp.block ?_ | (apply Wp.region; focus ((try simp [setArgs, h1, oeval, sl2 bs h, pevals, bldR, abox, V.cells]) <;> rfl)) | (refine Wp.cond_t ?_ ?_; focus (simp [setArgs, h1, oeval, sl2 bs h, pevals, bldR, abox, V.cells]; done)) | (refine Wp.cond_f ?_ ?_; focus (simp [setArgs, h1, oeval, sl2 bs h, pevals, bldR, abox, V.cells]; done)) | refine Wp.skip ?_ | refine Wp.ret ?_ | refine Wp.exit ?_ | refine Blk.here ?_ | (refine Blk.past ?_ ?_; focus (simp; done)))
    refine ⟨rfl, ?_⟩
    simp [answer, aresults, aresult, Sto.trim, Sto.new, V.refs, Nat.blt, deeper, refsL, Draw.refs_u8s, keepNew, h3]
  · have h1 : ¬ (2000 : Int) < bs.length := by omega
    have h2 : bs.take 2000 = bs := List.take_of_length_le (by omega)
    have h3 := h2
    repeat' (first | refine Wp.seq ?_ | refine Wp.block ?_ | (apply Wp.region; focus ((try simp [setArgs, h1, h2, pevals, bldR, abox, V.cells]) <;> rfl)) | (refine Wp.cond_t ?_ ?_; focus (simp [setArgs, h1, h2, pevals, bldR, abox, V.cells]; done)) | (refine Wp.cond_f ?_ ?_; focus (simp [setArgs, h1, h2, pevals, bldR, abox, V.cells]; done)) | refine Wp.skip ?_ | refine Wp.ret ?_ | refine Wp.exit ?_ | refine Blk.here ?_ | (refine Blk.past ?_ ?_; focus (simp; done)))
    refine ⟨rfl, ?_⟩
    simp [answer, aresults, aresult, Sto.trim, Sto.new, V.refs, Nat.blt, deeper, refsL, Draw.refs_u8s, keepNew, h3]
end
theorem readerP3 (bs : List Int) (f : Nat) (hf : 1 ≤ f) : ∃ S, acallV (symIn Try.prog K0 [] f) (Sto.new (Sto.new ⟨0, [], 0⟩ [V.nil, V.nil]) [V.nil, V.nil]) (.func 27 [] []) [.slice (u8s bs)] = some (.ptr 2 0, S) ∧ Rdy (bs.take 2000) 2 0 S ∧ Go.Sx.look S.obs 1 = some [V.nil, V.nil] ∧ Go.Sx.look S.obs 0 = some [V.nil, V.nil] ∧ S.next = 3 := by
  obtain ⟨m, rfl⟩ : ∃ m, f = m + 1 := ⟨f - 1, by omega⟩
  refine ⟨⟨3, [(2, [.slice (u8s (bs.take 2000)), .int .i64 (.c 0)]), (1, [.nil, .nil]), (0, [.nil, .nil])], 0⟩, ?_, ⟨0, Int.le_refl 0, rfl, ⟨Nat.lt_succ_self 2, Nat.lt_succ_self 1, Nat.lt_succ_self 0, trivial⟩, Int.le_refl 0⟩, rfl, rfl, rfl⟩
  have e : (⟨(Sto.new (Sto.new ⟨0, [], 0⟩ [V.nil, V.nil]) [V.nil, V.nil] : Sto Sy).next, (Sto.new (Sto.new ⟨0, [], 0⟩ [V.nil, V.nil]) [V.nil, V.nil] : Sto Sy).obs, (Sto.new (Sto.new ⟨0, [], 0⟩ [V.nil, V.nil]) [V.nil, V.nil] : Sto Sy).next⟩ : Sto Sy) = ⟨2, [(1, [.nil, .nil]), (0, [.nil, .nil])], 2⟩ := rfl
  rw [acallV_func (by decide), List.nil_append, List.append_nil, symIn_run (by decide), e, newReaderP2 bs m]
  rfl

theorem pairAny (bs : List Int) (hbs : ∀ b, b ∈ bs → 0 ≤ b ∧ b < 256) {o : Nat} {P : Int} {S : Sto Sy} (h : Rdy bs o P S) (hP : P ≤ 500000) (n : Nat) (hn0 : 1 ≤ n) (hn : n ≤ 25) (f : Nat) (hf : 60 ≤ f) :
    ∃ v S1, acallV (symIn Try.prog K0 [] f) S (.func 30 [] []) [.ptr o 0, .int .i64 (.c n)] = some (v, S1) ∧ Nw bs o (P + 1000) [] S S1 ∧ ∃ v1 v2, v = .agg [v1, v2] ∧ PrN S.next v1 v2 S1.obs := by
  by_cases h6 : n ≤ 6
  · obtain ⟨v, S1, h1, h2, v1, v2, h3, q1, q2, z1, z2, a1, a2, a3, a4, a5, a6, a7, a8, a9⟩ := pairOf bs hbs h hP n hn0 h6 f hf
    exact ⟨v, S1, h1, h2, v1, v2, h3, q1, q2, z1, z2, a1, a2, a3, .inl a4, .inl a5, ⟨by omega, a8⟩, ⟨by omega, a9⟩⟩
  · exact pairOfB bs hbs h hP n (by omega) hn f hf
theorem someN (bs : List Int) (hbs : ∀ b, b ∈ bs → 0 ≤ b ∧ b < 256) {o : Nat} {P : Int} {S : Sto Sy} (h : Rdy bs o P S) (hP : P ≤ 400000) (f : Nat) (hf : 70 ≤ f) :
    ∃ v S1, acallV (symIn Try.prog K0 [] f) S (.func 28 [] []) [.ptr o 0] = some (v, S1) ∧ Nw bs o (P + 2000) [] S S1 ∧ ∃ v1 v2, v = .agg [v1, v2] ∧ PrN S.next v1 v2 S1.obs := by
  obtain ⟨v, S1, h1, h2, v1, v2, h3, q1, q2, z1, z2, a1, a2, a3, a4, a5, a6, a7⟩ := somePair bs hbs h hP f hf
  exact ⟨v, S1, h1, h2, v1, v2, h3, q1, q2, z1, z2, a1, a2, a3, .inl a4, .inl a5, a6, a7⟩

section
attribute [local simp] aops wants aop apure St.eval setTm_some setTm_none Tr.get_set evals pevals apureB alen tiS tiI tiB tiY tiU tiSs tiSr abin aint isCmp sym_lt sym_eqs sym_neqs sym_eq sym_neq sym_gtr sym_leq sym_geq sym_add sym_sub sym_mul aeff aeffB idx? ofV aindexAddr aggDesc aifc_int fldP0 fldP1
set_option maxRecDepth 10000 in
theorem drawMultiplyPairs (bs : List Int) (hbs0 : ∀ b, b ∈ bs → 0 ≤ b ∧ b < 256) (m : Nat) : ∃ r, symRun Try.prog K0 [] (m + 100) 7 [.slice (u8s bs)] ⟨0, [], 0⟩ = some r ∧ ∃ v1 v2 v3 v4 q1 q2 q3 q4 z1 z2 z3 z4, r.1 = .tup [.agg [v1, v2], .agg [v3, v4]] ∧ [q1, q2, q3, q4].Nodup ∧ Nn.IsN r.2.obs q1 z1 v1 ∧ Nn.IsN r.2.obs q2 z2 v2 ∧ Nn.IsN r.2.obs q3 z3 v3 ∧ Nn.IsN r.2.obs q4 z4 v4 ∧ Fit z1 ∧ Fit z2 ∧ Fit z3 ∧ Fit z4 := by
  refine own_run2 (n := m + 99) hK0 Try.func7 rfl rfl ?_
  simp only [Try.f7]
  obtain ⟨S1, hr, h1, k1, k10, e1⟩ := readerP3 bs (m + 99) (by omega)
  have hbs := take2000 hbs0
  generalize bs.take 2000 = bs1 at hbs h1
  obtain ⟨_, T, hc, hn, v1, v2, rfl, q1, q2, z1, z2, a1, a2, a3, a4, a5, a6, a7⟩ := somePair bs1 hbs h1 (by omega) (m + 99) (by omega)
  obtain ⟨c1, rfl, hc1⟩ := a4.val
  obtain ⟨c2, rfl, hc2⟩ := a5.val
  have kA := lookN T V.nil V.nil
  have st := storeP (v := .rsl q1 0 z1.length c1) (w := .rsl q2 0 z2.length c2) kA rfl rfl
  have m2 := lookW (a := V.rsl q1 0 z1.length c1) (b := V.rsl q2 0 z2.length c2) kA
  have l1 := hn.rd.desc.look_lt a4.obj
  have l2 := hn.rd.desc.look_lt a5.obj
  have eN := hn.next
  have i1 := islW (cs := [.rsl q1 0 z1.length c1, .rsl q2 0 z2.length c2]) (r := T.next) (IsL.new (n := 0) a4 hn.rd.desc [V.nil, V.nil]) (by omega)
  have i2 := islW (cs := [.rsl q1 0 z1.length c1, .rsl q2 0 z2.length c2]) (r := T.next) (IsL.new (n := 0) a5 hn.rd.desc [V.nil, V.nil]) (by omega)
  have t2 := (hn.behind [V.nil, V.nil]).wrote h1.desc (q := T.next) (by omega) (.inr hn.next) [.rsl q1 0 z1.length c1, .rsl q2 0 z2.length c2]
  have k2 := t2.keep 0 _ (by omega) (by simp) k10
  have k21 := t2.keep 1 _ (by omega) (by simp) k1
  have eT : ((T.new [V.nil, V.nil]).write T.next [.rsl q1 0 z1.length c1, .rsl q2 0 z2.length c2]).next = T.next + 1 := rfl
  generalize (T.new [V.nil, V.nil]).write T.next [.rsl q1 0 z1.length c1, .rsl q2 0 z2.length c2] = T2 at st m2 i1 i2 t2 k2 k21 eT
  have big : ∀ {U : Sto Sy} {P : Int}, Nw bs1 2 P [] S1 U → T.next < U.next → Go.Sx.look U.obs T.next = some [.rsl q1 0 z1.length c1, .rsl q2 0 z2.length c2] → Desc U.next U.obs ∧ U.low ≤ U.next ∧ 2 < U.next ∧ (∃ p, Go.Sx.look U.obs 2 = some [.slice (u8s bs1), .int .i64 (.c p)]) ∧
      obsIn (fun o => [T.next, q1, q2].contains o) (onlyObs [T.next] U.obs) = true ∧ obsIn (fun o => [2].contains o) (onlyObs [2] U.obs) = true ∧ Go.Sx.look (onlyObs [T.next] U.obs) T.next = some [.rsl q1 0 z1.length c1, .rsl q2 0 z2.length c2] := by
    intro U P tU hUn mU
    have dU := tU.rd.desc
    have := tU.low
    have := tU.rd.lt
    obtain ⟨p, _, hp⟩ := tU.rd
    refine ⟨dU, by omega, by omega, ⟨p, hp.obj⟩, obsIn_of dU (fun k hk b hb => ?_), obsIn_of dU (fun k hk b hb => ?_), ?_⟩
    · have hk : k = T.next := by simpa using hk
      subst hk
      rw [mU] at hb
      cases hb
      simp [inNs, V.inN]
    · have hk : k = 2 := by simpa using hk
      subst hk
      rw [hp.obj] at hb
      cases hb
      simp [inNs, V.inN, inNs_u8s]
    · rw [onlyObs_look, if_pos (by simp)]; exact mU
  have fin : ∀ {U s2 : Sto Sy} {P Q : Int} {v3 v4 : V Sy}, Nw bs1 2 P [] S1 U → Nw bs1 2 Q [] U s2 → T.next < U.next → IsL U.obs q1 z1 (.rsl q1 0 z1.length c1) → IsL U.obs q2 z2 (.rsl q2 0 z2.length c2) → PrN U.next v3 v4 s2.obs → Go.Sx.look s2.obs 0 = some [V.nil, V.nil] → Go.Sx.look s2.obs 1 = some [V.nil, V.nil] →
      ∃ s4, astore (tiOf Try.prog) (s2.write 0 [.rsl q1 0 z1.length c1, .rsl q2 0 z2.length c2]) 25 (.ptr 1 0) (.agg [v3, v4]) = some s4 ∧ ∀ tm : Tr (V Sy), tm.get .any 2 = .ptr 0 0 → tm.get .any 3 = .ptr 1 0 → ∃ r, answer (tiOf Try.prog) ⟨tm, s4⟩ 0 [.cell 2 25, .cell 3 25] = some r ∧
      ∃ v1 v2 v3 v4 q1 q2 q3 q4 z1 z2 z3 z4, r.1 = .tup [.agg [v1, v2], .agg [v3, v4]] ∧ [q1, q2, q3, q4].Nodup ∧ Nn.IsN r.2.obs q1 z1 v1 ∧ Nn.IsN r.2.obs q2 z2 v2 ∧ Nn.IsN r.2.obs q3 z3 v3 ∧ Nn.IsN r.2.obs q4 z4 v4 ∧ Fit z1 ∧ Fit z2 ∧ Fit z3 ∧ Fit z4 := by
    intro U s2 P Q v3 v4 tU ts hUn i1 i2 hp k0 k9
    obtain ⟨q3, q4, z3, z4, b1, b2, b3, b4, b5, b6, b7⟩ := hp
    have mF := lookW (a := V.rsl q1 0 z1.length c1) (b := V.rsl q2 0 z2.length c2) k0
    have k9' : Go.Sx.look (s2.write 0 [V.rsl q1 0 z1.length c1, .rsl q2 0 z2.length c2]).obs 1 = some [V.nil, V.nil] := by
      show Go.Sx.look (put s2.obs 0 _) 1 = _
      rw [look_put_ne (by omega)]; exact k9
    have x1 := islW (cs := [.rsl q1 0 z1.length c1, .rsl q2 0 z2.length c2]) (r := 0) (i1.keep ts (by omega) (by simp)) (by omega)
    have x2 := islW (cs := [.rsl q1 0 z1.length c1, .rsl q2 0 z2.length c2]) (r := 0) (i2.keep ts (by omega) (by simp)) (by omega)
    have x3 := isnW (cs := [.rsl q1 0 z1.length c1, .rsl q2 0 z2.length c2]) (r := 0) b4 (by omega)
    have x4 := isnW (cs := [.rsl q1 0 z1.length c1, .rsl q2 0 z2.length c2]) (r := 0) b5 (by omega)
    generalize s2.write 0 [V.rsl q1 0 z1.length c1, .rsl q2 0 z2.length c2] = s3 at mF x1 x2 x3 x4 k9'
    have y1 := islW (cs := [v3, v4]) (r := 1) x1 (by omega)
    have y2 := islW (cs := [v3, v4]) (r := 1) x2 (by omega)
    have y3 := isnW (cs := [v3, v4]) (r := 1) x3 (by omega)
    have y4 := isnW (cs := [v3, v4]) (r := 1) x4 (by omega)
    have mG := lookW (a := v3) (b := v4) k9'
    have mF' : Go.Sx.look (s3.write 1 [v3, v4]).obs 0 = some [.rsl q1 0 z1.length c1, .rsl q2 0 z2.length c2] := by
      show Go.Sx.look (put s3.obs 1 _) 0 = _
      rw [look_put_ne (by omega)]; exact mF
    refine ⟨s3.write 1 [v3, v4], storeP k9' b4.one b5.one, ?_⟩
    generalize s3.write 1 [v3, v4] = s4 at mF' mG y1 y2 y3 y4
    intro tm g2 g3
    refine ⟨(.tup [.agg [.rsl q1 0 z1.length c1, .rsl q2 0 z2.length c2], .agg [v3, v4]], s4.trim 0 (.tup [.agg [.rsl q1 0 z1.length c1, .rsl q2 0 z2.length c2], .agg [v3, v4]])), ?_, _, _, _, _, q1, q2, q3, q4, z1, z2, z3, z4, rfl, by simp; omega, .inl (y1.trimIn (by simp [V.refs, refsL])), .inl (y2.trimIn (by simp [V.refs, refsL])), y3.trimIn (fun k hk => by simp [V.refs, refsL, hk]), y4.trimIn (fun k hk => by simp [V.refs, refsL, hk]), a6, a7, b6, b7⟩
    simp [answer, aresults, aresult, g2, g3, loadP mF', loadP mG]
  have lS := loadS (S := T2) (i := 0) m2 rfl
  have hnx : (Sto.new (⟨0, [], 0⟩ : Sto Sy) [V.nil, V.nil]).next = 1 := rfl
  by_cases c0 : z1.length < 2
  · have c0a : (z1.length : Int) < 2 := by omega
    repeat' (first | refine Wp.seq ?_ | refine Wp.block ?_ | (apply Wp.region; focus ((try simp [setArgs, allocP, hnx, hr, hc, st, lS, c0, c0a]) <;> rfl)) | (refine Wp.cond_t ?_ ?_; focus (simp [setArgs, allocP, hnx, hr, hc, st, lS, c0, c0a]; done)) | (refine Wp.cond_f ?_ ?_; focus (simp [setArgs, allocP, hnx, hr, hc, st, lS, c0, c0a]; done)) | refine Wp.skip ?_ | refine Wp.ret ?_ | refine Wp.exit ?_ | refine Blk.here ?_ | (refine Blk.past ?_ ?_; focus (simp; done)))
    have mU := m2
    have hUn : T.next < T2.next := by omega
    obtain ⟨dU, lU, lt1, ⟨pU, oU⟩, ob5, ob1, mO⟩ := big t2 hUn mU
    have l1U : q1 < T2.next := by omega
    have l2U : q2 < T2.next := by omega
    obtain ⟨_, S9, hc9, hn9, v3, v4, rfl, hp9⟩ := someN bs1 hbs (rdyOnly t2.rd) (by omega) (m + 99) (by omega)
    obtain ⟨w3, W9, hd9, hm9, _⟩ := someN bs1 hbs (t2.rd.lows T2.next) (by omega) (m + 99) (by omega)
    have hble : Nat.ble T2.next W9.low = false := by have := hm9.low; rw [Bool.eq_false_iff, ne_eq, Nat.ble_eq]; omega
    obtain ⟨j1, j2⟩ := joined t2.rd hn9
    obtain ⟨s2, hs2⟩ : ∃ s2 : Sto Sy, s2 = ⟨S9.next, takeNew T2.next S9.obs ++ over [2] S9.obs T2.obs, if Nat.blt S9.low T2.low then S9.low else T2.low⟩ := ⟨_, rfl⟩
    rw [← hs2] at j1
    have hp9' : PrN T2.next v3 v4 s2.obs := by
      obtain ⟨q3, q4, z3, z4, b1, b2, b3, b4, b5, b6, b7⟩ := hp9
      exact ⟨q3, q4, z3, z4, b1, b2, b3, b4.to (fun x hx => by rw [hs2]; exact j2 _ _ b1 hx), b5.to (fun x hx => by rw [hs2]; exact j2 _ _ b2 hx), b6, b7⟩
    have k0 := j1.keep 0 _ (by omega) (by simp) k2
    have k01 := j1.keep 1 _ (by omega) (by simp) k21
    have loadF := loadP (S := ⟨T2.next, T2.obs, T2.next⟩) mU
    have loadFS := loadS (S := ⟨T2.next, T2.obs, T2.next⟩) (i := 0) mU rfl
    have loadO := loadP (S := ⟨T2.next, onlyObs [T.next] T2.obs, T2.next⟩) mO
    have loadOS := loadS (S := ⟨T2.next, onlyObs [T.next] T2.obs, T2.next⟩) (i := 0) mO rfl
    have tk := takeNew_id dU
    have obN : obsIn (fun o => [2].contains o) (onlyObs [] T2.obs) = true := by rw [onlyObs_nil]; rfl
    have obT : obsIn (fun o => [T.next].contains o) (onlyObs [] T2.obs) = true := by rw [onlyObs_nil]; rfl
    obtain ⟨s4, hs4, hans⟩ := fin t2 j1 hUn i1 i2 hp9' k0 k01
    refine drawX (tm2 := ?tmx1) (st' := ?stnx1) (s2 := s2) 3 (by kernel_rfl) (by kernel_rfl) (by kernel_rfl) (fun F => ?g1x1) (fun F => ?g2x1) ?g3x1 ?g4x1
    case g1x1 =>
      simp [dhead, seenBy, keepOnly, looks, joinN, addN, bite_eq, Op.operands, Call.operands, loadF, loadFS, tk, hd9, hble]
    case g2x1 =>
      refine (xpureL (v := .agg [.rsl q1 0 z1.length c1, .rsl q2 0 z2.length c2]) [T.next] [T.next, q1, q2] (by simp [shown, sightOf, rootsOf, looks, Op.operands, Call.operands, V.refs, deeper, reach, mU, refsL, refs_nums]) (by simp only [fitX, ob5]; simp [temsIn, looks, Op.operands, Call.operands, V.inN, hUn, l1U, l2U, lt1]) (by simp [wants]) (by simp [seenX, keepOnly, looks, Op.operands, Call.operands, loadO, loadOS]) dU lU (fun q hq => by simp at hq; omega) (by simp [apart, hUn, l1U, l2U])).trans ?_
      refine (xpureL (v := .ptr 2 0) [] [2] (by simp [shown, sightOf, rootsOf, looks, Op.operands, Call.operands, V.refs, deeper, reach, mU, refsL, refs_nums]) (by simp only [fitX, obN]; simp [temsIn, looks, Op.operands, Call.operands, V.inN, hUn, l1U, l2U, lt1]) (by simp [wants]) (by simp [seenX, keepOnly, looks, Op.operands, Call.operands, loadO, loadOS]) dU lU (fun q hq => by simp at hq; omega) (by simp [apart, hUn, l1U, l2U])).trans ?_
      refine (xcallL (p := 2) (s := S9) (v := .agg [v3, v4]) (by simp [shown, sightOf, rootsOf, looks, Op.operands, Call.operands, V.refs, deeper, reach, oU, refsL, refs_u8s]) (by simp only [fitX, ob1]; simp [temsIn, looks, Op.operands, Call.operands, V.inN, hUn, l1U, l2U, lt1]) (by simp [wants]) (by simp [seenX, keepOnly, looks, Op.operands, Call.operands, hc9]) dU hn9.rd.desc hn9.next hn9.low (by rw [oU]; rfl) (by simp [apart, hUn, l1U, l2U, lt1]; omega)).trans ?_
      rw [hs2]
    case g3x1 =>
      simp [storeP (v := .rsl q1 0 z1.length c1) (w := .rsl q2 0 z2.length c2) k0 rfl rfl, hs4, hnx]; rfl
    case g4x1 =>
      repeat' (first | refine Wp.seq ?_ | refine Wp.block ?_ | (apply Wp.region; focus ((try simp []) <;> rfl)) | (refine Wp.cond_t ?_ ?_; focus (simp []; done)) | (refine Wp.cond_f ?_ ?_; focus (simp []; done)) | refine Wp.skip ?_ | refine Wp.ret ?_ | refine Wp.exit ?_ | refine Blk.here ?_ | (refine Blk.past ?_ ?_; focus (simp; done)))
      exact ⟨rfl, hans _ (by simp) (by simp)⟩
  have c0b : ¬ (z1.length : Int) < 2 := by omega
  obtain ⟨x, T3, hx, hn3, hx1, hx2⟩ := pickC bs1 hbs t2.rd (by omega) 24 (by omega) (m + 99) (by omega)
  have t3 := t2.trans h1.desc hn3 (by simp)
  have e3 := hn3.next
  have m3 := hn3.keep _ _ (by omega) (by simp) m2
  have k3 := hn3.keep 0 _ (by omega) (by simp) k2
  have k31 := hn3.keep 1 _ (by omega) (by simp) k21
  have i13 := i1.keep hn3 (by omega) (by simp)
  have i23 := i2.keep hn3 (by omega) (by simp)
  by_cases c1x : x = 0
  · subst c1x
    repeat' (first | refine Wp.seq ?_ | refine Wp.block ?_ | (apply Wp.region; focus ((try simp [setArgs, allocP, hnx, hr, hc, st, lS, c0, c0b, hx]) <;> rfl)) | (refine Wp.cond_t ?_ ?_; focus (simp [setArgs, allocP, hnx, hr, hc, st, lS, c0, c0b, hx]; done)) | (refine Wp.cond_f ?_ ?_; focus (simp [setArgs, allocP, hnx, hr, hc, st, lS, c0, c0b, hx]; done)) | refine Wp.skip ?_ | refine Wp.ret ?_ | refine Wp.exit ?_ | refine Blk.here ?_ | (refine Blk.past ?_ ?_; focus (simp; done)))
    have mU := m3
    have hUn : T.next < T3.next := by omega
    obtain ⟨dU, lU, lt1, ⟨pU, oU⟩, ob5, ob1, mO⟩ := big t3 hUn mU
    have l1U : q1 < T3.next := by omega
    have l2U : q2 < T3.next := by omega
    obtain ⟨_, S9, hc9, hn9, v3, v4, rfl, hp9⟩ := someN bs1 hbs (rdyOnly t3.rd) (by omega) (m + 99) (by omega)
    obtain ⟨w3, W9, hd9, hm9, _⟩ := someN bs1 hbs (t3.rd.lows T3.next) (by omega) (m + 99) (by omega)
    have hble : Nat.ble T3.next W9.low = false := by have := hm9.low; rw [Bool.eq_false_iff, ne_eq, Nat.ble_eq]; omega
    obtain ⟨j1, j2⟩ := joined t3.rd hn9
    obtain ⟨s2, hs2⟩ : ∃ s2 : Sto Sy, s2 = ⟨S9.next, takeNew T3.next S9.obs ++ over [2] S9.obs T3.obs, if Nat.blt S9.low T3.low then S9.low else T3.low⟩ := ⟨_, rfl⟩
    rw [← hs2] at j1
    have hp9' : PrN T3.next v3 v4 s2.obs := by
      obtain ⟨q3, q4, z3, z4, b1, b2, b3, b4, b5, b6, b7⟩ := hp9
      exact ⟨q3, q4, z3, z4, b1, b2, b3, b4.to (fun x hx => by rw [hs2]; exact j2 _ _ b1 hx), b5.to (fun x hx => by rw [hs2]; exact j2 _ _ b2 hx), b6, b7⟩
    have k0 := j1.keep 0 _ (by omega) (by simp) k3
    have k01 := j1.keep 1 _ (by omega) (by simp) k31
    have loadF := loadP (S := ⟨T3.next, T3.obs, T3.next⟩) mU
    have loadFS := loadS (S := ⟨T3.next, T3.obs, T3.next⟩) (i := 0) mU rfl
    have loadO := loadP (S := ⟨T3.next, onlyObs [T.next] T3.obs, T3.next⟩) mO
    have loadOS := loadS (S := ⟨T3.next, onlyObs [T.next] T3.obs, T3.next⟩) (i := 0) mO rfl
    have tk := takeNew_id dU
    have obN : obsIn (fun o => [2].contains o) (onlyObs [] T3.obs) = true := by rw [onlyObs_nil]; rfl
    have obT : obsIn (fun o => [T.next].contains o) (onlyObs [] T3.obs) = true := by rw [onlyObs_nil]; rfl
    obtain ⟨s4, hs4, hans⟩ := fin t3 j1 hUn i13 i23 hp9' k0 k01
    refine drawX (tm2 := ?tmx2) (st' := ?stnx2) (s2 := s2) 3 (by kernel_rfl) (by kernel_rfl) (by kernel_rfl) (fun F => ?g1x2) (fun F => ?g2x2) ?g3x2 ?g4x2
    case g1x2 =>
      simp [dhead, seenBy, keepOnly, looks, joinN, addN, bite_eq, Op.operands, Call.operands, loadF, loadFS, tk, hd9, hble]
    case g2x2 =>
      refine (xpureL (v := .agg [.rsl q1 0 z1.length c1, .rsl q2 0 z2.length c2]) [T.next] [T.next, q1, q2] (by simp [shown, sightOf, rootsOf, looks, Op.operands, Call.operands, V.refs, deeper, reach, mU, refsL, refs_nums]) (by simp only [fitX, ob5]; simp [temsIn, looks, Op.operands, Call.operands, V.inN, hUn, l1U, l2U, lt1]) (by simp [wants]) (by simp [seenX, keepOnly, looks, Op.operands, Call.operands, loadO, loadOS]) dU lU (fun q hq => by simp at hq; omega) (by simp [apart, hUn, l1U, l2U])).trans ?_
      refine (xpureL (v := .ptr 2 0) [] [2] (by simp [shown, sightOf, rootsOf, looks, Op.operands, Call.operands, V.refs, deeper, reach, mU, refsL, refs_nums]) (by simp only [fitX, obN]; simp [temsIn, looks, Op.operands, Call.operands, V.inN, hUn, l1U, l2U, lt1]) (by simp [wants]) (by simp [seenX, keepOnly, looks, Op.operands, Call.operands, loadO, loadOS]) dU lU (fun q hq => by simp at hq; omega) (by simp [apart, hUn, l1U, l2U])).trans ?_
      refine (xcallL (p := 2) (s := S9) (v := .agg [v3, v4]) (by simp [shown, sightOf, rootsOf, looks, Op.operands, Call.operands, V.refs, deeper, reach, oU, refsL, refs_u8s]) (by simp only [fitX, ob1]; simp [temsIn, looks, Op.operands, Call.operands, V.inN, hUn, l1U, l2U, lt1]) (by simp [wants]) (by simp [seenX, keepOnly, looks, Op.operands, Call.operands, hc9]) dU hn9.rd.desc hn9.next hn9.low (by rw [oU]; rfl) (by simp [apart, hUn, l1U, l2U, lt1]; omega)).trans ?_
      rw [hs2]
    case g3x2 =>
      simp [storeP (v := .rsl q1 0 z1.length c1) (w := .rsl q2 0 z2.length c2) k0 rfl rfl, hs4, hnx]; rfl
    case g4x2 =>
      repeat' (first | refine Wp.seq ?_ | refine Wp.block ?_ | (apply Wp.region; focus ((try simp []) <;> rfl)) | (refine Wp.cond_t ?_ ?_; focus (simp []; done)) | (refine Wp.cond_f ?_ ?_; focus (simp []; done)) | refine Wp.skip ?_ | refine Wp.ret ?_ | refine Wp.exit ?_ | refine Blk.here ?_ | (refine Blk.past ?_ ?_; focus (simp; done)))
      exact ⟨rfl, hans _ (by simp) (by simp)⟩
  · have c1b : (x == 0) = false := by simp [c1x]
    repeat' (first | refine Wp.seq ?_ | refine Wp.block ?_ | (apply Wp.region; focus ((try simp [setArgs, allocP, hnx, hr, hc, st, lS, c0, c0b, hx, c1b, c1x]) <;> rfl)) | (refine Wp.cond_t ?_ ?_; focus (simp [setArgs, allocP, hnx, hr, hc, st, lS, c0, c0b, hx, c1b, c1x]; done)) | (refine Wp.cond_f ?_ ?_; focus (simp [setArgs, allocP, hnx, hr, hc, st, lS, c0, c0b, hx, c1b, c1x]; done)) | refine Wp.skip ?_ | refine Wp.ret ?_ | refine Wp.exit ?_ | refine Blk.here ?_ | (refine Blk.past ?_ ?_; focus (simp; done)))
    have mU := m3
    have hUn : T.next < T3.next := by omega
    obtain ⟨dU, lU, lt1, ⟨pU, oU⟩, ob5, ob1, mO⟩ := big t3 hUn mU
    have l1U : q1 < T3.next := by omega
    have l2U : q2 < T3.next := by omega
    have a61 := a6.1
    obtain ⟨_, S9, hc9, hn9, v3, v4, rfl, hp9⟩ := pairAny bs1 hbs (rdyOnly t3.rd) (by omega) z1.length (by omega) (by omega) (m + 99) (by omega)
    obtain ⟨w3, W9, hd9, hm9, _⟩ := pairAny bs1 hbs (t3.rd.lows T3.next) (by omega) z1.length (by omega) (by omega) (m + 99) (by omega)
    have hble : Nat.ble T3.next W9.low = false := by have := hm9.low; rw [Bool.eq_false_iff, ne_eq, Nat.ble_eq]; omega
    obtain ⟨j1, j2⟩ := joined t3.rd hn9
    obtain ⟨s2, hs2⟩ : ∃ s2 : Sto Sy, s2 = ⟨S9.next, takeNew T3.next S9.obs ++ over [2] S9.obs T3.obs, if Nat.blt S9.low T3.low then S9.low else T3.low⟩ := ⟨_, rfl⟩
    rw [← hs2] at j1
    have hp9' : PrN T3.next v3 v4 s2.obs := by
      obtain ⟨q3, q4, z3, z4, b1, b2, b3, b4, b5, b6, b7⟩ := hp9
      exact ⟨q3, q4, z3, z4, b1, b2, b3, b4.to (fun x hx => by rw [hs2]; exact j2 _ _ b1 hx), b5.to (fun x hx => by rw [hs2]; exact j2 _ _ b2 hx), b6, b7⟩
    have k0 := j1.keep 0 _ (by omega) (by simp) k3
    have k01 := j1.keep 1 _ (by omega) (by simp) k31
    have loadF := loadP (S := ⟨T3.next, T3.obs, T3.next⟩) mU
    have loadFS := loadS (S := ⟨T3.next, T3.obs, T3.next⟩) (i := 0) mU rfl
    have loadO := loadP (S := ⟨T3.next, onlyObs [T.next] T3.obs, T3.next⟩) mO
    have loadOS := loadS (S := ⟨T3.next, onlyObs [T.next] T3.obs, T3.next⟩) (i := 0) mO rfl
    have tk := takeNew_id dU
    have obN : obsIn (fun o => [2].contains o) (onlyObs [] T3.obs) = true := by rw [onlyObs_nil]; rfl
    have obT : obsIn (fun o => [T.next].contains o) (onlyObs [] T3.obs) = true := by rw [onlyObs_nil]; rfl
    obtain ⟨s4, hs4, hans⟩ := fin t3 j1 hUn i13 i23 hp9' k0 k01
    have iU := i13
    have obQ : obsIn (fun o => [q1].contains o) (onlyObs [q1] T3.obs) = true := obsIn_of dU (fun k hk b hb => by
      have hk : k = q1 := by simpa using hk
      subst hk
      rw [iU.obj] at hb
      cases hb
      exact inNs_nums _)
    refine drawX (tm2 := ?tmx3) (st' := ?stnx3) (s2 := s2) 6 (by kernel_rfl) (by kernel_rfl) (by kernel_rfl) (fun F => ?g1x3) (fun F => ?g2x3) ?g3x3 ?g4x3
    case g1x3 =>
      simp [dhead, seenBy, keepOnly, looks, joinN, addN, bite_eq, Op.operands, Call.operands, loadF, loadFS, tk, hd9, hble]
    case g2x3 =>
      refine (xpureL (v := .agg [.rsl q1 0 z1.length c1, .rsl q2 0 z2.length c2]) [T.next] [T.next, q1, q2] (by simp [shown, sightOf, rootsOf, looks, Op.operands, Call.operands, V.refs, deeper, reach, mU, refsL, refs_nums]) (by simp only [fitX, ob5]; simp [temsIn, looks, Op.operands, Call.operands, V.inN, hUn, l1U, l2U, lt1]) (by simp [wants]) (by simp [seenX, keepOnly, looks, Op.operands, Call.operands, loadO, loadOS]) dU lU (fun q hq => by simp at hq; omega) (by simp [apart, hUn, l1U, l2U])).trans ?_
      refine (xpureL (v := .ptr 2 0) [] [2] (by simp [shown, sightOf, rootsOf, looks, Op.operands, Call.operands, V.refs, deeper, reach, mU, refsL, refs_nums]) (by simp only [fitX, obN]; simp [temsIn, looks, Op.operands, Call.operands, V.inN, hUn, l1U, l2U, lt1]) (by simp [wants]) (by simp [seenX, keepOnly, looks, Op.operands, Call.operands, loadO, loadOS]) dU lU (fun q hq => by simp at hq; omega) (by simp [apart, hUn, l1U, l2U])).trans ?_
      refine (xpureL (v := .ptr T.next 0) [] [T.next] (by simp [shown, sightOf, rootsOf, looks, Op.operands, Call.operands, V.refs, deeper, reach, mU, refsL, refs_nums]) (by simp only [fitX, obT]; simp [temsIn, looks, Op.operands, Call.operands, V.inN, hUn, l1U, l2U, lt1]) (by simp [wants]) (by simp [seenX, keepOnly, looks, Op.operands, Call.operands, loadO, loadOS]) dU lU (fun q hq => by simp at hq; omega) (by simp [apart, hUn, l1U, l2U])).trans ?_
      refine (xpureL (v := .rsl q1 0 z1.length c1) [T.next] [T.next, q1, q2] (by simp [shown, sightOf, rootsOf, looks, Op.operands, Call.operands, V.refs, deeper, reach, mU, refsL, refs_nums]) (by simp only [fitX, ob5]; simp [temsIn, looks, Op.operands, Call.operands, V.inN, hUn, l1U, l2U, lt1]) (by simp [wants]) (by simp [seenX, keepOnly, looks, Op.operands, Call.operands, loadO, loadOS]) dU lU (fun q hq => by simp at hq; omega) (by simp [apart, hUn, l1U, l2U])).trans ?_
      refine (xpureL (v := .int .i64 (.c z1.length)) [q1] [q1] (by simp [shown, sightOf, rootsOf, looks, Op.operands, Call.operands, V.refs, deeper, reach, mU, refsL, refs_nums, iU.obj]) (by simp only [fitX, obQ]; simp [temsIn, looks, Op.operands, Call.operands, V.inN, hUn, l1U, l2U, lt1]) (by simp [wants]) (by simp [seenX, keepOnly, looks, Op.operands, Call.operands, loadO, loadOS]) dU lU (fun q hq => by simp at hq; omega) (by simp [apart, hUn, l1U, l2U])).trans ?_
      refine (xcallL (p := 2) (s := S9) (v := .agg [v3, v4]) (by simp [shown, sightOf, rootsOf, looks, Op.operands, Call.operands, V.refs, deeper, reach, oU, refsL, refs_u8s]) (by simp only [fitX, ob1]; simp [temsIn, looks, Op.operands, Call.operands, V.inN, hUn, l1U, l2U, lt1]) (by simp [wants]) (by simp [seenX, keepOnly, looks, Op.operands, Call.operands, hc9]) dU hn9.rd.desc hn9.next hn9.low (by rw [oU]; rfl) (by simp [apart, hUn, l1U, l2U, lt1]; omega)).trans ?_
      rw [hs2]
    case g3x3 =>
      simp [storeP (v := .rsl q1 0 z1.length c1) (w := .rsl q2 0 z2.length c2) k0 rfl rfl, hs4, hnx]; rfl
    case g4x3 =>
      repeat' (first | refine Wp.seq ?_ | refine Wp.block ?_ | (apply Wp.region; focus ((try simp []) <;> rfl)) | (refine Wp.cond_t ?_ ?_; focus (simp []; done)) | (refine Wp.cond_f ?_ ?_; focus (simp []; done)) | refine Wp.skip ?_ | refine Wp.ret ?_ | refine Wp.exit ?_ | refine Blk.here ?_ | (refine Blk.past ?_ ?_; focus (simp; done)))
      exact ⟨rfl, hans _ (by simp) (by simp)⟩
end
end Go.Proofs.Ytlenoefcnjcgfaa.Draw

/-
  Inverses of pairs: arrays of a pair and of its inverse, columns, what the code answers. No condition.
-/
import Derived.Test.YtnaegkpaiahpmaaRows
import Derived.Test.YtnaegkpaiahpmaaSym
import Derived.Test.YtnaegkpaiahpmaaSymD
import Derived.Test.YtnaegkpaiahpmaaSymE
import Derived.Test.YtnaegkpaiahpmaaSymF
import Derived.Test.YtnaegkpaiahpmaaSymG
import Derived.Test.YtnaegkpaiahpmaaIds
import Derived.Test.YtnaegkpaiahpmaaSumm
import Derived.Test.YtnaegkpaiahpmaaNp
import Derived.Test.YtnaegkpaiahpmaaTel
import Derived.Test.YtnaegkpaiahpmaaIv
import Derived.Test.YtnaegkpaiahpmaaIvA
import Derived.Test.YtnaegkpaiahpmaaIvR
import Derived.Test.YtnaegkpaiahpmaaIvT
import Derived.Test.YtnaegkpaiahpmaaIvU
import Derived.Test.YtnaegkpaiahpmaaIvV
import Derived.Test.YtnaegkpaiahpmaaIvW
import Derived.Test.YtnaegkpaiahpmaaDraw
import Derived.Test.YtnaegkpaiahpmaaDrawC
import Derived.Test.YtnaegkpaiahpmaaDrawD
import Derived.Test.YtnaegkpaiahpmaaIvB
import Derived.Test.YtnaegkpaiahpmaaIvC
import Derived.WalkKit
import Derived.ProofKit
import Derived.OpenShut
namespace Go.Proofs.Ytnaegkpaiahpmaa.Iv
open Go.ChangeShapes Go.WideShapes Go.ChangeAt Go.RowKit Go.Sx Go.Proofs.Ytnaegkpaiahpmaa.Ids
open Go.Proofs.Ytnaegkpaiahpmaa.Tel (booIs tells_boo telK telK_ok vr_agg2 rowsR rowsO objsO tells_rows)
set_option linter.unusedVariables false
set_option linter.unusedSimpArgs false

noncomputable def aZ (g f : List Int) : List (List Int) := (aR g.length (g.getD 0 0) (f.getD 1 0)).map fun ps => ps.map (Sy.den (rhoP g f))
noncomputable def bZ (g f : List Int) : List (List Int) := (bR g.length (g.getD 0 0) (f.getD 1 0)).map fun ps => ps.map (Sy.den (rhoP g f))
noncomputable def eZ (L k : Nat) : List Int := (List.range L).map fun n => dl n k
noncomputable def coZ (g f : List Int) (k : Nat) : List Int := (coS g.length (g.getD 0 0) (f.getD 1 0) k).map (Sy.den (rhoP g f))
theorem eS_den (ρ : Nat → Int) (L k : Nat) : (eS L k).map (Sy.den ρ) = eZ L k := by
  unfold eS eZ
  rw [List.map_map]
  rfl
theorem eZ_len (L k : Nat) : (eZ L k).length = L := by simp [eZ]
theorem coZ_len (g f : List Int) (k : Nat) : (coZ g f k).length = g.length := by simp [coZ, coS]
section
variable {g f : List Int}
theorem ar_all (h : PairV g f) : arAll g.length (g.getD 0 0) (f.getD 1 0) = true := all4_ok (five (Q := fun L => all4 (arAll L) = true) ar_2 ar_3 ar_4 ar_5 ar_6 h.2.2.2.1 h.1.2.2) h.2.2.2.2.1 h.2.2.2.2.2.2
theorem lensB_all {n : Nat} : ∀ {l : List (List Sy)}, lensB n l = true → ∀ ps, ps ∈ l → ps.length = n
  | [], _, ps, h => by simp at h
  | q :: r, h, ps, hp => by
    simp only [lensB, bite_eq] at h
    split at h
    case isFalse => cases h
    rename_i hq
    rcases List.mem_cons.1 hp with rfl | hp
    · exact Nat.eq_of_beq_eq_true hq
    · exact lensB_all h ps hp
theorem aZ_len (h : PairV g f) : (aZ g f).length = g.length ∧ ∀ z, z ∈ aZ g f → z.length = g.length := by
  have C := andB_ok (ar_all h)
  refine ⟨by unfold aZ; rw [List.length_map]; exact Nat.eq_of_beq_eq_true (C _ (by simp)), fun z hz => ?_⟩
  obtain ⟨ps, hps, rfl⟩ := List.mem_map.1 hz
  rw [List.length_map]; exact lensB_all (C _ (by simp)) ps hps
theorem bZ_len (h : PairV g f) : (bZ g f).length = g.length ∧ ∀ z, z ∈ bZ g f → z.length = g.length := by
  have C := andB_ok (ar_all h)
  refine ⟨by unfold bZ; rw [List.length_map]; exact Nat.eq_of_beq_eq_true (C _ (by simp)), fun z hz => ?_⟩
  obtain ⟨ps, hps, rfl⟩ := List.mem_map.1 hz
  rw [List.length_map]; exact lensB_all (C _ (by simp)) ps hps
theorem arA_tells (h : PairV g f) : Tells Try.prog 9 [.agg [patL g, patL f]] (rowsR (aZ g f)) (rowsO (aZ g f)) := by
  have C := andB_ok (ar_all h)
  exact tells_rows (ρ' := rhoP g f) (C _ (List.mem_cons_self ..)) (fun R S hRS s B' => (symRun_ok noCount mixed h.fac (symK_ok noCount mixed ids_ok (t := Summs.tab) Summs.tab_ok h.fac h.vt) 60 _ _ _ _ _ hRS).1) h.pat1
theorem InvP.vtI (h : InvP g f) : ∀ e, e ∈ vtI g.length (g.getD 0 0) (f.getD 1 0) → e.Ok (rhoP g f) := by
  intro e he
  rcases List.mem_cons.1 he with rfl | he
  · exact vent (decide_eq_true h.2.1)
  rcases List.mem_cons.1 he with rfl | he
  · exact vent (decide_eq_true h.2.2.2)
  · exact h.1.vt e he
theorem InvP.pat (h : InvP g f) {s : Sms} {B : Nat} {c : Cx} {v : Value} (hv' : VR ⟨Sy.den (rhoP g f), s⟩ B c (.agg [patL (cvZ g f), patL (rvZ g f)]) v) : VR ⟨Sy.den (rhoP g f), s⟩ B c (qQ g.length (g.getD 0 0) (f.getD 1 0)) v := by
  obtain ⟨u, w, rfl, hu', hw⟩ := vr_agg2 hv'
  exact VRs.agg (.cons (ints_sym rfl (ne_len h.2.2.2.2.1) hu') (.cons (ints_sym rfl (ne_len h.2.1.2.1) hw) .nil))
theorem InvP.pat1 (h : InvP g f) : ∀ (s : Sms) (B : Nat) (c : Cx) (vs : List Value), VRs ⟨Sy.den (rhoP g f), s⟩ B c [.agg [patL (cvZ g f), patL (rvZ g f)]] vs → VRs ⟨Sy.den (rhoP g f), s⟩ B c [qQ g.length (g.getD 0 0) (f.getD 1 0)] vs := by
  intro s B c vs hvs
  obtain ⟨v, rfl, hv⟩ := hvs.one
  exact .cons (h.pat hv) .nil
theorem arB_tells (h : InvP g f) : Tells Try.prog 9 [.agg [patL (cvZ g f), patL (rvZ g f)]] (rowsR (bZ g f)) (rowsO (bZ g f)) := by
  have C := andB_ok (ar_all h.1)
  exact tells_rows (ρ' := rhoP g f) (C _ (List.mem_cons_of_mem _ (List.mem_cons_of_mem _ (List.mem_cons_of_mem _ (List.mem_cons_self ..))))) (fun R S hRS s B' => (symRun_ok noCount mixed h.1.fac (symK_ok noCount mixed ids_ok (t := Summs.tab) Summs.tab_ok h.1.fac h.vtI) 60 _ _ _ _ _ hRS).1) h.pat1
theorem vpB_tells (h : InvP g f) : Tells Try.prog 13 [.agg [patL (cvZ g f), patL (rvZ g f)]] (fun _ => .bool true) (fun _ => []) := by
  have C := andB_ok (ar_all h.1)
  exact tells_boo (ρ' := rhoP g f) (C _ (by unfold qQ; simp [qQ])) (fun R S hRS s B' => (symRun_ok noCount mixed h.1.fac (symK_ok noCount mixed ids_ok (t := Summs.tab) Summs.tab_ok h.1.fac h.vtI) 60 _ _ _ _ _ hRS).1) h.pat1

/-! ## Columns -/
theorem tf_at (h : PairV g f) {k : Nat} (hk : k < g.length) : tfOk g.length (g.getD 0 0) (f.getD 1 0) k = true := by
  have h2 := h.2.2.2.1
  have h6 := h.1.2.2
  have ha := h.2.2.2.2.1
  have hb := h.2.2.2.2.2.2
  generalize g.getD 0 0 = a at *
  generalize f.getD 1 0 = b at *
  generalize g.length = L at *
  have hL : L = 2 ∨ L = 3 ∨ L = 4 ∨ L = 5 ∨ L = 6 := by omega
  rcases hL with rfl | rfl | rfl | rfl | rfl
  · have hk2 : k = 0 ∨ k = 1 := by omega
    rcases hk2 with rfl | rfl
    · exact all4_ok (f := fun a b => tfOk 2 a b 0) tf_2_0 ha hb
    · exact all4_ok (f := fun a b => tfOk 2 a b 1) tf_2_1 ha hb
  · have hk2 : k = 0 ∨ k = 1 ∨ k = 2 := by omega
    rcases hk2 with rfl | rfl | rfl
    · exact all4_ok (f := fun a b => tfOk 3 a b 0) tf_3_0 ha hb
    · exact all4_ok (f := fun a b => tfOk 3 a b 1) tf_3_1 ha hb
    · exact all4_ok (f := fun a b => tfOk 3 a b 2) tf_3_2 ha hb
  · have hk2 : k = 0 ∨ k = 1 ∨ k = 2 ∨ k = 3 := by omega
    rcases hk2 with rfl | rfl | rfl | rfl
    · rcases ha with rfl | rfl <;> rcases hb with rfl | rfl
      · exact tf_4_0_pp
      · exact tf_4_0_pm
      · exact tf_4_0_mp
      · exact tf_4_0_mm
    · rcases ha with rfl | rfl <;> rcases hb with rfl | rfl
      · exact tf_4_1_pp
      · exact tf_4_1_pm
      · exact tf_4_1_mp
      · exact tf_4_1_mm
    · rcases ha with rfl | rfl <;> rcases hb with rfl | rfl
      · exact tf_4_2_pp
      · exact tf_4_2_pm
      · exact tf_4_2_mp
      · exact tf_4_2_mm
    · rcases ha with rfl | rfl <;> rcases hb with rfl | rfl
      · exact tf_4_3_pp
      · exact tf_4_3_pm
      · exact tf_4_3_mp
      · exact tf_4_3_mm
  · have hk2 : k = 0 ∨ k = 1 ∨ k = 2 ∨ k = 3 ∨ k = 4 := by omega
    rcases hk2 with rfl | rfl | rfl | rfl | rfl
    · rcases ha with rfl | rfl <;> rcases hb with rfl | rfl
      · exact tf_5_0_pp
      · exact tf_5_0_pm
      · exact tf_5_0_mp
      · exact tf_5_0_mm
    · rcases ha with rfl | rfl <;> rcases hb with rfl | rfl
      · exact tf_5_1_pp
      · exact tf_5_1_pm
      · exact tf_5_1_mp
      · exact tf_5_1_mm
    · rcases ha with rfl | rfl <;> rcases hb with rfl | rfl
      · exact tf_5_2_pp
      · exact tf_5_2_pm
      · exact tf_5_2_mp
      · exact tf_5_2_mm
    · rcases ha with rfl | rfl <;> rcases hb with rfl | rfl
      · exact tf_5_3_pp
      · exact tf_5_3_pm
      · exact tf_5_3_mp
      · exact tf_5_3_mm
    · rcases ha with rfl | rfl <;> rcases hb with rfl | rfl
      · exact tf_5_4_pp
      · exact tf_5_4_pm
      · exact tf_5_4_mp
      · exact tf_5_4_mm
  · have hk2 : k = 0 ∨ k = 1 ∨ k = 2 ∨ k = 3 ∨ k = 4 ∨ k = 5 := by omega
    rcases hk2 with rfl | rfl | rfl | rfl | rfl | rfl
    · rcases ha with rfl | rfl <;> rcases hb with rfl | rfl
      · exact tf_6_0_pp
      · exact tf_6_0_pm
      · exact tf_6_0_mp
      · exact tf_6_0_mm
    · rcases ha with rfl | rfl <;> rcases hb with rfl | rfl
      · exact tf_6_1_pp
      · exact tf_6_1_pm
      · exact tf_6_1_mp
      · exact tf_6_1_mm
    · rcases ha with rfl | rfl <;> rcases hb with rfl | rfl
      · exact tf_6_2_pp
      · exact tf_6_2_pm
      · exact tf_6_2_mp
      · exact tf_6_2_mm
    · rcases ha with rfl | rfl <;> rcases hb with rfl | rfl
      · exact tf_6_3_pp
      · exact tf_6_3_pm
      · exact tf_6_3_mp
      · exact tf_6_3_mm
    · rcases ha with rfl | rfl <;> rcases hb with rfl | rfl
      · exact tf_6_4_pp
      · exact tf_6_4_pm
      · exact tf_6_4_mp
      · exact tf_6_4_mm
    · rcases ha with rfl | rfl <;> rcases hb with rfl | rfl
      · exact tf_6_5_pp
      · exact tf_6_5_pm
      · exact tf_6_5_mp
      · exact tf_6_5_mm
theorem tb_at (h : PairV g f) {k : Nat} (hk : k < g.length) : tbOk g.length (g.getD 0 0) (f.getD 1 0) k = true := by
  have h2 := h.2.2.2.1
  have h6 := h.1.2.2
  have ha := h.2.2.2.2.1
  have hb := h.2.2.2.2.2.2
  generalize g.getD 0 0 = a at *
  generalize f.getD 1 0 = b at *
  generalize g.length = L at *
  have hL : L = 2 ∨ L = 3 ∨ L = 4 ∨ L = 5 ∨ L = 6 := by omega
  rcases hL with rfl | rfl | rfl | rfl | rfl
  · have hk2 : k = 0 ∨ k = 1 := by omega
    rcases hk2 with rfl | rfl
    · exact all4_ok (f := fun a b => tbOk 2 a b 0) tb_2_0 ha hb
    · exact all4_ok (f := fun a b => tbOk 2 a b 1) tb_2_1 ha hb
  · have hk2 : k = 0 ∨ k = 1 ∨ k = 2 := by omega
    rcases hk2 with rfl | rfl | rfl
    · exact all4_ok (f := fun a b => tbOk 3 a b 0) tb_3_0 ha hb
    · exact all4_ok (f := fun a b => tbOk 3 a b 1) tb_3_1 ha hb
    · exact all4_ok (f := fun a b => tbOk 3 a b 2) tb_3_2 ha hb
  · have hk2 : k = 0 ∨ k = 1 ∨ k = 2 ∨ k = 3 := by omega
    rcases hk2 with rfl | rfl | rfl | rfl
    · exact all4_ok (f := fun a b => tbOk 4 a b 0) tb_4_0 ha hb
    · exact all4_ok (f := fun a b => tbOk 4 a b 1) tb_4_1 ha hb
    · exact all4_ok (f := fun a b => tbOk 4 a b 2) tb_4_2 ha hb
    · exact all4_ok (f := fun a b => tbOk 4 a b 3) tb_4_3 ha hb
  · have hk2 : k = 0 ∨ k = 1 ∨ k = 2 ∨ k = 3 ∨ k = 4 := by omega
    rcases hk2 with rfl | rfl | rfl | rfl | rfl
    · exact all4_ok (f := fun a b => tbOk 5 a b 0) tb_5_0 ha hb
    · exact all4_ok (f := fun a b => tbOk 5 a b 1) tb_5_1 ha hb
    · exact all4_ok (f := fun a b => tbOk 5 a b 2) tb_5_2 ha hb
    · exact all4_ok (f := fun a b => tbOk 5 a b 3) tb_5_3 ha hb
    · exact all4_ok (f := fun a b => tbOk 5 a b 4) tb_5_4 ha hb
  · have hk2 : k = 0 ∨ k = 1 ∨ k = 2 ∨ k = 3 ∨ k = 4 ∨ k = 5 := by omega
    rcases hk2 with rfl | rfl | rfl | rfl | rfl | rfl
    · rcases ha with rfl | rfl <;> rcases hb with rfl | rfl
      · exact tb_6_0_pp
      · exact tb_6_0_pm
      · exact tb_6_0_mp
      · exact tb_6_0_mm
    · rcases ha with rfl | rfl <;> rcases hb with rfl | rfl
      · exact tb_6_1_pp
      · exact tb_6_1_pm
      · exact tb_6_1_mp
      · exact tb_6_1_mm
    · rcases ha with rfl | rfl <;> rcases hb with rfl | rfl
      · exact tb_6_2_pp
      · exact tb_6_2_pm
      · exact tb_6_2_mp
      · exact tb_6_2_mm
    · rcases ha with rfl | rfl <;> rcases hb with rfl | rfl
      · exact tb_6_3_pp
      · exact tb_6_3_pm
      · exact tb_6_3_mp
      · exact tb_6_3_mm
    · rcases ha with rfl | rfl <;> rcases hb with rfl | rfl
      · exact tb_6_4_pp
      · exact tb_6_4_pm
      · exact tb_6_4_mp
      · exact tb_6_4_mm
    · rcases ha with rfl | rfl <;> rcases hb with rfl | rfl
      · exact tb_6_5_pp
      · exact tb_6_5_pm
      · exact tb_6_5_mp
      · exact tb_6_5_mm
theorem first_out (l : List Int) : (∀ z, z ∈ l → -600 ≤ z ∧ z ≤ 600) ∨ ∃ n, n < l.length ∧ (∀ z, z ∈ l.take n → -600 ≤ z ∧ z ≤ 600) ∧ (l.getD n 0 < -600 ∨ 600 < l.getD n 0) := by
  induction l with
  | nil => exact .inl (by simp)
  | cons a r ih =>
    by_cases h : -600 ≤ a ∧ a ≤ 600
    · rcases ih with h1 | ⟨n, h1, h2, h3⟩
      · refine .inl (fun z hz => ?_)
        rcases List.mem_cons.1 hz with rfl | hz
        · exact h
        · exact h1 z hz
      · refine .inr ⟨n + 1, by simpa using h1, fun z hz => ?_, by simpa [List.getD] using h3⟩
        rw [List.take_succ_cons] at hz
        rcases List.mem_cons.1 hz with rfl | hz
        · exact h
        · exact h2 z hz
    · exact .inr ⟨0, by simp, by simp, by simp [List.getD]; omega⟩
theorem getD_den (ρ : Nat → Int) (l : List Sy) (k : Nat) : (l.getD k (.c 0)).den ρ = (l.map (Sy.den ρ)).getD k 0 := by
  simp only [List.getD, List.getElem?_map]
  cases l[k]? <;> rfl
theorem at2_den {ρ : Nat → Int} {l : List (List Sy)} {zss : List (List Int)} (he : l.map (fun ps => ps.map (Sy.den ρ)) = zss) (n i : Nat) : (at2 l n i).den ρ = (zss.getD n []).getD i 0 := by
  unfold at2
  rw [getD_den]
  congr 1
  rw [← he]
  simp only [List.getD, List.getElem?_map]
  cases l[n]? <;> rfl
theorem coZ_get (k : Nat) {n : Nat} (hn : n < g.length) : (coZ g f k).getD n 0 = (at2 (aR g.length (g.getD 0 0) (f.getD 1 0)) n k).den (rhoP g f) := by
  simp only [coZ, coS, List.getD, List.getElem?_map, List.getElem?_range hn, Option.map_some, Option.getD_some]
/-- What a pair makes of a list of one 1. -/
noncomputable def tfF (g f : List Int) (k : Nat) : Option (List Int) := if validP 600 (coZ g f k) then some (coZ g f k) else none
theorem tf_tells (h : PairV g f) {k : Nat} (hk : k < g.length) : Tells Try.prog 10 [.agg [patL g, patL f], patL (eZ g.length k)] (ansR (tfF g f k)) (ansO (tfF g f k)) := by
  have C := tf_at h hk
  have hF := h.fac
  have hV := h.vt
  have hlen := coZ_len g f k
  have h2 := h.2.2.2.1
  have hp : ∀ (s : Sms) (B : Nat) (c : Cx) (vs : List Value), VRs ⟨Sy.den (rhoP g f), s⟩ B c [.agg [patL g, patL f], patL (eZ g.length k)] vs → VRs ⟨Sy.den (rhoP g f), s⟩ B c [pQ g.length (g.getD 0 0) (f.getD 1 0), .slice (ints (eS g.length k))] vs := by
    intro s B c vs hvs
    obtain ⟨v, w, rfl, hv, hw⟩ := hvs.two
    exact .cons (h.pat hv) (.cons (ints_sym (eS_den _ _ _) (ne_len (by rw [eZ_len]; omega)) hw) .nil)
  have I : coZ g f k = (coS g.length (g.getD 0 0) (f.getD 1 0) k).map (Sy.den (rhoP g f)) := rfl
  have J := fun n (hn : n < g.length) => coZ_get (g := g) (f := f) k hn
  unfold tfF
  generalize g.getD 0 0 = a at *
  generalize f.getD 1 0 = b at *
  have G : ∀ (Γ : List Fact), (∀ x, x ∈ Γ → x.Ok (rhoP g f)) → ∀ (R : V Sy) (S : Sto Sy), tfR g.length a b k Γ = some (R, S) → ∀ (s : Sms) (B' : Nat), Go.Sx.Good Try.prog ⟨Sy.den (rhoP g f), s⟩ B' 10 [pQ g.length a b, .slice (ints (eS g.length k))] ⟨0, [], 0⟩ R S := fun Γ hΓ R S hRS s B' => by
    have hΓ2 : ∀ x, x ∈ Γ ++ facQ g.length a b → x.Ok (rhoP g f) := fun x hx => (List.mem_append.1 hx).elim (hΓ x) (hF x)
    exact (symRun_ok noCount mixed hΓ2 (symK_ok noCount mixed ids_ok (t := Summs.tab) Summs.tab_ok hΓ2 hV) 60 _ _ _ _ _ hRS).1
  unfold tfOk at C
  rw [bite_eq] at C
  split at C
  case isFalse => cases C
  rename_i c1
  rcases first_out (coZ g f k) with hin | ⟨n, hn, hpre, hbad⟩
  · have hv : validP 600 (coZ g f k) := ⟨hin, by omega, by have := h.1.2.2; omega⟩
    rw [if_pos hv]
    have T := tells_ans (ρ' := rhoP g f) c1 (G _ (fun x hx => rngF_ok (fun z hz => hin z (by rw [I]; exact hz)) x hx)) hp
    rw [Option.map_some, ← I] at T
    exact T
  · rw [if_neg (fun hv => by
      have := hv.1 _ (show (coZ g f k).getD n 0 ∈ coZ g f k by simp [List.getD, hn])
      omega)]
    rw [hlen] at hn
    have D := allTo_ok C n hn
    have e := J n hn
    unfold tfBad at D
    rcases orB_ok D with D | D
    · exfalso
      unfold isC at D
      split at D
      · rename_i z hz
        rw [hz] at e
        rw [Nat.ble_eq] at D
        have e : (coZ g f k).getD n 0 = z := e
        omega
      · cases D
    · rw [bite_eq] at D
      split at D
      case isFalse => cases D
      rename_i D1
      have hpre' : ∀ x, x ∈ rngF 600 ((coS g.length a b k).take n) → x.Ok (rhoP g f) := fun x hx => rngF_ok (fun z hz => hpre z (by rw [I, ← List.map_take]; exact hz)) x hx
      have hlt : ∀ {x y : Sy} {q : Bool}, decide (x.den (rhoP g f) < y.den (rhoP g f)) = q → Fact.Ok (rhoP g f) ⟨true, x, y, q⟩ := fun h => h
      rcases hbad with hb | hb
      · refine tells_ans (ρ' := rhoP g f) (o := none) D1 (G _ (fun x hx => ?_)) hp
        rcases List.mem_append.1 hx with hx | hx
        · simp only [outF, List.mem_cons, List.not_mem_nil, or_false] at hx
          subst hx
          exact hlt (decide_eq_true (by rw [← e]; exact hb))
        · exact hpre' x hx
      · refine tells_ans (ρ' := rhoP g f) (o := none) D (G _ (fun x hx => ?_)) hp
        rcases List.mem_append.1 hx with hx | hx
        · simp only [outF, List.mem_cons, List.not_mem_nil, or_false] at hx
          rcases hx with rfl | rfl
          · exact hlt (decide_eq_true (by rw [← e]; exact hb))
          · exact hlt (decide_eq_false (by rw [← e]; show ¬ _ < (-600 : Int); omega))
        · exact hpre' x hx
theorem tb_tells (h : InvP g f) {k : Nat} (hk : k < g.length) (hv : validP 600 (coZ g f k)) : Tells Try.prog 10 [.agg [patL (cvZ g f), patL (rvZ g f)], patL (coZ g f k)] (ansR (some (eZ g.length k))) (ansO (some (eZ g.length k))) := by
  have C := tb_at h.1 hk
  have T := tells_ans (ρ' := rhoP g f) (pats := [.agg [patL (cvZ g f), patL (rvZ g f)], patL (coZ g f k)]) C (fun R S hRS s B' => (symRun_ok noCount mixed h.1.fac (symK_ok noCount mixed ids_ok (t := Summs.tab) Summs.tab_ok h.1.fac (fun e he => by
    rcases List.mem_cons.1 he with rfl | he
    · exact vent (decide_eq_true hv)
    · exact h.vtI e he)) 60 _ _ _ _ _ hRS).1) (fun s B c vs hvs => by
    obtain ⟨v, w, rfl, hv1, hw⟩ := hvs.two
    exact .cons (h.pat hv1) (.cons (ints_sym rfl (ne_len hv.2.1) hw) .nil))
  rw [Option.map_some, eS_den] at T
  exact T

/-! ## Rows times rows -/
def sumZ : List Int → Int
  | [] => 0
  | a :: r => a + sumZ r
theorem mul_cg {ρ : Nat → Int} {x y z : Sy} (h : symArith .mul .i64 x y = some z) : cg (z.den ρ) (x.den ρ * y.den ρ) := by
  have e := (Option.some.inj (symArith_ok (ρ := ρ) h)).symm
  rw [e]; exact cg_wrap _
theorem sumO_cg {ρ : Nat → Int} {f : Nat → Option Sy} {g : Nat → Int} (hf : ∀ k s, f k = some s → cg (s.den ρ) (g k)) : ∀ (l : List Nat) (s : Sy), sumO (l.map f) = some s → cg (s.den ρ) (sumZ (l.map g))
  | [], s, h => by simp [sumO] at h; subst h; exact cg.refl _
  | a :: r, s, h => by
    simp only [List.map_cons, sumO] at h
    split at h
    · rename_i x y hx hy
      cases h
      rw [plusS_den]
      exact (cg_wrap _).trans ((hf _ _ hx).add (sumO_cg hf r _ hy))
    · cases h
theorem rO_cg {ρ : Nat → Int} {Z : Nat → Sy} {E : Nat → Nat → Sy} {L k : Nat} {s : Sy} (h : rO Z E L k = some s) : cg (s.den ρ) (sumZ ((List.range L).map fun i => (Z i).den ρ * (E i k).den ρ)) := sumO_cg (fun i s hs => mul_cg hs) _ _ h
theorem eqP_ok : ∀ {p q : Poly}, eqP p q = true → p = q
  | [], [], _ => rfl
  | [], _ :: _, h => by cases h
  | _ :: _, [], h => by cases h
  | (k, a) :: r, (l, b) :: s, h => by
    simp only [eqP, bite_eq] at h
    split at h
    case isFalse => cases h
    rename_i h1
    split at h
    case isFalse => cases h
    rename_i h2
    rw [Nat.eq_of_beq_eq_true h1, Nat.eq_of_beq_eq_true h2, eqP_ok h]
theorem same1_cg (ρ : Nat → Int) {x : Option Sy} {y : Sy} (h : same1 x y = true) : ∃ s, x = some s ∧ cg (y.den ρ) (s.den ρ) := by
  unfold same1 at h
  split at h
  case h_2 => cases h
  rename_i s
  rw [bite_eq] at h
  split at h
  case isFalse => cases h
  rename_i he
  have he := eqP_ok he
  have c1 := poly_den ρ s
  have c2 := poly_den ρ y
  rw [he] at c1
  exact ⟨s, rfl, c2.symm.trans c1⟩
/-- The array times that of the inverse. -/
theorem mt_cg (h : InvP g f) {n k : Nat} (hn : n < g.length) (hk : k < g.length) : cg (dl n k) (sumZ ((List.range g.length).map fun i => ((aZ g f).getD n []).getD i 0 * ((bZ g f).getD i []).getD k 0)) := by
  have C : mtOk g.length (g.getD 0 0) (f.getD 1 0) = true := all4_ok (five (Q := fun L => all4 (mtOk L) = true) mt_2 mt_3 mt_4 mt_5 mt_6 h.1.2.2.2.1 h.1.1.2.2) h.1.2.2.2.2.1 h.1.2.2.2.2.2.2
  obtain ⟨s, hs, c1⟩ := same1_cg (rhoP g f) (allTo_ok (allTo_ok C n hn) k hk)
  have c2 := rO_cg (ρ := rhoP g f) hs
  simp only [at2_den (zss := aZ g f) rfl, at2_den (zss := bZ g f) rfl] at c2
  exact c1.trans c2
end
end Go.Proofs.Ytnaegkpaiahpmaa.Iv

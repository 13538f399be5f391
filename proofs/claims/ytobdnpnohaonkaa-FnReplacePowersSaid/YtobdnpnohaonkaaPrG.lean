import Derived.Test.YtobdnpnohaonkaaPr
import Derived.Test.YtobdnpnohaonkaaPrM
import Derived.Test.YtobdnpnohaonkaaPrE
import Derived.Test.YtobdnpnohaonkaaPrF
namespace Go.Proofs.Ytobdnpnohaonkaa.Pr
open Go.ChangeShapes Go.WideShapes Go.ChangeAt Go.RowKit Go.Sx Go.Proofs.Ytobdnpnohaonkaa.Ids
set_option linter.unusedVariables false
set_option linter.unusedSimpArgs false

section
variable {zss : List (List Int)}
theorem rng_ok {ρ : Nat → Int} {ps : List Sy} {l : List Int} (hp : ps.map (Sy.den ρ) = l) {n : Nat} (h : ∀ z, z ∈ l.take n → -600 ≤ z ∧ z ≤ 600) : ∀ f, f ∈ rngN ps n → f.Ok ρ :=
  rngF_ok (fun z hz => h z (by rw [List.map_take, hp] at hz; exact hz))
theorem pat_rel (h : Sq zss) {a : Int} (ha : (col zss 0).getD 0 0 = a) (hu : a = 1 ∨ a = -1) {m : Nat} {b : Int} (h1 : 1 ≤ m → (quo zss).getD 0 0 = 0) (h2 : 2 ≤ m → (quo zss).getD 1 0 = b) (hc : convOk zss.length a m b = true)
    (s : Sms) (B : Nat) (c : Cx) (vs : List Value) (hv : VRs ⟨Sy.den (rhoQ zss), s⟩ B c [patS zss] vs) : VRs ⟨Sy.den (rhoQ zss), s⟩ B c [patQ zss.length a m b] vs := by
  obtain ⟨v, rfl, hv2⟩ := hv.one
  have hlo := h.lo
  refine .cons (patS_sym (rowsQ_den h ha hu h1 h2 hc) (by intro e; rw [e] at hlo; simp at hlo) (fun z hz e => ?_) hv2) .nil
  have := h.row z hz
  rw [e] at this
  simp at this
  omega
theorem quo_valid (h : Sq zss) (hv : ∀ z, z ∈ (quo zss).take zss.length → -600 ≤ z ∧ z ≤ 600) : validP 600 (quo zss) := by
  have hq := quo_len (zss := zss)
  rw [List.take_of_length_le (by omega)] at hv
  exact ⟨hv, by rw [hq]; have := h.lo; omega, by rw [hq]; exact h.hi⟩
theorem sq_cases (h : Sq zss) {a : Int} (ha : (col zss 0).getD 0 0 = a) (hu : a = 1 ∨ a = -1) {G : Option (List Int × List Int) → Prop}
    (gA : ¬ validP 600 (col zss 0) → G none)
    (gB : validP 600 (col zss 0) → ∀ n, n < zss.length → (∀ z, z ∈ (quo zss).take n → -600 ≤ z ∧ z ≤ 600) → ((quo zss).getD n 0 < -600 ∨ 600 < (quo zss).getD n 0) → G none)
    (gC0 : validP 600 (col zss 0) → (∀ z, z ∈ (quo zss).take zss.length → -600 ≤ z ∧ z ≤ 600) → (quo zss).getD 0 0 ≠ 0 → G none)
    (gC1 : validP 600 (col zss 0) → (∀ z, z ∈ (quo zss).take zss.length → -600 ≤ z ∧ z ≤ 600) → (quo zss).getD 0 0 = 0 → (quo zss).getD 1 0 ≠ 1 → (quo zss).getD 1 0 ≠ -1 → G none)
    (gD : validP 600 (col zss 0) → (∀ z, z ∈ (quo zss).take zss.length → -600 ≤ z ∧ z ≤ 600) → (quo zss).getD 0 0 = 0 → ∀ b, (quo zss).getD 1 0 = b → (b = 1 ∨ b = -1) → ∀ l, arrQ zss.length a b = some l → l.length = zss.length →
      ((l.map (fun ps => ps.map (Sy.den (rhoQ zss))) ≠ zss → G none) ∧ (l.map (fun ps => ps.map (Sy.den (rhoQ zss))) = zss → G (some (col zss 0, quo zss))))) (hl : ∀ b, (b = 1 ∨ b = -1) → ∃ l, arrQ zss.length a b = some l ∧ l.length = zss.length) : G (pF zss) := by
  have hq := quo_len (zss := zss)
  by_cases hg : validP 600 (col zss 0)
  case neg => rw [pF_no (fun hp => hg hp.2.2.2.2.1)]; exact gA hg
  rcases first_out (quo zss) with hall | ⟨n, hn, h1, h2⟩
  case inr =>
    rw [pF_no (fun hp => by
      have hv := hp.2.2.2.2.2.1.1
      have hm : (quo zss).getD n 0 ∈ quo zss := by simp [List.getD, hn]
      have := hv _ hm
      omega)]
    exact gB hg n (by omega) h1 h2
  have hall' : ∀ z, z ∈ (quo zss).take zss.length → -600 ≤ z ∧ z ≤ 600 := fun z hz => hall z (List.mem_of_mem_take hz)
  by_cases h0 : (quo zss).getD 0 0 = 0
  case neg => rw [pF_no (fun hp => h0 hp.2.2.2.2.2.2.1)]; exact gC0 hg hall' h0
  by_cases h1 : (quo zss).getD 1 0 = 1 ∨ (quo zss).getD 1 0 = -1
  case neg => rw [pF_no (fun hp => h1 hp.2.2.2.2.2.2.2.1)]; exact gC1 hg hall' h0 (fun e => h1 (.inl e)) (fun e => h1 (.inr e))
  obtain ⟨l, hl1, hl2⟩ := hl _ h1
  obtain ⟨d1, d2⟩ := gD hg hall' h0 _ rfl h1 l hl1 hl2
  by_cases he : l.map (fun ps => ps.map (Sy.den (rhoQ zss))) = zss
  · rw [pF_yes ⟨h.lo, h.hi, h.row, by rw [ha]; exact hu, hg, quo_valid h hall', h0, h1, l, by rw [ha]; exact hl1, he⟩]
    exact d2 he
  · rw [pF_no (fun hp => by
      obtain ⟨l', e1, e2⟩ := hp.2.2.2.2.2.2.2.2
      rw [ha, hl1] at e1
      cases e1
      exact he e2)]
    exact d1 he
set_option maxRecDepth 1000000 in
theorem arr_len : allTo (fun i => bite (match arrQ (i + 2) 1 1 with | some l => Nat.beq l.length (i + 2) | none => false) (bite (match arrQ (i + 2) 1 (-1) with | some l => Nat.beq l.length (i + 2) | none => false) (bite (match arrQ (i + 2) (-1) 1 with | some l => Nat.beq l.length (i + 2) | none => false) (match arrQ (i + 2) (-1) (-1) with | some l => Nat.beq l.length (i + 2) | none => false) false) false) false) 5 = true := by kernel_rfl
theorem arr_some {L : Nat} (h1 : 2 ≤ L) (h6 : L ≤ 6) {a : Int} (ha : a = 1 ∨ a = -1) : ∀ b, (b = 1 ∨ b = -1) → ∃ l, arrQ L a b = some l ∧ l.length = L := by
  have h := allTo_ok arr_len (L - 2) (by omega)
  rw [show L - 2 + 2 = L by omega] at h
  have one : ∀ x y : Int, (match arrQ L x y with | some l => Nat.beq l.length L | none => false) = true → ∃ l, arrQ L x y = some l ∧ l.length = L := by
    intro x y hxy
    split at hxy
    · rename_i l hl; exact ⟨l, hl, Nat.eq_of_beq_eq_true hxy⟩
    · cases hxy
  obtain ⟨a1, h⟩ := guard_true h
  obtain ⟨a2, h⟩ := guard_true h
  obtain ⟨a3, h⟩ := guard_true h
  intro b hb
  rcases ha with rfl | rfl <;> rcases hb with rfl | rfl
  · exact one _ _ a1
  · exact one _ _ a2
  · exact one _ _ a3
  · exact one _ _ h
theorem out_ok {ρ : Nat → Int} {x : Sy} {z : Int} (hx : x.den ρ = z) (h : z < -600 ∨ 600 < z) : (∀ f, f ∈ outF x false → f.Ok ρ) ∨ ∀ f, f ∈ outF x true → f.Ok ρ := by
  by_cases h1 : z < -600
  · refine .inl (fun f hf => ?_)
    simp only [outF, List.mem_cons, List.not_mem_nil, or_false] at hf
    subst hf
    exact Fact.lt_yes (by rw [hx]; exact h1)
  · refine .inr (fun f hf => ?_)
    simp only [outF, List.mem_cons, List.not_mem_nil, or_false] at hf
    rcases hf with rfl | rfl
    · exact Fact.lt_yes (by rw [hx]; show 600 < z; omega)
    · exact Fact.lt_no (by rw [hx]; exact h1)

def InB (zss : List (List Int)) : Prop := ∀ n, n < zss.length → -1000000000 ≤ (col zss 1).getD n 0 ∧ (col zss 1).getD n 0 ≤ 1000000000
theorem bnd_ok (h : Sq zss) (hb : InB zss) {a : Int} (ha : (col zss 0).getD 0 0 = a) (hu : a = 1 ∨ a = -1) {m : Nat} {b : Int} (h1 : 1 ≤ m → (quo zss).getD 0 0 = 0) (h2 : 2 ≤ m → (quo zss).getD 1 0 = b) (hc : convOk zss.length a m b = true) : ∀ f, f ∈ bndQ zss.length a m b → f.Ok (rhoQ zss) := by
  intro f hf
  obtain ⟨n, hn, hf⟩ := List.mem_flatMap.1 hf
  rw [List.mem_range] at hn
  have e := cvQ h ha hu h1 h2 hc hn
  have := hb n hn
  simp only [List.mem_cons, List.not_mem_nil, or_false] at hf
  rcases hf with rfl | rfl
  · exact Fact.lt_no (by rw [e]; simp only [Sy.den]; omega)
  · exact Fact.lt_no (by rw [e]; simp only [Sy.den]; omega)
theorem runI_good (h : Sq zss) (hb : InB zss) {a : Int} (ha : (col zss 0).getD 0 0 = a) (hu : a = 1 ∨ a = -1) {m : Nat} {b : Int} (h1 : 1 ≤ m → (quo zss).getD 0 0 = 0) (h2 : 2 ≤ m → (quo zss).getD 1 0 = b) (hc : convOk zss.length a m b = true) {Γ : List Fact} {Vt : List VEnt} {E : List QEnt}
    (hΓ : ∀ f, f ∈ Γ → f.Ok (rhoQ zss)) (hV : ∀ e, e ∈ Vt → e.Ok (rhoQ zss)) (hE : ∀ e, e ∈ E → e.Ok (rhoQ zss)) (R : V Sy) (S : Sto Sy) (hr : runI zss.length a m b Γ Vt E = some (R, S)) (s : Sms) (B' : Nat) : Go.Sx.Good Try.prog ⟨Sy.den (rhoQ zss), s⟩ B' 8 [patQ zss.length a m b] ⟨0, [], 0⟩ R S := by
  have hΓ' : ∀ f, f ∈ Γ ++ bndQ zss.length a m b → f.Ok (rhoQ zss) := fun f hf => (List.mem_append.1 hf).elim (hΓ f) (bnd_ok h hb ha hu h1 h2 hc f)
  exact (symRun_ok noCount mixed hΓ' (orK_ok (eqE_ok noCount mixed (body_of Try.func47 rfl) slicesEqual hE) (symK_ok noCount mixed ids_ok (t := Summs.tab) Summs.tab_ok hΓ' hV)) 60 _ _ _ _ _ hr).1
theorem impl_unit (h : Sq zss) (hb : InB zss) {a : Int} (ha : (col zss 0).getD 0 0 = a) (hu : a = 1 ∨ a = -1) : Tells Try.prog 8 [patS zss] (pairR (pF zss)) (pairO (pF zss)) := by
  have hlo := h.lo
  have hhi := h.hi
  have z0 : ∀ {k : Nat} {P : Prop}, k + 1 ≤ 0 → P := fun h => by omega
  have n1 : 1 ≤ 0 → (quo zss).getD 0 0 = 0 := fun h => by omega
  have n2 : 2 ≤ 0 → (quo zss).getD 1 0 = 0 := fun h => by omega
  have n3 : 2 ≤ 1 → (quo zss).getD 1 0 = 0 := fun h => by omega
  have c0 := conv0 hlo hhi hu
  have hgS := gS_den h ha
  have hf0 := fS_den (m := 0) (b := 0) h n1 n2
  have hcolV : ∀ q : Bool, (validP 600 (col zss 0) ↔ q = true) → (⟨600, gS zss.length a, q⟩ : VEnt).Ok (rhoQ zss) := fun q hq => by
    unfold VEnt.Ok
    simp only [hgS]
    cases q with
    | true => exact decide_eq_true (hq.2 rfl)
    | false => exact decide_eq_false (fun hv => by have := hq.1 hv; cases this)
  refine sq_cases h ha hu (G := fun o => Tells Try.prog 8 [patS zss] (pairR o) (pairO o)) ?_ ?_ ?_ ?_ ?_ (arr_some hlo hhi hu)
  · intro hg
    refine tells_no (iA_all hlo hhi hu) (runI_good h hb ha hu n1 n2 c0 (by simp) (fun e he => ?_) (by simp)) (pat_rel h ha hu n1 n2 c0)
    simp only [List.mem_cons, List.not_mem_nil, or_false] at he
    subst he
    exact hcolV false (by simp [hg])
  · intro hg n hn hpre hout
    have h3 := allTo_ok (iB_all hlo hhi hu) n hn
    simp only [bite_eq] at h3
    split at h3
    case isFalse => cases h3
    rename_i h4
    have hfn : (fAt zss.length n).den (rhoQ zss) = (quo zss).getD n 0 := by unfold fAt; rw [getD_den, hf0]
    have hV : ∀ e, e ∈ ([⟨600, gS zss.length a, true⟩] : List VEnt) → e.Ok (rhoQ zss) := fun e he => by
      simp only [List.mem_cons, List.not_mem_nil, or_false] at he
      subst he
      exact hcolV true (by simp [hg])
    rcases out_ok hfn hout with ho | ho
    · exact tells_no h4 (runI_good h hb ha hu n1 n2 c0 (fun f hf => (List.mem_append.1 hf).elim (ho f) (rng_ok hf0 hpre f)) hV (by simp)) (pat_rel h ha hu n1 n2 c0)
    · exact tells_no h3 (runI_good h hb ha hu n1 n2 c0 (fun f hf => (List.mem_append.1 hf).elim (ho f) (rng_ok hf0 hpre f)) hV (by simp)) (pat_rel h ha hu n1 n2 c0)
  · intro hg hall h0
    have h3 := iC_all hlo hhi hu
    unfold iC at h3
    rw [bite_eq] at h3
    split at h3
    case isFalse => cases h3
    rename_i h4
    refine tells_no h4 (runI_good h hb ha hu n1 n2 c0 (fun f hf => ?_) (fun e he => ?_) (by simp)) (pat_rel h ha hu n1 n2 c0)
    · rcases List.mem_cons.1 hf with rfl | hf
      · refine Fact.eq_no ?_
        rw [show (vx 6).den (rhoQ zss) = (quo zss).getD 0 0 from vxf (i := 0) h (by omega)]
        exact h0
      · exact rng_ok hf0 hall f hf
    · simp only [List.mem_cons, List.not_mem_nil, or_false] at he
      rcases he with rfl | rfl
      · exact hcolV true (by simp [hg])
      · unfold VEnt.Ok; simp only [hf0]; exact decide_eq_true (quo_valid h hall)
  · intro hg hall h0 h1 h2
    have h3 := iC_all hlo hhi hu
    unfold iC at h3
    rw [bite_eq] at h3
    split at h3
    case isFalse => cases h3
    have c1 := conv1 hlo hhi hu
    have m1 : 1 ≤ 1 → (quo zss).getD 0 0 = 0 := fun _ => h0
    have hf1 := fS_den (m := 1) (b := 0) h m1 n3
    refine tells_no h3 (runI_good h hb ha hu m1 n3 c1 (fun f hf => ?_) (fun e he => ?_) (by simp)) (pat_rel h ha hu m1 n3 c1)
    · have e7 : (vx 7).den (rhoQ zss) = (quo zss).getD 1 0 := vxf (i := 1) h (by omega)
      rcases List.mem_cons.1 hf with rfl | hf
      · exact Fact.eq_no (by rw [e7]; exact h1)
      rcases List.mem_cons.1 hf with rfl | hf
      · exact Fact.eq_no (by rw [e7]; exact h2)
      · exact rng_ok hf1 hall f hf
    · simp only [List.mem_cons, List.not_mem_nil, or_false] at he
      rcases he with rfl | rfl
      · exact hcolV true (by simp [hg])
      · unfold VEnt.Ok; simp only [hf1]; exact decide_eq_true (quo_valid h hall)
  · intro hg hall h0 b hb1 hbu l hl hll
    have c2 := conv2 hlo hhi hu hbu
    have m1 : 1 ≤ 2 → (quo zss).getD 0 0 = 0 := fun _ => h0
    have m2 : 2 ≤ 2 → (quo zss).getD 1 0 = b := fun _ => hb1
    have hf2 := fS_den (m := 2) (b := b) h m1 m2
    have hV : ∀ e, e ∈ ([⟨600, gS zss.length a, true⟩, ⟨600, fS zss.length 2 b, true⟩] : List VEnt) → e.Ok (rhoQ zss) := fun e he => by
      simp only [List.mem_cons, List.not_mem_nil, or_false] at he
      rcases he with rfl | rfl
      · exact hcolV true (by simp [hg])
      · unfold VEnt.Ok; simp only [hf2]; exact decide_eq_true (quo_valid h hall)
    have hrows := rowsQ_den h ha hu m1 m2 c2
    have hlen : l.length = (rowsQ zss.length a 2 b).length := by rw [hll]; simp [rowsQ]
    have hrng := rng_ok hf2 hall
    have hpat := pat_rel h ha hu m1 m2 c2
    rcases qRows_case (ρ := rhoQ zss) l (rowsQ zss.length a 2 b) hlen with ⟨e1, e2⟩ | ⟨j, j1, j2, j3⟩
    · rw [hrows] at e1
      have h3 := iD_all hlo hhi hu hbu zss.length (by omega)
      unfold iD at h3
      rw [hl] at h3
      simp only [bite_eq, Nat.beq_refl, if_true] at h3
      rw [← hll] at e2
      refine ⟨fun hne => (hne e1).elim, fun _ => ?_⟩
      have := tells_pair (pats := [patS zss]) h3 (runI_good h hb ha hu m1 m2 c2 hrng hV (fun e he => e2 e (by rw [hll]; exact he))) hpat
      rwa [hgS, hf2] at this
    · rw [hrows] at j2
      have h3 := iD_all hlo hhi hu hbu j (by omega)
      unfold iD at h3
      rw [hl] at h3
      have hj : Nat.beq j zss.length = false := beq_false_of_ne (by omega)
      simp only [bite_eq, hj, Bool.false_eq_true, if_false] at h3
      exact ⟨fun _ => tells_no h3 (runI_good h hb ha hu m1 m2 c2 hrng hV j3) hpat, fun he => (j2 he).elim⟩
end
end Go.Proofs.Ytobdnpnohaonkaa.Pr

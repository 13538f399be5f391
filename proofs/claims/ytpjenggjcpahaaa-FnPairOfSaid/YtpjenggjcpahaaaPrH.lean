import Derived.Test.YtpjenggjcpahaaaPr
import Derived.Test.YtpjenggjcpahaaaPrM
import Derived.Test.YtpjenggjcpahaaaPrE
import Derived.Test.YtpjenggjcpahaaaPrF
import Derived.Test.YtpjenggjcpahaaaPrG
namespace Go.Proofs.Ytpjenggjcpahaaa.Pr
open Go.ChangeShapes Go.WideShapes Go.ChangeAt Go.RowKit Go.Sx Go.Proofs.Ytpjenggjcpahaaa.Ids
set_option linter.unusedVariables false
set_option linter.unusedSimpArgs false

noncomputable def sA0 (L : Nat) (a : Int) : Bool := noPair (symRun Try.prog (symK ids Summs.tab [] [⟨600, gS L a, false⟩]) [] 60 13 [patQ L a 0 0] ⟨0, [], 0⟩)
set_option maxRecDepth 1000000 in
theorem sA0_ok : allTo (fun i => bite (sA0 (i + 2) 1) (sA0 (i + 2) (-1)) false) 5 = true := by kernel_rfl
theorem sA0_all {L : Nat} (h1 : 2 ≤ L) (h6 : L ≤ 6) {a : Int} (ha : a = 1 ∨ a = -1) : sA0 L a = true := by
  have h := allTo_ok sA0_ok (L - 2) (by omega)
  rw [show L - 2 + 2 = L by omega] at h
  obtain ⟨a1, h⟩ := guard_true h
  exact sgn2 (Q := fun a => sA0 L a = true) a1 h ha
section
variable {zss : List (List Int)}
theorem runS_good (h : Sq zss) {a : Int} (ha : (col zss 0).getD 0 0 = a) (hg : validP 600 (col zss 0)) {m : Nat} {b : Int} {Γ : List Fact} {Vt : List VEnt} {E : List QEnt}
    (hΓ : ∀ f, f ∈ Γ → f.Ok (rhoQ zss)) (hV : ∀ e, e ∈ Vt → e.Ok (rhoQ zss)) (hE : ∀ e, e ∈ E → e.Ok (rhoQ zss)) (R : V Sy) (S : Sto Sy) (hr : runS zss.length a m b Γ Vt E = some (R, S)) (s : Sms) (B' : Nat) : Go.Sx.Good Try.prog ⟨Sy.den (rhoQ zss), s⟩ B' 13 [patQ zss.length a m b] ⟨0, [], 0⟩ R S := by
  have hΓ' : ∀ f, f ∈ Γ ++ rngF 600 (gS zss.length a) → f.Ok (rhoQ zss) := fun f hf => (List.mem_append.1 hf).elim (hΓ f) (rngF_ok (fun z hz => hg.1 z (by rwa [gS_den h ha] at hz)) f)
  exact (symRun_ok noCount mixed hΓ' (orK_ok (eqE_ok noCount mixed (body_of Try.func90 rfl) same_run hE) (symK_ok noCount mixed ids_ok (t := Summs.tab) Summs.tab_ok hΓ' hV)) 60 _ _ _ _ _ hr).1
theorem spec_unit (h : Sq zss) {a : Int} (ha : (col zss 0).getD 0 0 = a) (hu : a = 1 ∨ a = -1) : Tells Try.prog 13 [patS zss] (pairR (pF zss)) (pairO (pF zss)) := by
  have hlo := h.lo
  have hhi := h.hi
  have n1 : 1 ≤ 0 → (quo zss).getD 0 0 = 0 := fun h => by omega
  have n2 : 2 ≤ 0 → (quo zss).getD 1 0 = 0 := fun h => by omega
  have n3 : 2 ≤ 1 → (quo zss).getD 1 0 = 0 := fun h => by omega
  have c0 := conv0 hlo hhi hu
  have hgS := gS_den h ha
  have hf0 := fS_den (m := 0) (b := 0) h n1 n2
  have hql := quo_len (zss := zss)
  have hcolV : ∀ q : Bool, (validP 600 (col zss 0) ↔ q = true) → (⟨600, gS zss.length a, q⟩ : VEnt).Ok (rhoQ zss) := fun q hq => by
    unfold VEnt.Ok
    simp only [hgS]
    cases q with
    | true => exact decide_eq_true (hq.2 rfl)
    | false => exact decide_eq_false (fun hv => by have := hq.1 hv; cases this)
  refine sq_cases h ha hu (G := fun o => Tells Try.prog 13 [patS zss] (pairR o) (pairO o)) ?_ ?_ ?_ ?_ ?_ (arr_some hlo hhi hu)
  · intro hg
    refine tells_no (sA0_all hlo hhi hu) (fun R S hr s B' => (symRun_ok noCount mixed (Γ := []) (by simp) (symK_ok noCount mixed ids_ok (t := Summs.tab) Summs.tab_ok (by simp) (fun e he => ?_)) 60 _ _ _ _ _ hr).1) (pat_rel h ha hu n1 n2 c0)
    simp only [List.mem_cons, List.not_mem_nil, or_false] at he
    subst he
    exact hcolV false (by simp [hg])
  · intro hg n hn hpre hout
    have h3 := allTo_ok (sB_all hlo hhi hu) n hn
    obtain ⟨b1, h3⟩ := guard_true h3
    obtain ⟨b2, b3⟩ := guard_true h3
    have hfn : (fAt zss.length n).den (rhoQ zss) = (quo zss).getD n 0 := by unfold fAt; rw [getD_den, hf0]
    have hcv : (cv zss.length a n).den (rhoQ zss) = (col zss 1).getD n 0 := cvQ h ha hu n1 n2 c0 hn
    have hg1 := hcolV true (by simp [hg])
    have hpv := pre_ok (n := n) hf0 (by omega) (by omega) hpre
    have hV : ∀ e, e ∈ (⟨600, gS zss.length a, true⟩ :: preV (fS zss.length 0 0) n : List VEnt) → e.Ok (rhoQ zss) := fun e he => by
      rcases List.mem_cons.1 he with rfl | he
      · exact hg1
      · exact hpv e he
    by_cases k1 : (col zss 1).getD n 0 < -1000000000
    · refine tells_no b1 (runS_good h ha hg (fun f hf => ?_) hV (by simp)) (pat_rel h ha hu n1 n2 c0)
      rcases List.mem_cons.1 hf with rfl | hf
      · exact Fact.lt_yes (by rw [hcv]; exact k1)
      · exact rng_ok hf0 hpre f hf
    by_cases k2 : 1000000000 < (col zss 1).getD n 0
    · refine tells_no b2 (runS_good h ha hg (fun f hf => ?_) hV (by simp)) (pat_rel h ha hu n1 n2 c0)
      rcases List.mem_cons.1 hf with rfl | hf
      · exact Fact.lt_yes (by rw [hcv]; exact k2)
      rcases List.mem_cons.1 hf with rfl | hf
      · exact Fact.lt_no (by rw [hcv]; exact k1)
      · exact rng_ok hf0 hpre f hf
    · refine tells_no b3 (runS_good h ha hg (fun f hf => ?_) (fun e he => ?_) (by simp)) (pat_rel h ha hu n1 n2 c0)
      · rcases List.mem_cons.1 hf with rfl | hf
        · exact Fact.lt_no (by rw [hcv]; exact k2)
        rcases List.mem_cons.1 hf with rfl | hf
        · exact Fact.lt_no (by rw [hcv]; exact k1)
        · exact rng_ok hf0 hpre f hf
      · rcases List.mem_cons.1 he with rfl | he
        · exact hg1
        rcases List.mem_cons.1 he with rfl | he
        · unfold VEnt.Ok
          simp only [List.map_take, hf0]
          refine decide_eq_false (fun hv => ?_)
          have hm : (quo zss).getD n 0 ∈ (quo zss).take (n + 1) := by
            have : ((quo zss).take (n + 1))[n]? = some ((quo zss).getD n 0) := by
              rw [List.getElem?_take, if_pos (by omega)]
              simp [List.getD, show n < (quo zss).length by omega]
            exact List.mem_of_getElem? this
          have := hv.1 _ hm
          omega
        · exact hpv e he
  · intro hg hall h0
    obtain ⟨h4, _⟩ := guard_true (sC_all hlo hhi hu)
    have hpv := pre_ok (n := zss.length) hf0 (by omega) (by omega) hall
    refine tells_no h4 (runS_good h ha hg (fun f hf => ?_) (fun e he => ?_) (by simp)) (pat_rel h ha hu n1 n2 c0)
    · rcases List.mem_cons.1 hf with rfl | hf
      · refine Fact.eq_no ?_
        rw [show (vx 6).den (rhoQ zss) = (quo zss).getD 0 0 from vxf (i := 0) h (by omega)]
        exact h0
      · exact rng_ok hf0 hall f hf
    · rcases List.mem_cons.1 he with rfl | he
      · exact hcolV true (by simp [hg])
      · exact hpv e he
  · intro hg hall h0 h1 h2
    obtain ⟨_, h3⟩ := guard_true (sC_all hlo hhi hu)
    have c1 := conv1 hlo hhi hu
    have m1 : 1 ≤ 1 → (quo zss).getD 0 0 = 0 := fun _ => h0
    have hf1 := fS_den (m := 1) (b := 0) h m1 n3
    have hpv := pre_ok (n := zss.length) hf1 (by omega) (by omega) hall
    refine tells_no h3 (runS_good h ha hg (fun f hf => ?_) (fun e he => ?_) (by simp)) (pat_rel h ha hu m1 n3 c1)
    · have e7 : (vx 7).den (rhoQ zss) = (quo zss).getD 1 0 := vxf (i := 1) h (by omega)
      rcases List.mem_cons.1 hf with rfl | hf
      · exact Fact.eq_no (by rw [e7]; exact h1)
      rcases List.mem_cons.1 hf with rfl | hf
      · exact Fact.eq_no (by rw [e7]; exact h2)
      · exact rng_ok hf1 hall f hf
    · rcases List.mem_cons.1 he with rfl | he
      · exact hcolV true (by simp [hg])
      · exact hpv e he
  · intro hg hall h0 b hb1 hbu l hl hll
    have c2 := conv2 hlo hhi hu hbu
    have m1 : 1 ≤ 2 → (quo zss).getD 0 0 = 0 := fun _ => h0
    have m2 : 2 ≤ 2 → (quo zss).getD 1 0 = b := fun _ => hb1
    have hf2 := fS_den (m := 2) (b := b) h m1 m2
    have hpv := pre_ok (n := zss.length) hf2 (by omega) (by omega) hall
    have hV : ∀ e, e ∈ (⟨600, gS zss.length a, true⟩ :: preV (fS zss.length 2 b) zss.length : List VEnt) → e.Ok (rhoQ zss) := fun e he => by
      rcases List.mem_cons.1 he with rfl | he
      · exact hcolV true (by simp [hg])
      · exact hpv e he
    have hrows := rowsQ_den h ha hu m1 m2 c2
    have hlen : l.length = (rowsQ zss.length a 2 b).length := by rw [hll]; simp [rowsQ]
    have hrng := rng_ok hf2 hall
    have hpat := pat_rel h ha hu m1 m2 c2
    rcases qRows_case (ρ := rhoQ zss) l (rowsQ zss.length a 2 b) hlen with ⟨e1, e2⟩ | ⟨j, j1, j2, j3⟩
    · rw [hrows] at e1
      have h3 := sD_all hlo hhi hu hbu zss.length (by omega)
      unfold sD at h3
      rw [hl] at h3
      simp only [bite_eq, Nat.beq_refl, if_true] at h3
      refine ⟨fun hne => (hne e1).elim, fun _ => ?_⟩
      have := tells_pair (pats := [patS zss]) h3 (runS_good h ha hg hrng hV (fun e he => e2 e (by rw [hll]; exact he))) hpat
      rwa [hgS, hf2] at this
    · rw [hrows] at j2
      have h3 := sD_all hlo hhi hu hbu j (by omega)
      unfold sD at h3
      rw [hl] at h3
      have hj : Nat.beq j zss.length = false := beq_false_of_ne (by omega)
      simp only [bite_eq, hj, Bool.false_eq_true, if_false] at h3
      exact ⟨fun _ => tells_no h3 (runS_good h ha hg hrng hV j3) hpat, fun he => (j2 he).elim⟩

def rhoZ (zss : List (List Int)) (k : Nat) : Int := (zss.getD (k / 6) []).getD (k % 6) 0
theorem vxz (h : Sq zss) {n k : Nat} (hn : n < zss.length) (hk : k < zss.length) : (vx (6 * n + k)).den (rhoZ zss) = (zss.getD n []).getD k 0 := by
  have h6 := h.hi
  have e : rhoZ zss (6 * n + k) = (zss.getD n []).getD k 0 := by unfold rhoZ; rw [show (6 * n + k) / 6 = n by omega, show (6 * n + k) % 6 = k by omega]
  rw [vx_den _ _ (by omega) (by rw [e]; exact (h.get hn hk).2), e]
theorem rowZ_den (h : Sq zss) {n : Nat} (hn : n < zss.length) : (rowZ zss.length n).map (Sy.den (rhoZ zss)) = zss.getD n [] := by
  have e0 : zss.getD n [] = zss[n] := by simp [List.getD, hn]
  have hrow := h.row _ (List.getElem_mem hn)
  rw [← e0] at hrow
  apply List.ext_getElem?
  intro k
  unfold rowZ
  rw [List.map_map, List.getElem?_map]
  rcases Nat.lt_or_ge k zss.length with hk | hk
  · rw [List.getElem?_range hk, (h.get hn hk).1]
    simp only [Option.map_some, Function.comp]
    rw [vxz h hn hk]
  · rw [List.getElem?_eq_none (by simp; omega), List.getElem?_eq_none (by omega)]; rfl
theorem rowsZ_den (h : Sq zss) : (rowsZ zss.length).map (fun ps => ps.map (Sy.den (rhoZ zss))) = zss := by
  apply List.ext_getElem?
  intro n
  unfold rowsZ
  rw [List.map_map, List.getElem?_map]
  rcases Nat.lt_or_ge n zss.length with hn | hn
  · rw [List.getElem?_range hn, List.getElem?_eq_getElem hn]
    simp only [Option.map_some, Function.comp]
    rw [rowZ_den h hn]
    simp [List.getD, hn]
  · rw [List.getElem?_eq_none (by simp; omega), List.getElem?_eq_none (by omega)]; rfl
theorem patZ_rel (h : Sq zss) (s : Sms) (B : Nat) (c : Cx) (vs : List Value) (hv : VRs ⟨Sy.den (rhoZ zss), s⟩ B c [patS zss] vs) : VRs ⟨Sy.den (rhoZ zss), s⟩ B c [patZ zss.length] vs := by
  obtain ⟨v, rfl, hv2⟩ := hv.one
  have hlo := h.lo
  refine .cons (patS_sym (rowsZ_den h) (by intro e; rw [e] at hlo; simp at hlo) (fun z hz e => ?_) hv2) .nil
  have := h.row z hz
  rw [e] at this
  simp at this
  omega
theorem nu_ok (h : Sq zss) (h1 : (col zss 0).getD 0 0 ≠ 1) (h2 : (col zss 0).getD 0 0 ≠ -1) : ∀ f, f ∈ nuF → f.Ok (rhoZ zss) := by
  have hlo := h.lo
  have e : (vx 0).den (rhoZ zss) = (col zss 0).getD 0 0 := by rw [col_get]; exact vxz (n := 0) (k := 0) h (by omega) (by omega)
  intro f hf
  simp only [nuF, List.mem_cons, List.not_mem_nil, or_false] at hf
  rcases hf with rfl | rfl
  · exact Fact.eq_no (by rw [e]; exact h1)
  · exact Fact.eq_no (by rw [e]; exact h2)
theorem impl_nu (h : Sq zss) (hb : InB zss) (h1 : (col zss 0).getD 0 0 ≠ 1) (h2 : (col zss 0).getD 0 0 ≠ -1) : Tells Try.prog 12 [patS zss] (pairR (pF zss)) (pairO (pF zss)) := by
  have hlo := h.lo
  rw [pF_no (fun hp => hp.2.2.2.1.elim h1 h2)]
  have hc : ((List.range zss.length).map fun n => vx (6 * n)).map (Sy.den (rhoZ zss)) = col zss 0 := by
    apply List.ext_getElem?
    intro n
    rw [List.map_map, List.getElem?_map]
    rcases Nat.lt_or_ge n zss.length with hn | hn
    · rw [List.getElem?_range hn]
      have e2 : (col zss 0)[n]? = some ((col zss 0).getD n 0) := by simp [List.getD, show n < (col zss 0).length by rw [col_len]; exact hn]
      rw [e2, col_get]
      simp only [Option.map_some, Function.comp]
      rw [show 6 * n = 6 * n + 0 by rfl, vxz h hn (by omega)]
    · rw [List.getElem?_eq_none (by simp; omega), List.getElem?_eq_none (by rw [col_len]; omega)]; rfl
  have hΓ : ∀ f, f ∈ nuF ++ bndZ zss.length → f.Ok (rhoZ zss) := by
    intro f hf
    rcases List.mem_append.1 hf with hf | hf
    · exact nu_ok h h1 h2 f hf
    · obtain ⟨n, hn, hf⟩ := List.mem_flatMap.1 hf
      rw [List.mem_range] at hn
      have e : (vx (6 * n + 1)).den (rhoZ zss) = (col zss 1).getD n 0 := by rw [col_get]; exact vxz h hn (by omega)
      have := hb n hn
      simp only [List.mem_cons, List.not_mem_nil, or_false] at hf
      rcases hf with rfl | rfl
      · exact Fact.lt_no (by rw [e]; simp only [Sy.den]; omega)
      · exact Fact.lt_no (by rw [e]; simp only [Sy.den]; omega)
  have main : ∀ q : Bool, decide (validP 600 (col zss 0)) = q → Tells Try.prog 12 [patS zss] (pairR none) (pairO none) := fun q hq =>
    tells_no (iZ_all hlo h.hi q) (fun R S hr s B' => (symRun_ok noCount mixed hΓ (symK_ok noCount mixed ids_ok (t := Summs.tab) Summs.tab_ok hΓ (fun e he => by
      simp only [List.mem_cons, List.not_mem_nil, or_false] at he
      subst he
      unfold VEnt.Ok
      simp only [hc]
      exact hq)) 60 _ _ _ _ _ hr).1) (patZ_rel h)
  exact main _ rfl
theorem spec_nu (h : Sq zss) (h1 : (col zss 0).getD 0 0 ≠ 1) (h2 : (col zss 0).getD 0 0 ≠ -1) : Tells Try.prog 13 [patS zss] (pairR (pF zss)) (pairO (pF zss)) := by
  rw [pF_no (fun hp => hp.2.2.2.1.elim h1 h2)]
  have hΓ := nu_ok h h1 h2
  exact tells_no (sZ_all h.lo h.hi) (fun R S hr s B' => (symRun_ok noCount mixed hΓ (symK_ok noCount mixed ids_ok (t := Summs.tab) Summs.tab_ok hΓ (by simp)) 60 _ _ _ _ _ hr).1) (patZ_rel h)
theorem spec_sq (h : Sq zss) : Tells Try.prog 13 [patS zss] (pairR (pF zss)) (pairO (pF zss)) := by
  by_cases h1 : (col zss 0).getD 0 0 = 1
  · exact spec_unit h rfl (.inl h1)
  by_cases h2 : (col zss 0).getD 0 0 = -1
  · exact spec_unit h rfl (.inr h2)
  exact spec_nu h h1 h2
theorem impl_sq (h : Sq zss) (hb : InB zss) : Tells Try.prog 12 [patS zss] (pairR (pF zss)) (pairO (pF zss)) := by
  by_cases h1 : (col zss 0).getD 0 0 = 1
  · exact impl_unit h hb rfl (.inl h1)
  by_cases h2 : (col zss 0).getD 0 0 = -1
  · exact impl_unit h hb rfl (.inr h2)
  exact impl_nu h hb h1 h2
end
end Go.Proofs.Ytpjenggjcpahaaa.Pr

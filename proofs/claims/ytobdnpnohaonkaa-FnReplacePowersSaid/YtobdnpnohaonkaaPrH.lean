import Derived.Test.YtobdnpnohaonkaaPr
import Derived.Test.YtobdnpnohaonkaaPrM
import Derived.Test.YtobdnpnohaonkaaPrE
import Derived.Test.YtobdnpnohaonkaaPrF
import Derived.Test.YtobdnpnohaonkaaPrG
namespace Go.Proofs.Ytobdnpnohaonkaa.Pr
open Go.ChangeShapes Go.WideShapes Go.ChangeAt Go.RowKit Go.Sx Go.Proofs.Ytobdnpnohaonkaa.Ids
set_option linter.unusedVariables false
set_option linter.unusedSimpArgs false

section
variable {zss : List (List Int)}
def rhoZ (zss : List (List Int)) (k : Nat) : Int := (zss.getD (k / 6) []).getD (k % 6) 0
theorem vxz (h : Sq zss) {n k : Nat} (hn : n < zss.length) (hk : k < zss.length) : (vx (6 * n + k)).den (rhoZ zss) = (zss.getD n []).getD k 0 := by
  have h6 := h.hi
  have e : rhoZ zss (6 * n + k) = (zss.getD n []).getD k 0 := by unfold rhoZ; rw [show (6 * n + k) / 6 = n by omega, show (6 * n + k) % 6 = k by omega]
  rw [vx_den _ _ (by omega) (by rw [e]; exact (h.get hn hk).2), e]
theorem rowZ_den (h : Sq zss) {n : Nat} (hn : n < zss.length) : (rowZ zss.length n).map (Sy.den (rhoZ zss)) = zss.getD n [] := by
  have e0 : zss.getD n [] = zss[n] := by simp [List.getD, hn]
  have hrow := h.row _ (List.getElem_mem hn)
  rw [← e0] at hrow
  apply List.ext_getElem?
  intro k
  unfold rowZ
  rw [List.map_map, List.getElem?_map]
  rcases Nat.lt_or_ge k zss.length with hk | hk
  · rw [List.getElem?_range hk, (h.get hn hk).1]
    simp only [Option.map_some, Function.comp]
    rw [vxz h hn hk]
  · rw [List.getElem?_eq_none (by simp; omega), List.getElem?_eq_none (by omega)]; rfl
theorem rowsZ_den (h : Sq zss) : (rowsZ zss.length).map (fun ps => ps.map (Sy.den (rhoZ zss))) = zss := by
  apply List.ext_getElem?
  intro n
  unfold rowsZ
  rw [List.map_map, List.getElem?_map]
  rcases Nat.lt_or_ge n zss.length with hn | hn
  · rw [List.getElem?_range hn, List.getElem?_eq_getElem hn]
    simp only [Option.map_some, Function.comp]
    rw [rowZ_den h hn]
    simp [List.getD, hn]
  · rw [List.getElem?_eq_none (by simp; omega), List.getElem?_eq_none (by omega)]; rfl
theorem patZ_rel (h : Sq zss) (s : Sms) (B : Nat) (c : Cx) (vs : List Value) (hv : VRs ⟨Sy.den (rhoZ zss), s⟩ B c [patS zss] vs) : VRs ⟨Sy.den (rhoZ zss), s⟩ B c [patZ zss.length] vs := by
  obtain ⟨v, rfl, hv2⟩ := hv.one
  have hlo := h.lo
  refine .cons (patS_sym (rowsZ_den h) (by intro e; rw [e] at hlo; simp at hlo) (fun z hz e => ?_) hv2) .nil
  have := h.row z hz
  rw [e] at this
  simp at this
  omega
theorem nu_ok (h : Sq zss) (h1 : (col zss 0).getD 0 0 ≠ 1) (h2 : (col zss 0).getD 0 0 ≠ -1) : ∀ f, f ∈ nuF → f.Ok (rhoZ zss) := by
  have hlo := h.lo
  have e : (vx 0).den (rhoZ zss) = (col zss 0).getD 0 0 := by rw [col_get]; exact vxz (n := 0) (k := 0) h (by omega) (by omega)
  intro f hf
  simp only [nuF, List.mem_cons, List.not_mem_nil, or_false] at hf
  rcases hf with rfl | rfl
  · exact Fact.eq_no (by rw [e]; exact h1)
  · exact Fact.eq_no (by rw [e]; exact h2)
theorem impl_nu (h : Sq zss) (hb : InB zss) (h1 : (col zss 0).getD 0 0 ≠ 1) (h2 : (col zss 0).getD 0 0 ≠ -1) : Tells Try.prog 8 [patS zss] (pairR (pF zss)) (pairO (pF zss)) := by
  have hlo := h.lo
  rw [pF_no (fun hp => hp.2.2.2.1.elim h1 h2)]
  have hc : ((List.range zss.length).map fun n => vx (6 * n)).map (Sy.den (rhoZ zss)) = col zss 0 := by
    apply List.ext_getElem?
    intro n
    rw [List.map_map, List.getElem?_map]
    rcases Nat.lt_or_ge n zss.length with hn | hn
    · rw [List.getElem?_range hn]
      have e2 : (col zss 0)[n]? = some ((col zss 0).getD n 0) := by simp [List.getD, show n < (col zss 0).length by rw [col_len]; exact hn]
      rw [e2, col_get]
      simp only [Option.map_some, Function.comp]
      rw [show 6 * n = 6 * n + 0 by rfl, vxz h hn (by omega)]
    · rw [List.getElem?_eq_none (by simp; omega), List.getElem?_eq_none (by rw [col_len]; omega)]; rfl
  have hΓ : ∀ f, f ∈ nuF ++ bndZ zss.length → f.Ok (rhoZ zss) := by
    intro f hf
    rcases List.mem_append.1 hf with hf | hf
    · exact nu_ok h h1 h2 f hf
    · obtain ⟨n, hn, hf⟩ := List.mem_flatMap.1 hf
      rw [List.mem_range] at hn
      have e : (vx (6 * n + 1)).den (rhoZ zss) = (col zss 1).getD n 0 := by rw [col_get]; exact vxz h hn (by omega)
      have := hb n hn
      simp only [List.mem_cons, List.not_mem_nil, or_false] at hf
      rcases hf with rfl | rfl
      · exact Fact.lt_no (by rw [e]; simp only [Sy.den]; omega)
      · exact Fact.lt_no (by rw [e]; simp only [Sy.den]; omega)
  have main : ∀ q : Bool, decide (validP 600 (col zss 0)) = q → Tells Try.prog 8 [patS zss] (pairR none) (pairO none) := fun q hq =>
    tells_no (iZ_all hlo h.hi q) (fun R S hr s B' => (symRun_ok noCount mixed hΓ (symK_ok noCount mixed ids_ok (t := Summs.tab) Summs.tab_ok hΓ (fun e he => by
      simp only [List.mem_cons, List.not_mem_nil, or_false] at he
      subst he
      unfold VEnt.Ok
      simp only [hc]
      exact hq)) 60 _ _ _ _ _ hr).1) (patZ_rel h)
  exact main _ rfl
theorem impl_sq (h : Sq zss) (hb : InB zss) : Tells Try.prog 8 [patS zss] (pairR (pF zss)) (pairO (pF zss)) := by
  by_cases h1 : (col zss 0).getD 0 0 = 1
  · exact impl_unit h hb rfl (.inl h1)
  by_cases h2 : (col zss 0).getD 0 0 = -1
  · exact impl_unit h hb rfl (.inr h2)
  exact impl_nu h hb h1 h2
end
end Go.Proofs.Ytobdnpnohaonkaa.Pr

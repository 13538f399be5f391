/-
  A list of texts among a row's arguments. No condition.
-/
import Derived.Test.YtgaodlhdilhliaaGreatDoorRows
import Derived.Test.YtgaodlhdilhliaaGreatDoorSym
import Derived.Test.YtgaodlhdilhliaaGreatDoorSymD
import Derived.Test.YtgaodlhdilhliaaGreatDoorSymE
import Derived.Test.YtgaodlhdilhliaaGreatDoorSymF
import Derived.Test.YtgaodlhdilhliaaGreatDoorIds
import Derived.Test.YtgaodlhdilhliaaGreatDoorSh
import Derived.Test.YtgaodlhdilhliaaGreatDoorSt
import Derived.WalkKit
import Derived.ProofKit
import Derived.OpenShut
import Derived.ChangeSlices
namespace Go.Proofs.YtgaodlhdilhliaaGreatDoor.St
open Go.ChangeShapes Go.WideShapes Go.ChangeAt Go.RowKit Go.Sx Go.Proofs.YtgaodlhdilhliaaGreatDoor.Ids
set_option linter.unusedVariables false
set_option linter.unusedSimpArgs false

def strOf {H : Type} (y : DataW H × List MemPlace) : ByteArray := match y.1 with | .lit (.string l) => ⟨l.toArray⟩ | _ => ⟨#[]⟩
theorem open_strs {H : Type} {enc : TypeId × Value → H} {P : Program} {t e : TypeId} {r : Reach} {base b0 : Nat} {W : World} {sp : Nat → Bool} {hd : Bool} {v : Value} {d : DataW H} {p : List MemPlace}
    (ht : P.underlying t = some (.slice e)) (he : P.underlying e = some .string) (hc : P.cellsOf e = 1) (hval : Value.okWide P W r base t v) (h : DataW.Trod enc P W b0 sp hd t v d p) :
    ∃ xs : List ByteArray, xs.length ≤ 9223372036854775807 ∧ (∀ x, x ∈ xs → x.size ≤ 9223372036854775807) ∧ ∀ (ρ : Nat → Int) (s : Sms), VR ⟨Sy.den ρ, s⟩ W.heap.size ⟨W, fun _ => none⟩ (.slice (strs xs)) v := by
  obtain ⟨a, len, cap, rfl⟩ := okWide_slice ht hval
  obtain ⟨fuel, hf⟩ := h
  rcases DataW.trod_slice ht hf with ⟨hcs, _⟩ | ⟨x, l, c, elems, rest, n, _, hcs, _, hb, hl, hm, hlen, hel, _, _⟩
  · simp [Value.cells] at hcs
    obtain ⟨rfl, rfl, rfl⟩ := hcs
    exact ⟨[], by simp, by simp, fun ρ s => .snil⟩
  · simp [Value.cells] at hcs
    obtain ⟨rfl, rfl, rfl⟩ := hcs
    obtain ⟨hs, hbk⟩ := has_plain ht hval
    obtain ⟨b, off, spot⟩ := x
    simp only at hs hbk
    subst hs
    have each : ∀ i y, elems[i]? = some y → W.cell? ⟨b, off + i, none⟩ = some (.string (strOf y)) ∧ (strOf y).size ≤ maxLen := by
      intro i y hy
      have hi : i < len := by have := (List.getElem?_eq_some_iff.1 hy).1; omega
      have hb' := hel i hi
      rw [hy, hc, Nat.mul_one, Option.bind_eq_some_iff] at hb'
      obtain ⟨cs', hcs, hy'⟩ := hb'
      obtain ⟨s, rfl, rfl, hw⟩ := DataW.trod_string he hy'
      have hcell := cell_of_cells?_one hcs
      rw [add_plain] at hcell
      exact ⟨hcell, hw⟩
    have hmax : maxLen = 9223372036854775807 := by decide
    refine ⟨elems.map strOf, by rw [List.length_map]; omega, fun x hx => ?_, fun ρ s => ?_⟩
    · obtain ⟨y, hy, rfl⟩ := List.mem_map.1 hx
      obtain ⟨i, hi⟩ := List.getElem?_of_mem hy
      have := (each i y hi).2
      omega
    · have hil : (strs (elems.map strOf)).length = len := by unfold strs; rw [List.length_map, List.length_map]; exact hlen
      have := VR.slice (Δ := ⟨Sy.den ρ, s⟩) (B := W.heap.size) (c := ⟨W, fun _ => none⟩) (xs := strs (elems.map strOf)) (b := b) (off := off) (cap := cap) ((elems.map strOf).map Value.string) (by rw [hil, List.length_map, List.length_map]; exact hlen) (by rw [hil]; exact hl) hbk
        (fun j u hj => by
          rw [List.getElem?_map, List.getElem?_map] at hj
          cases hy : elems[j]? with
          | none => rw [hy] at hj; cases hj
          | some y =>
            rw [hy] at hj
            cases hj
            exact (each j y hy).1)
        (fun j x u hx hu => by
          unfold strs at hx
          rw [List.getElem?_map] at hx hu
          cases hz : (elems.map strOf)[j]? with
          | none => rw [hz] at hx; cases hx
          | some z =>
            rw [hz] at hx hu
            cases hx
            cases hu
            exact .str z)
      rw [hil] at this
      exact this
end Go.Proofs.YtgaodlhdilhliaaGreatDoor.St

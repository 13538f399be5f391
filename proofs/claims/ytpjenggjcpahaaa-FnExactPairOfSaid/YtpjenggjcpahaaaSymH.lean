/-
  Lists of lists among a row's arguments, their numbers as a machine has them.
-/
import Derived.Test.YtpjenggjcpahaaaSymG
import Derived.ProofKit
import Derived.OpenShut
import Derived.Deep.Matrix
set_option linter.unusedVariables false
set_option linter.unusedSimpArgs false
/-
  Lists of lists among a row's arguments, their numbers as a machine has them.
-/
namespace Go.Sx
open Go.ChangeShapes Go.WideShapes Go.ChangeAt Go.RowKit

theorem open_rows2 {H : Type} {enc : TypeId × Value → H} {P : Program} {t e q : TypeId} {r : Reach} {base b0 : Nat} {W : World} {hd : Bool} {v : Value} {d : DataW H} {p : List MemPlace}
    (ht : P.underlying t = some (.slice e)) (he : P.underlying e = some (.slice q)) (hq : P.underlying q = some (.int .i64)) (ce : P.cellsOf e = 1) (cq : P.cellsOf q = 1) (hval : Value.okWide P W r base t v) (h : DataW.Trod enc P W b0 (fun _ => true) hd t v d p) :
    ∃ zss : List (List Int), (∀ (ρ : Nat → Int) (s : Sms), VR ⟨Sy.den ρ, s⟩ W.heap.size ⟨W, fun _ => none⟩ (patS zss) v) ∧ zss.length ≤ 9223372036854775807 ∧ (∀ zs, zs ∈ zss → zs.length ≤ 9223372036854775807) ∧ ∀ zs, zs ∈ zss → ∀ z, z ∈ zs → IntKind.i64.wrap z = z := by
  have hmax : maxLen = 9223372036854775807 := by decide
  obtain ⟨a, len, cap, rfl⟩ := okWide_slice ht hval
  obtain ⟨fuel, hf⟩ := h
  rcases Go.Deep.open_int_rows ht he hq ce cq hf with ⟨hcs, _⟩ | ⟨x, l, c, A, L, C, Z, hcs, _, hl, hm, _, hrow⟩
  · simp [Value.cells] at hcs
    obtain ⟨rfl, rfl, rfl⟩ := hcs
    exact ⟨[], fun ρ s => .emp _ _ (.inl rfl), by simp, by simp, by simp⟩
  · simp [Value.cells] at hcs
    obtain ⟨rfl, rfl, rfl⟩ := hcs
    obtain ⟨hs, hb⟩ := has_plain ht hval
    obtain ⟨b, off, spot⟩ := x
    simp only at hs hb
    subst hs
    refine ⟨(List.range len).map fun r => (Z r).take (L r), fun ρ s => ?_, by simp; omega, fun zs hzs => ?_, fun zs hzs z hz => ?_⟩
    · by_cases h0 : len = 0
      · subst h0
        exact .emp _ _ (.inr fun b hb => by cases hb; rfl)
      · generalize hg : ((List.range len).map fun r => (Z r).take (L r)) = zss
        have hzl : zss.length = len := by rw [← hg]; simp
        have hp : patS zss = .slice (zss.map patL) := by
          cases zss with
          | nil => simp at hzl; omega
          | cons x r => rfl
        rw [hp]
        have hml : (zss.map patL).length = len := by rw [List.length_map]; exact hzl
        have := VR.slice (Δ := ⟨Sy.den ρ, s⟩) (B := W.heap.size) (c := ⟨W, fun _ => none⟩) (xs := zss.map patL) (b := b) (off := off) (cap := cap) ((List.range len).map fun r => Value.slice (A r) (L r) (C r)) (by rw [hml]; simp) (by rw [hml]; exact hl) hb
          (fun j u hj => by
            rw [List.getElem?_map, Option.map_eq_some_iff] at hj
            obtain ⟨i, hi, rfl⟩ := hj
            have hj' : j < len := by have := (List.getElem?_eq_some_iff.1 hi).1; simpa using this
            rw [List.getElem?_range hj'] at hi
            cases hi
            have := (hrow j (by omega)).1
            rwa [add_plain] at this)
          (fun j y u hy hu => by
            rw [List.getElem?_map, Option.map_eq_some_iff] at hy
            obtain ⟨zs, hzs, rfl⟩ := hy
            rw [List.getElem?_map, Option.map_eq_some_iff] at hu
            obtain ⟨i, hi, rfl⟩ := hu
            have hj' : j < len := by have := (List.getElem?_eq_some_iff.1 hi).1; simpa using this
            rw [List.getElem?_range hj'] at hi
            cases hi
            rw [← hg, List.getElem?_map, List.getElem?_range hj'] at hzs
            cases hzs
            obtain ⟨_, k1, k2, k3, _, k5, k6⟩ := hrow j (by omega)
            exact row_rel k1 k3 k5 (fun a' ha' => (k6 a' ha').2) ρ s)
        rwa [hml] at this
    · obtain ⟨i, hi, rfl⟩ := List.mem_map.1 hzs
      obtain ⟨_, k1, k2, k3, _⟩ := hrow i (by have := List.mem_range.1 hi; omega)
      simp [List.length_take]
      omega
    · obtain ⟨i, hi, rfl⟩ := List.mem_map.1 hzs
      obtain ⟨_, _, _, _, k4, _⟩ := hrow i (by have := List.mem_range.1 hi; omega)
      exact wrap_of_wf (k4 z (List.mem_of_mem_take hz))
end Go.Sx


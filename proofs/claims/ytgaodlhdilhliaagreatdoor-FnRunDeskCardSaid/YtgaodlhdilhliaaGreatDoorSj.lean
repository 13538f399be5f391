/-
  What has been joined comes apart again. No condition.
-/
import Derived.Test.YtgaodlhdilhliaaGreatDoorRows
import Derived.Test.YtgaodlhdilhliaaGreatDoorSym
import Derived.Test.YtgaodlhdilhliaaGreatDoorSymE
import Derived.Test.YtgaodlhdilhliaaGreatDoorSymF
import Derived.Test.YtgaodlhdilhliaaGreatDoorIds
import Derived.Test.YtgaodlhdilhliaaGreatDoorSh
import Derived.Test.YtgaodlhdilhliaaGreatDoorSt
import Derived.Test.YtgaodlhdilhliaaGreatDoorNum
import Derived.Test.YtgaodlhdilhliaaGreatDoorTx
import Derived.Test.YtgaodlhdilhliaaGreatDoorTy
import Derived.Lib.Split
import Derived.Lib.IndexBytes
import Derived.WalkKit
import Derived.ProofKit
import Derived.OpenShut
namespace Go.Proofs.YtgaodlhdilhliaaGreatDoor.St
open Go.ChangeShapes Go.WideShapes Go.ChangeAt Go.RowKit Go.Sx Go.Proofs.YtgaodlhdilhliaaGreatDoor.Ids
set_option linter.unusedVariables false
set_option linter.unusedSimpArgs false

noncomputable def noC : List Nat → Bool
  | [] => true
  | a :: r => bite (Nat.beq (UInt8.ofNat a).toNat 44) false (noC r)
theorem noC_eq : ∀ {l : List Nat}, noC l = true → (44 : UInt8) ∉ l.map UInt8.ofNat
  | [], _ => by simp
  | a :: r, h => by
    simp only [noC, bite_eq] at h
    split at h
    · cases h
    · rename_i e
      rw [List.map_cons, List.mem_cons]
      rintro (h1 | h1)
      · exact e (by rw [← h1]; rfl)
      · exact noC_eq h h1
set_option maxRecDepth 1000000 in
theorem dig_noC : allTo (fun i => noC (digN i)) 601 = true := by kernel_rfl
theorem text_noC {z : Int} (h : -600 ≤ z ∧ z ≤ 600) : (44 : UInt8) ∉ (textZ z).data.toList := by
  unfold textZ
  show (44 : UInt8) ∉ Lib.itoa z
  unfold Lib.itoa
  split
  · rw [digN_eq (by omega), List.mem_cons]
    rintro (h1 | h1)
    · exact absurd h1 (by decide)
    · exact noC_eq (allTo_ok dig_noC _ (by omega)) h1
  · rw [digN_eq (by omega)]
    exact noC_eq (allTo_ok dig_noC _ (by omega))
theorem ib_hit : ∀ (l r : List UInt8), (44 : UInt8) ∉ l → Lib.indexByte (l ++ 44 :: r) 44 = l.length
  | [], r, _ => by simp [Lib.indexByte]
  | a :: l, r, h => by
    have ih := ib_hit l r (fun h' => h (by simp [h']))
    have ha : (a == (44 : UInt8)) = false := by
      rw [beq_eq_false_iff_ne]; intro e; exact h (by simp [e])
    show (if a == 44 then (0 : Int) else if Lib.indexByte (l ++ 44 :: r) 44 == -1 then -1 else Lib.indexByte (l ++ 44 :: r) 44 + 1) = _
    rw [ha, ih]
    have hb : ((l.length : Int) == -1) = false := by rw [beq_eq_false_iff_ne]; omega
    rw [hb]
    simp
theorem ib_none : ∀ (l : List UInt8), (44 : UInt8) ∉ l → Lib.indexByte l 44 = -1
  | [], _ => rfl
  | a :: l, h => by
    have ih := ib_none l (fun h' => h (by simp [h']))
    have ha : (a == (44 : UInt8)) = false := by
      rw [beq_eq_false_iff_ne]; intro e; exact h (by simp [e])
    show (if a == 44 then (0 : Int) else if Lib.indexByte l 44 == -1 then -1 else Lib.indexByte l 44 + 1) = _
    rw [ha, ih]
    rfl
theorem join_two (x y : ByteArray) (r : List ByteArray) : (joinB (x :: y :: r) comma).data.toList = x.data.toList ++ 44 :: (joinB (y :: r) comma).data.toList := by
  simp [joinB, Lib.join_cons, Lib.joinTail, comma]
theorem join_single (x : ByteArray) : joinB [x] comma = x := by
  apply ByteArray.ext
  apply Array.toList_inj.1
  simp [joinB, Lib.join_one]
theorem size_list (s : ByteArray) : s.size = s.data.toList.length := Array.length_toList.symm
theorem ext_tail (a b : List UInt8) (c : UInt8) : (a ++ c :: b).extract (a.length + 1) (a.length + 1 + b.length) = b := by
  rw [List.extract_eq_take_drop, show a ++ c :: b = (a ++ [c]) ++ b by simp, List.drop_left' (by simp), Nat.add_sub_cancel_left, List.take_length]
theorem split_join : ∀ (xs : List ByteArray), xs ≠ [] → (∀ x, x ∈ xs → (44 : UInt8) ∉ x.data.toList) → ∀ k, xs.length ≤ k + 1 → Lib.splitB comma 0 k (joinB xs comma) = xs
  | [], h, _, _, _ => (h rfl).elim
  | [x], _, hx, k, _ => by
    rw [join_single]
    refine Lib.splitB_miss _ _ _ _ ?_
    show Lib.index x.data.toList [44] = -1
    rw [Lib.index_one]
    exact ib_none _ (hx x (by simp))
  | x :: y :: r, _, hx, k, hk => by
    obtain ⟨k, rfl⟩ : ∃ j, k = j + 1 := ⟨k - 1, by simp at hk; omega⟩
    have ih := split_join (y :: r) (by simp) (fun z hz => hx z (by simp [hz])) k (by simp at hk ⊢; omega)
    have hj := join_two x y r
    have hi : Lib.indexB (joinB (x :: y :: r) comma) comma = x.data.toList.length := by
      show Lib.index (joinB (x :: y :: r) comma).data.toList [44] = _
      rw [Lib.index_one, hj]
      exact ib_hit _ _ (hx x (by simp))
    unfold Lib.splitB
    rw [if_neg (by rw [hi]; simp), hi]
    have e1 : (joinB (x :: y :: r) comma).extract 0 (((x.data.toList.length : Nat) : Int).toNat + 0) = x := by
      apply ByteArray.ext
      apply Array.toList_inj.1
      rw [ByteArray.data_extract, Array.toList_extract, hj]
      simp
    have e2 : (joinB (x :: y :: r) comma).extract (((x.data.toList.length : Nat) : Int).toNat + comma.size) (joinB (x :: y :: r) comma).size = joinB (y :: r) comma := by
      apply ByteArray.ext
      apply Array.toList_inj.1
      have hs : (joinB (x :: y :: r) comma).size = x.data.toList.length + 1 + (joinB (y :: r) comma).data.toList.length := by
        rw [size_list, hj, List.length_append, List.length_cons]; omega
      have hc : comma.size = 1 := rfl
      rw [ByteArray.data_extract, Array.toList_extract, hj, hs, hc, Int.toNat_natCast]
      exact ext_tail _ _ _
    rw [e1, e2, ih]
end Go.Proofs.YtgaodlhdilhliaaGreatDoor.St

/-
  Texts of small numbers are read back. No condition.
-/
import Derived.Test.YtgaodlhdilhliaaGreatDoorRows
import Derived.Test.YtgaodlhdilhliaaGreatDoorSym
import Derived.Test.YtgaodlhdilhliaaGreatDoorSymE
import Derived.Test.YtgaodlhdilhliaaGreatDoorSymF
import Derived.Test.YtgaodlhdilhliaaGreatDoorIds
import Derived.Test.YtgaodlhdilhliaaGreatDoorSh
import Derived.Test.YtgaodlhdilhliaaGreatDoorSt
import Derived.Test.YtgaodlhdilhliaaGreatDoorNum
import Derived.Lib.AtoiAll
import Derived.WalkKit
import Derived.ProofKit
import Derived.OpenShut
namespace Go.Proofs.YtgaodlhdilhliaaGreatDoor.St
open Go.ChangeShapes Go.WideShapes Go.ChangeAt Go.RowKit Go.Sx Go.Proofs.YtgaodlhdilhliaaGreatDoor.Ids
set_option linter.unusedVariables false
set_option linter.unusedSimpArgs false

noncomputable def okIs (z : Int) : Lib.NumEnd Int → Bool
  | .ok v => bite (decide (v = z)) true false
  | _ => false
theorem okIs_eq {z : Int} {r : Lib.NumEnd Int} (h : okIs z r = true) : r = .ok z := by
  unfold okIs at h
  split at h
  · rename_i v
    rw [bite_eq] at h
    split at h
    · rename_i e; rw [of_decide_eq_true e]
    · cases h
  · cases h
set_option maxRecDepth 1000000 in
theorem pos_back : allTo (fun i => okIs (Int.ofNat i) (Lib.atoiAll ((digN i).map UInt8.ofNat))) 601 = true := by kernel_rfl
set_option maxRecDepth 1000000 in
theorem neg_back : allTo (fun i => okIs (Int.negSucc i) (Lib.atoiAll ((45 :: digN (i + 1)).map UInt8.ofNat))) 600 = true := by kernel_rfl
theorem text_back {z : Int} (h : -600 ≤ z ∧ z ≤ 600) : Lib.atoiAll (textZ z).data.toList = .ok z := by
  unfold textZ
  show Lib.atoiAll (Lib.itoa z) = _
  unfold Lib.itoa
  cases z with
  | ofNat i =>
    have hi : i ≤ 600 := by have h2 : (i : Int) ≤ 600 := h.2; omega
    rw [if_neg (by show ¬ (i : Int) < 0; omega)]
    show Lib.atoiAll (Lib.decDigits i) = _
    rw [digN_eq (by omega)]
    exact okIs_eq (allTo_ok pos_back i (by omega))
  | negSucc i =>
    have hi : i < 600 := by omega
    rw [if_pos (by omega)]
    show Lib.atoiAll (45 :: Lib.decDigits (i + 1)) = _
    rw [digN_eq (by omega)]
    exact okIs_eq (allTo_ok neg_back i (by omega))
end Go.Proofs.YtgaodlhdilhliaaGreatDoor.St

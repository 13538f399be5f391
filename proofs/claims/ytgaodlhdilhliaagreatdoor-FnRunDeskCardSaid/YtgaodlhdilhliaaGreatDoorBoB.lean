/-
  What the two sides make of a series: the same, by runs at symbols. No condition.
-/
import Derived.Test.YtgaodlhdilhliaaGreatDoorRows
import Derived.Test.YtgaodlhdilhliaaGreatDoorSym
import Derived.Test.YtgaodlhdilhliaaGreatDoorSymD
import Derived.Test.YtgaodlhdilhliaaGreatDoorSymE
import Derived.Test.YtgaodlhdilhliaaGreatDoorSymF
import Derived.Test.YtgaodlhdilhliaaGreatDoorIds
import Derived.Test.YtgaodlhdilhliaaGreatDoorSumm
import Derived.Test.YtgaodlhdilhliaaGreatDoorTel
import Derived.Test.YtgaodlhdilhliaaGreatDoorBo
import Derived.WalkKit
import Derived.ProofKit
import Derived.OpenShut
namespace Go.Proofs.YtgaodlhdilhliaaGreatDoor.Bo
open Go.ChangeShapes Go.WideShapes Go.ChangeAt Go.RowKit Go.Sx Go.Proofs.YtgaodlhdilhliaaGreatDoor.Ids Go.Proofs.YtgaodlhdilhliaaGreatDoor.Tel
set_option linter.unusedVariables false
set_option linter.unusedSimpArgs false

set_option maxRecDepth 1000000 in
theorem rev_1 : revC 1 = true := by kernel_rfl
set_option maxRecDepth 1000000 in
theorem rev_2 : revC 2 = true := by kernel_rfl
set_option maxRecDepth 1000000 in
theorem rev_3 : revC 3 = true := by kernel_rfl
set_option maxRecDepth 1000000 in
theorem rev_4 : revC 4 = true := by kernel_rfl
set_option maxRecDepth 1000000 in
theorem rev_5 : revC 5 = true := by kernel_rfl
set_option maxRecDepth 1000000 in
theorem rev_6 : revC 6 = true := by kernel_rfl
set_option maxRecDepth 1000000 in
theorem han_1 : hanC 1 = true := by kernel_rfl
set_option maxRecDepth 1000000 in
theorem han_2 : hanC 2 = true := by kernel_rfl
set_option maxRecDepth 1000000 in
theorem han_3 : hanC 3 = true := by kernel_rfl
set_option maxRecDepth 1000000 in
theorem han_4 : hanC 4 = true := by kernel_rfl
set_option maxRecDepth 1000000 in
theorem han_5 : hanC 5 = true := by kernel_rfl
set_option maxRecDepth 1000000 in
theorem han_6 : hanC 6 = true := by kernel_rfl
end Go.Proofs.YtgaodlhdilhliaaGreatDoor.Bo

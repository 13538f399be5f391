/-
  What the two sides make of a series: the same, by runs at symbols. No condition.
-/
import Derived.Test.YtgaodlhdilhliaaGreatDoorRows
import Derived.Test.YtgaodlhdilhliaaGreatDoorSym
import Derived.Test.YtgaodlhdilhliaaGreatDoorSymD
import Derived.Test.YtgaodlhdilhliaaGreatDoorSymE
import Derived.Test.YtgaodlhdilhliaaGreatDoorSymF
import Derived.Test.YtgaodlhdilhliaaGreatDoorIds
import Derived.Test.YtgaodlhdilhliaaGreatDoorSumm
import Derived.Test.YtgaodlhdilhliaaGreatDoorTel
import Derived.Test.YtgaodlhdilhliaaGreatDoorBo
import Derived.WalkKit
import Derived.ProofKit
import Derived.OpenShut
namespace Go.Proofs.YtgaodlhdilhliaaGreatDoor.Bo
open Go.ChangeShapes Go.WideShapes Go.ChangeAt Go.RowKit Go.Sx Go.Proofs.YtgaodlhdilhliaaGreatDoor.Ids Go.Proofs.YtgaodlhdilhliaaGreatDoor.Tel
set_option linter.unusedVariables false
set_option linter.unusedSimpArgs false

set_option maxRecDepth 1000000 in
theorem exp_1 : expC 1 = true := by kernel_rfl
set_option maxRecDepth 1000000 in
theorem exp_2 : expC 2 = true := by kernel_rfl
set_option maxRecDepth 1000000 in
theorem exp_3 : expC 3 = true := by kernel_rfl
set_option maxRecDepth 1000000 in
theorem exp_4 : expC 4 = true := by kernel_rfl
set_option maxRecDepth 1000000 in
theorem exp_5 : expC 5 = true := by kernel_rfl
set_option maxRecDepth 1000000 in
theorem exp_6 : expC 6 = true := by kernel_rfl
set_option maxRecDepth 1000000 in
theorem log_1 : logC 1 = true := by kernel_rfl
set_option maxRecDepth 1000000 in
theorem log_2 : logC 2 = true := by kernel_rfl
set_option maxRecDepth 1000000 in
theorem log_3 : logC 3 = true := by kernel_rfl
set_option maxRecDepth 1000000 in
theorem log_4 : logC 4 = true := by kernel_rfl
set_option maxRecDepth 1000000 in
theorem log_5 : logC 5 = true := by kernel_rfl
set_option maxRecDepth 1000000 in
theorem log_6 : logC 6 = true := by kernel_rfl
set_option maxRecDepth 1000000 in
theorem inv_1 : invC 1 = true := by kernel_rfl
set_option maxRecDepth 1000000 in
theorem inv_2 : invC 2 = true := by kernel_rfl
set_option maxRecDepth 1000000 in
theorem inv_3 : invC 3 = true := by kernel_rfl
set_option maxRecDepth 1000000 in
theorem inv_4 : invC 4 = true := by kernel_rfl
set_option maxRecDepth 1000000 in
theorem inv_5 : invC 5 = true := by kernel_rfl
set_option maxRecDepth 1000000 in
theorem inv_6 : invC 6 = true := by kernel_rfl
end Go.Proofs.YtgaodlhdilhliaaGreatDoor.Bo

/-
  What the two sides make of a series: the same, by runs at symbols. No condition.
-/
import Derived.Test.YtgaodlhdilhliaaGreatDoorRows
import Derived.Test.YtgaodlhdilhliaaGreatDoorSym
import Derived.Test.YtgaodlhdilhliaaGreatDoorSymD
import Derived.Test.YtgaodlhdilhliaaGreatDoorSymE
import Derived.Test.YtgaodlhdilhliaaGreatDoorSymF
import Derived.Test.YtgaodlhdilhliaaGreatDoorIds
import Derived.Test.YtgaodlhdilhliaaGreatDoorSumm
import Derived.Test.YtgaodlhdilhliaaGreatDoorTel
import Derived.Test.YtgaodlhdilhliaaGreatDoorBo
import Derived.WalkKit
import Derived.ProofKit
import Derived.OpenShut
namespace Go.Proofs.YtgaodlhdilhliaaGreatDoor.Bo
open Go.ChangeShapes Go.WideShapes Go.ChangeAt Go.RowKit Go.Sx Go.Proofs.YtgaodlhdilhliaaGreatDoor.Ids Go.Proofs.YtgaodlhdilhliaaGreatDoor.Tel
set_option linter.unusedVariables false
set_option linter.unusedSimpArgs false

set_option maxRecDepth 1000000 in
theorem bin_1 : binC 1 = true := by kernel_rfl
set_option maxRecDepth 1000000 in
theorem bin_2 : binC 2 = true := by kernel_rfl
set_option maxRecDepth 1000000 in
theorem bin_3 : binC 3 = true := by kernel_rfl
set_option maxRecDepth 1000000 in
theorem bin_4 : binC 4 = true := by kernel_rfl
set_option maxRecDepth 1000000 in
theorem bin_5 : binC 5 = true := by kernel_rfl
set_option maxRecDepth 1000000 in
theorem bin_6 : binC 6 = true := by kernel_rfl

set_option maxRecDepth 1000000 in
theorem zig_1 : zigC 1 = true := by kernel_rfl
set_option maxRecDepth 1000000 in
theorem zig_2 : zigC 2 = true := by kernel_rfl
set_option maxRecDepth 1000000 in
theorem zig_3 : zigC 3 = true := by kernel_rfl
set_option maxRecDepth 1000000 in
theorem zig_4 : zigC 4 = true := by kernel_rfl
set_option maxRecDepth 1000000 in
theorem zig_5 : zigC 5 = true := by kernel_rfl
end Go.Proofs.YtgaodlhdilhliaaGreatDoor.Bo

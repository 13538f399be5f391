/-
  What the two sides make of a series: the same, by runs at symbols. No condition.
-/
import Derived.Test.YtgaodlhdilhliaaGreatDoorRows
import Derived.Test.YtgaodlhdilhliaaGreatDoorSym
import Derived.Test.YtgaodlhdilhliaaGreatDoorSymD
import Derived.Test.YtgaodlhdilhliaaGreatDoorSymE
import Derived.Test.YtgaodlhdilhliaaGreatDoorSymF
import Derived.Test.YtgaodlhdilhliaaGreatDoorIds
import Derived.Test.YtgaodlhdilhliaaGreatDoorSumm
import Derived.Test.YtgaodlhdilhliaaGreatDoorTel
import Derived.Test.YtgaodlhdilhliaaGreatDoorBo
import Derived.WalkKit
import Derived.ProofKit
import Derived.OpenShut
namespace Go.Proofs.YtgaodlhdilhliaaGreatDoor.Bo
open Go.ChangeShapes Go.WideShapes Go.ChangeAt Go.RowKit Go.Sx Go.Proofs.YtgaodlhdilhliaaGreatDoor.Ids Go.Proofs.YtgaodlhdilhliaaGreatDoor.Tel
set_option linter.unusedVariables false
set_option linter.unusedSimpArgs false

set_option maxRecDepth 1000000 in
theorem zig_6_4 : chkN (btAt 41 51 [] 6) (zigT 6) 4 (vxs 6) [] [] = true := by kernel_rfl
set_option maxRecDepth 1000000 in
theorem zig_6_5 : chkN (btAt 41 51 [] 6) (zigT 6) 5 (vxs 6) [] [] = true := by kernel_rfl
set_option maxRecDepth 1000000 in
theorem zig_6_6 : chkN (btAt 41 51 [] 6) (zigT 6) 6 (vxs 6) [] [] = true := by kernel_rfl
set_option maxRecDepth 1000000 in
theorem zig_6_7 : chkN (btAt 41 51 [] 6) (zigT 6) 7 (vxs 6) [] [] = true := by kernel_rfl

set_option maxRecDepth 1000000 in
theorem zig_6_8 : chkN (btAt 41 51 [] 6) (zigT 6) 8 (vxs 6) [] [] = true := by kernel_rfl
set_option maxRecDepth 1000000 in
theorem zig_6_9 : chkN (btAt 41 51 [] 6) (zigT 6) 9 (vxs 6) [] [] = true := by kernel_rfl
set_option maxRecDepth 1000000 in
theorem zig_6_10 : chkN (btAt 41 51 [] 6) (zigT 6) 10 (vxs 6) [] [] = true := by kernel_rfl
end Go.Proofs.YtgaodlhdilhliaaGreatDoor.Bo

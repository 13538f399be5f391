/-
  A part of the proof of FnSumOverParts: cases of its law, each a run. No condition.
-/
import Derived.Test.YthcecobiidgeoaaDSumOverPartsA
namespace Go.Proofs.Ythcecobiidgeoaa.DSumOverParts
open Go.ChangeShapes Go.WideShapes Go.ChangeAt Go.RowKit Go.Sx Go.Proofs.Ythcecobiidgeoaa.Ids
set_option linter.unusedVariables false
set_option linter.unusedSimpArgs false

set_option maxRecDepth 1000000 in
theorem b_00_0 : law.blk Try.prog ids Summs.tab 200 [0, 0] 0 1 = true := by kernel_rfl
set_option maxRecDepth 1000000 in
theorem b_01_0 : law.blk Try.prog ids Summs.tab 200 [0, 1] 0 1 = true := by kernel_rfl
set_option maxRecDepth 1000000 in
theorem b_10_0 : law.blk Try.prog ids Summs.tab 200 [1, 0] 0 1 = true := by kernel_rfl
set_option maxRecDepth 1000000 in
theorem b_10_1 : law.blk Try.prog ids Summs.tab 200 [1, 0] 1 1 = true := by kernel_rfl
set_option maxRecDepth 1000000 in
theorem b_11_0 : law.blk Try.prog ids Summs.tab 200 [1, 1] 0 1 = true := by kernel_rfl
set_option maxRecDepth 1000000 in
theorem b_11_1 : law.blk Try.prog ids Summs.tab 200 [1, 1] 1 1 = true := by kernel_rfl
set_option maxRecDepth 1000000 in
theorem b_11_2 : law.blk Try.prog ids Summs.tab 200 [1, 1] 2 1 = true := by kernel_rfl
set_option maxRecDepth 1000000 in
theorem b_11_3 : law.blk Try.prog ids Summs.tab 200 [1, 1] 3 1 = true := by kernel_rfl
end Go.Proofs.Ythcecobiidgeoaa.DSumOverParts

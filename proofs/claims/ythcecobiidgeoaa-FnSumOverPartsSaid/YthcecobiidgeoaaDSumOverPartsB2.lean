/-
  A part of the proof of FnSumOverParts: cases of its law, each a run. No condition.
-/
import Derived.Test.YthcecobiidgeoaaDSumOverPartsA
namespace Go.Proofs.Ythcecobiidgeoaa.DSumOverParts
open Go.ChangeShapes Go.WideShapes Go.ChangeAt Go.RowKit Go.Sx Go.Proofs.Ythcecobiidgeoaa.Ids
set_option linter.unusedVariables false
set_option linter.unusedSimpArgs false

set_option maxRecDepth 1000000 in
theorem b_11_12 : law.blk Try.prog ids Summs.tab 200 [1, 1] 12 1 = true := by kernel_rfl
set_option maxRecDepth 1000000 in
theorem b_11_13 : law.blk Try.prog ids Summs.tab 200 [1, 1] 13 1 = true := by kernel_rfl
set_option maxRecDepth 1000000 in
theorem b_11_14 : law.blk Try.prog ids Summs.tab 200 [1, 1] 14 1 = true := by kernel_rfl
set_option maxRecDepth 1000000 in
theorem b_11_15 : law.blk Try.prog ids Summs.tab 200 [1, 1] 15 1 = true := by kernel_rfl
set_option maxRecDepth 1000000 in
theorem b_11_16 : law.blk Try.prog ids Summs.tab 200 [1, 1] 16 1 = true := by kernel_rfl
end Go.Proofs.Ythcecobiidgeoaa.DSumOverParts

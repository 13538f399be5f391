/-
  A part of the proof of FnSumOverParts: cases of its law, each a run. No condition.
-/
import Derived.Test.YthcecobiidgeoaaDSumOverPartsA
namespace Go.Proofs.Ythcecobiidgeoaa.DSumOverParts
open Go.ChangeShapes Go.WideShapes Go.ChangeAt Go.RowKit Go.Sx Go.Proofs.Ythcecobiidgeoaa.Ids
set_option linter.unusedVariables false
set_option linter.unusedSimpArgs false

set_option maxRecDepth 1000000 in
theorem b_11_4 : law.blk Try.prog ids Summs.tab 200 [1, 1] 4 1 = true := by kernel_rfl
set_option maxRecDepth 1000000 in
theorem b_11_5 : law.blk Try.prog ids Summs.tab 200 [1, 1] 5 1 = true := by kernel_rfl
set_option maxRecDepth 1000000 in
theorem b_11_6 : law.blk Try.prog ids Summs.tab 200 [1, 1] 6 1 = true := by kernel_rfl
set_option maxRecDepth 1000000 in
theorem b_11_7 : law.blk Try.prog ids Summs.tab 200 [1, 1] 7 1 = true := by kernel_rfl
set_option maxRecDepth 1000000 in
theorem b_11_8 : law.blk Try.prog ids Summs.tab 200 [1, 1] 8 1 = true := by kernel_rfl
set_option maxRecDepth 1000000 in
theorem b_11_9 : law.blk Try.prog ids Summs.tab 200 [1, 1] 9 1 = true := by kernel_rfl
set_option maxRecDepth 1000000 in
theorem b_11_10 : law.blk Try.prog ids Summs.tab 200 [1, 1] 10 1 = true := by kernel_rfl
set_option maxRecDepth 1000000 in
theorem b_11_11 : law.blk Try.prog ids Summs.tab 200 [1, 1] 11 1 = true := by kernel_rfl
end Go.Proofs.Ythcecobiidgeoaa.DSumOverParts

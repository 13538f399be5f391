/-
  A part of the proof of FnExactTransformBy: cases of its law, each a run. No condition.
-/
import Derived.Test.YtjodjcmdlbhciaaETransformByA
namespace Go.Proofs.Ytjodjcmdlbhciaa.ETransformBy
open Go.ChangeShapes Go.WideShapes Go.ChangeAt Go.RowKit Go.Sx Go.Proofs.Ytjodjcmdlbhciaa.Ids
set_option linter.unusedVariables false
set_option linter.unusedSimpArgs false

set_option maxRecDepth 1000000 in
theorem b_111_204 : law.blk Try.prog ids Summs.tab 60 [1, 1, 1] 204 4 = true := by kernel_rfl
set_option maxRecDepth 1000000 in
theorem b_111_208 : law.blk Try.prog ids Summs.tab 60 [1, 1, 1] 208 4 = true := by kernel_rfl
set_option maxRecDepth 1000000 in
theorem b_111_212 : law.blk Try.prog ids Summs.tab 60 [1, 1, 1] 212 4 = true := by kernel_rfl
set_option maxRecDepth 1000000 in
theorem b_111_216 : law.blk Try.prog ids Summs.tab 60 [1, 1, 1] 216 4 = true := by kernel_rfl
set_option maxRecDepth 1000000 in
theorem b_111_220 : law.blk Try.prog ids Summs.tab 60 [1, 1, 1] 220 4 = true := by kernel_rfl
set_option maxRecDepth 1000000 in
theorem b_111_224 : law.blk Try.prog ids Summs.tab 60 [1, 1, 1] 224 4 = true := by kernel_rfl
set_option maxRecDepth 1000000 in
theorem b_111_228 : law.blk Try.prog ids Summs.tab 60 [1, 1, 1] 228 4 = true := by kernel_rfl
set_option maxRecDepth 1000000 in
theorem b_111_232 : law.blk Try.prog ids Summs.tab 60 [1, 1, 1] 232 4 = true := by kernel_rfl
set_option maxRecDepth 1000000 in
theorem b_111_236 : law.blk Try.prog ids Summs.tab 60 [1, 1, 1] 236 4 = true := by kernel_rfl
set_option maxRecDepth 1000000 in
theorem b_111_240 : law.blk Try.prog ids Summs.tab 60 [1, 1, 1] 240 4 = true := by kernel_rfl
set_option maxRecDepth 1000000 in
theorem b_111_244 : law.blk Try.prog ids Summs.tab 60 [1, 1, 1] 244 4 = true := by kernel_rfl
set_option maxRecDepth 1000000 in
theorem b_111_248 : law.blk Try.prog ids Summs.tab 60 [1, 1, 1] 248 4 = true := by kernel_rfl
set_option maxRecDepth 1000000 in
theorem b_111_252 : law.blk Try.prog ids Summs.tab 60 [1, 1, 1] 252 4 = true := by kernel_rfl
set_option maxRecDepth 1000000 in
theorem b_111_256 : law.blk Try.prog ids Summs.tab 60 [1, 1, 1] 256 4 = true := by kernel_rfl
set_option maxRecDepth 1000000 in
theorem b_111_260 : law.blk Try.prog ids Summs.tab 60 [1, 1, 1] 260 4 = true := by kernel_rfl
end Go.Proofs.Ytjodjcmdlbhciaa.ETransformBy

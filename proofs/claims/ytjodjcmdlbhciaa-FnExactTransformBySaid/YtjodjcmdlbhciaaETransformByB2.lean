/-
  A part of the proof of FnExactTransformBy: cases of its law, each a run. No condition.
-/
import Derived.Test.YtjodjcmdlbhciaaETransformByA
namespace Go.Proofs.Ytjodjcmdlbhciaa.ETransformBy
open Go.ChangeShapes Go.WideShapes Go.ChangeAt Go.RowKit Go.Sx Go.Proofs.Ytjodjcmdlbhciaa.Ids
set_option linter.unusedVariables false
set_option linter.unusedSimpArgs false

set_option maxRecDepth 1000000 in
theorem b_111_112 : law.blk Try.prog ids Summs.tab 60 [1, 1, 1] 112 4 = true := by kernel_rfl
set_option maxRecDepth 1000000 in
theorem b_111_116 : law.blk Try.prog ids Summs.tab 60 [1, 1, 1] 116 4 = true := by kernel_rfl
set_option maxRecDepth 1000000 in
theorem b_111_120 : law.blk Try.prog ids Summs.tab 60 [1, 1, 1] 120 4 = true := by kernel_rfl
set_option maxRecDepth 1000000 in
theorem b_111_124 : law.blk Try.prog ids Summs.tab 60 [1, 1, 1] 124 4 = true := by kernel_rfl
set_option maxRecDepth 1000000 in
theorem b_111_128 : law.blk Try.prog ids Summs.tab 60 [1, 1, 1] 128 4 = true := by kernel_rfl
set_option maxRecDepth 1000000 in
theorem b_111_132 : law.blk Try.prog ids Summs.tab 60 [1, 1, 1] 132 4 = true := by kernel_rfl
set_option maxRecDepth 1000000 in
theorem b_111_136 : law.blk Try.prog ids Summs.tab 60 [1, 1, 1] 136 4 = true := by kernel_rfl
set_option maxRecDepth 1000000 in
theorem b_111_140 : law.blk Try.prog ids Summs.tab 60 [1, 1, 1] 140 4 = true := by kernel_rfl
set_option maxRecDepth 1000000 in
theorem b_111_144 : law.blk Try.prog ids Summs.tab 60 [1, 1, 1] 144 4 = true := by kernel_rfl
set_option maxRecDepth 1000000 in
theorem b_111_148 : law.blk Try.prog ids Summs.tab 60 [1, 1, 1] 148 4 = true := by kernel_rfl
set_option maxRecDepth 1000000 in
theorem b_111_152 : law.blk Try.prog ids Summs.tab 60 [1, 1, 1] 152 4 = true := by kernel_rfl
set_option maxRecDepth 1000000 in
theorem b_111_156 : law.blk Try.prog ids Summs.tab 60 [1, 1, 1] 156 4 = true := by kernel_rfl
set_option maxRecDepth 1000000 in
theorem b_111_160 : law.blk Try.prog ids Summs.tab 60 [1, 1, 1] 160 4 = true := by kernel_rfl
set_option maxRecDepth 1000000 in
theorem b_111_164 : law.blk Try.prog ids Summs.tab 60 [1, 1, 1] 164 4 = true := by kernel_rfl
set_option maxRecDepth 1000000 in
theorem b_111_168 : law.blk Try.prog ids Summs.tab 60 [1, 1, 1] 168 4 = true := by kernel_rfl
set_option maxRecDepth 1000000 in
theorem b_111_172 : law.blk Try.prog ids Summs.tab 60 [1, 1, 1] 172 4 = true := by kernel_rfl
set_option maxRecDepth 1000000 in
theorem b_111_176 : law.blk Try.prog ids Summs.tab 60 [1, 1, 1] 176 4 = true := by kernel_rfl
set_option maxRecDepth 1000000 in
theorem b_111_180 : law.blk Try.prog ids Summs.tab 60 [1, 1, 1] 180 4 = true := by kernel_rfl
set_option maxRecDepth 1000000 in
theorem b_111_184 : law.blk Try.prog ids Summs.tab 60 [1, 1, 1] 184 4 = true := by kernel_rfl
set_option maxRecDepth 1000000 in
theorem b_111_188 : law.blk Try.prog ids Summs.tab 60 [1, 1, 1] 188 4 = true := by kernel_rfl
set_option maxRecDepth 1000000 in
theorem b_111_192 : law.blk Try.prog ids Summs.tab 60 [1, 1, 1] 192 4 = true := by kernel_rfl
set_option maxRecDepth 1000000 in
theorem b_111_196 : law.blk Try.prog ids Summs.tab 60 [1, 1, 1] 196 4 = true := by kernel_rfl
set_option maxRecDepth 1000000 in
theorem b_111_200 : law.blk Try.prog ids Summs.tab 60 [1, 1, 1] 200 4 = true := by kernel_rfl
end Go.Proofs.Ytjodjcmdlbhciaa.ETransformBy

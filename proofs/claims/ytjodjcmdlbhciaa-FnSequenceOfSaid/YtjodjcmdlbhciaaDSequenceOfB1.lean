/-
  A part of the proof of FnSequenceOf: cases of its law, each a run. No condition.
-/
import Derived.Test.YtjodjcmdlbhciaaDSequenceOfA
namespace Go.Proofs.Ytjodjcmdlbhciaa.DSequenceOf
open Go.ChangeShapes Go.WideShapes Go.ChangeAt Go.RowKit Go.Sx Go.Proofs.Ytjodjcmdlbhciaa.Ids
set_option linter.unusedVariables false
set_option linter.unusedSimpArgs false

set_option maxRecDepth 1000000 in
theorem b_11_136 : law.blk Try.prog ids Summs.tab 60 [1, 1] 136 8 = true := by kernel_rfl
set_option maxRecDepth 1000000 in
theorem b_11_144 : law.blk Try.prog ids Summs.tab 60 [1, 1] 144 8 = true := by kernel_rfl
set_option maxRecDepth 1000000 in
theorem b_11_152 : law.blk Try.prog ids Summs.tab 60 [1, 1] 152 8 = true := by kernel_rfl
set_option maxRecDepth 1000000 in
theorem b_11_160 : law.blk Try.prog ids Summs.tab 60 [1, 1] 160 8 = true := by kernel_rfl
set_option maxRecDepth 1000000 in
theorem b_11_168 : law.blk Try.prog ids Summs.tab 60 [1, 1] 168 8 = true := by kernel_rfl
set_option maxRecDepth 1000000 in
theorem b_11_176 : law.blk Try.prog ids Summs.tab 60 [1, 1] 176 8 = true := by kernel_rfl
set_option maxRecDepth 1000000 in
theorem b_11_184 : law.blk Try.prog ids Summs.tab 60 [1, 1] 184 8 = true := by kernel_rfl
set_option maxRecDepth 1000000 in
theorem b_11_192 : law.blk Try.prog ids Summs.tab 60 [1, 1] 192 8 = true := by kernel_rfl
set_option maxRecDepth 1000000 in
theorem b_11_200 : law.blk Try.prog ids Summs.tab 60 [1, 1] 200 8 = true := by kernel_rfl
set_option maxRecDepth 1000000 in
theorem b_11_208 : law.blk Try.prog ids Summs.tab 60 [1, 1] 208 8 = true := by kernel_rfl
set_option maxRecDepth 1000000 in
theorem b_11_216 : law.blk Try.prog ids Summs.tab 60 [1, 1] 216 8 = true := by kernel_rfl
set_option maxRecDepth 1000000 in
theorem b_11_224 : law.blk Try.prog ids Summs.tab 60 [1, 1] 224 8 = true := by kernel_rfl
set_option maxRecDepth 1000000 in
theorem b_11_232 : law.blk Try.prog ids Summs.tab 60 [1, 1] 232 8 = true := by kernel_rfl
set_option maxRecDepth 1000000 in
theorem b_11_240 : law.blk Try.prog ids Summs.tab 60 [1, 1] 240 8 = true := by kernel_rfl
set_option maxRecDepth 1000000 in
theorem b_11_248 : law.blk Try.prog ids Summs.tab 60 [1, 1] 248 8 = true := by kernel_rfl
set_option maxRecDepth 1000000 in
theorem b_11_256 : law.blk Try.prog ids Summs.tab 60 [1, 1] 256 8 = true := by kernel_rfl
set_option maxRecDepth 1000000 in
theorem b_11_264 : law.blk Try.prog ids Summs.tab 60 [1, 1] 264 8 = true := by kernel_rfl
set_option maxRecDepth 1000000 in
theorem b_11_272 : law.blk Try.prog ids Summs.tab 60 [1, 1] 272 8 = true := by kernel_rfl
end Go.Proofs.Ytjodjcmdlbhciaa.DSequenceOf

/-
  A part of the proof of FnExactIsMirror: cases of its law, each a run. No condition.
-/
import Derived.Test.YtjodjcmdlbhciaaEIsMirrorA
namespace Go.Proofs.Ytjodjcmdlbhciaa.EIsMirror
open Go.ChangeShapes Go.WideShapes Go.ChangeAt Go.RowKit Go.Sx Go.Proofs.Ytjodjcmdlbhciaa.Ids
set_option linter.unusedVariables false
set_option linter.unusedSimpArgs false

set_option maxRecDepth 1000000 in
theorem b_11_112 : law.blk Try.prog ids Summs.tab 60 [1, 1] 112 4 = true := by kernel_rfl
set_option maxRecDepth 1000000 in
theorem b_11_116 : law.blk Try.prog ids Summs.tab 60 [1, 1] 116 4 = true := by kernel_rfl
set_option maxRecDepth 1000000 in
theorem b_11_120 : law.blk Try.prog ids Summs.tab 60 [1, 1] 120 4 = true := by kernel_rfl
set_option maxRecDepth 1000000 in
theorem b_11_124 : law.blk Try.prog ids Summs.tab 60 [1, 1] 124 4 = true := by kernel_rfl
set_option maxRecDepth 1000000 in
theorem b_11_128 : law.blk Try.prog ids Summs.tab 60 [1, 1] 128 4 = true := by kernel_rfl
set_option maxRecDepth 1000000 in
theorem b_11_132 : law.blk Try.prog ids Summs.tab 60 [1, 1] 132 4 = true := by kernel_rfl
set_option maxRecDepth 1000000 in
theorem b_11_136 : law.blk Try.prog ids Summs.tab 60 [1, 1] 136 4 = true := by kernel_rfl
set_option maxRecDepth 1000000 in
theorem b_11_140 : law.blk Try.prog ids Summs.tab 60 [1, 1] 140 4 = true := by kernel_rfl
set_option maxRecDepth 1000000 in
theorem b_11_144 : law.blk Try.prog ids Summs.tab 60 [1, 1] 144 4 = true := by kernel_rfl
set_option maxRecDepth 1000000 in
theorem b_11_148 : law.blk Try.prog ids Summs.tab 60 [1, 1] 148 4 = true := by kernel_rfl
set_option maxRecDepth 1000000 in
theorem b_11_152 : law.blk Try.prog ids Summs.tab 60 [1, 1] 152 4 = true := by kernel_rfl
set_option maxRecDepth 1000000 in
theorem b_11_156 : law.blk Try.prog ids Summs.tab 60 [1, 1] 156 4 = true := by kernel_rfl
set_option maxRecDepth 1000000 in
theorem b_11_160 : law.blk Try.prog ids Summs.tab 60 [1, 1] 160 4 = true := by kernel_rfl
set_option maxRecDepth 1000000 in
theorem b_11_164 : law.blk Try.prog ids Summs.tab 60 [1, 1] 164 4 = true := by kernel_rfl
set_option maxRecDepth 1000000 in
theorem b_11_168 : law.blk Try.prog ids Summs.tab 60 [1, 1] 168 4 = true := by kernel_rfl
set_option maxRecDepth 1000000 in
theorem b_11_172 : law.blk Try.prog ids Summs.tab 60 [1, 1] 172 4 = true := by kernel_rfl
set_option maxRecDepth 1000000 in
theorem b_11_176 : law.blk Try.prog ids Summs.tab 60 [1, 1] 176 4 = true := by kernel_rfl
set_option maxRecDepth 1000000 in
theorem b_11_180 : law.blk Try.prog ids Summs.tab 60 [1, 1] 180 4 = true := by kernel_rfl
set_option maxRecDepth 1000000 in
theorem b_11_184 : law.blk Try.prog ids Summs.tab 60 [1, 1] 184 4 = true := by kernel_rfl
set_option maxRecDepth 1000000 in
theorem b_11_188 : law.blk Try.prog ids Summs.tab 60 [1, 1] 188 4 = true := by kernel_rfl
set_option maxRecDepth 1000000 in
theorem b_11_192 : law.blk Try.prog ids Summs.tab 60 [1, 1] 192 4 = true := by kernel_rfl
set_option maxRecDepth 1000000 in
theorem b_11_196 : law.blk Try.prog ids Summs.tab 60 [1, 1] 196 4 = true := by kernel_rfl
set_option maxRecDepth 1000000 in
theorem b_11_200 : law.blk Try.prog ids Summs.tab 60 [1, 1] 200 4 = true := by kernel_rfl
set_option maxRecDepth 1000000 in
theorem b_11_204 : law.blk Try.prog ids Summs.tab 60 [1, 1] 204 4 = true := by kernel_rfl
set_option maxRecDepth 1000000 in
theorem b_11_208 : law.blk Try.prog ids Summs.tab 60 [1, 1] 208 4 = true := by kernel_rfl
set_option maxRecDepth 1000000 in
theorem b_11_212 : law.blk Try.prog ids Summs.tab 60 [1, 1] 212 4 = true := by kernel_rfl
set_option maxRecDepth 1000000 in
theorem b_11_216 : law.blk Try.prog ids Summs.tab 60 [1, 1] 216 4 = true := by kernel_rfl
set_option maxRecDepth 1000000 in
theorem b_11_220 : law.blk Try.prog ids Summs.tab 60 [1, 1] 220 4 = true := by kernel_rfl
set_option maxRecDepth 1000000 in
theorem b_11_224 : law.blk Try.prog ids Summs.tab 60 [1, 1] 224 4 = true := by kernel_rfl
end Go.Proofs.Ytjodjcmdlbhciaa.EIsMirror

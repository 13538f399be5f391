/-
  A part of the proof of FnExactMultiplyPairs: cases of its law, each a run. No condition.
-/
import Derived.Test.YtjodjcmdlbhciaaEMultiplyPairsA
namespace Go.Proofs.Ytjodjcmdlbhciaa.EMultiplyPairs
open Go.ChangeShapes Go.WideShapes Go.ChangeAt Go.RowKit Go.Sx Go.Proofs.Ytjodjcmdlbhciaa.Ids
set_option linter.unusedVariables false
set_option linter.unusedSimpArgs false

set_option maxRecDepth 1000000 in
theorem b_1111_92 : law.blk Try.prog ids Summs.tab 60 [1, 1, 1, 1] 92 4 = true := by kernel_rfl
set_option maxRecDepth 1000000 in
theorem b_1111_96 : law.blk Try.prog ids Summs.tab 60 [1, 1, 1, 1] 96 4 = true := by kernel_rfl
set_option maxRecDepth 1000000 in
theorem b_1111_100 : law.blk Try.prog ids Summs.tab 60 [1, 1, 1, 1] 100 4 = true := by kernel_rfl
set_option maxRecDepth 1000000 in
theorem b_1111_104 : law.blk Try.prog ids Summs.tab 60 [1, 1, 1, 1] 104 4 = true := by kernel_rfl
set_option maxRecDepth 1000000 in
theorem b_1111_108 : law.blk Try.prog ids Summs.tab 60 [1, 1, 1, 1] 108 4 = true := by kernel_rfl
set_option maxRecDepth 1000000 in
theorem b_1111_112 : law.blk Try.prog ids Summs.tab 60 [1, 1, 1, 1] 112 4 = true := by kernel_rfl
set_option maxRecDepth 1000000 in
theorem b_1111_116 : law.blk Try.prog ids Summs.tab 60 [1, 1, 1, 1] 116 4 = true := by kernel_rfl
set_option maxRecDepth 1000000 in
theorem b_1111_120 : law.blk Try.prog ids Summs.tab 60 [1, 1, 1, 1] 120 4 = true := by kernel_rfl
set_option maxRecDepth 1000000 in
theorem b_1111_124 : law.blk Try.prog ids Summs.tab 60 [1, 1, 1, 1] 124 4 = true := by kernel_rfl
set_option maxRecDepth 1000000 in
theorem b_1111_128 : law.blk Try.prog ids Summs.tab 60 [1, 1, 1, 1] 128 4 = true := by kernel_rfl
set_option maxRecDepth 1000000 in
theorem b_1111_132 : law.blk Try.prog ids Summs.tab 60 [1, 1, 1, 1] 132 4 = true := by kernel_rfl
set_option maxRecDepth 1000000 in
theorem b_1111_136 : law.blk Try.prog ids Summs.tab 60 [1, 1, 1, 1] 136 4 = true := by kernel_rfl
set_option maxRecDepth 1000000 in
theorem b_1111_140 : law.blk Try.prog ids Summs.tab 60 [1, 1, 1, 1] 140 4 = true := by kernel_rfl
set_option maxRecDepth 1000000 in
theorem b_1111_144 : law.blk Try.prog ids Summs.tab 60 [1, 1, 1, 1] 144 4 = true := by kernel_rfl
set_option maxRecDepth 1000000 in
theorem b_1111_148 : law.blk Try.prog ids Summs.tab 60 [1, 1, 1, 1] 148 4 = true := by kernel_rfl
set_option maxRecDepth 1000000 in
theorem b_1111_152 : law.blk Try.prog ids Summs.tab 60 [1, 1, 1, 1] 152 4 = true := by kernel_rfl
set_option maxRecDepth 1000000 in
theorem b_1111_156 : law.blk Try.prog ids Summs.tab 60 [1, 1, 1, 1] 156 4 = true := by kernel_rfl
set_option maxRecDepth 1000000 in
theorem b_1111_160 : law.blk Try.prog ids Summs.tab 60 [1, 1, 1, 1] 160 4 = true := by kernel_rfl
set_option maxRecDepth 1000000 in
theorem b_1111_164 : law.blk Try.prog ids Summs.tab 60 [1, 1, 1, 1] 164 4 = true := by kernel_rfl
set_option maxRecDepth 1000000 in
theorem b_1111_168 : law.blk Try.prog ids Summs.tab 60 [1, 1, 1, 1] 168 4 = true := by kernel_rfl
set_option maxRecDepth 1000000 in
theorem b_1111_172 : law.blk Try.prog ids Summs.tab 60 [1, 1, 1, 1] 172 4 = true := by kernel_rfl
set_option maxRecDepth 1000000 in
theorem b_1111_176 : law.blk Try.prog ids Summs.tab 60 [1, 1, 1, 1] 176 4 = true := by kernel_rfl
set_option maxRecDepth 1000000 in
theorem b_1111_180 : law.blk Try.prog ids Summs.tab 60 [1, 1, 1, 1] 180 4 = true := by kernel_rfl
set_option maxRecDepth 1000000 in
theorem b_1111_184 : law.blk Try.prog ids Summs.tab 60 [1, 1, 1, 1] 184 4 = true := by kernel_rfl
set_option maxRecDepth 1000000 in
theorem b_1111_188 : law.blk Try.prog ids Summs.tab 60 [1, 1, 1, 1] 188 4 = true := by kernel_rfl
set_option maxRecDepth 1000000 in
theorem b_1111_192 : law.blk Try.prog ids Summs.tab 60 [1, 1, 1, 1] 192 4 = true := by kernel_rfl
set_option maxRecDepth 1000000 in
theorem b_1111_196 : law.blk Try.prog ids Summs.tab 60 [1, 1, 1, 1] 196 4 = true := by kernel_rfl
set_option maxRecDepth 1000000 in
theorem b_1111_200 : law.blk Try.prog ids Summs.tab 60 [1, 1, 1, 1] 200 4 = true := by kernel_rfl
set_option maxRecDepth 1000000 in
theorem b_1111_204 : law.blk Try.prog ids Summs.tab 60 [1, 1, 1, 1] 204 4 = true := by kernel_rfl
set_option maxRecDepth 1000000 in
theorem b_1111_208 : law.blk Try.prog ids Summs.tab 60 [1, 1, 1, 1] 208 4 = true := by kernel_rfl
set_option maxRecDepth 1000000 in
theorem b_1111_212 : law.blk Try.prog ids Summs.tab 60 [1, 1, 1, 1] 212 4 = true := by kernel_rfl
set_option maxRecDepth 1000000 in
theorem b_1111_216 : law.blk Try.prog ids Summs.tab 60 [1, 1, 1, 1] 216 4 = true := by kernel_rfl
set_option maxRecDepth 1000000 in
theorem b_1111_220 : law.blk Try.prog ids Summs.tab 60 [1, 1, 1, 1] 220 4 = true := by kernel_rfl
set_option maxRecDepth 1000000 in
theorem b_1111_224 : law.blk Try.prog ids Summs.tab 60 [1, 1, 1, 1] 224 4 = true := by kernel_rfl
set_option maxRecDepth 1000000 in
theorem b_1111_228 : law.blk Try.prog ids Summs.tab 60 [1, 1, 1, 1] 228 4 = true := by kernel_rfl
set_option maxRecDepth 1000000 in
theorem b_1111_232 : law.blk Try.prog ids Summs.tab 60 [1, 1, 1, 1] 232 4 = true := by kernel_rfl
set_option maxRecDepth 1000000 in
theorem b_1111_236 : law.blk Try.prog ids Summs.tab 60 [1, 1, 1, 1] 236 4 = true := by kernel_rfl
set_option maxRecDepth 1000000 in
theorem b_1111_240 : law.blk Try.prog ids Summs.tab 60 [1, 1, 1, 1] 240 4 = true := by kernel_rfl
end Go.Proofs.Ytjodjcmdlbhciaa.EMultiplyPairs

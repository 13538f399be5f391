/-
  A part of the proof of FnTransformBy: cases of its law, each a run. No condition.
-/
import Derived.Test.YtjodjcmdlbhciaaDTransformByA
namespace Go.Proofs.Ytjodjcmdlbhciaa.DTransformBy
open Go.ChangeShapes Go.WideShapes Go.ChangeAt Go.RowKit Go.Sx Go.Proofs.Ytjodjcmdlbhciaa.Ids
set_option linter.unusedVariables false
set_option linter.unusedSimpArgs false

set_option maxRecDepth 1000000 in
theorem b_111_108 : law.blk Try.prog ids Summs.tab 60 [1, 1, 1] 108 2 = true := by kernel_rfl
set_option maxRecDepth 1000000 in
theorem b_111_110 : law.blk Try.prog ids Summs.tab 60 [1, 1, 1] 110 2 = true := by kernel_rfl
set_option maxRecDepth 1000000 in
theorem b_111_112 : law.blk Try.prog ids Summs.tab 60 [1, 1, 1] 112 2 = true := by kernel_rfl
set_option maxRecDepth 1000000 in
theorem b_111_114 : law.blk Try.prog ids Summs.tab 60 [1, 1, 1] 114 2 = true := by kernel_rfl
set_option maxRecDepth 1000000 in
theorem b_111_116 : law.blk Try.prog ids Summs.tab 60 [1, 1, 1] 116 2 = true := by kernel_rfl
set_option maxRecDepth 1000000 in
theorem b_111_118 : law.blk Try.prog ids Summs.tab 60 [1, 1, 1] 118 2 = true := by kernel_rfl
set_option maxRecDepth 1000000 in
theorem b_111_120 : law.blk Try.prog ids Summs.tab 60 [1, 1, 1] 120 2 = true := by kernel_rfl
set_option maxRecDepth 1000000 in
theorem b_111_122 : law.blk Try.prog ids Summs.tab 60 [1, 1, 1] 122 2 = true := by kernel_rfl
set_option maxRecDepth 1000000 in
theorem b_111_124 : law.blk Try.prog ids Summs.tab 60 [1, 1, 1] 124 2 = true := by kernel_rfl
set_option maxRecDepth 1000000 in
theorem b_111_126 : law.blk Try.prog ids Summs.tab 60 [1, 1, 1] 126 2 = true := by kernel_rfl
set_option maxRecDepth 1000000 in
theorem b_111_128 : law.blk Try.prog ids Summs.tab 60 [1, 1, 1] 128 2 = true := by kernel_rfl
set_option maxRecDepth 1000000 in
theorem b_111_130 : law.blk Try.prog ids Summs.tab 60 [1, 1, 1] 130 2 = true := by kernel_rfl
set_option maxRecDepth 1000000 in
theorem b_111_132 : law.blk Try.prog ids Summs.tab 60 [1, 1, 1] 132 2 = true := by kernel_rfl
set_option maxRecDepth 1000000 in
theorem b_111_134 : law.blk Try.prog ids Summs.tab 60 [1, 1, 1] 134 2 = true := by kernel_rfl
set_option maxRecDepth 1000000 in
theorem b_111_136 : law.blk Try.prog ids Summs.tab 60 [1, 1, 1] 136 2 = true := by kernel_rfl
set_option maxRecDepth 1000000 in
theorem b_111_138 : law.blk Try.prog ids Summs.tab 60 [1, 1, 1] 138 2 = true := by kernel_rfl
set_option maxRecDepth 1000000 in
theorem b_111_140 : law.blk Try.prog ids Summs.tab 60 [1, 1, 1] 140 2 = true := by kernel_rfl
set_option maxRecDepth 1000000 in
theorem b_111_142 : law.blk Try.prog ids Summs.tab 60 [1, 1, 1] 142 2 = true := by kernel_rfl
set_option maxRecDepth 1000000 in
theorem b_111_144 : law.blk Try.prog ids Summs.tab 60 [1, 1, 1] 144 2 = true := by kernel_rfl
set_option maxRecDepth 1000000 in
theorem b_111_146 : law.blk Try.prog ids Summs.tab 60 [1, 1, 1] 146 2 = true := by kernel_rfl
set_option maxRecDepth 1000000 in
theorem b_111_148 : law.blk Try.prog ids Summs.tab 60 [1, 1, 1] 148 2 = true := by kernel_rfl
set_option maxRecDepth 1000000 in
theorem b_111_150 : law.blk Try.prog ids Summs.tab 60 [1, 1, 1] 150 2 = true := by kernel_rfl
set_option maxRecDepth 1000000 in
theorem b_111_152 : law.blk Try.prog ids Summs.tab 60 [1, 1, 1] 152 2 = true := by kernel_rfl
set_option maxRecDepth 1000000 in
theorem b_111_154 : law.blk Try.prog ids Summs.tab 60 [1, 1, 1] 154 2 = true := by kernel_rfl
set_option maxRecDepth 1000000 in
theorem b_111_156 : law.blk Try.prog ids Summs.tab 60 [1, 1, 1] 156 2 = true := by kernel_rfl
set_option maxRecDepth 1000000 in
theorem b_111_158 : law.blk Try.prog ids Summs.tab 60 [1, 1, 1] 158 2 = true := by kernel_rfl
set_option maxRecDepth 1000000 in
theorem b_111_160 : law.blk Try.prog ids Summs.tab 60 [1, 1, 1] 160 2 = true := by kernel_rfl
set_option maxRecDepth 1000000 in
theorem b_111_162 : law.blk Try.prog ids Summs.tab 60 [1, 1, 1] 162 2 = true := by kernel_rfl
set_option maxRecDepth 1000000 in
theorem b_111_164 : law.blk Try.prog ids Summs.tab 60 [1, 1, 1] 164 2 = true := by kernel_rfl
set_option maxRecDepth 1000000 in
theorem b_111_166 : law.blk Try.prog ids Summs.tab 60 [1, 1, 1] 166 2 = true := by kernel_rfl
set_option maxRecDepth 1000000 in
theorem b_111_168 : law.blk Try.prog ids Summs.tab 60 [1, 1, 1] 168 2 = true := by kernel_rfl
set_option maxRecDepth 1000000 in
theorem b_111_170 : law.blk Try.prog ids Summs.tab 60 [1, 1, 1] 170 2 = true := by kernel_rfl
set_option maxRecDepth 1000000 in
theorem b_111_172 : law.blk Try.prog ids Summs.tab 60 [1, 1, 1] 172 2 = true := by kernel_rfl
set_option maxRecDepth 1000000 in
theorem b_111_174 : law.blk Try.prog ids Summs.tab 60 [1, 1, 1] 174 2 = true := by kernel_rfl
set_option maxRecDepth 1000000 in
theorem b_111_176 : law.blk Try.prog ids Summs.tab 60 [1, 1, 1] 176 2 = true := by kernel_rfl
set_option maxRecDepth 1000000 in
theorem b_111_178 : law.blk Try.prog ids Summs.tab 60 [1, 1, 1] 178 2 = true := by kernel_rfl
set_option maxRecDepth 1000000 in
theorem b_111_180 : law.blk Try.prog ids Summs.tab 60 [1, 1, 1] 180 2 = true := by kernel_rfl
set_option maxRecDepth 1000000 in
theorem b_111_182 : law.blk Try.prog ids Summs.tab 60 [1, 1, 1] 182 2 = true := by kernel_rfl
set_option maxRecDepth 1000000 in
theorem b_111_184 : law.blk Try.prog ids Summs.tab 60 [1, 1, 1] 184 2 = true := by kernel_rfl
set_option maxRecDepth 1000000 in
theorem b_111_186 : law.blk Try.prog ids Summs.tab 60 [1, 1, 1] 186 2 = true := by kernel_rfl
set_option maxRecDepth 1000000 in
theorem b_111_188 : law.blk Try.prog ids Summs.tab 60 [1, 1, 1] 188 2 = true := by kernel_rfl
set_option maxRecDepth 1000000 in
theorem b_111_190 : law.blk Try.prog ids Summs.tab 60 [1, 1, 1] 190 2 = true := by kernel_rfl
set_option maxRecDepth 1000000 in
theorem b_111_192 : law.blk Try.prog ids Summs.tab 60 [1, 1, 1] 192 2 = true := by kernel_rfl
set_option maxRecDepth 1000000 in
theorem b_111_194 : law.blk Try.prog ids Summs.tab 60 [1, 1, 1] 194 2 = true := by kernel_rfl
set_option maxRecDepth 1000000 in
theorem b_111_196 : law.blk Try.prog ids Summs.tab 60 [1, 1, 1] 196 2 = true := by kernel_rfl
end Go.Proofs.Ytjodjcmdlbhciaa.DTransformBy

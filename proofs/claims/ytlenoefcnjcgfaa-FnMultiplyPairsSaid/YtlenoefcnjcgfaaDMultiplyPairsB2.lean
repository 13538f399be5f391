/-
  A part of the proof of FnMultiplyPairs: cases of its law, each a run. No condition.
-/
import Derived.Test.YtlenoefcnjcgfaaDMultiplyPairsA
namespace Go.Proofs.Ytlenoefcnjcgfaa.DMultiplyPairs
open Go.ChangeShapes Go.WideShapes Go.ChangeAt Go.RowKit Go.Sx Go.Proofs.Ytlenoefcnjcgfaa.Ids
set_option linter.unusedVariables false
set_option linter.unusedSimpArgs false

set_option maxRecDepth 1000000 in
theorem b_1111_28 : law.blk Try.prog ids Summs.tab 60 [1, 1, 1, 1] 28 4 = true := by kernel_rfl
set_option maxRecDepth 1000000 in
theorem b_1111_32 : law.blk Try.prog ids Summs.tab 60 [1, 1, 1, 1] 32 4 = true := by kernel_rfl
set_option maxRecDepth 1000000 in
theorem b_1111_36 : law.blk Try.prog ids Summs.tab 60 [1, 1, 1, 1] 36 4 = true := by kernel_rfl
set_option maxRecDepth 1000000 in
theorem b_1111_40 : law.blk Try.prog ids Summs.tab 60 [1, 1, 1, 1] 40 4 = true := by kernel_rfl
set_option maxRecDepth 1000000 in
theorem b_1111_44 : law.blk Try.prog ids Summs.tab 60 [1, 1, 1, 1] 44 4 = true := by kernel_rfl
set_option maxRecDepth 1000000 in
theorem b_1111_48 : law.blk Try.prog ids Summs.tab 60 [1, 1, 1, 1] 48 4 = true := by kernel_rfl
set_option maxRecDepth 1000000 in
theorem b_1111_52 : law.blk Try.prog ids Summs.tab 60 [1, 1, 1, 1] 52 4 = true := by kernel_rfl
set_option maxRecDepth 1000000 in
theorem b_1111_56 : law.blk Try.prog ids Summs.tab 60 [1, 1, 1, 1] 56 4 = true := by kernel_rfl
set_option maxRecDepth 1000000 in
theorem b_1111_60 : law.blk Try.prog ids Summs.tab 60 [1, 1, 1, 1] 60 4 = true := by kernel_rfl
set_option maxRecDepth 1000000 in
theorem b_1111_64 : law.blk Try.prog ids Summs.tab 60 [1, 1, 1, 1] 64 4 = true := by kernel_rfl
set_option maxRecDepth 1000000 in
theorem b_1111_68 : law.blk Try.prog ids Summs.tab 60 [1, 1, 1, 1] 68 4 = true := by kernel_rfl
set_option maxRecDepth 1000000 in
theorem b_1111_72 : law.blk Try.prog ids Summs.tab 60 [1, 1, 1, 1] 72 4 = true := by kernel_rfl
set_option maxRecDepth 1000000 in
theorem b_1111_76 : law.blk Try.prog ids Summs.tab 60 [1, 1, 1, 1] 76 4 = true := by kernel_rfl
set_option maxRecDepth 1000000 in
theorem b_1111_80 : law.blk Try.prog ids Summs.tab 60 [1, 1, 1, 1] 80 4 = true := by kernel_rfl
set_option maxRecDepth 1000000 in
theorem b_1111_84 : law.blk Try.prog ids Summs.tab 60 [1, 1, 1, 1] 84 4 = true := by kernel_rfl
set_option maxRecDepth 1000000 in
theorem b_1111_88 : law.blk Try.prog ids Summs.tab 60 [1, 1, 1, 1] 88 4 = true := by kernel_rfl
set_option maxRecDepth 1000000 in
theorem b_1111_92 : law.blk Try.prog ids Summs.tab 60 [1, 1, 1, 1] 92 4 = true := by kernel_rfl
set_option maxRecDepth 1000000 in
theorem b_1111_96 : law.blk Try.prog ids Summs.tab 60 [1, 1, 1, 1] 96 4 = true := by kernel_rfl
set_option maxRecDepth 1000000 in
theorem b_1111_100 : law.blk Try.prog ids Summs.tab 60 [1, 1, 1, 1] 100 4 = true := by kernel_rfl
set_option maxRecDepth 1000000 in
theorem b_1111_104 : law.blk Try.prog ids Summs.tab 60 [1, 1, 1, 1] 104 4 = true := by kernel_rfl
set_option maxRecDepth 1000000 in
theorem b_1111_108 : law.blk Try.prog ids Summs.tab 60 [1, 1, 1, 1] 108 4 = true := by kernel_rfl
set_option maxRecDepth 1000000 in
theorem b_1111_112 : law.blk Try.prog ids Summs.tab 60 [1, 1, 1, 1] 112 4 = true := by kernel_rfl
set_option maxRecDepth 1000000 in
theorem b_1111_116 : law.blk Try.prog ids Summs.tab 60 [1, 1, 1, 1] 116 4 = true := by kernel_rfl
set_option maxRecDepth 1000000 in
theorem b_1111_120 : law.blk Try.prog ids Summs.tab 60 [1, 1, 1, 1] 120 4 = true := by kernel_rfl
set_option maxRecDepth 1000000 in
theorem b_1111_124 : law.blk Try.prog ids Summs.tab 60 [1, 1, 1, 1] 124 4 = true := by kernel_rfl
set_option maxRecDepth 1000000 in
theorem b_1111_128 : law.blk Try.prog ids Summs.tab 60 [1, 1, 1, 1] 128 4 = true := by kernel_rfl
set_option maxRecDepth 1000000 in
theorem b_1111_132 : law.blk Try.prog ids Summs.tab 60 [1, 1, 1, 1] 132 4 = true := by kernel_rfl
set_option maxRecDepth 1000000 in
theorem b_1111_136 : law.blk Try.prog ids Summs.tab 60 [1, 1, 1, 1] 136 4 = true := by kernel_rfl
set_option maxRecDepth 1000000 in
theorem b_1111_140 : law.blk Try.prog ids Summs.tab 60 [1, 1, 1, 1] 140 4 = true := by kernel_rfl
set_option maxRecDepth 1000000 in
theorem b_1111_144 : law.blk Try.prog ids Summs.tab 60 [1, 1, 1, 1] 144 4 = true := by kernel_rfl
set_option maxRecDepth 1000000 in
theorem b_1111_148 : law.blk Try.prog ids Summs.tab 60 [1, 1, 1, 1] 148 4 = true := by kernel_rfl
set_option maxRecDepth 1000000 in
theorem b_1111_152 : law.blk Try.prog ids Summs.tab 60 [1, 1, 1, 1] 152 4 = true := by kernel_rfl
set_option maxRecDepth 1000000 in
theorem b_1111_156 : law.blk Try.prog ids Summs.tab 60 [1, 1, 1, 1] 156 4 = true := by kernel_rfl
set_option maxRecDepth 1000000 in
theorem b_1111_160 : law.blk Try.prog ids Summs.tab 60 [1, 1, 1, 1] 160 4 = true := by kernel_rfl
set_option maxRecDepth 1000000 in
theorem b_1111_164 : law.blk Try.prog ids Summs.tab 60 [1, 1, 1, 1] 164 4 = true := by kernel_rfl
set_option maxRecDepth 1000000 in
theorem b_1111_168 : law.blk Try.prog ids Summs.tab 60 [1, 1, 1, 1] 168 4 = true := by kernel_rfl
set_option maxRecDepth 1000000 in
theorem b_1111_172 : law.blk Try.prog ids Summs.tab 60 [1, 1, 1, 1] 172 4 = true := by kernel_rfl
set_option maxRecDepth 1000000 in
theorem b_1111_176 : law.blk Try.prog ids Summs.tab 60 [1, 1, 1, 1] 176 4 = true := by kernel_rfl
end Go.Proofs.Ytlenoefcnjcgfaa.DMultiplyPairs

/-
  A part of the proof of FnMultiplyPairs: cases of its law, each a run. No condition.
-/
import Derived.Test.YtlenoefcnjcgfaaDMultiplyPairsA
namespace Go.Proofs.Ytlenoefcnjcgfaa.DMultiplyPairs
open Go.ChangeShapes Go.WideShapes Go.ChangeAt Go.RowKit Go.Sx Go.Proofs.Ytlenoefcnjcgfaa.Ids
set_option linter.unusedVariables false
set_option linter.unusedSimpArgs false

set_option maxRecDepth 1000000 in
theorem b_1101_56 : law.blk Try.prog ids Summs.tab 60 [1, 1, 0, 1] 56 4 = true := by kernel_rfl
set_option maxRecDepth 1000000 in
theorem b_1101_60 : law.blk Try.prog ids Summs.tab 60 [1, 1, 0, 1] 60 4 = true := by kernel_rfl
set_option maxRecDepth 1000000 in
theorem b_1101_64 : law.blk Try.prog ids Summs.tab 60 [1, 1, 0, 1] 64 4 = true := by kernel_rfl
set_option maxRecDepth 1000000 in
theorem b_1101_68 : law.blk Try.prog ids Summs.tab 60 [1, 1, 0, 1] 68 4 = true := by kernel_rfl
set_option maxRecDepth 1000000 in
theorem b_1101_72 : law.blk Try.prog ids Summs.tab 60 [1, 1, 0, 1] 72 4 = true := by kernel_rfl
set_option maxRecDepth 1000000 in
theorem b_1101_76 : law.blk Try.prog ids Summs.tab 60 [1, 1, 0, 1] 76 3 = true := by kernel_rfl
set_option maxRecDepth 1000000 in
theorem b_1110_0 : law.blk Try.prog ids Summs.tab 60 [1, 1, 1, 0] 0 4 = true := by kernel_rfl
set_option maxRecDepth 1000000 in
theorem b_1110_4 : law.blk Try.prog ids Summs.tab 60 [1, 1, 1, 0] 4 4 = true := by kernel_rfl
set_option maxRecDepth 1000000 in
theorem b_1110_8 : law.blk Try.prog ids Summs.tab 60 [1, 1, 1, 0] 8 4 = true := by kernel_rfl
set_option maxRecDepth 1000000 in
theorem b_1110_12 : law.blk Try.prog ids Summs.tab 60 [1, 1, 1, 0] 12 4 = true := by kernel_rfl
set_option maxRecDepth 1000000 in
theorem b_1110_16 : law.blk Try.prog ids Summs.tab 60 [1, 1, 1, 0] 16 4 = true := by kernel_rfl
set_option maxRecDepth 1000000 in
theorem b_1110_20 : law.blk Try.prog ids Summs.tab 60 [1, 1, 1, 0] 20 4 = true := by kernel_rfl
set_option maxRecDepth 1000000 in
theorem b_1110_24 : law.blk Try.prog ids Summs.tab 60 [1, 1, 1, 0] 24 4 = true := by kernel_rfl
set_option maxRecDepth 1000000 in
theorem b_1110_28 : law.blk Try.prog ids Summs.tab 60 [1, 1, 1, 0] 28 4 = true := by kernel_rfl
set_option maxRecDepth 1000000 in
theorem b_1110_32 : law.blk Try.prog ids Summs.tab 60 [1, 1, 1, 0] 32 4 = true := by kernel_rfl
set_option maxRecDepth 1000000 in
theorem b_1110_36 : law.blk Try.prog ids Summs.tab 60 [1, 1, 1, 0] 36 4 = true := by kernel_rfl
set_option maxRecDepth 1000000 in
theorem b_1110_40 : law.blk Try.prog ids Summs.tab 60 [1, 1, 1, 0] 40 4 = true := by kernel_rfl
set_option maxRecDepth 1000000 in
theorem b_1110_44 : law.blk Try.prog ids Summs.tab 60 [1, 1, 1, 0] 44 4 = true := by kernel_rfl
set_option maxRecDepth 1000000 in
theorem b_1110_48 : law.blk Try.prog ids Summs.tab 60 [1, 1, 1, 0] 48 4 = true := by kernel_rfl
set_option maxRecDepth 1000000 in
theorem b_1110_52 : law.blk Try.prog ids Summs.tab 60 [1, 1, 1, 0] 52 4 = true := by kernel_rfl
set_option maxRecDepth 1000000 in
theorem b_1110_56 : law.blk Try.prog ids Summs.tab 60 [1, 1, 1, 0] 56 4 = true := by kernel_rfl
set_option maxRecDepth 1000000 in
theorem b_1110_60 : law.blk Try.prog ids Summs.tab 60 [1, 1, 1, 0] 60 4 = true := by kernel_rfl
set_option maxRecDepth 1000000 in
theorem b_1110_64 : law.blk Try.prog ids Summs.tab 60 [1, 1, 1, 0] 64 4 = true := by kernel_rfl
set_option maxRecDepth 1000000 in
theorem b_1110_68 : law.blk Try.prog ids Summs.tab 60 [1, 1, 1, 0] 68 4 = true := by kernel_rfl
set_option maxRecDepth 1000000 in
theorem b_1110_72 : law.blk Try.prog ids Summs.tab 60 [1, 1, 1, 0] 72 4 = true := by kernel_rfl
set_option maxRecDepth 1000000 in
theorem b_1110_76 : law.blk Try.prog ids Summs.tab 60 [1, 1, 1, 0] 76 4 = true := by kernel_rfl
set_option maxRecDepth 1000000 in
theorem b_1110_80 : law.blk Try.prog ids Summs.tab 60 [1, 1, 1, 0] 80 4 = true := by kernel_rfl
set_option maxRecDepth 1000000 in
theorem b_1110_84 : law.blk Try.prog ids Summs.tab 60 [1, 1, 1, 0] 84 4 = true := by kernel_rfl
set_option maxRecDepth 1000000 in
theorem b_1110_88 : law.blk Try.prog ids Summs.tab 60 [1, 1, 1, 0] 88 4 = true := by kernel_rfl
set_option maxRecDepth 1000000 in
theorem b_1110_92 : law.blk Try.prog ids Summs.tab 60 [1, 1, 1, 0] 92 4 = true := by kernel_rfl
set_option maxRecDepth 1000000 in
theorem b_1110_96 : law.blk Try.prog ids Summs.tab 60 [1, 1, 1, 0] 96 3 = true := by kernel_rfl
set_option maxRecDepth 1000000 in
theorem b_1111_0 : law.blk Try.prog ids Summs.tab 60 [1, 1, 1, 1] 0 4 = true := by kernel_rfl
set_option maxRecDepth 1000000 in
theorem b_1111_4 : law.blk Try.prog ids Summs.tab 60 [1, 1, 1, 1] 4 4 = true := by kernel_rfl
set_option maxRecDepth 1000000 in
theorem b_1111_8 : law.blk Try.prog ids Summs.tab 60 [1, 1, 1, 1] 8 4 = true := by kernel_rfl
set_option maxRecDepth 1000000 in
theorem b_1111_12 : law.blk Try.prog ids Summs.tab 60 [1, 1, 1, 1] 12 4 = true := by kernel_rfl
set_option maxRecDepth 1000000 in
theorem b_1111_16 : law.blk Try.prog ids Summs.tab 60 [1, 1, 1, 1] 16 4 = true := by kernel_rfl
set_option maxRecDepth 1000000 in
theorem b_1111_20 : law.blk Try.prog ids Summs.tab 60 [1, 1, 1, 1] 20 4 = true := by kernel_rfl
set_option maxRecDepth 1000000 in
theorem b_1111_24 : law.blk Try.prog ids Summs.tab 60 [1, 1, 1, 1] 24 4 = true := by kernel_rfl
end Go.Proofs.Ytlenoefcnjcgfaa.DMultiplyPairs

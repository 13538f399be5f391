/-
  A part of the proof of FnMultiplyPairs: cases of its law, each a run. No condition.
-/
import Derived.Test.YtlenoefcnjcgfaaDMultiplyPairsA
namespace Go.Proofs.Ytlenoefcnjcgfaa.DMultiplyPairs
open Go.ChangeShapes Go.WideShapes Go.ChangeAt Go.RowKit Go.Sx Go.Proofs.Ytlenoefcnjcgfaa.Ids
set_option linter.unusedVariables false
set_option linter.unusedSimpArgs false

set_option maxRecDepth 1000000 in
theorem b_0000_0 : law.blk Try.prog ids Summs.tab 60 [0, 0, 0, 0] 0 1 = true := by kernel_rfl
set_option maxRecDepth 1000000 in
theorem b_0001_0 : law.blk Try.prog ids Summs.tab 60 [0, 0, 0, 1] 0 1 = true := by kernel_rfl
set_option maxRecDepth 1000000 in
theorem b_0010_0 : law.blk Try.prog ids Summs.tab 60 [0, 0, 1, 0] 0 1 = true := by kernel_rfl
set_option maxRecDepth 1000000 in
theorem b_0011_0 : law.blk Try.prog ids Summs.tab 60 [0, 0, 1, 1] 0 1 = true := by kernel_rfl
set_option maxRecDepth 1000000 in
theorem b_0100_0 : law.blk Try.prog ids Summs.tab 60 [0, 1, 0, 0] 0 1 = true := by kernel_rfl
set_option maxRecDepth 1000000 in
theorem b_0101_0 : law.blk Try.prog ids Summs.tab 60 [0, 1, 0, 1] 0 1 = true := by kernel_rfl
set_option maxRecDepth 1000000 in
theorem b_0110_0 : law.blk Try.prog ids Summs.tab 60 [0, 1, 1, 0] 0 1 = true := by kernel_rfl
set_option maxRecDepth 1000000 in
theorem b_0111_0 : law.blk Try.prog ids Summs.tab 60 [0, 1, 1, 1] 0 1 = true := by kernel_rfl
set_option maxRecDepth 1000000 in
theorem b_1000_0 : law.blk Try.prog ids Summs.tab 60 [1, 0, 0, 0] 0 2 = true := by kernel_rfl
set_option maxRecDepth 1000000 in
theorem b_1001_0 : law.blk Try.prog ids Summs.tab 60 [1, 0, 0, 1] 0 2 = true := by kernel_rfl
set_option maxRecDepth 1000000 in
theorem b_1010_0 : law.blk Try.prog ids Summs.tab 60 [1, 0, 1, 0] 0 2 = true := by kernel_rfl
set_option maxRecDepth 1000000 in
theorem b_1011_0 : law.blk Try.prog ids Summs.tab 60 [1, 0, 1, 1] 0 2 = true := by kernel_rfl
set_option maxRecDepth 1000000 in
theorem b_1100_0 : law.blk Try.prog ids Summs.tab 60 [1, 1, 0, 0] 0 4 = true := by kernel_rfl
set_option maxRecDepth 1000000 in
theorem b_1100_4 : law.blk Try.prog ids Summs.tab 60 [1, 1, 0, 0] 4 4 = true := by kernel_rfl
set_option maxRecDepth 1000000 in
theorem b_1100_8 : law.blk Try.prog ids Summs.tab 60 [1, 1, 0, 0] 8 4 = true := by kernel_rfl
set_option maxRecDepth 1000000 in
theorem b_1100_12 : law.blk Try.prog ids Summs.tab 60 [1, 1, 0, 0] 12 4 = true := by kernel_rfl
set_option maxRecDepth 1000000 in
theorem b_1100_16 : law.blk Try.prog ids Summs.tab 60 [1, 1, 0, 0] 16 4 = true := by kernel_rfl
set_option maxRecDepth 1000000 in
theorem b_1100_20 : law.blk Try.prog ids Summs.tab 60 [1, 1, 0, 0] 20 4 = true := by kernel_rfl
set_option maxRecDepth 1000000 in
theorem b_1100_24 : law.blk Try.prog ids Summs.tab 60 [1, 1, 0, 0] 24 4 = true := by kernel_rfl
set_option maxRecDepth 1000000 in
theorem b_1100_28 : law.blk Try.prog ids Summs.tab 60 [1, 1, 0, 0] 28 4 = true := by kernel_rfl
set_option maxRecDepth 1000000 in
theorem b_1100_32 : law.blk Try.prog ids Summs.tab 60 [1, 1, 0, 0] 32 4 = true := by kernel_rfl
set_option maxRecDepth 1000000 in
theorem b_1100_36 : law.blk Try.prog ids Summs.tab 60 [1, 1, 0, 0] 36 4 = true := by kernel_rfl
set_option maxRecDepth 1000000 in
theorem b_1100_40 : law.blk Try.prog ids Summs.tab 60 [1, 1, 0, 0] 40 4 = true := by kernel_rfl
set_option maxRecDepth 1000000 in
theorem b_1100_44 : law.blk Try.prog ids Summs.tab 60 [1, 1, 0, 0] 44 4 = true := by kernel_rfl
set_option maxRecDepth 1000000 in
theorem b_1100_48 : law.blk Try.prog ids Summs.tab 60 [1, 1, 0, 0] 48 4 = true := by kernel_rfl
set_option maxRecDepth 1000000 in
theorem b_1100_52 : law.blk Try.prog ids Summs.tab 60 [1, 1, 0, 0] 52 4 = true := by kernel_rfl
set_option maxRecDepth 1000000 in
theorem b_1100_56 : law.blk Try.prog ids Summs.tab 60 [1, 1, 0, 0] 56 4 = true := by kernel_rfl
set_option maxRecDepth 1000000 in
theorem b_1100_60 : law.blk Try.prog ids Summs.tab 60 [1, 1, 0, 0] 60 4 = true := by kernel_rfl
set_option maxRecDepth 1000000 in
theorem b_1100_64 : law.blk Try.prog ids Summs.tab 60 [1, 1, 0, 0] 64 4 = true := by kernel_rfl
set_option maxRecDepth 1000000 in
theorem b_1100_68 : law.blk Try.prog ids Summs.tab 60 [1, 1, 0, 0] 68 4 = true := by kernel_rfl
set_option maxRecDepth 1000000 in
theorem b_1100_72 : law.blk Try.prog ids Summs.tab 60 [1, 1, 0, 0] 72 4 = true := by kernel_rfl
set_option maxRecDepth 1000000 in
theorem b_1100_76 : law.blk Try.prog ids Summs.tab 60 [1, 1, 0, 0] 76 3 = true := by kernel_rfl
set_option maxRecDepth 1000000 in
theorem b_1101_0 : law.blk Try.prog ids Summs.tab 60 [1, 1, 0, 1] 0 4 = true := by kernel_rfl
set_option maxRecDepth 1000000 in
theorem b_1101_4 : law.blk Try.prog ids Summs.tab 60 [1, 1, 0, 1] 4 4 = true := by kernel_rfl
set_option maxRecDepth 1000000 in
theorem b_1101_8 : law.blk Try.prog ids Summs.tab 60 [1, 1, 0, 1] 8 4 = true := by kernel_rfl
set_option maxRecDepth 1000000 in
theorem b_1101_12 : law.blk Try.prog ids Summs.tab 60 [1, 1, 0, 1] 12 4 = true := by kernel_rfl
set_option maxRecDepth 1000000 in
theorem b_1101_16 : law.blk Try.prog ids Summs.tab 60 [1, 1, 0, 1] 16 4 = true := by kernel_rfl
set_option maxRecDepth 1000000 in
theorem b_1101_20 : law.blk Try.prog ids Summs.tab 60 [1, 1, 0, 1] 20 4 = true := by kernel_rfl
set_option maxRecDepth 1000000 in
theorem b_1101_24 : law.blk Try.prog ids Summs.tab 60 [1, 1, 0, 1] 24 4 = true := by kernel_rfl
set_option maxRecDepth 1000000 in
theorem b_1101_28 : law.blk Try.prog ids Summs.tab 60 [1, 1, 0, 1] 28 4 = true := by kernel_rfl
set_option maxRecDepth 1000000 in
theorem b_1101_32 : law.blk Try.prog ids Summs.tab 60 [1, 1, 0, 1] 32 4 = true := by kernel_rfl
set_option maxRecDepth 1000000 in
theorem b_1101_36 : law.blk Try.prog ids Summs.tab 60 [1, 1, 0, 1] 36 4 = true := by kernel_rfl
set_option maxRecDepth 1000000 in
theorem b_1101_40 : law.blk Try.prog ids Summs.tab 60 [1, 1, 0, 1] 40 4 = true := by kernel_rfl
set_option maxRecDepth 1000000 in
theorem b_1101_44 : law.blk Try.prog ids Summs.tab 60 [1, 1, 0, 1] 44 4 = true := by kernel_rfl
set_option maxRecDepth 1000000 in
theorem b_1101_48 : law.blk Try.prog ids Summs.tab 60 [1, 1, 0, 1] 48 4 = true := by kernel_rfl
set_option maxRecDepth 1000000 in
theorem b_1101_52 : law.blk Try.prog ids Summs.tab 60 [1, 1, 0, 1] 52 4 = true := by kernel_rfl
end Go.Proofs.Ytlenoefcnjcgfaa.DMultiplyPairs

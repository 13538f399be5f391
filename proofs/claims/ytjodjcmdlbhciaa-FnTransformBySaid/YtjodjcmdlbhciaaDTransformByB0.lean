/-
  A part of the proof of FnTransformBy: cases of its law, each a run. No condition.
-/
import Derived.Test.YtjodjcmdlbhciaaDTransformByA
namespace Go.Proofs.Ytjodjcmdlbhciaa.DTransformBy
open Go.ChangeShapes Go.WideShapes Go.ChangeAt Go.RowKit Go.Sx Go.Proofs.Ytjodjcmdlbhciaa.Ids
set_option linter.unusedVariables false
set_option linter.unusedSimpArgs false

set_option maxRecDepth 1000000 in
theorem b_000_0 : law.blk Try.prog ids Summs.tab 60 [0, 0, 0] 0 1 = true := by kernel_rfl
set_option maxRecDepth 1000000 in
theorem b_001_0 : law.blk Try.prog ids Summs.tab 60 [0, 0, 1] 0 1 = true := by kernel_rfl
set_option maxRecDepth 1000000 in
theorem b_010_0 : law.blk Try.prog ids Summs.tab 60 [0, 1, 0] 0 1 = true := by kernel_rfl
set_option maxRecDepth 1000000 in
theorem b_011_0 : law.blk Try.prog ids Summs.tab 60 [0, 1, 1] 0 1 = true := by kernel_rfl
set_option maxRecDepth 1000000 in
theorem b_100_0 : law.blk Try.prog ids Summs.tab 60 [1, 0, 0] 0 2 = true := by kernel_rfl
set_option maxRecDepth 1000000 in
theorem b_101_0 : law.blk Try.prog ids Summs.tab 60 [1, 0, 1] 0 2 = true := by kernel_rfl
set_option maxRecDepth 1000000 in
theorem b_110_0 : law.blk Try.prog ids Summs.tab 60 [1, 1, 0] 0 2 = true := by kernel_rfl
set_option maxRecDepth 1000000 in
theorem b_110_2 : law.blk Try.prog ids Summs.tab 60 [1, 1, 0] 2 2 = true := by kernel_rfl
set_option maxRecDepth 1000000 in
theorem b_110_4 : law.blk Try.prog ids Summs.tab 60 [1, 1, 0] 4 2 = true := by kernel_rfl
set_option maxRecDepth 1000000 in
theorem b_110_6 : law.blk Try.prog ids Summs.tab 60 [1, 1, 0] 6 2 = true := by kernel_rfl
set_option maxRecDepth 1000000 in
theorem b_110_8 : law.blk Try.prog ids Summs.tab 60 [1, 1, 0] 8 2 = true := by kernel_rfl
set_option maxRecDepth 1000000 in
theorem b_110_10 : law.blk Try.prog ids Summs.tab 60 [1, 1, 0] 10 2 = true := by kernel_rfl
set_option maxRecDepth 1000000 in
theorem b_110_12 : law.blk Try.prog ids Summs.tab 60 [1, 1, 0] 12 2 = true := by kernel_rfl
set_option maxRecDepth 1000000 in
theorem b_110_14 : law.blk Try.prog ids Summs.tab 60 [1, 1, 0] 14 2 = true := by kernel_rfl
set_option maxRecDepth 1000000 in
theorem b_110_16 : law.blk Try.prog ids Summs.tab 60 [1, 1, 0] 16 2 = true := by kernel_rfl
set_option maxRecDepth 1000000 in
theorem b_110_18 : law.blk Try.prog ids Summs.tab 60 [1, 1, 0] 18 2 = true := by kernel_rfl
set_option maxRecDepth 1000000 in
theorem b_110_20 : law.blk Try.prog ids Summs.tab 60 [1, 1, 0] 20 2 = true := by kernel_rfl
set_option maxRecDepth 1000000 in
theorem b_110_22 : law.blk Try.prog ids Summs.tab 60 [1, 1, 0] 22 2 = true := by kernel_rfl
set_option maxRecDepth 1000000 in
theorem b_110_24 : law.blk Try.prog ids Summs.tab 60 [1, 1, 0] 24 2 = true := by kernel_rfl
set_option maxRecDepth 1000000 in
theorem b_110_26 : law.blk Try.prog ids Summs.tab 60 [1, 1, 0] 26 2 = true := by kernel_rfl
set_option maxRecDepth 1000000 in
theorem b_110_28 : law.blk Try.prog ids Summs.tab 60 [1, 1, 0] 28 2 = true := by kernel_rfl
set_option maxRecDepth 1000000 in
theorem b_110_30 : law.blk Try.prog ids Summs.tab 60 [1, 1, 0] 30 2 = true := by kernel_rfl
set_option maxRecDepth 1000000 in
theorem b_110_32 : law.blk Try.prog ids Summs.tab 60 [1, 1, 0] 32 2 = true := by kernel_rfl
set_option maxRecDepth 1000000 in
theorem b_110_34 : law.blk Try.prog ids Summs.tab 60 [1, 1, 0] 34 2 = true := by kernel_rfl
set_option maxRecDepth 1000000 in
theorem b_110_36 : law.blk Try.prog ids Summs.tab 60 [1, 1, 0] 36 2 = true := by kernel_rfl
set_option maxRecDepth 1000000 in
theorem b_110_38 : law.blk Try.prog ids Summs.tab 60 [1, 1, 0] 38 2 = true := by kernel_rfl
set_option maxRecDepth 1000000 in
theorem b_110_40 : law.blk Try.prog ids Summs.tab 60 [1, 1, 0] 40 2 = true := by kernel_rfl
set_option maxRecDepth 1000000 in
theorem b_110_42 : law.blk Try.prog ids Summs.tab 60 [1, 1, 0] 42 2 = true := by kernel_rfl
set_option maxRecDepth 1000000 in
theorem b_110_44 : law.blk Try.prog ids Summs.tab 60 [1, 1, 0] 44 2 = true := by kernel_rfl
set_option maxRecDepth 1000000 in
theorem b_110_46 : law.blk Try.prog ids Summs.tab 60 [1, 1, 0] 46 2 = true := by kernel_rfl
set_option maxRecDepth 1000000 in
theorem b_110_48 : law.blk Try.prog ids Summs.tab 60 [1, 1, 0] 48 2 = true := by kernel_rfl
set_option maxRecDepth 1000000 in
theorem b_110_50 : law.blk Try.prog ids Summs.tab 60 [1, 1, 0] 50 2 = true := by kernel_rfl
set_option maxRecDepth 1000000 in
theorem b_110_52 : law.blk Try.prog ids Summs.tab 60 [1, 1, 0] 52 2 = true := by kernel_rfl
set_option maxRecDepth 1000000 in
theorem b_110_54 : law.blk Try.prog ids Summs.tab 60 [1, 1, 0] 54 2 = true := by kernel_rfl
set_option maxRecDepth 1000000 in
theorem b_110_56 : law.blk Try.prog ids Summs.tab 60 [1, 1, 0] 56 2 = true := by kernel_rfl
set_option maxRecDepth 1000000 in
theorem b_110_58 : law.blk Try.prog ids Summs.tab 60 [1, 1, 0] 58 2 = true := by kernel_rfl
set_option maxRecDepth 1000000 in
theorem b_110_60 : law.blk Try.prog ids Summs.tab 60 [1, 1, 0] 60 2 = true := by kernel_rfl
set_option maxRecDepth 1000000 in
theorem b_110_62 : law.blk Try.prog ids Summs.tab 60 [1, 1, 0] 62 2 = true := by kernel_rfl
set_option maxRecDepth 1000000 in
theorem b_111_0 : law.blk Try.prog ids Summs.tab 60 [1, 1, 1] 0 2 = true := by kernel_rfl
set_option maxRecDepth 1000000 in
theorem b_111_2 : law.blk Try.prog ids Summs.tab 60 [1, 1, 1] 2 2 = true := by kernel_rfl
set_option maxRecDepth 1000000 in
theorem b_111_4 : law.blk Try.prog ids Summs.tab 60 [1, 1, 1] 4 2 = true := by kernel_rfl
set_option maxRecDepth 1000000 in
theorem b_111_6 : law.blk Try.prog ids Summs.tab 60 [1, 1, 1] 6 2 = true := by kernel_rfl
set_option maxRecDepth 1000000 in
theorem b_111_8 : law.blk Try.prog ids Summs.tab 60 [1, 1, 1] 8 2 = true := by kernel_rfl
set_option maxRecDepth 1000000 in
theorem b_111_10 : law.blk Try.prog ids Summs.tab 60 [1, 1, 1] 10 2 = true := by kernel_rfl
set_option maxRecDepth 1000000 in
theorem b_111_12 : law.blk Try.prog ids Summs.tab 60 [1, 1, 1] 12 2 = true := by kernel_rfl
set_option maxRecDepth 1000000 in
theorem b_111_14 : law.blk Try.prog ids Summs.tab 60 [1, 1, 1] 14 2 = true := by kernel_rfl
set_option maxRecDepth 1000000 in
theorem b_111_16 : law.blk Try.prog ids Summs.tab 60 [1, 1, 1] 16 2 = true := by kernel_rfl
end Go.Proofs.Ytjodjcmdlbhciaa.DTransformBy

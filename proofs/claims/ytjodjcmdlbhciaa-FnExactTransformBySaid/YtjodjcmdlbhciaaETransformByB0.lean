/-
  A part of the proof of FnExactTransformBy: cases of its law, each a run. No condition.
-/
import Derived.Test.YtjodjcmdlbhciaaETransformByA
namespace Go.Proofs.Ytjodjcmdlbhciaa.ETransformBy
open Go.ChangeShapes Go.WideShapes Go.ChangeAt Go.RowKit Go.Sx Go.Proofs.Ytjodjcmdlbhciaa.Ids
set_option linter.unusedVariables false
set_option linter.unusedSimpArgs false

set_option maxRecDepth 1000000 in
theorem b_000_0 : law.blk Try.prog ids Summs.tab 60 [0, 0, 0] 0 1 = true := by kernel_rfl
set_option maxRecDepth 1000000 in
theorem b_001_0 : law.blk Try.prog ids Summs.tab 60 [0, 0, 1] 0 1 = true := by kernel_rfl
set_option maxRecDepth 1000000 in
theorem b_010_0 : law.blk Try.prog ids Summs.tab 60 [0, 1, 0] 0 2 = true := by kernel_rfl
set_option maxRecDepth 1000000 in
theorem b_011_0 : law.blk Try.prog ids Summs.tab 60 [0, 1, 1] 0 4 = true := by kernel_rfl
set_option maxRecDepth 1000000 in
theorem b_011_4 : law.blk Try.prog ids Summs.tab 60 [0, 1, 1] 4 4 = true := by kernel_rfl
set_option maxRecDepth 1000000 in
theorem b_011_8 : law.blk Try.prog ids Summs.tab 60 [0, 1, 1] 8 4 = true := by kernel_rfl
set_option maxRecDepth 1000000 in
theorem b_011_12 : law.blk Try.prog ids Summs.tab 60 [0, 1, 1] 12 4 = true := by kernel_rfl
set_option maxRecDepth 1000000 in
theorem b_011_16 : law.blk Try.prog ids Summs.tab 60 [0, 1, 1] 16 4 = true := by kernel_rfl
set_option maxRecDepth 1000000 in
theorem b_011_20 : law.blk Try.prog ids Summs.tab 60 [0, 1, 1] 20 4 = true := by kernel_rfl
set_option maxRecDepth 1000000 in
theorem b_011_24 : law.blk Try.prog ids Summs.tab 60 [0, 1, 1] 24 4 = true := by kernel_rfl
set_option maxRecDepth 1000000 in
theorem b_011_28 : law.blk Try.prog ids Summs.tab 60 [0, 1, 1] 28 4 = true := by kernel_rfl
set_option maxRecDepth 1000000 in
theorem b_011_32 : law.blk Try.prog ids Summs.tab 60 [0, 1, 1] 32 4 = true := by kernel_rfl
set_option maxRecDepth 1000000 in
theorem b_011_36 : law.blk Try.prog ids Summs.tab 60 [0, 1, 1] 36 4 = true := by kernel_rfl
set_option maxRecDepth 1000000 in
theorem b_011_40 : law.blk Try.prog ids Summs.tab 60 [0, 1, 1] 40 4 = true := by kernel_rfl
set_option maxRecDepth 1000000 in
theorem b_011_44 : law.blk Try.prog ids Summs.tab 60 [0, 1, 1] 44 4 = true := by kernel_rfl
set_option maxRecDepth 1000000 in
theorem b_011_48 : law.blk Try.prog ids Summs.tab 60 [0, 1, 1] 48 4 = true := by kernel_rfl
set_option maxRecDepth 1000000 in
theorem b_011_52 : law.blk Try.prog ids Summs.tab 60 [0, 1, 1] 52 4 = true := by kernel_rfl
set_option maxRecDepth 1000000 in
theorem b_011_56 : law.blk Try.prog ids Summs.tab 60 [0, 1, 1] 56 4 = true := by kernel_rfl
set_option maxRecDepth 1000000 in
theorem b_011_60 : law.blk Try.prog ids Summs.tab 60 [0, 1, 1] 60 4 = true := by kernel_rfl
set_option maxRecDepth 1000000 in
theorem b_100_0 : law.blk Try.prog ids Summs.tab 60 [1, 0, 0] 0 1 = true := by kernel_rfl
set_option maxRecDepth 1000000 in
theorem b_101_0 : law.blk Try.prog ids Summs.tab 60 [1, 0, 1] 0 1 = true := by kernel_rfl
set_option maxRecDepth 1000000 in
theorem b_110_0 : law.blk Try.prog ids Summs.tab 60 [1, 1, 0] 0 2 = true := by kernel_rfl
set_option maxRecDepth 1000000 in
theorem b_111_0 : law.blk Try.prog ids Summs.tab 60 [1, 1, 1] 0 4 = true := by kernel_rfl
set_option maxRecDepth 1000000 in
theorem b_111_4 : law.blk Try.prog ids Summs.tab 60 [1, 1, 1] 4 4 = true := by kernel_rfl
set_option maxRecDepth 1000000 in
theorem b_111_8 : law.blk Try.prog ids Summs.tab 60 [1, 1, 1] 8 4 = true := by kernel_rfl
set_option maxRecDepth 1000000 in
theorem b_111_12 : law.blk Try.prog ids Summs.tab 60 [1, 1, 1] 12 4 = true := by kernel_rfl
set_option maxRecDepth 1000000 in
theorem b_111_16 : law.blk Try.prog ids Summs.tab 60 [1, 1, 1] 16 4 = true := by kernel_rfl
end Go.Proofs.Ytjodjcmdlbhciaa.ETransformBy

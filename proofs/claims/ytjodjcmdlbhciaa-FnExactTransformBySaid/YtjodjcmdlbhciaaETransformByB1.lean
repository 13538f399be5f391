/-
  A part of the proof of FnExactTransformBy: cases of its law, each a run. No condition.
-/
import Derived.Test.YtjodjcmdlbhciaaETransformByA
namespace Go.Proofs.Ytjodjcmdlbhciaa.ETransformBy
open Go.ChangeShapes Go.WideShapes Go.ChangeAt Go.RowKit Go.Sx Go.Proofs.Ytjodjcmdlbhciaa.Ids
set_option linter.unusedVariables false
set_option linter.unusedSimpArgs false

set_option maxRecDepth 1000000 in
theorem b_111_20 : law.blk Try.prog ids Summs.tab 60 [1, 1, 1] 20 4 = true := by kernel_rfl
set_option maxRecDepth 1000000 in
theorem b_111_24 : law.blk Try.prog ids Summs.tab 60 [1, 1, 1] 24 4 = true := by kernel_rfl
set_option maxRecDepth 1000000 in
theorem b_111_28 : law.blk Try.prog ids Summs.tab 60 [1, 1, 1] 28 4 = true := by kernel_rfl
set_option maxRecDepth 1000000 in
theorem b_111_32 : law.blk Try.prog ids Summs.tab 60 [1, 1, 1] 32 4 = true := by kernel_rfl
set_option maxRecDepth 1000000 in
theorem b_111_36 : law.blk Try.prog ids Summs.tab 60 [1, 1, 1] 36 4 = true := by kernel_rfl
set_option maxRecDepth 1000000 in
theorem b_111_40 : law.blk Try.prog ids Summs.tab 60 [1, 1, 1] 40 4 = true := by kernel_rfl
set_option maxRecDepth 1000000 in
theorem b_111_44 : law.blk Try.prog ids Summs.tab 60 [1, 1, 1] 44 4 = true := by kernel_rfl
set_option maxRecDepth 1000000 in
theorem b_111_48 : law.blk Try.prog ids Summs.tab 60 [1, 1, 1] 48 4 = true := by kernel_rfl
set_option maxRecDepth 1000000 in
theorem b_111_52 : law.blk Try.prog ids Summs.tab 60 [1, 1, 1] 52 4 = true := by kernel_rfl
set_option maxRecDepth 1000000 in
theorem b_111_56 : law.blk Try.prog ids Summs.tab 60 [1, 1, 1] 56 4 = true := by kernel_rfl
set_option maxRecDepth 1000000 in
theorem b_111_60 : law.blk Try.prog ids Summs.tab 60 [1, 1, 1] 60 4 = true := by kernel_rfl
set_option maxRecDepth 1000000 in
theorem b_111_64 : law.blk Try.prog ids Summs.tab 60 [1, 1, 1] 64 4 = true := by kernel_rfl
set_option maxRecDepth 1000000 in
theorem b_111_68 : law.blk Try.prog ids Summs.tab 60 [1, 1, 1] 68 4 = true := by kernel_rfl
set_option maxRecDepth 1000000 in
theorem b_111_72 : law.blk Try.prog ids Summs.tab 60 [1, 1, 1] 72 4 = true := by kernel_rfl
set_option maxRecDepth 1000000 in
theorem b_111_76 : law.blk Try.prog ids Summs.tab 60 [1, 1, 1] 76 4 = true := by kernel_rfl
set_option maxRecDepth 1000000 in
theorem b_111_80 : law.blk Try.prog ids Summs.tab 60 [1, 1, 1] 80 4 = true := by kernel_rfl
set_option maxRecDepth 1000000 in
theorem b_111_84 : law.blk Try.prog ids Summs.tab 60 [1, 1, 1] 84 4 = true := by kernel_rfl
set_option maxRecDepth 1000000 in
theorem b_111_88 : law.blk Try.prog ids Summs.tab 60 [1, 1, 1] 88 4 = true := by kernel_rfl
set_option maxRecDepth 1000000 in
theorem b_111_92 : law.blk Try.prog ids Summs.tab 60 [1, 1, 1] 92 4 = true := by kernel_rfl
set_option maxRecDepth 1000000 in
theorem b_111_96 : law.blk Try.prog ids Summs.tab 60 [1, 1, 1] 96 4 = true := by kernel_rfl
set_option maxRecDepth 1000000 in
theorem b_111_100 : law.blk Try.prog ids Summs.tab 60 [1, 1, 1] 100 4 = true := by kernel_rfl
set_option maxRecDepth 1000000 in
theorem b_111_104 : law.blk Try.prog ids Summs.tab 60 [1, 1, 1] 104 4 = true := by kernel_rfl
set_option maxRecDepth 1000000 in
theorem b_111_108 : law.blk Try.prog ids Summs.tab 60 [1, 1, 1] 108 4 = true := by kernel_rfl
end Go.Proofs.Ytjodjcmdlbhciaa.ETransformBy

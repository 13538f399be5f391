/-
  A part of the proof of FnTransformBy: cases of its law, each a run. No condition.
-/
import Derived.Test.YtjodjcmdlbhciaaDTransformByA
namespace Go.Proofs.Ytjodjcmdlbhciaa.DTransformBy
open Go.ChangeShapes Go.WideShapes Go.ChangeAt Go.RowKit Go.Sx Go.Proofs.Ytjodjcmdlbhciaa.Ids
set_option linter.unusedVariables false
set_option linter.unusedSimpArgs false

set_option maxRecDepth 1000000 in
theorem b_111_18 : law.blk Try.prog ids Summs.tab 60 [1, 1, 1] 18 2 = true := by kernel_rfl
set_option maxRecDepth 1000000 in
theorem b_111_20 : law.blk Try.prog ids Summs.tab 60 [1, 1, 1] 20 2 = true := by kernel_rfl
set_option maxRecDepth 1000000 in
theorem b_111_22 : law.blk Try.prog ids Summs.tab 60 [1, 1, 1] 22 2 = true := by kernel_rfl
set_option maxRecDepth 1000000 in
theorem b_111_24 : law.blk Try.prog ids Summs.tab 60 [1, 1, 1] 24 2 = true := by kernel_rfl
set_option maxRecDepth 1000000 in
theorem b_111_26 : law.blk Try.prog ids Summs.tab 60 [1, 1, 1] 26 2 = true := by kernel_rfl
set_option maxRecDepth 1000000 in
theorem b_111_28 : law.blk Try.prog ids Summs.tab 60 [1, 1, 1] 28 2 = true := by kernel_rfl
set_option maxRecDepth 1000000 in
theorem b_111_30 : law.blk Try.prog ids Summs.tab 60 [1, 1, 1] 30 2 = true := by kernel_rfl
set_option maxRecDepth 1000000 in
theorem b_111_32 : law.blk Try.prog ids Summs.tab 60 [1, 1, 1] 32 2 = true := by kernel_rfl
set_option maxRecDepth 1000000 in
theorem b_111_34 : law.blk Try.prog ids Summs.tab 60 [1, 1, 1] 34 2 = true := by kernel_rfl
set_option maxRecDepth 1000000 in
theorem b_111_36 : law.blk Try.prog ids Summs.tab 60 [1, 1, 1] 36 2 = true := by kernel_rfl
set_option maxRecDepth 1000000 in
theorem b_111_38 : law.blk Try.prog ids Summs.tab 60 [1, 1, 1] 38 2 = true := by kernel_rfl
set_option maxRecDepth 1000000 in
theorem b_111_40 : law.blk Try.prog ids Summs.tab 60 [1, 1, 1] 40 2 = true := by kernel_rfl
set_option maxRecDepth 1000000 in
theorem b_111_42 : law.blk Try.prog ids Summs.tab 60 [1, 1, 1] 42 2 = true := by kernel_rfl
set_option maxRecDepth 1000000 in
theorem b_111_44 : law.blk Try.prog ids Summs.tab 60 [1, 1, 1] 44 2 = true := by kernel_rfl
set_option maxRecDepth 1000000 in
theorem b_111_46 : law.blk Try.prog ids Summs.tab 60 [1, 1, 1] 46 2 = true := by kernel_rfl
set_option maxRecDepth 1000000 in
theorem b_111_48 : law.blk Try.prog ids Summs.tab 60 [1, 1, 1] 48 2 = true := by kernel_rfl
set_option maxRecDepth 1000000 in
theorem b_111_50 : law.blk Try.prog ids Summs.tab 60 [1, 1, 1] 50 2 = true := by kernel_rfl
set_option maxRecDepth 1000000 in
theorem b_111_52 : law.blk Try.prog ids Summs.tab 60 [1, 1, 1] 52 2 = true := by kernel_rfl
set_option maxRecDepth 1000000 in
theorem b_111_54 : law.blk Try.prog ids Summs.tab 60 [1, 1, 1] 54 2 = true := by kernel_rfl
set_option maxRecDepth 1000000 in
theorem b_111_56 : law.blk Try.prog ids Summs.tab 60 [1, 1, 1] 56 2 = true := by kernel_rfl
set_option maxRecDepth 1000000 in
theorem b_111_58 : law.blk Try.prog ids Summs.tab 60 [1, 1, 1] 58 2 = true := by kernel_rfl
set_option maxRecDepth 1000000 in
theorem b_111_60 : law.blk Try.prog ids Summs.tab 60 [1, 1, 1] 60 2 = true := by kernel_rfl
set_option maxRecDepth 1000000 in
theorem b_111_62 : law.blk Try.prog ids Summs.tab 60 [1, 1, 1] 62 2 = true := by kernel_rfl
set_option maxRecDepth 1000000 in
theorem b_111_64 : law.blk Try.prog ids Summs.tab 60 [1, 1, 1] 64 2 = true := by kernel_rfl
set_option maxRecDepth 1000000 in
theorem b_111_66 : law.blk Try.prog ids Summs.tab 60 [1, 1, 1] 66 2 = true := by kernel_rfl
set_option maxRecDepth 1000000 in
theorem b_111_68 : law.blk Try.prog ids Summs.tab 60 [1, 1, 1] 68 2 = true := by kernel_rfl
set_option maxRecDepth 1000000 in
theorem b_111_70 : law.blk Try.prog ids Summs.tab 60 [1, 1, 1] 70 2 = true := by kernel_rfl
set_option maxRecDepth 1000000 in
theorem b_111_72 : law.blk Try.prog ids Summs.tab 60 [1, 1, 1] 72 2 = true := by kernel_rfl
set_option maxRecDepth 1000000 in
theorem b_111_74 : law.blk Try.prog ids Summs.tab 60 [1, 1, 1] 74 2 = true := by kernel_rfl
set_option maxRecDepth 1000000 in
theorem b_111_76 : law.blk Try.prog ids Summs.tab 60 [1, 1, 1] 76 2 = true := by kernel_rfl
set_option maxRecDepth 1000000 in
theorem b_111_78 : law.blk Try.prog ids Summs.tab 60 [1, 1, 1] 78 2 = true := by kernel_rfl
set_option maxRecDepth 1000000 in
theorem b_111_80 : law.blk Try.prog ids Summs.tab 60 [1, 1, 1] 80 2 = true := by kernel_rfl
set_option maxRecDepth 1000000 in
theorem b_111_82 : law.blk Try.prog ids Summs.tab 60 [1, 1, 1] 82 2 = true := by kernel_rfl
set_option maxRecDepth 1000000 in
theorem b_111_84 : law.blk Try.prog ids Summs.tab 60 [1, 1, 1] 84 2 = true := by kernel_rfl
set_option maxRecDepth 1000000 in
theorem b_111_86 : law.blk Try.prog ids Summs.tab 60 [1, 1, 1] 86 2 = true := by kernel_rfl
set_option maxRecDepth 1000000 in
theorem b_111_88 : law.blk Try.prog ids Summs.tab 60 [1, 1, 1] 88 2 = true := by kernel_rfl
set_option maxRecDepth 1000000 in
theorem b_111_90 : law.blk Try.prog ids Summs.tab 60 [1, 1, 1] 90 2 = true := by kernel_rfl
set_option maxRecDepth 1000000 in
theorem b_111_92 : law.blk Try.prog ids Summs.tab 60 [1, 1, 1] 92 2 = true := by kernel_rfl
set_option maxRecDepth 1000000 in
theorem b_111_94 : law.blk Try.prog ids Summs.tab 60 [1, 1, 1] 94 2 = true := by kernel_rfl
set_option maxRecDepth 1000000 in
theorem b_111_96 : law.blk Try.prog ids Summs.tab 60 [1, 1, 1] 96 2 = true := by kernel_rfl
set_option maxRecDepth 1000000 in
theorem b_111_98 : law.blk Try.prog ids Summs.tab 60 [1, 1, 1] 98 2 = true := by kernel_rfl
set_option maxRecDepth 1000000 in
theorem b_111_100 : law.blk Try.prog ids Summs.tab 60 [1, 1, 1] 100 2 = true := by kernel_rfl
set_option maxRecDepth 1000000 in
theorem b_111_102 : law.blk Try.prog ids Summs.tab 60 [1, 1, 1] 102 2 = true := by kernel_rfl
set_option maxRecDepth 1000000 in
theorem b_111_104 : law.blk Try.prog ids Summs.tab 60 [1, 1, 1] 104 2 = true := by kernel_rfl
set_option maxRecDepth 1000000 in
theorem b_111_106 : law.blk Try.prog ids Summs.tab 60 [1, 1, 1] 106 2 = true := by kernel_rfl
end Go.Proofs.Ytjodjcmdlbhciaa.DTransformBy

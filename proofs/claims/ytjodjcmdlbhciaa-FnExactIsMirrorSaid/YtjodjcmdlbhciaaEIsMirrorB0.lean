/-
  A part of the proof of FnExactIsMirror: cases of its law, each a run. No condition.
-/
import Derived.Test.YtjodjcmdlbhciaaEIsMirrorA
namespace Go.Proofs.Ytjodjcmdlbhciaa.EIsMirror
open Go.ChangeShapes Go.WideShapes Go.ChangeAt Go.RowKit Go.Sx Go.Proofs.Ytjodjcmdlbhciaa.Ids
set_option linter.unusedVariables false
set_option linter.unusedSimpArgs false

set_option maxRecDepth 1000000 in
theorem b_00_0 : law.blk Try.prog ids Summs.tab 60 [0, 0] 0 1 = true := by kernel_rfl
set_option maxRecDepth 1000000 in
theorem b_01_0 : law.blk Try.prog ids Summs.tab 60 [0, 1] 0 1 = true := by kernel_rfl
set_option maxRecDepth 1000000 in
theorem b_10_0 : law.blk Try.prog ids Summs.tab 60 [1, 0] 0 2 = true := by kernel_rfl
set_option maxRecDepth 1000000 in
theorem b_11_0 : law.blk Try.prog ids Summs.tab 60 [1, 1] 0 4 = true := by kernel_rfl
set_option maxRecDepth 1000000 in
theorem b_11_4 : law.blk Try.prog ids Summs.tab 60 [1, 1] 4 4 = true := by kernel_rfl
set_option maxRecDepth 1000000 in
theorem b_11_8 : law.blk Try.prog ids Summs.tab 60 [1, 1] 8 4 = true := by kernel_rfl
set_option maxRecDepth 1000000 in
theorem b_11_12 : law.blk Try.prog ids Summs.tab 60 [1, 1] 12 4 = true := by kernel_rfl
set_option maxRecDepth 1000000 in
theorem b_11_16 : law.blk Try.prog ids Summs.tab 60 [1, 1] 16 4 = true := by kernel_rfl
set_option maxRecDepth 1000000 in
theorem b_11_20 : law.blk Try.prog ids Summs.tab 60 [1, 1] 20 4 = true := by kernel_rfl
set_option maxRecDepth 1000000 in
theorem b_11_24 : law.blk Try.prog ids Summs.tab 60 [1, 1] 24 4 = true := by kernel_rfl
set_option maxRecDepth 1000000 in
theorem b_11_28 : law.blk Try.prog ids Summs.tab 60 [1, 1] 28 4 = true := by kernel_rfl
set_option maxRecDepth 1000000 in
theorem b_11_32 : law.blk Try.prog ids Summs.tab 60 [1, 1] 32 4 = true := by kernel_rfl
set_option maxRecDepth 1000000 in
theorem b_11_36 : law.blk Try.prog ids Summs.tab 60 [1, 1] 36 4 = true := by kernel_rfl
set_option maxRecDepth 1000000 in
theorem b_11_40 : law.blk Try.prog ids Summs.tab 60 [1, 1] 40 4 = true := by kernel_rfl
set_option maxRecDepth 1000000 in
theorem b_11_44 : law.blk Try.prog ids Summs.tab 60 [1, 1] 44 4 = true := by kernel_rfl
set_option maxRecDepth 1000000 in
theorem b_11_48 : law.blk Try.prog ids Summs.tab 60 [1, 1] 48 4 = true := by kernel_rfl
set_option maxRecDepth 1000000 in
theorem b_11_52 : law.blk Try.prog ids Summs.tab 60 [1, 1] 52 4 = true := by kernel_rfl
set_option maxRecDepth 1000000 in
theorem b_11_56 : law.blk Try.prog ids Summs.tab 60 [1, 1] 56 4 = true := by kernel_rfl
set_option maxRecDepth 1000000 in
theorem b_11_60 : law.blk Try.prog ids Summs.tab 60 [1, 1] 60 4 = true := by kernel_rfl
set_option maxRecDepth 1000000 in
theorem b_11_64 : law.blk Try.prog ids Summs.tab 60 [1, 1] 64 4 = true := by kernel_rfl
set_option maxRecDepth 1000000 in
theorem b_11_68 : law.blk Try.prog ids Summs.tab 60 [1, 1] 68 4 = true := by kernel_rfl
set_option maxRecDepth 1000000 in
theorem b_11_72 : law.blk Try.prog ids Summs.tab 60 [1, 1] 72 4 = true := by kernel_rfl
set_option maxRecDepth 1000000 in
theorem b_11_76 : law.blk Try.prog ids Summs.tab 60 [1, 1] 76 4 = true := by kernel_rfl
set_option maxRecDepth 1000000 in
theorem b_11_80 : law.blk Try.prog ids Summs.tab 60 [1, 1] 80 4 = true := by kernel_rfl
set_option maxRecDepth 1000000 in
theorem b_11_84 : law.blk Try.prog ids Summs.tab 60 [1, 1] 84 4 = true := by kernel_rfl
set_option maxRecDepth 1000000 in
theorem b_11_88 : law.blk Try.prog ids Summs.tab 60 [1, 1] 88 4 = true := by kernel_rfl
set_option maxRecDepth 1000000 in
theorem b_11_92 : law.blk Try.prog ids Summs.tab 60 [1, 1] 92 4 = true := by kernel_rfl
set_option maxRecDepth 1000000 in
theorem b_11_96 : law.blk Try.prog ids Summs.tab 60 [1, 1] 96 4 = true := by kernel_rfl
set_option maxRecDepth 1000000 in
theorem b_11_100 : law.blk Try.prog ids Summs.tab 60 [1, 1] 100 4 = true := by kernel_rfl
set_option maxRecDepth 1000000 in
theorem b_11_104 : law.blk Try.prog ids Summs.tab 60 [1, 1] 104 4 = true := by kernel_rfl
set_option maxRecDepth 1000000 in
theorem b_11_108 : law.blk Try.prog ids Summs.tab 60 [1, 1] 108 4 = true := by kernel_rfl
end Go.Proofs.Ytjodjcmdlbhciaa.EIsMirror

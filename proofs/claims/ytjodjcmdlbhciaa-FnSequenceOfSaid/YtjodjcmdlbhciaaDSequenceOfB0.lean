/-
  A part of the proof of FnSequenceOf: cases of its law, each a run. No condition.
-/
import Derived.Test.YtjodjcmdlbhciaaDSequenceOfA
namespace Go.Proofs.Ytjodjcmdlbhciaa.DSequenceOf
open Go.ChangeShapes Go.WideShapes Go.ChangeAt Go.RowKit Go.Sx Go.Proofs.Ytjodjcmdlbhciaa.Ids
set_option linter.unusedVariables false
set_option linter.unusedSimpArgs false

set_option maxRecDepth 1000000 in
theorem b_00_0 : law.blk Try.prog ids Summs.tab 60 [0, 0] 0 1 = true := by kernel_rfl
set_option maxRecDepth 1000000 in
theorem b_01_0 : law.blk Try.prog ids Summs.tab 60 [0, 1] 0 1 = true := by kernel_rfl
set_option maxRecDepth 1000000 in
theorem b_10_0 : law.blk Try.prog ids Summs.tab 60 [1, 0] 0 2 = true := by kernel_rfl
set_option maxRecDepth 1000000 in
theorem b_11_0 : law.blk Try.prog ids Summs.tab 60 [1, 1] 0 8 = true := by kernel_rfl
set_option maxRecDepth 1000000 in
theorem b_11_8 : law.blk Try.prog ids Summs.tab 60 [1, 1] 8 8 = true := by kernel_rfl
set_option maxRecDepth 1000000 in
theorem b_11_16 : law.blk Try.prog ids Summs.tab 60 [1, 1] 16 8 = true := by kernel_rfl
set_option maxRecDepth 1000000 in
theorem b_11_24 : law.blk Try.prog ids Summs.tab 60 [1, 1] 24 8 = true := by kernel_rfl
set_option maxRecDepth 1000000 in
theorem b_11_32 : law.blk Try.prog ids Summs.tab 60 [1, 1] 32 8 = true := by kernel_rfl
set_option maxRecDepth 1000000 in
theorem b_11_40 : law.blk Try.prog ids Summs.tab 60 [1, 1] 40 8 = true := by kernel_rfl
set_option maxRecDepth 1000000 in
theorem b_11_48 : law.blk Try.prog ids Summs.tab 60 [1, 1] 48 8 = true := by kernel_rfl
set_option maxRecDepth 1000000 in
theorem b_11_56 : law.blk Try.prog ids Summs.tab 60 [1, 1] 56 8 = true := by kernel_rfl
set_option maxRecDepth 1000000 in
theorem b_11_64 : law.blk Try.prog ids Summs.tab 60 [1, 1] 64 8 = true := by kernel_rfl
set_option maxRecDepth 1000000 in
theorem b_11_72 : law.blk Try.prog ids Summs.tab 60 [1, 1] 72 8 = true := by kernel_rfl
set_option maxRecDepth 1000000 in
theorem b_11_80 : law.blk Try.prog ids Summs.tab 60 [1, 1] 80 8 = true := by kernel_rfl
set_option maxRecDepth 1000000 in
theorem b_11_88 : law.blk Try.prog ids Summs.tab 60 [1, 1] 88 8 = true := by kernel_rfl
set_option maxRecDepth 1000000 in
theorem b_11_96 : law.blk Try.prog ids Summs.tab 60 [1, 1] 96 8 = true := by kernel_rfl
set_option maxRecDepth 1000000 in
theorem b_11_104 : law.blk Try.prog ids Summs.tab 60 [1, 1] 104 8 = true := by kernel_rfl
set_option maxRecDepth 1000000 in
theorem b_11_112 : law.blk Try.prog ids Summs.tab 60 [1, 1] 112 8 = true := by kernel_rfl
set_option maxRecDepth 1000000 in
theorem b_11_120 : law.blk Try.prog ids Summs.tab 60 [1, 1] 120 8 = true := by kernel_rfl
set_option maxRecDepth 1000000 in
theorem b_11_128 : law.blk Try.prog ids Summs.tab 60 [1, 1] 128 8 = true := by kernel_rfl
end Go.Proofs.Ytjodjcmdlbhciaa.DSequenceOf

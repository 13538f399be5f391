/-
  A part of the proof of FnLabelCount: cases of its law, each a run. No condition.
-/
import Derived.Test.YtmaheakamonagaaDLabelCountA
namespace Go.Proofs.Ytmaheakamonagaa.DLabelCount
open Go.ChangeShapes Go.WideShapes Go.ChangeAt Go.RowKit Go.Sx Go.Proofs.Ytmaheakamonagaa.Ids
set_option linter.unusedVariables false
set_option linter.unusedSimpArgs false

set_option maxRecDepth 1000000 in
theorem b_00_0 : law.blk Try.prog ids Summs.tab 200 [0, 0] 0 1 = true := by kernel_rfl
set_option maxRecDepth 1000000 in
theorem b_01_0 : law.blk Try.prog ids Summs.tab 200 [0, 1] 0 1 = true := by kernel_rfl
set_option maxRecDepth 1000000 in
theorem b_10_0 : law.blk Try.prog ids Summs.tab 200 [1, 0] 0 6 = true := by kernel_rfl
set_option maxRecDepth 1000000 in
theorem b_10_6 : law.blk Try.prog ids Summs.tab 200 [1, 0] 6 1 = true := by kernel_rfl
set_option maxRecDepth 1000000 in
theorem b_11_0 : law.blk Try.prog ids Summs.tab 200 [1, 1] 0 6 = true := by kernel_rfl
set_option maxRecDepth 1000000 in
theorem b_11_6 : law.blk Try.prog ids Summs.tab 200 [1, 1] 6 6 = true := by kernel_rfl
set_option maxRecDepth 1000000 in
theorem b_11_12 : law.blk Try.prog ids Summs.tab 200 [1, 1] 12 6 = true := by kernel_rfl
set_option maxRecDepth 1000000 in
theorem b_11_18 : law.blk Try.prog ids Summs.tab 200 [1, 1] 18 6 = true := by kernel_rfl
set_option maxRecDepth 1000000 in
theorem b_11_24 : law.blk Try.prog ids Summs.tab 200 [1, 1] 24 6 = true := by kernel_rfl
set_option maxRecDepth 1000000 in
theorem b_11_30 : law.blk Try.prog ids Summs.tab 200 [1, 1] 30 6 = true := by kernel_rfl
set_option maxRecDepth 1000000 in
theorem b_11_36 : law.blk Try.prog ids Summs.tab 200 [1, 1] 36 6 = true := by kernel_rfl
set_option maxRecDepth 1000000 in
theorem b_11_42 : law.blk Try.prog ids Summs.tab 200 [1, 1] 42 6 = true := by kernel_rfl
set_option maxRecDepth 1000000 in
theorem b_11_48 : law.blk Try.prog ids Summs.tab 200 [1, 1] 48 6 = true := by kernel_rfl
set_option maxRecDepth 1000000 in
theorem b_11_54 : law.blk Try.prog ids Summs.tab 200 [1, 1] 54 6 = true := by kernel_rfl
set_option maxRecDepth 1000000 in
theorem b_11_60 : law.blk Try.prog ids Summs.tab 200 [1, 1] 60 6 = true := by kernel_rfl
set_option maxRecDepth 1000000 in
theorem b_11_66 : law.blk Try.prog ids Summs.tab 200 [1, 1] 66 6 = true := by kernel_rfl
set_option maxRecDepth 1000000 in
theorem b_11_72 : law.blk Try.prog ids Summs.tab 200 [1, 1] 72 6 = true := by kernel_rfl
set_option maxRecDepth 1000000 in
theorem b_11_78 : law.blk Try.prog ids Summs.tab 200 [1, 1] 78 6 = true := by kernel_rfl
set_option maxRecDepth 1000000 in
theorem b_11_84 : law.blk Try.prog ids Summs.tab 200 [1, 1] 84 6 = true := by kernel_rfl
set_option maxRecDepth 1000000 in
theorem b_11_90 : law.blk Try.prog ids Summs.tab 200 [1, 1] 90 6 = true := by kernel_rfl
set_option maxRecDepth 1000000 in
theorem b_11_96 : law.blk Try.prog ids Summs.tab 200 [1, 1] 96 6 = true := by kernel_rfl
set_option maxRecDepth 1000000 in
theorem b_11_102 : law.blk Try.prog ids Summs.tab 200 [1, 1] 102 6 = true := by kernel_rfl
set_option maxRecDepth 1000000 in
theorem b_11_108 : law.blk Try.prog ids Summs.tab 200 [1, 1] 108 6 = true := by kernel_rfl
set_option maxRecDepth 1000000 in
theorem b_11_114 : law.blk Try.prog ids Summs.tab 200 [1, 1] 114 6 = true := by kernel_rfl
set_option maxRecDepth 1000000 in
theorem b_11_120 : law.blk Try.prog ids Summs.tab 200 [1, 1] 120 6 = true := by kernel_rfl
set_option maxRecDepth 1000000 in
theorem b_11_126 : law.blk Try.prog ids Summs.tab 200 [1, 1] 126 6 = true := by kernel_rfl
set_option maxRecDepth 1000000 in
theorem b_11_132 : law.blk Try.prog ids Summs.tab 200 [1, 1] 132 6 = true := by kernel_rfl
set_option maxRecDepth 1000000 in
theorem b_11_138 : law.blk Try.prog ids Summs.tab 200 [1, 1] 138 6 = true := by kernel_rfl
set_option maxRecDepth 1000000 in
theorem b_11_144 : law.blk Try.prog ids Summs.tab 200 [1, 1] 144 6 = true := by kernel_rfl
set_option maxRecDepth 1000000 in
theorem b_11_150 : law.blk Try.prog ids Summs.tab 200 [1, 1] 150 6 = true := by kernel_rfl
set_option maxRecDepth 1000000 in
theorem b_11_156 : law.blk Try.prog ids Summs.tab 200 [1, 1] 156 6 = true := by kernel_rfl
set_option maxRecDepth 1000000 in
theorem b_11_162 : law.blk Try.prog ids Summs.tab 200 [1, 1] 162 6 = true := by kernel_rfl
set_option maxRecDepth 1000000 in
theorem b_11_168 : law.blk Try.prog ids Summs.tab 200 [1, 1] 168 6 = true := by kernel_rfl
end Go.Proofs.Ytmaheakamonagaa.DLabelCount

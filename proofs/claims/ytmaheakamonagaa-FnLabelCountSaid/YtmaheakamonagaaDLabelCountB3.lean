/-
  A part of the proof of FnLabelCount: cases of its law, each a run. No condition.
-/
import Derived.Test.YtmaheakamonagaaDLabelCountA
namespace Go.Proofs.Ytmaheakamonagaa.DLabelCount
open Go.ChangeShapes Go.WideShapes Go.ChangeAt Go.RowKit Go.Sx Go.Proofs.Ytmaheakamonagaa.Ids
set_option linter.unusedVariables false
set_option linter.unusedSimpArgs false

set_option maxRecDepth 1000000 in
theorem b_11_534 : law.blk Try.prog ids Summs.tab 200 [1, 1] 534 6 = true := by kernel_rfl
set_option maxRecDepth 1000000 in
theorem b_11_540 : law.blk Try.prog ids Summs.tab 200 [1, 1] 540 6 = true := by kernel_rfl
set_option maxRecDepth 1000000 in
theorem b_11_546 : law.blk Try.prog ids Summs.tab 200 [1, 1] 546 6 = true := by kernel_rfl
set_option maxRecDepth 1000000 in
theorem b_11_552 : law.blk Try.prog ids Summs.tab 200 [1, 1] 552 6 = true := by kernel_rfl
set_option maxRecDepth 1000000 in
theorem b_11_558 : law.blk Try.prog ids Summs.tab 200 [1, 1] 558 6 = true := by kernel_rfl
set_option maxRecDepth 1000000 in
theorem b_11_564 : law.blk Try.prog ids Summs.tab 200 [1, 1] 564 6 = true := by kernel_rfl
set_option maxRecDepth 1000000 in
theorem b_11_570 : law.blk Try.prog ids Summs.tab 200 [1, 1] 570 6 = true := by kernel_rfl
set_option maxRecDepth 1000000 in
theorem b_11_576 : law.blk Try.prog ids Summs.tab 200 [1, 1] 576 6 = true := by kernel_rfl
set_option maxRecDepth 1000000 in
theorem b_11_582 : law.blk Try.prog ids Summs.tab 200 [1, 1] 582 6 = true := by kernel_rfl
set_option maxRecDepth 1000000 in
theorem b_11_588 : law.blk Try.prog ids Summs.tab 200 [1, 1] 588 6 = true := by kernel_rfl
set_option maxRecDepth 1000000 in
theorem b_11_594 : law.blk Try.prog ids Summs.tab 200 [1, 1] 594 6 = true := by kernel_rfl
set_option maxRecDepth 1000000 in
theorem b_11_600 : law.blk Try.prog ids Summs.tab 200 [1, 1] 600 6 = true := by kernel_rfl
set_option maxRecDepth 1000000 in
theorem b_11_606 : law.blk Try.prog ids Summs.tab 200 [1, 1] 606 6 = true := by kernel_rfl
set_option maxRecDepth 1000000 in
theorem b_11_612 : law.blk Try.prog ids Summs.tab 200 [1, 1] 612 6 = true := by kernel_rfl
set_option maxRecDepth 1000000 in
theorem b_11_618 : law.blk Try.prog ids Summs.tab 200 [1, 1] 618 6 = true := by kernel_rfl
set_option maxRecDepth 1000000 in
theorem b_11_624 : law.blk Try.prog ids Summs.tab 200 [1, 1] 624 6 = true := by kernel_rfl
set_option maxRecDepth 1000000 in
theorem b_11_630 : law.blk Try.prog ids Summs.tab 200 [1, 1] 630 6 = true := by kernel_rfl
set_option maxRecDepth 1000000 in
theorem b_11_636 : law.blk Try.prog ids Summs.tab 200 [1, 1] 636 6 = true := by kernel_rfl
set_option maxRecDepth 1000000 in
theorem b_11_642 : law.blk Try.prog ids Summs.tab 200 [1, 1] 642 6 = true := by kernel_rfl
set_option maxRecDepth 1000000 in
theorem b_11_648 : law.blk Try.prog ids Summs.tab 200 [1, 1] 648 6 = true := by kernel_rfl
set_option maxRecDepth 1000000 in
theorem b_11_654 : law.blk Try.prog ids Summs.tab 200 [1, 1] 654 6 = true := by kernel_rfl
set_option maxRecDepth 1000000 in
theorem b_11_660 : law.blk Try.prog ids Summs.tab 200 [1, 1] 660 6 = true := by kernel_rfl
set_option maxRecDepth 1000000 in
theorem b_11_666 : law.blk Try.prog ids Summs.tab 200 [1, 1] 666 6 = true := by kernel_rfl
set_option maxRecDepth 1000000 in
theorem b_11_672 : law.blk Try.prog ids Summs.tab 200 [1, 1] 672 6 = true := by kernel_rfl
set_option maxRecDepth 1000000 in
theorem b_11_678 : law.blk Try.prog ids Summs.tab 200 [1, 1] 678 6 = true := by kernel_rfl
set_option maxRecDepth 1000000 in
theorem b_11_684 : law.blk Try.prog ids Summs.tab 200 [1, 1] 684 6 = true := by kernel_rfl
set_option maxRecDepth 1000000 in
theorem b_11_690 : law.blk Try.prog ids Summs.tab 200 [1, 1] 690 6 = true := by kernel_rfl
set_option maxRecDepth 1000000 in
theorem b_11_696 : law.blk Try.prog ids Summs.tab 200 [1, 1] 696 6 = true := by kernel_rfl
set_option maxRecDepth 1000000 in
theorem b_11_702 : law.blk Try.prog ids Summs.tab 200 [1, 1] 702 1 = true := by kernel_rfl
end Go.Proofs.Ytmaheakamonagaa.DLabelCount

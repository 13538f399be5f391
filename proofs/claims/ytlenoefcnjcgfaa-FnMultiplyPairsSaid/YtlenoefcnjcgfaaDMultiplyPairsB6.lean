/-
  A part of the proof of FnMultiplyPairs: cases of its law, each a run. No condition.
-/
import Derived.Test.YtlenoefcnjcgfaaDMultiplyPairsA
namespace Go.Proofs.Ytlenoefcnjcgfaa.DMultiplyPairs
open Go.ChangeShapes Go.WideShapes Go.ChangeAt Go.RowKit Go.Sx Go.Proofs.Ytlenoefcnjcgfaa.Ids
set_option linter.unusedVariables false
set_option linter.unusedSimpArgs false

set_option maxRecDepth 1000000 in
theorem b_1111_636 : law.blk Try.prog ids Summs.tab 60 [1, 1, 1, 1] 636 4 = true := by kernel_rfl
set_option maxRecDepth 1000000 in
theorem b_1111_640 : law.blk Try.prog ids Summs.tab 60 [1, 1, 1, 1] 640 4 = true := by kernel_rfl
set_option maxRecDepth 1000000 in
theorem b_1111_644 : law.blk Try.prog ids Summs.tab 60 [1, 1, 1, 1] 644 4 = true := by kernel_rfl
set_option maxRecDepth 1000000 in
theorem b_1111_648 : law.blk Try.prog ids Summs.tab 60 [1, 1, 1, 1] 648 4 = true := by kernel_rfl
set_option maxRecDepth 1000000 in
theorem b_1111_652 : law.blk Try.prog ids Summs.tab 60 [1, 1, 1, 1] 652 4 = true := by kernel_rfl
set_option maxRecDepth 1000000 in
theorem b_1111_656 : law.blk Try.prog ids Summs.tab 60 [1, 1, 1, 1] 656 4 = true := by kernel_rfl
set_option maxRecDepth 1000000 in
theorem b_1111_660 : law.blk Try.prog ids Summs.tab 60 [1, 1, 1, 1] 660 4 = true := by kernel_rfl
set_option maxRecDepth 1000000 in
theorem b_1111_664 : law.blk Try.prog ids Summs.tab 60 [1, 1, 1, 1] 664 4 = true := by kernel_rfl
set_option maxRecDepth 1000000 in
theorem b_1111_668 : law.blk Try.prog ids Summs.tab 60 [1, 1, 1, 1] 668 4 = true := by kernel_rfl
set_option maxRecDepth 1000000 in
theorem b_1111_672 : law.blk Try.prog ids Summs.tab 60 [1, 1, 1, 1] 672 4 = true := by kernel_rfl
set_option maxRecDepth 1000000 in
theorem b_1111_676 : law.blk Try.prog ids Summs.tab 60 [1, 1, 1, 1] 676 4 = true := by kernel_rfl
set_option maxRecDepth 1000000 in
theorem b_1111_680 : law.blk Try.prog ids Summs.tab 60 [1, 1, 1, 1] 680 4 = true := by kernel_rfl
set_option maxRecDepth 1000000 in
theorem b_1111_684 : law.blk Try.prog ids Summs.tab 60 [1, 1, 1, 1] 684 4 = true := by kernel_rfl
set_option maxRecDepth 1000000 in
theorem b_1111_688 : law.blk Try.prog ids Summs.tab 60 [1, 1, 1, 1] 688 4 = true := by kernel_rfl
set_option maxRecDepth 1000000 in
theorem b_1111_692 : law.blk Try.prog ids Summs.tab 60 [1, 1, 1, 1] 692 4 = true := by kernel_rfl
set_option maxRecDepth 1000000 in
theorem b_1111_696 : law.blk Try.prog ids Summs.tab 60 [1, 1, 1, 1] 696 4 = true := by kernel_rfl
set_option maxRecDepth 1000000 in
theorem b_1111_700 : law.blk Try.prog ids Summs.tab 60 [1, 1, 1, 1] 700 4 = true := by kernel_rfl
set_option maxRecDepth 1000000 in
theorem b_1111_704 : law.blk Try.prog ids Summs.tab 60 [1, 1, 1, 1] 704 4 = true := by kernel_rfl
set_option maxRecDepth 1000000 in
theorem b_1111_708 : law.blk Try.prog ids Summs.tab 60 [1, 1, 1, 1] 708 4 = true := by kernel_rfl
set_option maxRecDepth 1000000 in
theorem b_1111_712 : law.blk Try.prog ids Summs.tab 60 [1, 1, 1, 1] 712 4 = true := by kernel_rfl
set_option maxRecDepth 1000000 in
theorem b_1111_716 : law.blk Try.prog ids Summs.tab 60 [1, 1, 1, 1] 716 4 = true := by kernel_rfl
set_option maxRecDepth 1000000 in
theorem b_1111_720 : law.blk Try.prog ids Summs.tab 60 [1, 1, 1, 1] 720 4 = true := by kernel_rfl
set_option maxRecDepth 1000000 in
theorem b_1111_724 : law.blk Try.prog ids Summs.tab 60 [1, 1, 1, 1] 724 4 = true := by kernel_rfl
set_option maxRecDepth 1000000 in
theorem b_1111_728 : law.blk Try.prog ids Summs.tab 60 [1, 1, 1, 1] 728 4 = true := by kernel_rfl
set_option maxRecDepth 1000000 in
theorem b_1111_732 : law.blk Try.prog ids Summs.tab 60 [1, 1, 1, 1] 732 4 = true := by kernel_rfl
set_option maxRecDepth 1000000 in
theorem b_1111_736 : law.blk Try.prog ids Summs.tab 60 [1, 1, 1, 1] 736 4 = true := by kernel_rfl
set_option maxRecDepth 1000000 in
theorem b_1111_740 : law.blk Try.prog ids Summs.tab 60 [1, 1, 1, 1] 740 4 = true := by kernel_rfl
set_option maxRecDepth 1000000 in
theorem b_1111_744 : law.blk Try.prog ids Summs.tab 60 [1, 1, 1, 1] 744 4 = true := by kernel_rfl
set_option maxRecDepth 1000000 in
theorem b_1111_748 : law.blk Try.prog ids Summs.tab 60 [1, 1, 1, 1] 748 4 = true := by kernel_rfl
set_option maxRecDepth 1000000 in
theorem b_1111_752 : law.blk Try.prog ids Summs.tab 60 [1, 1, 1, 1] 752 4 = true := by kernel_rfl
set_option maxRecDepth 1000000 in
theorem b_1111_756 : law.blk Try.prog ids Summs.tab 60 [1, 1, 1, 1] 756 4 = true := by kernel_rfl
set_option maxRecDepth 1000000 in
theorem b_1111_760 : law.blk Try.prog ids Summs.tab 60 [1, 1, 1, 1] 760 4 = true := by kernel_rfl
set_option maxRecDepth 1000000 in
theorem b_1111_764 : law.blk Try.prog ids Summs.tab 60 [1, 1, 1, 1] 764 4 = true := by kernel_rfl
set_option maxRecDepth 1000000 in
theorem b_1111_768 : law.blk Try.prog ids Summs.tab 60 [1, 1, 1, 1] 768 4 = true := by kernel_rfl
set_option maxRecDepth 1000000 in
theorem b_1111_772 : law.blk Try.prog ids Summs.tab 60 [1, 1, 1, 1] 772 4 = true := by kernel_rfl
set_option maxRecDepth 1000000 in
theorem b_1111_776 : law.blk Try.prog ids Summs.tab 60 [1, 1, 1, 1] 776 4 = true := by kernel_rfl
set_option maxRecDepth 1000000 in
theorem b_1111_780 : law.blk Try.prog ids Summs.tab 60 [1, 1, 1, 1] 780 4 = true := by kernel_rfl
set_option maxRecDepth 1000000 in
theorem b_1111_784 : law.blk Try.prog ids Summs.tab 60 [1, 1, 1, 1] 784 4 = true := by kernel_rfl
end Go.Proofs.Ytlenoefcnjcgfaa.DMultiplyPairs

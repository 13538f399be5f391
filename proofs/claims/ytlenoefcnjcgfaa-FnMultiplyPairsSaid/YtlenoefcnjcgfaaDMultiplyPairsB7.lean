/-
  A part of the proof of FnMultiplyPairs: cases of its law, each a run. No condition.
-/
import Derived.Test.YtlenoefcnjcgfaaDMultiplyPairsA
namespace Go.Proofs.Ytlenoefcnjcgfaa.DMultiplyPairs
open Go.ChangeShapes Go.WideShapes Go.ChangeAt Go.RowKit Go.Sx Go.Proofs.Ytlenoefcnjcgfaa.Ids
set_option linter.unusedVariables false
set_option linter.unusedSimpArgs false

set_option maxRecDepth 1000000 in
theorem b_1111_788 : law.blk Try.prog ids Summs.tab 60 [1, 1, 1, 1] 788 4 = true := by kernel_rfl
set_option maxRecDepth 1000000 in
theorem b_1111_792 : law.blk Try.prog ids Summs.tab 60 [1, 1, 1, 1] 792 4 = true := by kernel_rfl
set_option maxRecDepth 1000000 in
theorem b_1111_796 : law.blk Try.prog ids Summs.tab 60 [1, 1, 1, 1] 796 4 = true := by kernel_rfl
set_option maxRecDepth 1000000 in
theorem b_1111_800 : law.blk Try.prog ids Summs.tab 60 [1, 1, 1, 1] 800 4 = true := by kernel_rfl
set_option maxRecDepth 1000000 in
theorem b_1111_804 : law.blk Try.prog ids Summs.tab 60 [1, 1, 1, 1] 804 4 = true := by kernel_rfl
set_option maxRecDepth 1000000 in
theorem b_1111_808 : law.blk Try.prog ids Summs.tab 60 [1, 1, 1, 1] 808 4 = true := by kernel_rfl
set_option maxRecDepth 1000000 in
theorem b_1111_812 : law.blk Try.prog ids Summs.tab 60 [1, 1, 1, 1] 812 4 = true := by kernel_rfl
set_option maxRecDepth 1000000 in
theorem b_1111_816 : law.blk Try.prog ids Summs.tab 60 [1, 1, 1, 1] 816 4 = true := by kernel_rfl
set_option maxRecDepth 1000000 in
theorem b_1111_820 : law.blk Try.prog ids Summs.tab 60 [1, 1, 1, 1] 820 4 = true := by kernel_rfl
set_option maxRecDepth 1000000 in
theorem b_1111_824 : law.blk Try.prog ids Summs.tab 60 [1, 1, 1, 1] 824 4 = true := by kernel_rfl
set_option maxRecDepth 1000000 in
theorem b_1111_828 : law.blk Try.prog ids Summs.tab 60 [1, 1, 1, 1] 828 4 = true := by kernel_rfl
set_option maxRecDepth 1000000 in
theorem b_1111_832 : law.blk Try.prog ids Summs.tab 60 [1, 1, 1, 1] 832 4 = true := by kernel_rfl
set_option maxRecDepth 1000000 in
theorem b_1111_836 : law.blk Try.prog ids Summs.tab 60 [1, 1, 1, 1] 836 4 = true := by kernel_rfl
set_option maxRecDepth 1000000 in
theorem b_1111_840 : law.blk Try.prog ids Summs.tab 60 [1, 1, 1, 1] 840 4 = true := by kernel_rfl
set_option maxRecDepth 1000000 in
theorem b_1111_844 : law.blk Try.prog ids Summs.tab 60 [1, 1, 1, 1] 844 4 = true := by kernel_rfl
set_option maxRecDepth 1000000 in
theorem b_1111_848 : law.blk Try.prog ids Summs.tab 60 [1, 1, 1, 1] 848 4 = true := by kernel_rfl
set_option maxRecDepth 1000000 in
theorem b_1111_852 : law.blk Try.prog ids Summs.tab 60 [1, 1, 1, 1] 852 4 = true := by kernel_rfl
set_option maxRecDepth 1000000 in
theorem b_1111_856 : law.blk Try.prog ids Summs.tab 60 [1, 1, 1, 1] 856 4 = true := by kernel_rfl
set_option maxRecDepth 1000000 in
theorem b_1111_860 : law.blk Try.prog ids Summs.tab 60 [1, 1, 1, 1] 860 4 = true := by kernel_rfl
set_option maxRecDepth 1000000 in
theorem b_1111_864 : law.blk Try.prog ids Summs.tab 60 [1, 1, 1, 1] 864 4 = true := by kernel_rfl
set_option maxRecDepth 1000000 in
theorem b_1111_868 : law.blk Try.prog ids Summs.tab 60 [1, 1, 1, 1] 868 4 = true := by kernel_rfl
set_option maxRecDepth 1000000 in
theorem b_1111_872 : law.blk Try.prog ids Summs.tab 60 [1, 1, 1, 1] 872 4 = true := by kernel_rfl
set_option maxRecDepth 1000000 in
theorem b_1111_876 : law.blk Try.prog ids Summs.tab 60 [1, 1, 1, 1] 876 4 = true := by kernel_rfl
set_option maxRecDepth 1000000 in
theorem b_1111_880 : law.blk Try.prog ids Summs.tab 60 [1, 1, 1, 1] 880 4 = true := by kernel_rfl
set_option maxRecDepth 1000000 in
theorem b_1111_884 : law.blk Try.prog ids Summs.tab 60 [1, 1, 1, 1] 884 4 = true := by kernel_rfl
set_option maxRecDepth 1000000 in
theorem b_1111_888 : law.blk Try.prog ids Summs.tab 60 [1, 1, 1, 1] 888 4 = true := by kernel_rfl
set_option maxRecDepth 1000000 in
theorem b_1111_892 : law.blk Try.prog ids Summs.tab 60 [1, 1, 1, 1] 892 4 = true := by kernel_rfl
set_option maxRecDepth 1000000 in
theorem b_1111_896 : law.blk Try.prog ids Summs.tab 60 [1, 1, 1, 1] 896 4 = true := by kernel_rfl
set_option maxRecDepth 1000000 in
theorem b_1111_900 : law.blk Try.prog ids Summs.tab 60 [1, 1, 1, 1] 900 4 = true := by kernel_rfl
set_option maxRecDepth 1000000 in
theorem b_1111_904 : law.blk Try.prog ids Summs.tab 60 [1, 1, 1, 1] 904 4 = true := by kernel_rfl
set_option maxRecDepth 1000000 in
theorem b_1111_908 : law.blk Try.prog ids Summs.tab 60 [1, 1, 1, 1] 908 4 = true := by kernel_rfl
set_option maxRecDepth 1000000 in
theorem b_1111_912 : law.blk Try.prog ids Summs.tab 60 [1, 1, 1, 1] 912 4 = true := by kernel_rfl
set_option maxRecDepth 1000000 in
theorem b_1111_916 : law.blk Try.prog ids Summs.tab 60 [1, 1, 1, 1] 916 4 = true := by kernel_rfl
set_option maxRecDepth 1000000 in
theorem b_1111_920 : law.blk Try.prog ids Summs.tab 60 [1, 1, 1, 1] 920 4 = true := by kernel_rfl
set_option maxRecDepth 1000000 in
theorem b_1111_924 : law.blk Try.prog ids Summs.tab 60 [1, 1, 1, 1] 924 4 = true := by kernel_rfl
set_option maxRecDepth 1000000 in
theorem b_1111_928 : law.blk Try.prog ids Summs.tab 60 [1, 1, 1, 1] 928 4 = true := by kernel_rfl
set_option maxRecDepth 1000000 in
theorem b_1111_932 : law.blk Try.prog ids Summs.tab 60 [1, 1, 1, 1] 932 4 = true := by kernel_rfl
set_option maxRecDepth 1000000 in
theorem b_1111_936 : law.blk Try.prog ids Summs.tab 60 [1, 1, 1, 1] 936 4 = true := by kernel_rfl
end Go.Proofs.Ytlenoefcnjcgfaa.DMultiplyPairs

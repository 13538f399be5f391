/-
  A part of the proof of FnMultiplyPairs: cases of its law, each a run. No condition.
-/
import Derived.Test.YtlenoefcnjcgfaaDMultiplyPairsA
namespace Go.Proofs.Ytlenoefcnjcgfaa.DMultiplyPairs
open Go.ChangeShapes Go.WideShapes Go.ChangeAt Go.RowKit Go.Sx Go.Proofs.Ytlenoefcnjcgfaa.Ids
set_option linter.unusedVariables false
set_option linter.unusedSimpArgs false

set_option maxRecDepth 1000000 in
theorem b_1111_1700 : law.blk Try.prog ids Summs.tab 60 [1, 1, 1, 1] 1700 4 = true := by kernel_rfl
set_option maxRecDepth 1000000 in
theorem b_1111_1704 : law.blk Try.prog ids Summs.tab 60 [1, 1, 1, 1] 1704 4 = true := by kernel_rfl
set_option maxRecDepth 1000000 in
theorem b_1111_1708 : law.blk Try.prog ids Summs.tab 60 [1, 1, 1, 1] 1708 4 = true := by kernel_rfl
set_option maxRecDepth 1000000 in
theorem b_1111_1712 : law.blk Try.prog ids Summs.tab 60 [1, 1, 1, 1] 1712 4 = true := by kernel_rfl
set_option maxRecDepth 1000000 in
theorem b_1111_1716 : law.blk Try.prog ids Summs.tab 60 [1, 1, 1, 1] 1716 4 = true := by kernel_rfl
set_option maxRecDepth 1000000 in
theorem b_1111_1720 : law.blk Try.prog ids Summs.tab 60 [1, 1, 1, 1] 1720 4 = true := by kernel_rfl
set_option maxRecDepth 1000000 in
theorem b_1111_1724 : law.blk Try.prog ids Summs.tab 60 [1, 1, 1, 1] 1724 4 = true := by kernel_rfl
set_option maxRecDepth 1000000 in
theorem b_1111_1728 : law.blk Try.prog ids Summs.tab 60 [1, 1, 1, 1] 1728 4 = true := by kernel_rfl
set_option maxRecDepth 1000000 in
theorem b_1111_1732 : law.blk Try.prog ids Summs.tab 60 [1, 1, 1, 1] 1732 4 = true := by kernel_rfl
set_option maxRecDepth 1000000 in
theorem b_1111_1736 : law.blk Try.prog ids Summs.tab 60 [1, 1, 1, 1] 1736 4 = true := by kernel_rfl
set_option maxRecDepth 1000000 in
theorem b_1111_1740 : law.blk Try.prog ids Summs.tab 60 [1, 1, 1, 1] 1740 4 = true := by kernel_rfl
set_option maxRecDepth 1000000 in
theorem b_1111_1744 : law.blk Try.prog ids Summs.tab 60 [1, 1, 1, 1] 1744 4 = true := by kernel_rfl
set_option maxRecDepth 1000000 in
theorem b_1111_1748 : law.blk Try.prog ids Summs.tab 60 [1, 1, 1, 1] 1748 4 = true := by kernel_rfl
set_option maxRecDepth 1000000 in
theorem b_1111_1752 : law.blk Try.prog ids Summs.tab 60 [1, 1, 1, 1] 1752 4 = true := by kernel_rfl
set_option maxRecDepth 1000000 in
theorem b_1111_1756 : law.blk Try.prog ids Summs.tab 60 [1, 1, 1, 1] 1756 4 = true := by kernel_rfl
set_option maxRecDepth 1000000 in
theorem b_1111_1760 : law.blk Try.prog ids Summs.tab 60 [1, 1, 1, 1] 1760 4 = true := by kernel_rfl
set_option maxRecDepth 1000000 in
theorem b_1111_1764 : law.blk Try.prog ids Summs.tab 60 [1, 1, 1, 1] 1764 4 = true := by kernel_rfl
set_option maxRecDepth 1000000 in
theorem b_1111_1768 : law.blk Try.prog ids Summs.tab 60 [1, 1, 1, 1] 1768 4 = true := by kernel_rfl
set_option maxRecDepth 1000000 in
theorem b_1111_1772 : law.blk Try.prog ids Summs.tab 60 [1, 1, 1, 1] 1772 4 = true := by kernel_rfl
set_option maxRecDepth 1000000 in
theorem b_1111_1776 : law.blk Try.prog ids Summs.tab 60 [1, 1, 1, 1] 1776 4 = true := by kernel_rfl
set_option maxRecDepth 1000000 in
theorem b_1111_1780 : law.blk Try.prog ids Summs.tab 60 [1, 1, 1, 1] 1780 4 = true := by kernel_rfl
set_option maxRecDepth 1000000 in
theorem b_1111_1784 : law.blk Try.prog ids Summs.tab 60 [1, 1, 1, 1] 1784 4 = true := by kernel_rfl
set_option maxRecDepth 1000000 in
theorem b_1111_1788 : law.blk Try.prog ids Summs.tab 60 [1, 1, 1, 1] 1788 4 = true := by kernel_rfl
set_option maxRecDepth 1000000 in
theorem b_1111_1792 : law.blk Try.prog ids Summs.tab 60 [1, 1, 1, 1] 1792 4 = true := by kernel_rfl
set_option maxRecDepth 1000000 in
theorem b_1111_1796 : law.blk Try.prog ids Summs.tab 60 [1, 1, 1, 1] 1796 3 = true := by kernel_rfl
end Go.Proofs.Ytlenoefcnjcgfaa.DMultiplyPairs

/-
  A part of the proof of FnMultiplyPairs: cases of its law, each a run. No condition.
-/
import Derived.Test.YtlenoefcnjcgfaaDMultiplyPairsA
namespace Go.Proofs.Ytlenoefcnjcgfaa.DMultiplyPairs
open Go.ChangeShapes Go.WideShapes Go.ChangeAt Go.RowKit Go.Sx Go.Proofs.Ytlenoefcnjcgfaa.Ids
set_option linter.unusedVariables false
set_option linter.unusedSimpArgs false

set_option maxRecDepth 1000000 in
theorem b_1111_1548 : law.blk Try.prog ids Summs.tab 60 [1, 1, 1, 1] 1548 4 = true := by kernel_rfl
set_option maxRecDepth 1000000 in
theorem b_1111_1552 : law.blk Try.prog ids Summs.tab 60 [1, 1, 1, 1] 1552 4 = true := by kernel_rfl
set_option maxRecDepth 1000000 in
theorem b_1111_1556 : law.blk Try.prog ids Summs.tab 60 [1, 1, 1, 1] 1556 4 = true := by kernel_rfl
set_option maxRecDepth 1000000 in
theorem b_1111_1560 : law.blk Try.prog ids Summs.tab 60 [1, 1, 1, 1] 1560 4 = true := by kernel_rfl
set_option maxRecDepth 1000000 in
theorem b_1111_1564 : law.blk Try.prog ids Summs.tab 60 [1, 1, 1, 1] 1564 4 = true := by kernel_rfl
set_option maxRecDepth 1000000 in
theorem b_1111_1568 : law.blk Try.prog ids Summs.tab 60 [1, 1, 1, 1] 1568 4 = true := by kernel_rfl
set_option maxRecDepth 1000000 in
theorem b_1111_1572 : law.blk Try.prog ids Summs.tab 60 [1, 1, 1, 1] 1572 4 = true := by kernel_rfl
set_option maxRecDepth 1000000 in
theorem b_1111_1576 : law.blk Try.prog ids Summs.tab 60 [1, 1, 1, 1] 1576 4 = true := by kernel_rfl
set_option maxRecDepth 1000000 in
theorem b_1111_1580 : law.blk Try.prog ids Summs.tab 60 [1, 1, 1, 1] 1580 4 = true := by kernel_rfl
set_option maxRecDepth 1000000 in
theorem b_1111_1584 : law.blk Try.prog ids Summs.tab 60 [1, 1, 1, 1] 1584 4 = true := by kernel_rfl
set_option maxRecDepth 1000000 in
theorem b_1111_1588 : law.blk Try.prog ids Summs.tab 60 [1, 1, 1, 1] 1588 4 = true := by kernel_rfl
set_option maxRecDepth 1000000 in
theorem b_1111_1592 : law.blk Try.prog ids Summs.tab 60 [1, 1, 1, 1] 1592 4 = true := by kernel_rfl
set_option maxRecDepth 1000000 in
theorem b_1111_1596 : law.blk Try.prog ids Summs.tab 60 [1, 1, 1, 1] 1596 4 = true := by kernel_rfl
set_option maxRecDepth 1000000 in
theorem b_1111_1600 : law.blk Try.prog ids Summs.tab 60 [1, 1, 1, 1] 1600 4 = true := by kernel_rfl
set_option maxRecDepth 1000000 in
theorem b_1111_1604 : law.blk Try.prog ids Summs.tab 60 [1, 1, 1, 1] 1604 4 = true := by kernel_rfl
set_option maxRecDepth 1000000 in
theorem b_1111_1608 : law.blk Try.prog ids Summs.tab 60 [1, 1, 1, 1] 1608 4 = true := by kernel_rfl
set_option maxRecDepth 1000000 in
theorem b_1111_1612 : law.blk Try.prog ids Summs.tab 60 [1, 1, 1, 1] 1612 4 = true := by kernel_rfl
set_option maxRecDepth 1000000 in
theorem b_1111_1616 : law.blk Try.prog ids Summs.tab 60 [1, 1, 1, 1] 1616 4 = true := by kernel_rfl
set_option maxRecDepth 1000000 in
theorem b_1111_1620 : law.blk Try.prog ids Summs.tab 60 [1, 1, 1, 1] 1620 4 = true := by kernel_rfl
set_option maxRecDepth 1000000 in
theorem b_1111_1624 : law.blk Try.prog ids Summs.tab 60 [1, 1, 1, 1] 1624 4 = true := by kernel_rfl
set_option maxRecDepth 1000000 in
theorem b_1111_1628 : law.blk Try.prog ids Summs.tab 60 [1, 1, 1, 1] 1628 4 = true := by kernel_rfl
set_option maxRecDepth 1000000 in
theorem b_1111_1632 : law.blk Try.prog ids Summs.tab 60 [1, 1, 1, 1] 1632 4 = true := by kernel_rfl
set_option maxRecDepth 1000000 in
theorem b_1111_1636 : law.blk Try.prog ids Summs.tab 60 [1, 1, 1, 1] 1636 4 = true := by kernel_rfl
set_option maxRecDepth 1000000 in
theorem b_1111_1640 : law.blk Try.prog ids Summs.tab 60 [1, 1, 1, 1] 1640 4 = true := by kernel_rfl
set_option maxRecDepth 1000000 in
theorem b_1111_1644 : law.blk Try.prog ids Summs.tab 60 [1, 1, 1, 1] 1644 4 = true := by kernel_rfl
set_option maxRecDepth 1000000 in
theorem b_1111_1648 : law.blk Try.prog ids Summs.tab 60 [1, 1, 1, 1] 1648 4 = true := by kernel_rfl
set_option maxRecDepth 1000000 in
theorem b_1111_1652 : law.blk Try.prog ids Summs.tab 60 [1, 1, 1, 1] 1652 4 = true := by kernel_rfl
set_option maxRecDepth 1000000 in
theorem b_1111_1656 : law.blk Try.prog ids Summs.tab 60 [1, 1, 1, 1] 1656 4 = true := by kernel_rfl
set_option maxRecDepth 1000000 in
theorem b_1111_1660 : law.blk Try.prog ids Summs.tab 60 [1, 1, 1, 1] 1660 4 = true := by kernel_rfl
set_option maxRecDepth 1000000 in
theorem b_1111_1664 : law.blk Try.prog ids Summs.tab 60 [1, 1, 1, 1] 1664 4 = true := by kernel_rfl
set_option maxRecDepth 1000000 in
theorem b_1111_1668 : law.blk Try.prog ids Summs.tab 60 [1, 1, 1, 1] 1668 4 = true := by kernel_rfl
set_option maxRecDepth 1000000 in
theorem b_1111_1672 : law.blk Try.prog ids Summs.tab 60 [1, 1, 1, 1] 1672 4 = true := by kernel_rfl
set_option maxRecDepth 1000000 in
theorem b_1111_1676 : law.blk Try.prog ids Summs.tab 60 [1, 1, 1, 1] 1676 4 = true := by kernel_rfl
set_option maxRecDepth 1000000 in
theorem b_1111_1680 : law.blk Try.prog ids Summs.tab 60 [1, 1, 1, 1] 1680 4 = true := by kernel_rfl
set_option maxRecDepth 1000000 in
theorem b_1111_1684 : law.blk Try.prog ids Summs.tab 60 [1, 1, 1, 1] 1684 4 = true := by kernel_rfl
set_option maxRecDepth 1000000 in
theorem b_1111_1688 : law.blk Try.prog ids Summs.tab 60 [1, 1, 1, 1] 1688 4 = true := by kernel_rfl
set_option maxRecDepth 1000000 in
theorem b_1111_1692 : law.blk Try.prog ids Summs.tab 60 [1, 1, 1, 1] 1692 4 = true := by kernel_rfl
set_option maxRecDepth 1000000 in
theorem b_1111_1696 : law.blk Try.prog ids Summs.tab 60 [1, 1, 1, 1] 1696 4 = true := by kernel_rfl
end Go.Proofs.Ytlenoefcnjcgfaa.DMultiplyPairs

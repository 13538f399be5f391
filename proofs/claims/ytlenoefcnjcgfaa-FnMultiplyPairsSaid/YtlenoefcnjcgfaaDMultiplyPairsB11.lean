/-
  A part of the proof of FnMultiplyPairs: cases of its law, each a run. No condition.
-/
import Derived.Test.YtlenoefcnjcgfaaDMultiplyPairsA
namespace Go.Proofs.Ytlenoefcnjcgfaa.DMultiplyPairs
open Go.ChangeShapes Go.WideShapes Go.ChangeAt Go.RowKit Go.Sx Go.Proofs.Ytlenoefcnjcgfaa.Ids
set_option linter.unusedVariables false
set_option linter.unusedSimpArgs false

set_option maxRecDepth 1000000 in
theorem b_1111_1396 : law.blk Try.prog ids Summs.tab 60 [1, 1, 1, 1] 1396 4 = true := by kernel_rfl
set_option maxRecDepth 1000000 in
theorem b_1111_1400 : law.blk Try.prog ids Summs.tab 60 [1, 1, 1, 1] 1400 4 = true := by kernel_rfl
set_option maxRecDepth 1000000 in
theorem b_1111_1404 : law.blk Try.prog ids Summs.tab 60 [1, 1, 1, 1] 1404 4 = true := by kernel_rfl
set_option maxRecDepth 1000000 in
theorem b_1111_1408 : law.blk Try.prog ids Summs.tab 60 [1, 1, 1, 1] 1408 4 = true := by kernel_rfl
set_option maxRecDepth 1000000 in
theorem b_1111_1412 : law.blk Try.prog ids Summs.tab 60 [1, 1, 1, 1] 1412 4 = true := by kernel_rfl
set_option maxRecDepth 1000000 in
theorem b_1111_1416 : law.blk Try.prog ids Summs.tab 60 [1, 1, 1, 1] 1416 4 = true := by kernel_rfl
set_option maxRecDepth 1000000 in
theorem b_1111_1420 : law.blk Try.prog ids Summs.tab 60 [1, 1, 1, 1] 1420 4 = true := by kernel_rfl
set_option maxRecDepth 1000000 in
theorem b_1111_1424 : law.blk Try.prog ids Summs.tab 60 [1, 1, 1, 1] 1424 4 = true := by kernel_rfl
set_option maxRecDepth 1000000 in
theorem b_1111_1428 : law.blk Try.prog ids Summs.tab 60 [1, 1, 1, 1] 1428 4 = true := by kernel_rfl
set_option maxRecDepth 1000000 in
theorem b_1111_1432 : law.blk Try.prog ids Summs.tab 60 [1, 1, 1, 1] 1432 4 = true := by kernel_rfl
set_option maxRecDepth 1000000 in
theorem b_1111_1436 : law.blk Try.prog ids Summs.tab 60 [1, 1, 1, 1] 1436 4 = true := by kernel_rfl
set_option maxRecDepth 1000000 in
theorem b_1111_1440 : law.blk Try.prog ids Summs.tab 60 [1, 1, 1, 1] 1440 4 = true := by kernel_rfl
set_option maxRecDepth 1000000 in
theorem b_1111_1444 : law.blk Try.prog ids Summs.tab 60 [1, 1, 1, 1] 1444 4 = true := by kernel_rfl
set_option maxRecDepth 1000000 in
theorem b_1111_1448 : law.blk Try.prog ids Summs.tab 60 [1, 1, 1, 1] 1448 4 = true := by kernel_rfl
set_option maxRecDepth 1000000 in
theorem b_1111_1452 : law.blk Try.prog ids Summs.tab 60 [1, 1, 1, 1] 1452 4 = true := by kernel_rfl
set_option maxRecDepth 1000000 in
theorem b_1111_1456 : law.blk Try.prog ids Summs.tab 60 [1, 1, 1, 1] 1456 4 = true := by kernel_rfl
set_option maxRecDepth 1000000 in
theorem b_1111_1460 : law.blk Try.prog ids Summs.tab 60 [1, 1, 1, 1] 1460 4 = true := by kernel_rfl
set_option maxRecDepth 1000000 in
theorem b_1111_1464 : law.blk Try.prog ids Summs.tab 60 [1, 1, 1, 1] 1464 4 = true := by kernel_rfl
set_option maxRecDepth 1000000 in
theorem b_1111_1468 : law.blk Try.prog ids Summs.tab 60 [1, 1, 1, 1] 1468 4 = true := by kernel_rfl
set_option maxRecDepth 1000000 in
theorem b_1111_1472 : law.blk Try.prog ids Summs.tab 60 [1, 1, 1, 1] 1472 4 = true := by kernel_rfl
set_option maxRecDepth 1000000 in
theorem b_1111_1476 : law.blk Try.prog ids Summs.tab 60 [1, 1, 1, 1] 1476 4 = true := by kernel_rfl
set_option maxRecDepth 1000000 in
theorem b_1111_1480 : law.blk Try.prog ids Summs.tab 60 [1, 1, 1, 1] 1480 4 = true := by kernel_rfl
set_option maxRecDepth 1000000 in
theorem b_1111_1484 : law.blk Try.prog ids Summs.tab 60 [1, 1, 1, 1] 1484 4 = true := by kernel_rfl
set_option maxRecDepth 1000000 in
theorem b_1111_1488 : law.blk Try.prog ids Summs.tab 60 [1, 1, 1, 1] 1488 4 = true := by kernel_rfl
set_option maxRecDepth 1000000 in
theorem b_1111_1492 : law.blk Try.prog ids Summs.tab 60 [1, 1, 1, 1] 1492 4 = true := by kernel_rfl
set_option maxRecDepth 1000000 in
theorem b_1111_1496 : law.blk Try.prog ids Summs.tab 60 [1, 1, 1, 1] 1496 4 = true := by kernel_rfl
set_option maxRecDepth 1000000 in
theorem b_1111_1500 : law.blk Try.prog ids Summs.tab 60 [1, 1, 1, 1] 1500 4 = true := by kernel_rfl
set_option maxRecDepth 1000000 in
theorem b_1111_1504 : law.blk Try.prog ids Summs.tab 60 [1, 1, 1, 1] 1504 4 = true := by kernel_rfl
set_option maxRecDepth 1000000 in
theorem b_1111_1508 : law.blk Try.prog ids Summs.tab 60 [1, 1, 1, 1] 1508 4 = true := by kernel_rfl
set_option maxRecDepth 1000000 in
theorem b_1111_1512 : law.blk Try.prog ids Summs.tab 60 [1, 1, 1, 1] 1512 4 = true := by kernel_rfl
set_option maxRecDepth 1000000 in
theorem b_1111_1516 : law.blk Try.prog ids Summs.tab 60 [1, 1, 1, 1] 1516 4 = true := by kernel_rfl
set_option maxRecDepth 1000000 in
theorem b_1111_1520 : law.blk Try.prog ids Summs.tab 60 [1, 1, 1, 1] 1520 4 = true := by kernel_rfl
set_option maxRecDepth 1000000 in
theorem b_1111_1524 : law.blk Try.prog ids Summs.tab 60 [1, 1, 1, 1] 1524 4 = true := by kernel_rfl
set_option maxRecDepth 1000000 in
theorem b_1111_1528 : law.blk Try.prog ids Summs.tab 60 [1, 1, 1, 1] 1528 4 = true := by kernel_rfl
set_option maxRecDepth 1000000 in
theorem b_1111_1532 : law.blk Try.prog ids Summs.tab 60 [1, 1, 1, 1] 1532 4 = true := by kernel_rfl
set_option maxRecDepth 1000000 in
theorem b_1111_1536 : law.blk Try.prog ids Summs.tab 60 [1, 1, 1, 1] 1536 4 = true := by kernel_rfl
set_option maxRecDepth 1000000 in
theorem b_1111_1540 : law.blk Try.prog ids Summs.tab 60 [1, 1, 1, 1] 1540 4 = true := by kernel_rfl
set_option maxRecDepth 1000000 in
theorem b_1111_1544 : law.blk Try.prog ids Summs.tab 60 [1, 1, 1, 1] 1544 4 = true := by kernel_rfl
end Go.Proofs.Ytlenoefcnjcgfaa.DMultiplyPairs

/-
  A part of the proof of FnMultiplyPairs: cases of its law, each a run. No condition.
-/
import Derived.Test.YtlenoefcnjcgfaaDMultiplyPairsA
namespace Go.Proofs.Ytlenoefcnjcgfaa.DMultiplyPairs
open Go.ChangeShapes Go.WideShapes Go.ChangeAt Go.RowKit Go.Sx Go.Proofs.Ytlenoefcnjcgfaa.Ids
set_option linter.unusedVariables false
set_option linter.unusedSimpArgs false

set_option maxRecDepth 1000000 in
theorem b_1111_484 : law.blk Try.prog ids Summs.tab 60 [1, 1, 1, 1] 484 4 = true := by kernel_rfl
set_option maxRecDepth 1000000 in
theorem b_1111_488 : law.blk Try.prog ids Summs.tab 60 [1, 1, 1, 1] 488 4 = true := by kernel_rfl
set_option maxRecDepth 1000000 in
theorem b_1111_492 : law.blk Try.prog ids Summs.tab 60 [1, 1, 1, 1] 492 4 = true := by kernel_rfl
set_option maxRecDepth 1000000 in
theorem b_1111_496 : law.blk Try.prog ids Summs.tab 60 [1, 1, 1, 1] 496 4 = true := by kernel_rfl
set_option maxRecDepth 1000000 in
theorem b_1111_500 : law.blk Try.prog ids Summs.tab 60 [1, 1, 1, 1] 500 4 = true := by kernel_rfl
set_option maxRecDepth 1000000 in
theorem b_1111_504 : law.blk Try.prog ids Summs.tab 60 [1, 1, 1, 1] 504 4 = true := by kernel_rfl
set_option maxRecDepth 1000000 in
theorem b_1111_508 : law.blk Try.prog ids Summs.tab 60 [1, 1, 1, 1] 508 4 = true := by kernel_rfl
set_option maxRecDepth 1000000 in
theorem b_1111_512 : law.blk Try.prog ids Summs.tab 60 [1, 1, 1, 1] 512 4 = true := by kernel_rfl
set_option maxRecDepth 1000000 in
theorem b_1111_516 : law.blk Try.prog ids Summs.tab 60 [1, 1, 1, 1] 516 4 = true := by kernel_rfl
set_option maxRecDepth 1000000 in
theorem b_1111_520 : law.blk Try.prog ids Summs.tab 60 [1, 1, 1, 1] 520 4 = true := by kernel_rfl
set_option maxRecDepth 1000000 in
theorem b_1111_524 : law.blk Try.prog ids Summs.tab 60 [1, 1, 1, 1] 524 4 = true := by kernel_rfl
set_option maxRecDepth 1000000 in
theorem b_1111_528 : law.blk Try.prog ids Summs.tab 60 [1, 1, 1, 1] 528 4 = true := by kernel_rfl
set_option maxRecDepth 1000000 in
theorem b_1111_532 : law.blk Try.prog ids Summs.tab 60 [1, 1, 1, 1] 532 4 = true := by kernel_rfl
set_option maxRecDepth 1000000 in
theorem b_1111_536 : law.blk Try.prog ids Summs.tab 60 [1, 1, 1, 1] 536 4 = true := by kernel_rfl
set_option maxRecDepth 1000000 in
theorem b_1111_540 : law.blk Try.prog ids Summs.tab 60 [1, 1, 1, 1] 540 4 = true := by kernel_rfl
set_option maxRecDepth 1000000 in
theorem b_1111_544 : law.blk Try.prog ids Summs.tab 60 [1, 1, 1, 1] 544 4 = true := by kernel_rfl
set_option maxRecDepth 1000000 in
theorem b_1111_548 : law.blk Try.prog ids Summs.tab 60 [1, 1, 1, 1] 548 4 = true := by kernel_rfl
set_option maxRecDepth 1000000 in
theorem b_1111_552 : law.blk Try.prog ids Summs.tab 60 [1, 1, 1, 1] 552 4 = true := by kernel_rfl
set_option maxRecDepth 1000000 in
theorem b_1111_556 : law.blk Try.prog ids Summs.tab 60 [1, 1, 1, 1] 556 4 = true := by kernel_rfl
set_option maxRecDepth 1000000 in
theorem b_1111_560 : law.blk Try.prog ids Summs.tab 60 [1, 1, 1, 1] 560 4 = true := by kernel_rfl
set_option maxRecDepth 1000000 in
theorem b_1111_564 : law.blk Try.prog ids Summs.tab 60 [1, 1, 1, 1] 564 4 = true := by kernel_rfl
set_option maxRecDepth 1000000 in
theorem b_1111_568 : law.blk Try.prog ids Summs.tab 60 [1, 1, 1, 1] 568 4 = true := by kernel_rfl
set_option maxRecDepth 1000000 in
theorem b_1111_572 : law.blk Try.prog ids Summs.tab 60 [1, 1, 1, 1] 572 4 = true := by kernel_rfl
set_option maxRecDepth 1000000 in
theorem b_1111_576 : law.blk Try.prog ids Summs.tab 60 [1, 1, 1, 1] 576 4 = true := by kernel_rfl
set_option maxRecDepth 1000000 in
theorem b_1111_580 : law.blk Try.prog ids Summs.tab 60 [1, 1, 1, 1] 580 4 = true := by kernel_rfl
set_option maxRecDepth 1000000 in
theorem b_1111_584 : law.blk Try.prog ids Summs.tab 60 [1, 1, 1, 1] 584 4 = true := by kernel_rfl
set_option maxRecDepth 1000000 in
theorem b_1111_588 : law.blk Try.prog ids Summs.tab 60 [1, 1, 1, 1] 588 4 = true := by kernel_rfl
set_option maxRecDepth 1000000 in
theorem b_1111_592 : law.blk Try.prog ids Summs.tab 60 [1, 1, 1, 1] 592 4 = true := by kernel_rfl
set_option maxRecDepth 1000000 in
theorem b_1111_596 : law.blk Try.prog ids Summs.tab 60 [1, 1, 1, 1] 596 4 = true := by kernel_rfl
set_option maxRecDepth 1000000 in
theorem b_1111_600 : law.blk Try.prog ids Summs.tab 60 [1, 1, 1, 1] 600 4 = true := by kernel_rfl
set_option maxRecDepth 1000000 in
theorem b_1111_604 : law.blk Try.prog ids Summs.tab 60 [1, 1, 1, 1] 604 4 = true := by kernel_rfl
set_option maxRecDepth 1000000 in
theorem b_1111_608 : law.blk Try.prog ids Summs.tab 60 [1, 1, 1, 1] 608 4 = true := by kernel_rfl
set_option maxRecDepth 1000000 in
theorem b_1111_612 : law.blk Try.prog ids Summs.tab 60 [1, 1, 1, 1] 612 4 = true := by kernel_rfl
set_option maxRecDepth 1000000 in
theorem b_1111_616 : law.blk Try.prog ids Summs.tab 60 [1, 1, 1, 1] 616 4 = true := by kernel_rfl
set_option maxRecDepth 1000000 in
theorem b_1111_620 : law.blk Try.prog ids Summs.tab 60 [1, 1, 1, 1] 620 4 = true := by kernel_rfl
set_option maxRecDepth 1000000 in
theorem b_1111_624 : law.blk Try.prog ids Summs.tab 60 [1, 1, 1, 1] 624 4 = true := by kernel_rfl
set_option maxRecDepth 1000000 in
theorem b_1111_628 : law.blk Try.prog ids Summs.tab 60 [1, 1, 1, 1] 628 4 = true := by kernel_rfl
set_option maxRecDepth 1000000 in
theorem b_1111_632 : law.blk Try.prog ids Summs.tab 60 [1, 1, 1, 1] 632 4 = true := by kernel_rfl
end Go.Proofs.Ytlenoefcnjcgfaa.DMultiplyPairs

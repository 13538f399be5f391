/-
  A part of the proof of FnSequenceOf: cases of its law, each a run. No condition.
-/
import Derived.Test.YtjodjcmdlbhciaaDSequenceOfA
namespace Go.Proofs.Ytjodjcmdlbhciaa.DSequenceOf
open Go.ChangeShapes Go.WideShapes Go.ChangeAt Go.RowKit Go.Sx Go.Proofs.Ytjodjcmdlbhciaa.Ids
set_option linter.unusedVariables false
set_option linter.unusedSimpArgs false

set_option maxRecDepth 1000000 in
theorem b_11_424 : law.blk Try.prog ids Summs.tab 60 [1, 1] 424 8 = true := by kernel_rfl
set_option maxRecDepth 1000000 in
theorem b_11_432 : law.blk Try.prog ids Summs.tab 60 [1, 1] 432 8 = true := by kernel_rfl
set_option maxRecDepth 1000000 in
theorem b_11_440 : law.blk Try.prog ids Summs.tab 60 [1, 1] 440 8 = true := by kernel_rfl
set_option maxRecDepth 1000000 in
theorem b_11_448 : law.blk Try.prog ids Summs.tab 60 [1, 1] 448 8 = true := by kernel_rfl
set_option maxRecDepth 1000000 in
theorem b_11_456 : law.blk Try.prog ids Summs.tab 60 [1, 1] 456 8 = true := by kernel_rfl
set_option maxRecDepth 1000000 in
theorem b_11_464 : law.blk Try.prog ids Summs.tab 60 [1, 1] 464 8 = true := by kernel_rfl
set_option maxRecDepth 1000000 in
theorem b_11_472 : law.blk Try.prog ids Summs.tab 60 [1, 1] 472 8 = true := by kernel_rfl
set_option maxRecDepth 1000000 in
theorem b_11_480 : law.blk Try.prog ids Summs.tab 60 [1, 1] 480 8 = true := by kernel_rfl
set_option maxRecDepth 1000000 in
theorem b_11_488 : law.blk Try.prog ids Summs.tab 60 [1, 1] 488 8 = true := by kernel_rfl
set_option maxRecDepth 1000000 in
theorem b_11_496 : law.blk Try.prog ids Summs.tab 60 [1, 1] 496 8 = true := by kernel_rfl
set_option maxRecDepth 1000000 in
theorem b_11_504 : law.blk Try.prog ids Summs.tab 60 [1, 1] 504 8 = true := by kernel_rfl
set_option maxRecDepth 1000000 in
theorem b_11_512 : law.blk Try.prog ids Summs.tab 60 [1, 1] 512 8 = true := by kernel_rfl
set_option maxRecDepth 1000000 in
theorem b_11_520 : law.blk Try.prog ids Summs.tab 60 [1, 1] 520 8 = true := by kernel_rfl
set_option maxRecDepth 1000000 in
theorem b_11_528 : law.blk Try.prog ids Summs.tab 60 [1, 1] 528 8 = true := by kernel_rfl
set_option maxRecDepth 1000000 in
theorem b_11_536 : law.blk Try.prog ids Summs.tab 60 [1, 1] 536 8 = true := by kernel_rfl
set_option maxRecDepth 1000000 in
theorem b_11_544 : law.blk Try.prog ids Summs.tab 60 [1, 1] 544 8 = true := by kernel_rfl
set_option maxRecDepth 1000000 in
theorem b_11_552 : law.blk Try.prog ids Summs.tab 60 [1, 1] 552 8 = true := by kernel_rfl
set_option maxRecDepth 1000000 in
theorem b_11_560 : law.blk Try.prog ids Summs.tab 60 [1, 1] 560 3 = true := by kernel_rfl
end Go.Proofs.Ytjodjcmdlbhciaa.DSequenceOf

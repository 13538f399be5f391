/-
  A part of the proof of FnLabelCount: cases of its law, each a run. No condition.
-/
import Derived.Test.YtmaheakamonagaaDLabelCountA
namespace Go.Proofs.Ytmaheakamonagaa.DLabelCount
open Go.ChangeShapes Go.WideShapes Go.ChangeAt Go.RowKit Go.Sx Go.Proofs.Ytmaheakamonagaa.Ids
set_option linter.unusedVariables false
set_option linter.unusedSimpArgs false

set_option maxRecDepth 1000000 in
theorem b_11_354 : law.blk Try.prog ids Summs.tab 200 [1, 1] 354 6 = true := by kernel_rfl
set_option maxRecDepth 1000000 in
theorem b_11_360 : law.blk Try.prog ids Summs.tab 200 [1, 1] 360 6 = true := by kernel_rfl
set_option maxRecDepth 1000000 in
theorem b_11_366 : law.blk Try.prog ids Summs.tab 200 [1, 1] 366 6 = true := by kernel_rfl
set_option maxRecDepth 1000000 in
theorem b_11_372 : law.blk Try.prog ids Summs.tab 200 [1, 1] 372 6 = true := by kernel_rfl
set_option maxRecDepth 1000000 in
theorem b_11_378 : law.blk Try.prog ids Summs.tab 200 [1, 1] 378 6 = true := by kernel_rfl
set_option maxRecDepth 1000000 in
theorem b_11_384 : law.blk Try.prog ids Summs.tab 200 [1, 1] 384 6 = true := by kernel_rfl
set_option maxRecDepth 1000000 in
theorem b_11_390 : law.blk Try.prog ids Summs.tab 200 [1, 1] 390 6 = true := by kernel_rfl
set_option maxRecDepth 1000000 in
theorem b_11_396 : law.blk Try.prog ids Summs.tab 200 [1, 1] 396 6 = true := by kernel_rfl
set_option maxRecDepth 1000000 in
theorem b_11_402 : law.blk Try.prog ids Summs.tab 200 [1, 1] 402 6 = true := by kernel_rfl
set_option maxRecDepth 1000000 in
theorem b_11_408 : law.blk Try.prog ids Summs.tab 200 [1, 1] 408 6 = true := by kernel_rfl
set_option maxRecDepth 1000000 in
theorem b_11_414 : law.blk Try.prog ids Summs.tab 200 [1, 1] 414 6 = true := by kernel_rfl
set_option maxRecDepth 1000000 in
theorem b_11_420 : law.blk Try.prog ids Summs.tab 200 [1, 1] 420 6 = true := by kernel_rfl
set_option maxRecDepth 1000000 in
theorem b_11_426 : law.blk Try.prog ids Summs.tab 200 [1, 1] 426 6 = true := by kernel_rfl
set_option maxRecDepth 1000000 in
theorem b_11_432 : law.blk Try.prog ids Summs.tab 200 [1, 1] 432 6 = true := by kernel_rfl
set_option maxRecDepth 1000000 in
theorem b_11_438 : law.blk Try.prog ids Summs.tab 200 [1, 1] 438 6 = true := by kernel_rfl
set_option maxRecDepth 1000000 in
theorem b_11_444 : law.blk Try.prog ids Summs.tab 200 [1, 1] 444 6 = true := by kernel_rfl
set_option maxRecDepth 1000000 in
theorem b_11_450 : law.blk Try.prog ids Summs.tab 200 [1, 1] 450 6 = true := by kernel_rfl
set_option maxRecDepth 1000000 in
theorem b_11_456 : law.blk Try.prog ids Summs.tab 200 [1, 1] 456 6 = true := by kernel_rfl
set_option maxRecDepth 1000000 in
theorem b_11_462 : law.blk Try.prog ids Summs.tab 200 [1, 1] 462 6 = true := by kernel_rfl
set_option maxRecDepth 1000000 in
theorem b_11_468 : law.blk Try.prog ids Summs.tab 200 [1, 1] 468 6 = true := by kernel_rfl
set_option maxRecDepth 1000000 in
theorem b_11_474 : law.blk Try.prog ids Summs.tab 200 [1, 1] 474 6 = true := by kernel_rfl
set_option maxRecDepth 1000000 in
theorem b_11_480 : law.blk Try.prog ids Summs.tab 200 [1, 1] 480 6 = true := by kernel_rfl
set_option maxRecDepth 1000000 in
theorem b_11_486 : law.blk Try.prog ids Summs.tab 200 [1, 1] 486 6 = true := by kernel_rfl
set_option maxRecDepth 1000000 in
theorem b_11_492 : law.blk Try.prog ids Summs.tab 200 [1, 1] 492 6 = true := by kernel_rfl
set_option maxRecDepth 1000000 in
theorem b_11_498 : law.blk Try.prog ids Summs.tab 200 [1, 1] 498 6 = true := by kernel_rfl
set_option maxRecDepth 1000000 in
theorem b_11_504 : law.blk Try.prog ids Summs.tab 200 [1, 1] 504 6 = true := by kernel_rfl
set_option maxRecDepth 1000000 in
theorem b_11_510 : law.blk Try.prog ids Summs.tab 200 [1, 1] 510 6 = true := by kernel_rfl
set_option maxRecDepth 1000000 in
theorem b_11_516 : law.blk Try.prog ids Summs.tab 200 [1, 1] 516 6 = true := by kernel_rfl
set_option maxRecDepth 1000000 in
theorem b_11_522 : law.blk Try.prog ids Summs.tab 200 [1, 1] 522 6 = true := by kernel_rfl
set_option maxRecDepth 1000000 in
theorem b_11_528 : law.blk Try.prog ids Summs.tab 200 [1, 1] 528 6 = true := by kernel_rfl
end Go.Proofs.Ytmaheakamonagaa.DLabelCount

/-
  A part of the proof of FnMultiplyPairs: cases of its law, each a run. No condition.
-/
import Derived.Test.YtlenoefcnjcgfaaDMultiplyPairsA
namespace Go.Proofs.Ytlenoefcnjcgfaa.DMultiplyPairs
open Go.ChangeShapes Go.WideShapes Go.ChangeAt Go.RowKit Go.Sx Go.Proofs.Ytlenoefcnjcgfaa.Ids
set_option linter.unusedVariables false
set_option linter.unusedSimpArgs false

set_option maxRecDepth 1000000 in
theorem b_1111_332 : law.blk Try.prog ids Summs.tab 60 [1, 1, 1, 1] 332 4 = true := by kernel_rfl
set_option maxRecDepth 1000000 in
theorem b_1111_336 : law.blk Try.prog ids Summs.tab 60 [1, 1, 1, 1] 336 4 = true := by kernel_rfl
set_option maxRecDepth 1000000 in
theorem b_1111_340 : law.blk Try.prog ids Summs.tab 60 [1, 1, 1, 1] 340 4 = true := by kernel_rfl
set_option maxRecDepth 1000000 in
theorem b_1111_344 : law.blk Try.prog ids Summs.tab 60 [1, 1, 1, 1] 344 4 = true := by kernel_rfl
set_option maxRecDepth 1000000 in
theorem b_1111_348 : law.blk Try.prog ids Summs.tab 60 [1, 1, 1, 1] 348 4 = true := by kernel_rfl
set_option maxRecDepth 1000000 in
theorem b_1111_352 : law.blk Try.prog ids Summs.tab 60 [1, 1, 1, 1] 352 4 = true := by kernel_rfl
set_option maxRecDepth 1000000 in
theorem b_1111_356 : law.blk Try.prog ids Summs.tab 60 [1, 1, 1, 1] 356 4 = true := by kernel_rfl
set_option maxRecDepth 1000000 in
theorem b_1111_360 : law.blk Try.prog ids Summs.tab 60 [1, 1, 1, 1] 360 4 = true := by kernel_rfl
set_option maxRecDepth 1000000 in
theorem b_1111_364 : law.blk Try.prog ids Summs.tab 60 [1, 1, 1, 1] 364 4 = true := by kernel_rfl
set_option maxRecDepth 1000000 in
theorem b_1111_368 : law.blk Try.prog ids Summs.tab 60 [1, 1, 1, 1] 368 4 = true := by kernel_rfl
set_option maxRecDepth 1000000 in
theorem b_1111_372 : law.blk Try.prog ids Summs.tab 60 [1, 1, 1, 1] 372 4 = true := by kernel_rfl
set_option maxRecDepth 1000000 in
theorem b_1111_376 : law.blk Try.prog ids Summs.tab 60 [1, 1, 1, 1] 376 4 = true := by kernel_rfl
set_option maxRecDepth 1000000 in
theorem b_1111_380 : law.blk Try.prog ids Summs.tab 60 [1, 1, 1, 1] 380 4 = true := by kernel_rfl
set_option maxRecDepth 1000000 in
theorem b_1111_384 : law.blk Try.prog ids Summs.tab 60 [1, 1, 1, 1] 384 4 = true := by kernel_rfl
set_option maxRecDepth 1000000 in
theorem b_1111_388 : law.blk Try.prog ids Summs.tab 60 [1, 1, 1, 1] 388 4 = true := by kernel_rfl
set_option maxRecDepth 1000000 in
theorem b_1111_392 : law.blk Try.prog ids Summs.tab 60 [1, 1, 1, 1] 392 4 = true := by kernel_rfl
set_option maxRecDepth 1000000 in
theorem b_1111_396 : law.blk Try.prog ids Summs.tab 60 [1, 1, 1, 1] 396 4 = true := by kernel_rfl
set_option maxRecDepth 1000000 in
theorem b_1111_400 : law.blk Try.prog ids Summs.tab 60 [1, 1, 1, 1] 400 4 = true := by kernel_rfl
set_option maxRecDepth 1000000 in
theorem b_1111_404 : law.blk Try.prog ids Summs.tab 60 [1, 1, 1, 1] 404 4 = true := by kernel_rfl
set_option maxRecDepth 1000000 in
theorem b_1111_408 : law.blk Try.prog ids Summs.tab 60 [1, 1, 1, 1] 408 4 = true := by kernel_rfl
set_option maxRecDepth 1000000 in
theorem b_1111_412 : law.blk Try.prog ids Summs.tab 60 [1, 1, 1, 1] 412 4 = true := by kernel_rfl
set_option maxRecDepth 1000000 in
theorem b_1111_416 : law.blk Try.prog ids Summs.tab 60 [1, 1, 1, 1] 416 4 = true := by kernel_rfl
set_option maxRecDepth 1000000 in
theorem b_1111_420 : law.blk Try.prog ids Summs.tab 60 [1, 1, 1, 1] 420 4 = true := by kernel_rfl
set_option maxRecDepth 1000000 in
theorem b_1111_424 : law.blk Try.prog ids Summs.tab 60 [1, 1, 1, 1] 424 4 = true := by kernel_rfl
set_option maxRecDepth 1000000 in
theorem b_1111_428 : law.blk Try.prog ids Summs.tab 60 [1, 1, 1, 1] 428 4 = true := by kernel_rfl
set_option maxRecDepth 1000000 in
theorem b_1111_432 : law.blk Try.prog ids Summs.tab 60 [1, 1, 1, 1] 432 4 = true := by kernel_rfl
set_option maxRecDepth 1000000 in
theorem b_1111_436 : law.blk Try.prog ids Summs.tab 60 [1, 1, 1, 1] 436 4 = true := by kernel_rfl
set_option maxRecDepth 1000000 in
theorem b_1111_440 : law.blk Try.prog ids Summs.tab 60 [1, 1, 1, 1] 440 4 = true := by kernel_rfl
set_option maxRecDepth 1000000 in
theorem b_1111_444 : law.blk Try.prog ids Summs.tab 60 [1, 1, 1, 1] 444 4 = true := by kernel_rfl
set_option maxRecDepth 1000000 in
theorem b_1111_448 : law.blk Try.prog ids Summs.tab 60 [1, 1, 1, 1] 448 4 = true := by kernel_rfl
set_option maxRecDepth 1000000 in
theorem b_1111_452 : law.blk Try.prog ids Summs.tab 60 [1, 1, 1, 1] 452 4 = true := by kernel_rfl
set_option maxRecDepth 1000000 in
theorem b_1111_456 : law.blk Try.prog ids Summs.tab 60 [1, 1, 1, 1] 456 4 = true := by kernel_rfl
set_option maxRecDepth 1000000 in
theorem b_1111_460 : law.blk Try.prog ids Summs.tab 60 [1, 1, 1, 1] 460 4 = true := by kernel_rfl
set_option maxRecDepth 1000000 in
theorem b_1111_464 : law.blk Try.prog ids Summs.tab 60 [1, 1, 1, 1] 464 4 = true := by kernel_rfl
set_option maxRecDepth 1000000 in
theorem b_1111_468 : law.blk Try.prog ids Summs.tab 60 [1, 1, 1, 1] 468 4 = true := by kernel_rfl
set_option maxRecDepth 1000000 in
theorem b_1111_472 : law.blk Try.prog ids Summs.tab 60 [1, 1, 1, 1] 472 4 = true := by kernel_rfl
set_option maxRecDepth 1000000 in
theorem b_1111_476 : law.blk Try.prog ids Summs.tab 60 [1, 1, 1, 1] 476 4 = true := by kernel_rfl
set_option maxRecDepth 1000000 in
theorem b_1111_480 : law.blk Try.prog ids Summs.tab 60 [1, 1, 1, 1] 480 4 = true := by kernel_rfl
end Go.Proofs.Ytlenoefcnjcgfaa.DMultiplyPairs

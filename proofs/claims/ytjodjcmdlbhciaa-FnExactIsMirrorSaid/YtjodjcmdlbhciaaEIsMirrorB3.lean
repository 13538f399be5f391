/-
  A part of the proof of FnExactIsMirror: cases of its law, each a run. No condition.
-/
import Derived.Test.YtjodjcmdlbhciaaEIsMirrorA
namespace Go.Proofs.Ytjodjcmdlbhciaa.EIsMirror
open Go.ChangeShapes Go.WideShapes Go.ChangeAt Go.RowKit Go.Sx Go.Proofs.Ytjodjcmdlbhciaa.Ids
set_option linter.unusedVariables false
set_option linter.unusedSimpArgs false

set_option maxRecDepth 1000000 in
theorem b_11_344 : law.blk Try.prog ids Summs.tab 60 [1, 1] 344 4 = true := by kernel_rfl
set_option maxRecDepth 1000000 in
theorem b_11_348 : law.blk Try.prog ids Summs.tab 60 [1, 1] 348 4 = true := by kernel_rfl
set_option maxRecDepth 1000000 in
theorem b_11_352 : law.blk Try.prog ids Summs.tab 60 [1, 1] 352 4 = true := by kernel_rfl
set_option maxRecDepth 1000000 in
theorem b_11_356 : law.blk Try.prog ids Summs.tab 60 [1, 1] 356 4 = true := by kernel_rfl
set_option maxRecDepth 1000000 in
theorem b_11_360 : law.blk Try.prog ids Summs.tab 60 [1, 1] 360 4 = true := by kernel_rfl
set_option maxRecDepth 1000000 in
theorem b_11_364 : law.blk Try.prog ids Summs.tab 60 [1, 1] 364 4 = true := by kernel_rfl
set_option maxRecDepth 1000000 in
theorem b_11_368 : law.blk Try.prog ids Summs.tab 60 [1, 1] 368 4 = true := by kernel_rfl
set_option maxRecDepth 1000000 in
theorem b_11_372 : law.blk Try.prog ids Summs.tab 60 [1, 1] 372 4 = true := by kernel_rfl
set_option maxRecDepth 1000000 in
theorem b_11_376 : law.blk Try.prog ids Summs.tab 60 [1, 1] 376 4 = true := by kernel_rfl
set_option maxRecDepth 1000000 in
theorem b_11_380 : law.blk Try.prog ids Summs.tab 60 [1, 1] 380 4 = true := by kernel_rfl
set_option maxRecDepth 1000000 in
theorem b_11_384 : law.blk Try.prog ids Summs.tab 60 [1, 1] 384 4 = true := by kernel_rfl
set_option maxRecDepth 1000000 in
theorem b_11_388 : law.blk Try.prog ids Summs.tab 60 [1, 1] 388 4 = true := by kernel_rfl
set_option maxRecDepth 1000000 in
theorem b_11_392 : law.blk Try.prog ids Summs.tab 60 [1, 1] 392 4 = true := by kernel_rfl
set_option maxRecDepth 1000000 in
theorem b_11_396 : law.blk Try.prog ids Summs.tab 60 [1, 1] 396 4 = true := by kernel_rfl
set_option maxRecDepth 1000000 in
theorem b_11_400 : law.blk Try.prog ids Summs.tab 60 [1, 1] 400 4 = true := by kernel_rfl
set_option maxRecDepth 1000000 in
theorem b_11_404 : law.blk Try.prog ids Summs.tab 60 [1, 1] 404 4 = true := by kernel_rfl
set_option maxRecDepth 1000000 in
theorem b_11_408 : law.blk Try.prog ids Summs.tab 60 [1, 1] 408 4 = true := by kernel_rfl
set_option maxRecDepth 1000000 in
theorem b_11_412 : law.blk Try.prog ids Summs.tab 60 [1, 1] 412 4 = true := by kernel_rfl
set_option maxRecDepth 1000000 in
theorem b_11_416 : law.blk Try.prog ids Summs.tab 60 [1, 1] 416 4 = true := by kernel_rfl
set_option maxRecDepth 1000000 in
theorem b_11_420 : law.blk Try.prog ids Summs.tab 60 [1, 1] 420 4 = true := by kernel_rfl
set_option maxRecDepth 1000000 in
theorem b_11_424 : law.blk Try.prog ids Summs.tab 60 [1, 1] 424 4 = true := by kernel_rfl
set_option maxRecDepth 1000000 in
theorem b_11_428 : law.blk Try.prog ids Summs.tab 60 [1, 1] 428 4 = true := by kernel_rfl
set_option maxRecDepth 1000000 in
theorem b_11_432 : law.blk Try.prog ids Summs.tab 60 [1, 1] 432 4 = true := by kernel_rfl
set_option maxRecDepth 1000000 in
theorem b_11_436 : law.blk Try.prog ids Summs.tab 60 [1, 1] 436 3 = true := by kernel_rfl
end Go.Proofs.Ytjodjcmdlbhciaa.EIsMirror

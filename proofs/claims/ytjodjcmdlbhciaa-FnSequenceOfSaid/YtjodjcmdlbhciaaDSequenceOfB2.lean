/-
  A part of the proof of FnSequenceOf: cases of its law, each a run. No condition.
-/
import Derived.Test.YtjodjcmdlbhciaaDSequenceOfA
namespace Go.Proofs.Ytjodjcmdlbhciaa.DSequenceOf
open Go.ChangeShapes Go.WideShapes Go.ChangeAt Go.RowKit Go.Sx Go.Proofs.Ytjodjcmdlbhciaa.Ids
set_option linter.unusedVariables false
set_option linter.unusedSimpArgs false

set_option maxRecDepth 1000000 in
theorem b_11_280 : law.blk Try.prog ids Summs.tab 60 [1, 1] 280 8 = true := by kernel_rfl
set_option maxRecDepth 1000000 in
theorem b_11_288 : law.blk Try.prog ids Summs.tab 60 [1, 1] 288 8 = true := by kernel_rfl
set_option maxRecDepth 1000000 in
theorem b_11_296 : law.blk Try.prog ids Summs.tab 60 [1, 1] 296 8 = true := by kernel_rfl
set_option maxRecDepth 1000000 in
theorem b_11_304 : law.blk Try.prog ids Summs.tab 60 [1, 1] 304 8 = true := by kernel_rfl
set_option maxRecDepth 1000000 in
theorem b_11_312 : law.blk Try.prog ids Summs.tab 60 [1, 1] 312 8 = true := by kernel_rfl
set_option maxRecDepth 1000000 in
theorem b_11_320 : law.blk Try.prog ids Summs.tab 60 [1, 1] 320 8 = true := by kernel_rfl
set_option maxRecDepth 1000000 in
theorem b_11_328 : law.blk Try.prog ids Summs.tab 60 [1, 1] 328 8 = true := by kernel_rfl
set_option maxRecDepth 1000000 in
theorem b_11_336 : law.blk Try.prog ids Summs.tab 60 [1, 1] 336 8 = true := by kernel_rfl
set_option maxRecDepth 1000000 in
theorem b_11_344 : law.blk Try.prog ids Summs.tab 60 [1, 1] 344 8 = true := by kernel_rfl
set_option maxRecDepth 1000000 in
theorem b_11_352 : law.blk Try.prog ids Summs.tab 60 [1, 1] 352 8 = true := by kernel_rfl
set_option maxRecDepth 1000000 in
theorem b_11_360 : law.blk Try.prog ids Summs.tab 60 [1, 1] 360 8 = true := by kernel_rfl
set_option maxRecDepth 1000000 in
theorem b_11_368 : law.blk Try.prog ids Summs.tab 60 [1, 1] 368 8 = true := by kernel_rfl
set_option maxRecDepth 1000000 in
theorem b_11_376 : law.blk Try.prog ids Summs.tab 60 [1, 1] 376 8 = true := by kernel_rfl
set_option maxRecDepth 1000000 in
theorem b_11_384 : law.blk Try.prog ids Summs.tab 60 [1, 1] 384 8 = true := by kernel_rfl
set_option maxRecDepth 1000000 in
theorem b_11_392 : law.blk Try.prog ids Summs.tab 60 [1, 1] 392 8 = true := by kernel_rfl
set_option maxRecDepth 1000000 in
theorem b_11_400 : law.blk Try.prog ids Summs.tab 60 [1, 1] 400 8 = true := by kernel_rfl
set_option maxRecDepth 1000000 in
theorem b_11_408 : law.blk Try.prog ids Summs.tab 60 [1, 1] 408 8 = true := by kernel_rfl
set_option maxRecDepth 1000000 in
theorem b_11_416 : law.blk Try.prog ids Summs.tab 60 [1, 1] 416 8 = true := by kernel_rfl
end Go.Proofs.Ytjodjcmdlbhciaa.DSequenceOf

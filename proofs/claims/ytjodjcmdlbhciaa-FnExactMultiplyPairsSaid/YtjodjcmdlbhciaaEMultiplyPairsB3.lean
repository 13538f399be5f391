/-
  A part of the proof of FnExactMultiplyPairs: cases of its law, each a run. No condition.
-/
import Derived.Test.YtjodjcmdlbhciaaEMultiplyPairsA
namespace Go.Proofs.Ytjodjcmdlbhciaa.EMultiplyPairs
open Go.ChangeShapes Go.WideShapes Go.ChangeAt Go.RowKit Go.Sx Go.Proofs.Ytjodjcmdlbhciaa.Ids
set_option linter.unusedVariables false
set_option linter.unusedSimpArgs false

set_option maxRecDepth 1000000 in
theorem b_1111_244 : law.blk Try.prog ids Summs.tab 60 [1, 1, 1, 1] 244 4 = true := by kernel_rfl
set_option maxRecDepth 1000000 in
theorem b_1111_248 : law.blk Try.prog ids Summs.tab 60 [1, 1, 1, 1] 248 4 = true := by kernel_rfl
set_option maxRecDepth 1000000 in
theorem b_1111_252 : law.blk Try.prog ids Summs.tab 60 [1, 1, 1, 1] 252 4 = true := by kernel_rfl
set_option maxRecDepth 1000000 in
theorem b_1111_256 : law.blk Try.prog ids Summs.tab 60 [1, 1, 1, 1] 256 4 = true := by kernel_rfl
set_option maxRecDepth 1000000 in
theorem b_1111_260 : law.blk Try.prog ids Summs.tab 60 [1, 1, 1, 1] 260 4 = true := by kernel_rfl
set_option maxRecDepth 1000000 in
theorem b_1111_264 : law.blk Try.prog ids Summs.tab 60 [1, 1, 1, 1] 264 4 = true := by kernel_rfl
set_option maxRecDepth 1000000 in
theorem b_1111_268 : law.blk Try.prog ids Summs.tab 60 [1, 1, 1, 1] 268 4 = true := by kernel_rfl
set_option maxRecDepth 1000000 in
theorem b_1111_272 : law.blk Try.prog ids Summs.tab 60 [1, 1, 1, 1] 272 4 = true := by kernel_rfl
set_option maxRecDepth 1000000 in
theorem b_1111_276 : law.blk Try.prog ids Summs.tab 60 [1, 1, 1, 1] 276 4 = true := by kernel_rfl
set_option maxRecDepth 1000000 in
theorem b_1111_280 : law.blk Try.prog ids Summs.tab 60 [1, 1, 1, 1] 280 4 = true := by kernel_rfl
set_option maxRecDepth 1000000 in
theorem b_1111_284 : law.blk Try.prog ids Summs.tab 60 [1, 1, 1, 1] 284 4 = true := by kernel_rfl
set_option maxRecDepth 1000000 in
theorem b_1111_288 : law.blk Try.prog ids Summs.tab 60 [1, 1, 1, 1] 288 4 = true := by kernel_rfl
set_option maxRecDepth 1000000 in
theorem b_1111_292 : law.blk Try.prog ids Summs.tab 60 [1, 1, 1, 1] 292 4 = true := by kernel_rfl
set_option maxRecDepth 1000000 in
theorem b_1111_296 : law.blk Try.prog ids Summs.tab 60 [1, 1, 1, 1] 296 4 = true := by kernel_rfl
set_option maxRecDepth 1000000 in
theorem b_1111_300 : law.blk Try.prog ids Summs.tab 60 [1, 1, 1, 1] 300 4 = true := by kernel_rfl
set_option maxRecDepth 1000000 in
theorem b_1111_304 : law.blk Try.prog ids Summs.tab 60 [1, 1, 1, 1] 304 4 = true := by kernel_rfl
set_option maxRecDepth 1000000 in
theorem b_1111_308 : law.blk Try.prog ids Summs.tab 60 [1, 1, 1, 1] 308 4 = true := by kernel_rfl
set_option maxRecDepth 1000000 in
theorem b_1111_312 : law.blk Try.prog ids Summs.tab 60 [1, 1, 1, 1] 312 4 = true := by kernel_rfl
set_option maxRecDepth 1000000 in
theorem b_1111_316 : law.blk Try.prog ids Summs.tab 60 [1, 1, 1, 1] 316 4 = true := by kernel_rfl
set_option maxRecDepth 1000000 in
theorem b_1111_320 : law.blk Try.prog ids Summs.tab 60 [1, 1, 1, 1] 320 4 = true := by kernel_rfl
set_option maxRecDepth 1000000 in
theorem b_1111_324 : law.blk Try.prog ids Summs.tab 60 [1, 1, 1, 1] 324 4 = true := by kernel_rfl
set_option maxRecDepth 1000000 in
theorem b_1111_328 : law.blk Try.prog ids Summs.tab 60 [1, 1, 1, 1] 328 4 = true := by kernel_rfl
set_option maxRecDepth 1000000 in
theorem b_1111_332 : law.blk Try.prog ids Summs.tab 60 [1, 1, 1, 1] 332 4 = true := by kernel_rfl
set_option maxRecDepth 1000000 in
theorem b_1111_336 : law.blk Try.prog ids Summs.tab 60 [1, 1, 1, 1] 336 4 = true := by kernel_rfl
set_option maxRecDepth 1000000 in
theorem b_1111_340 : law.blk Try.prog ids Summs.tab 60 [1, 1, 1, 1] 340 4 = true := by kernel_rfl
set_option maxRecDepth 1000000 in
theorem b_1111_344 : law.blk Try.prog ids Summs.tab 60 [1, 1, 1, 1] 344 4 = true := by kernel_rfl
set_option maxRecDepth 1000000 in
theorem b_1111_348 : law.blk Try.prog ids Summs.tab 60 [1, 1, 1, 1] 348 4 = true := by kernel_rfl
set_option maxRecDepth 1000000 in
theorem b_1111_352 : law.blk Try.prog ids Summs.tab 60 [1, 1, 1, 1] 352 4 = true := by kernel_rfl
set_option maxRecDepth 1000000 in
theorem b_1111_356 : law.blk Try.prog ids Summs.tab 60 [1, 1, 1, 1] 356 4 = true := by kernel_rfl
set_option maxRecDepth 1000000 in
theorem b_1111_360 : law.blk Try.prog ids Summs.tab 60 [1, 1, 1, 1] 360 4 = true := by kernel_rfl
set_option maxRecDepth 1000000 in
theorem b_1111_364 : law.blk Try.prog ids Summs.tab 60 [1, 1, 1, 1] 364 4 = true := by kernel_rfl
set_option maxRecDepth 1000000 in
theorem b_1111_368 : law.blk Try.prog ids Summs.tab 60 [1, 1, 1, 1] 368 4 = true := by kernel_rfl
set_option maxRecDepth 1000000 in
theorem b_1111_372 : law.blk Try.prog ids Summs.tab 60 [1, 1, 1, 1] 372 4 = true := by kernel_rfl
set_option maxRecDepth 1000000 in
theorem b_1111_376 : law.blk Try.prog ids Summs.tab 60 [1, 1, 1, 1] 376 4 = true := by kernel_rfl
set_option maxRecDepth 1000000 in
theorem b_1111_380 : law.blk Try.prog ids Summs.tab 60 [1, 1, 1, 1] 380 4 = true := by kernel_rfl
set_option maxRecDepth 1000000 in
theorem b_1111_384 : law.blk Try.prog ids Summs.tab 60 [1, 1, 1, 1] 384 4 = true := by kernel_rfl
set_option maxRecDepth 1000000 in
theorem b_1111_388 : law.blk Try.prog ids Summs.tab 60 [1, 1, 1, 1] 388 4 = true := by kernel_rfl
set_option maxRecDepth 1000000 in
theorem b_1111_392 : law.blk Try.prog ids Summs.tab 60 [1, 1, 1, 1] 392 4 = true := by kernel_rfl
end Go.Proofs.Ytjodjcmdlbhciaa.EMultiplyPairs

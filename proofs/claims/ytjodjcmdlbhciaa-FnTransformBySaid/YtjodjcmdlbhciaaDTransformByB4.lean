/-
  A part of the proof of FnTransformBy: cases of its law, each a run. No condition.
-/
import Derived.Test.YtjodjcmdlbhciaaDTransformByA
namespace Go.Proofs.Ytjodjcmdlbhciaa.DTransformBy
open Go.ChangeShapes Go.WideShapes Go.ChangeAt Go.RowKit Go.Sx Go.Proofs.Ytjodjcmdlbhciaa.Ids
set_option linter.unusedVariables false
set_option linter.unusedSimpArgs false

set_option maxRecDepth 1000000 in
theorem b_111_288 : law.blk Try.prog ids Summs.tab 60 [1, 1, 1] 288 2 = true := by kernel_rfl
set_option maxRecDepth 1000000 in
theorem b_111_290 : law.blk Try.prog ids Summs.tab 60 [1, 1, 1] 290 2 = true := by kernel_rfl
set_option maxRecDepth 1000000 in
theorem b_111_292 : law.blk Try.prog ids Summs.tab 60 [1, 1, 1] 292 2 = true := by kernel_rfl
set_option maxRecDepth 1000000 in
theorem b_111_294 : law.blk Try.prog ids Summs.tab 60 [1, 1, 1] 294 2 = true := by kernel_rfl
set_option maxRecDepth 1000000 in
theorem b_111_296 : law.blk Try.prog ids Summs.tab 60 [1, 1, 1] 296 2 = true := by kernel_rfl
set_option maxRecDepth 1000000 in
theorem b_111_298 : law.blk Try.prog ids Summs.tab 60 [1, 1, 1] 298 2 = true := by kernel_rfl
set_option maxRecDepth 1000000 in
theorem b_111_300 : law.blk Try.prog ids Summs.tab 60 [1, 1, 1] 300 2 = true := by kernel_rfl
set_option maxRecDepth 1000000 in
theorem b_111_302 : law.blk Try.prog ids Summs.tab 60 [1, 1, 1] 302 2 = true := by kernel_rfl
set_option maxRecDepth 1000000 in
theorem b_111_304 : law.blk Try.prog ids Summs.tab 60 [1, 1, 1] 304 2 = true := by kernel_rfl
set_option maxRecDepth 1000000 in
theorem b_111_306 : law.blk Try.prog ids Summs.tab 60 [1, 1, 1] 306 2 = true := by kernel_rfl
set_option maxRecDepth 1000000 in
theorem b_111_308 : law.blk Try.prog ids Summs.tab 60 [1, 1, 1] 308 2 = true := by kernel_rfl
set_option maxRecDepth 1000000 in
theorem b_111_310 : law.blk Try.prog ids Summs.tab 60 [1, 1, 1] 310 2 = true := by kernel_rfl
set_option maxRecDepth 1000000 in
theorem b_111_312 : law.blk Try.prog ids Summs.tab 60 [1, 1, 1] 312 2 = true := by kernel_rfl
set_option maxRecDepth 1000000 in
theorem b_111_314 : law.blk Try.prog ids Summs.tab 60 [1, 1, 1] 314 2 = true := by kernel_rfl
set_option maxRecDepth 1000000 in
theorem b_111_316 : law.blk Try.prog ids Summs.tab 60 [1, 1, 1] 316 2 = true := by kernel_rfl
set_option maxRecDepth 1000000 in
theorem b_111_318 : law.blk Try.prog ids Summs.tab 60 [1, 1, 1] 318 2 = true := by kernel_rfl
set_option maxRecDepth 1000000 in
theorem b_111_320 : law.blk Try.prog ids Summs.tab 60 [1, 1, 1] 320 2 = true := by kernel_rfl
set_option maxRecDepth 1000000 in
theorem b_111_322 : law.blk Try.prog ids Summs.tab 60 [1, 1, 1] 322 2 = true := by kernel_rfl
set_option maxRecDepth 1000000 in
theorem b_111_324 : law.blk Try.prog ids Summs.tab 60 [1, 1, 1] 324 2 = true := by kernel_rfl
set_option maxRecDepth 1000000 in
theorem b_111_326 : law.blk Try.prog ids Summs.tab 60 [1, 1, 1] 326 2 = true := by kernel_rfl
set_option maxRecDepth 1000000 in
theorem b_111_328 : law.blk Try.prog ids Summs.tab 60 [1, 1, 1] 328 2 = true := by kernel_rfl
set_option maxRecDepth 1000000 in
theorem b_111_330 : law.blk Try.prog ids Summs.tab 60 [1, 1, 1] 330 2 = true := by kernel_rfl
set_option maxRecDepth 1000000 in
theorem b_111_332 : law.blk Try.prog ids Summs.tab 60 [1, 1, 1] 332 2 = true := by kernel_rfl
set_option maxRecDepth 1000000 in
theorem b_111_334 : law.blk Try.prog ids Summs.tab 60 [1, 1, 1] 334 2 = true := by kernel_rfl
set_option maxRecDepth 1000000 in
theorem b_111_336 : law.blk Try.prog ids Summs.tab 60 [1, 1, 1] 336 2 = true := by kernel_rfl
set_option maxRecDepth 1000000 in
theorem b_111_338 : law.blk Try.prog ids Summs.tab 60 [1, 1, 1] 338 2 = true := by kernel_rfl
set_option maxRecDepth 1000000 in
theorem b_111_340 : law.blk Try.prog ids Summs.tab 60 [1, 1, 1] 340 2 = true := by kernel_rfl
set_option maxRecDepth 1000000 in
theorem b_111_342 : law.blk Try.prog ids Summs.tab 60 [1, 1, 1] 342 2 = true := by kernel_rfl
end Go.Proofs.Ytjodjcmdlbhciaa.DTransformBy

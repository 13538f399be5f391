/-
  A part of the proof of FnExactIsMirror: cases of its law, each a run. No condition.
-/
import Derived.Test.YtjodjcmdlbhciaaEIsMirrorA
namespace Go.Proofs.Ytjodjcmdlbhciaa.EIsMirror
open Go.ChangeShapes Go.WideShapes Go.ChangeAt Go.RowKit Go.Sx Go.Proofs.Ytjodjcmdlbhciaa.Ids
set_option linter.unusedVariables false
set_option linter.unusedSimpArgs false

set_option maxRecDepth 1000000 in
theorem b_11_228 : law.blk Try.prog ids Summs.tab 60 [1, 1] 228 4 = true := by kernel_rfl
set_option maxRecDepth 1000000 in
theorem b_11_232 : law.blk Try.prog ids Summs.tab 60 [1, 1] 232 4 = true := by kernel_rfl
set_option maxRecDepth 1000000 in
theorem b_11_236 : law.blk Try.prog ids Summs.tab 60 [1, 1] 236 4 = true := by kernel_rfl
set_option maxRecDepth 1000000 in
theorem b_11_240 : law.blk Try.prog ids Summs.tab 60 [1, 1] 240 4 = true := by kernel_rfl
set_option maxRecDepth 1000000 in
theorem b_11_244 : law.blk Try.prog ids Summs.tab 60 [1, 1] 244 4 = true := by kernel_rfl
set_option maxRecDepth 1000000 in
theorem b_11_248 : law.blk Try.prog ids Summs.tab 60 [1, 1] 248 4 = true := by kernel_rfl
set_option maxRecDepth 1000000 in
theorem b_11_252 : law.blk Try.prog ids Summs.tab 60 [1, 1] 252 4 = true := by kernel_rfl
set_option maxRecDepth 1000000 in
theorem b_11_256 : law.blk Try.prog ids Summs.tab 60 [1, 1] 256 4 = true := by kernel_rfl
set_option maxRecDepth 1000000 in
theorem b_11_260 : law.blk Try.prog ids Summs.tab 60 [1, 1] 260 4 = true := by kernel_rfl
set_option maxRecDepth 1000000 in
theorem b_11_264 : law.blk Try.prog ids Summs.tab 60 [1, 1] 264 4 = true := by kernel_rfl
set_option maxRecDepth 1000000 in
theorem b_11_268 : law.blk Try.prog ids Summs.tab 60 [1, 1] 268 4 = true := by kernel_rfl
set_option maxRecDepth 1000000 in
theorem b_11_272 : law.blk Try.prog ids Summs.tab 60 [1, 1] 272 4 = true := by kernel_rfl
set_option maxRecDepth 1000000 in
theorem b_11_276 : law.blk Try.prog ids Summs.tab 60 [1, 1] 276 4 = true := by kernel_rfl
set_option maxRecDepth 1000000 in
theorem b_11_280 : law.blk Try.prog ids Summs.tab 60 [1, 1] 280 4 = true := by kernel_rfl
set_option maxRecDepth 1000000 in
theorem b_11_284 : law.blk Try.prog ids Summs.tab 60 [1, 1] 284 4 = true := by kernel_rfl
set_option maxRecDepth 1000000 in
theorem b_11_288 : law.blk Try.prog ids Summs.tab 60 [1, 1] 288 4 = true := by kernel_rfl
set_option maxRecDepth 1000000 in
theorem b_11_292 : law.blk Try.prog ids Summs.tab 60 [1, 1] 292 4 = true := by kernel_rfl
set_option maxRecDepth 1000000 in
theorem b_11_296 : law.blk Try.prog ids Summs.tab 60 [1, 1] 296 4 = true := by kernel_rfl
set_option maxRecDepth 1000000 in
theorem b_11_300 : law.blk Try.prog ids Summs.tab 60 [1, 1] 300 4 = true := by kernel_rfl
set_option maxRecDepth 1000000 in
theorem b_11_304 : law.blk Try.prog ids Summs.tab 60 [1, 1] 304 4 = true := by kernel_rfl
set_option maxRecDepth 1000000 in
theorem b_11_308 : law.blk Try.prog ids Summs.tab 60 [1, 1] 308 4 = true := by kernel_rfl
set_option maxRecDepth 1000000 in
theorem b_11_312 : law.blk Try.prog ids Summs.tab 60 [1, 1] 312 4 = true := by kernel_rfl
set_option maxRecDepth 1000000 in
theorem b_11_316 : law.blk Try.prog ids Summs.tab 60 [1, 1] 316 4 = true := by kernel_rfl
set_option maxRecDepth 1000000 in
theorem b_11_320 : law.blk Try.prog ids Summs.tab 60 [1, 1] 320 4 = true := by kernel_rfl
set_option maxRecDepth 1000000 in
theorem b_11_324 : law.blk Try.prog ids Summs.tab 60 [1, 1] 324 4 = true := by kernel_rfl
set_option maxRecDepth 1000000 in
theorem b_11_328 : law.blk Try.prog ids Summs.tab 60 [1, 1] 328 4 = true := by kernel_rfl
set_option maxRecDepth 1000000 in
theorem b_11_332 : law.blk Try.prog ids Summs.tab 60 [1, 1] 332 4 = true := by kernel_rfl
set_option maxRecDepth 1000000 in
theorem b_11_336 : law.blk Try.prog ids Summs.tab 60 [1, 1] 336 4 = true := by kernel_rfl
set_option maxRecDepth 1000000 in
theorem b_11_340 : law.blk Try.prog ids Summs.tab 60 [1, 1] 340 4 = true := by kernel_rfl
end Go.Proofs.Ytjodjcmdlbhciaa.EIsMirror

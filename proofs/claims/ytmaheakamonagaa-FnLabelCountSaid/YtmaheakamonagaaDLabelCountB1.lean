/-
  A part of the proof of FnLabelCount: cases of its law, each a run. No condition.
-/
import Derived.Test.YtmaheakamonagaaDLabelCountA
namespace Go.Proofs.Ytmaheakamonagaa.DLabelCount
open Go.ChangeShapes Go.WideShapes Go.ChangeAt Go.RowKit Go.Sx Go.Proofs.Ytmaheakamonagaa.Ids
set_option linter.unusedVariables false
set_option linter.unusedSimpArgs false

set_option maxRecDepth 1000000 in
theorem b_11_174 : law.blk Try.prog ids Summs.tab 200 [1, 1] 174 6 = true := by kernel_rfl
set_option maxRecDepth 1000000 in
theorem b_11_180 : law.blk Try.prog ids Summs.tab 200 [1, 1] 180 6 = true := by kernel_rfl
set_option maxRecDepth 1000000 in
theorem b_11_186 : law.blk Try.prog ids Summs.tab 200 [1, 1] 186 6 = true := by kernel_rfl
set_option maxRecDepth 1000000 in
theorem b_11_192 : law.blk Try.prog ids Summs.tab 200 [1, 1] 192 6 = true := by kernel_rfl
set_option maxRecDepth 1000000 in
theorem b_11_198 : law.blk Try.prog ids Summs.tab 200 [1, 1] 198 6 = true := by kernel_rfl
set_option maxRecDepth 1000000 in
theorem b_11_204 : law.blk Try.prog ids Summs.tab 200 [1, 1] 204 6 = true := by kernel_rfl
set_option maxRecDepth 1000000 in
theorem b_11_210 : law.blk Try.prog ids Summs.tab 200 [1, 1] 210 6 = true := by kernel_rfl
set_option maxRecDepth 1000000 in
theorem b_11_216 : law.blk Try.prog ids Summs.tab 200 [1, 1] 216 6 = true := by kernel_rfl
set_option maxRecDepth 1000000 in
theorem b_11_222 : law.blk Try.prog ids Summs.tab 200 [1, 1] 222 6 = true := by kernel_rfl
set_option maxRecDepth 1000000 in
theorem b_11_228 : law.blk Try.prog ids Summs.tab 200 [1, 1] 228 6 = true := by kernel_rfl
set_option maxRecDepth 1000000 in
theorem b_11_234 : law.blk Try.prog ids Summs.tab 200 [1, 1] 234 6 = true := by kernel_rfl
set_option maxRecDepth 1000000 in
theorem b_11_240 : law.blk Try.prog ids Summs.tab 200 [1, 1] 240 6 = true := by kernel_rfl
set_option maxRecDepth 1000000 in
theorem b_11_246 : law.blk Try.prog ids Summs.tab 200 [1, 1] 246 6 = true := by kernel_rfl
set_option maxRecDepth 1000000 in
theorem b_11_252 : law.blk Try.prog ids Summs.tab 200 [1, 1] 252 6 = true := by kernel_rfl
set_option maxRecDepth 1000000 in
theorem b_11_258 : law.blk Try.prog ids Summs.tab 200 [1, 1] 258 6 = true := by kernel_rfl
set_option maxRecDepth 1000000 in
theorem b_11_264 : law.blk Try.prog ids Summs.tab 200 [1, 1] 264 6 = true := by kernel_rfl
set_option maxRecDepth 1000000 in
theorem b_11_270 : law.blk Try.prog ids Summs.tab 200 [1, 1] 270 6 = true := by kernel_rfl
set_option maxRecDepth 1000000 in
theorem b_11_276 : law.blk Try.prog ids Summs.tab 200 [1, 1] 276 6 = true := by kernel_rfl
set_option maxRecDepth 1000000 in
theorem b_11_282 : law.blk Try.prog ids Summs.tab 200 [1, 1] 282 6 = true := by kernel_rfl
set_option maxRecDepth 1000000 in
theorem b_11_288 : law.blk Try.prog ids Summs.tab 200 [1, 1] 288 6 = true := by kernel_rfl
set_option maxRecDepth 1000000 in
theorem b_11_294 : law.blk Try.prog ids Summs.tab 200 [1, 1] 294 6 = true := by kernel_rfl
set_option maxRecDepth 1000000 in
theorem b_11_300 : law.blk Try.prog ids Summs.tab 200 [1, 1] 300 6 = true := by kernel_rfl
set_option maxRecDepth 1000000 in
theorem b_11_306 : law.blk Try.prog ids Summs.tab 200 [1, 1] 306 6 = true := by kernel_rfl
set_option maxRecDepth 1000000 in
theorem b_11_312 : law.blk Try.prog ids Summs.tab 200 [1, 1] 312 6 = true := by kernel_rfl
set_option maxRecDepth 1000000 in
theorem b_11_318 : law.blk Try.prog ids Summs.tab 200 [1, 1] 318 6 = true := by kernel_rfl
set_option maxRecDepth 1000000 in
theorem b_11_324 : law.blk Try.prog ids Summs.tab 200 [1, 1] 324 6 = true := by kernel_rfl
set_option maxRecDepth 1000000 in
theorem b_11_330 : law.blk Try.prog ids Summs.tab 200 [1, 1] 330 6 = true := by kernel_rfl
set_option maxRecDepth 1000000 in
theorem b_11_336 : law.blk Try.prog ids Summs.tab 200 [1, 1] 336 6 = true := by kernel_rfl
set_option maxRecDepth 1000000 in
theorem b_11_342 : law.blk Try.prog ids Summs.tab 200 [1, 1] 342 6 = true := by kernel_rfl
set_option maxRecDepth 1000000 in
theorem b_11_348 : law.blk Try.prog ids Summs.tab 200 [1, 1] 348 6 = true := by kernel_rfl
end Go.Proofs.Ytmaheakamonagaa.DLabelCount

/-
  A part of the proof of FnMultiplyPairs: cases of its law, each a run. No condition.
-/
import Derived.Test.YtlenoefcnjcgfaaDMultiplyPairsA
namespace Go.Proofs.Ytlenoefcnjcgfaa.DMultiplyPairs
open Go.ChangeShapes Go.WideShapes Go.ChangeAt Go.RowKit Go.Sx Go.Proofs.Ytlenoefcnjcgfaa.Ids
set_option linter.unusedVariables false
set_option linter.unusedSimpArgs false

set_option maxRecDepth 1000000 in
theorem b_1111_180 : law.blk Try.prog ids Summs.tab 60 [1, 1, 1, 1] 180 4 = true := by kernel_rfl
set_option maxRecDepth 1000000 in
theorem b_1111_184 : law.blk Try.prog ids Summs.tab 60 [1, 1, 1, 1] 184 4 = true := by kernel_rfl
set_option maxRecDepth 1000000 in
theorem b_1111_188 : law.blk Try.prog ids Summs.tab 60 [1, 1, 1, 1] 188 4 = true := by kernel_rfl
set_option maxRecDepth 1000000 in
theorem b_1111_192 : law.blk Try.prog ids Summs.tab 60 [1, 1, 1, 1] 192 4 = true := by kernel_rfl
set_option maxRecDepth 1000000 in
theorem b_1111_196 : law.blk Try.prog ids Summs.tab 60 [1, 1, 1, 1] 196 4 = true := by kernel_rfl
set_option maxRecDepth 1000000 in
theorem b_1111_200 : law.blk Try.prog ids Summs.tab 60 [1, 1, 1, 1] 200 4 = true := by kernel_rfl
set_option maxRecDepth 1000000 in
theorem b_1111_204 : law.blk Try.prog ids Summs.tab 60 [1, 1, 1, 1] 204 4 = true := by kernel_rfl
set_option maxRecDepth 1000000 in
theorem b_1111_208 : law.blk Try.prog ids Summs.tab 60 [1, 1, 1, 1] 208 4 = true := by kernel_rfl
set_option maxRecDepth 1000000 in
theorem b_1111_212 : law.blk Try.prog ids Summs.tab 60 [1, 1, 1, 1] 212 4 = true := by kernel_rfl
set_option maxRecDepth 1000000 in
theorem b_1111_216 : law.blk Try.prog ids Summs.tab 60 [1, 1, 1, 1] 216 4 = true := by kernel_rfl
set_option maxRecDepth 1000000 in
theorem b_1111_220 : law.blk Try.prog ids Summs.tab 60 [1, 1, 1, 1] 220 4 = true := by kernel_rfl
set_option maxRecDepth 1000000 in
theorem b_1111_224 : law.blk Try.prog ids Summs.tab 60 [1, 1, 1, 1] 224 4 = true := by kernel_rfl
set_option maxRecDepth 1000000 in
theorem b_1111_228 : law.blk Try.prog ids Summs.tab 60 [1, 1, 1, 1] 228 4 = true := by kernel_rfl
set_option maxRecDepth 1000000 in
theorem b_1111_232 : law.blk Try.prog ids Summs.tab 60 [1, 1, 1, 1] 232 4 = true := by kernel_rfl
set_option maxRecDepth 1000000 in
theorem b_1111_236 : law.blk Try.prog ids Summs.tab 60 [1, 1, 1, 1] 236 4 = true := by kernel_rfl
set_option maxRecDepth 1000000 in
theorem b_1111_240 : law.blk Try.prog ids Summs.tab 60 [1, 1, 1, 1] 240 4 = true := by kernel_rfl
set_option maxRecDepth 1000000 in
theorem b_1111_244 : law.blk Try.prog ids Summs.tab 60 [1, 1, 1, 1] 244 4 = true := by kernel_rfl
set_option maxRecDepth 1000000 in
theorem b_1111_248 : law.blk Try.prog ids Summs.tab 60 [1, 1, 1, 1] 248 4 = true := by kernel_rfl
set_option maxRecDepth 1000000 in
theorem b_1111_252 : law.blk Try.prog ids Summs.tab 60 [1, 1, 1, 1] 252 4 = true := by kernel_rfl
set_option maxRecDepth 1000000 in
theorem b_1111_256 : law.blk Try.prog ids Summs.tab 60 [1, 1, 1, 1] 256 4 = true := by kernel_rfl
set_option maxRecDepth 1000000 in
theorem b_1111_260 : law.blk Try.prog ids Summs.tab 60 [1, 1, 1, 1] 260 4 = true := by kernel_rfl
set_option maxRecDepth 1000000 in
theorem b_1111_264 : law.blk Try.prog ids Summs.tab 60 [1, 1, 1, 1] 264 4 = true := by kernel_rfl
set_option maxRecDepth 1000000 in
theorem b_1111_268 : law.blk Try.prog ids Summs.tab 60 [1, 1, 1, 1] 268 4 = true := by kernel_rfl
set_option maxRecDepth 1000000 in
theorem b_1111_272 : law.blk Try.prog ids Summs.tab 60 [1, 1, 1, 1] 272 4 = true := by kernel_rfl
set_option maxRecDepth 1000000 in
theorem b_1111_276 : law.blk Try.prog ids Summs.tab 60 [1, 1, 1, 1] 276 4 = true := by kernel_rfl
set_option maxRecDepth 1000000 in
theorem b_1111_280 : law.blk Try.prog ids Summs.tab 60 [1, 1, 1, 1] 280 4 = true := by kernel_rfl
set_option maxRecDepth 1000000 in
theorem b_1111_284 : law.blk Try.prog ids Summs.tab 60 [1, 1, 1, 1] 284 4 = true := by kernel_rfl
set_option maxRecDepth 1000000 in
theorem b_1111_288 : law.blk Try.prog ids Summs.tab 60 [1, 1, 1, 1] 288 4 = true := by kernel_rfl
set_option maxRecDepth 1000000 in
theorem b_1111_292 : law.blk Try.prog ids Summs.tab 60 [1, 1, 1, 1] 292 4 = true := by kernel_rfl
set_option maxRecDepth 1000000 in
theorem b_1111_296 : law.blk Try.prog ids Summs.tab 60 [1, 1, 1, 1] 296 4 = true := by kernel_rfl
set_option maxRecDepth 1000000 in
theorem b_1111_300 : law.blk Try.prog ids Summs.tab 60 [1, 1, 1, 1] 300 4 = true := by kernel_rfl
set_option maxRecDepth 1000000 in
theorem b_1111_304 : law.blk Try.prog ids Summs.tab 60 [1, 1, 1, 1] 304 4 = true := by kernel_rfl
set_option maxRecDepth 1000000 in
theorem b_1111_308 : law.blk Try.prog ids Summs.tab 60 [1, 1, 1, 1] 308 4 = true := by kernel_rfl
set_option maxRecDepth 1000000 in
theorem b_1111_312 : law.blk Try.prog ids Summs.tab 60 [1, 1, 1, 1] 312 4 = true := by kernel_rfl
set_option maxRecDepth 1000000 in
theorem b_1111_316 : law.blk Try.prog ids Summs.tab 60 [1, 1, 1, 1] 316 4 = true := by kernel_rfl
set_option maxRecDepth 1000000 in
theorem b_1111_320 : law.blk Try.prog ids Summs.tab 60 [1, 1, 1, 1] 320 4 = true := by kernel_rfl
set_option maxRecDepth 1000000 in
theorem b_1111_324 : law.blk Try.prog ids Summs.tab 60 [1, 1, 1, 1] 324 4 = true := by kernel_rfl
set_option maxRecDepth 1000000 in
theorem b_1111_328 : law.blk Try.prog ids Summs.tab 60 [1, 1, 1, 1] 328 4 = true := by kernel_rfl
end Go.Proofs.Ytlenoefcnjcgfaa.DMultiplyPairs

/-
  A part of the proof of FnTransformBy: cases of its law, each a run. No condition.
-/
import Derived.Test.YtjodjcmdlbhciaaDTransformByA
namespace Go.Proofs.Ytjodjcmdlbhciaa.DTransformBy
open Go.ChangeShapes Go.WideShapes Go.ChangeAt Go.RowKit Go.Sx Go.Proofs.Ytjodjcmdlbhciaa.Ids
set_option linter.unusedVariables false
set_option linter.unusedSimpArgs false

set_option maxRecDepth 1000000 in
theorem b_111_198 : law.blk Try.prog ids Summs.tab 60 [1, 1, 1] 198 2 = true := by kernel_rfl
set_option maxRecDepth 1000000 in
theorem b_111_200 : law.blk Try.prog ids Summs.tab 60 [1, 1, 1] 200 2 = true := by kernel_rfl
set_option maxRecDepth 1000000 in
theorem b_111_202 : law.blk Try.prog ids Summs.tab 60 [1, 1, 1] 202 2 = true := by kernel_rfl
set_option maxRecDepth 1000000 in
theorem b_111_204 : law.blk Try.prog ids Summs.tab 60 [1, 1, 1] 204 2 = true := by kernel_rfl
set_option maxRecDepth 1000000 in
theorem b_111_206 : law.blk Try.prog ids Summs.tab 60 [1, 1, 1] 206 2 = true := by kernel_rfl
set_option maxRecDepth 1000000 in
theorem b_111_208 : law.blk Try.prog ids Summs.tab 60 [1, 1, 1] 208 2 = true := by kernel_rfl
set_option maxRecDepth 1000000 in
theorem b_111_210 : law.blk Try.prog ids Summs.tab 60 [1, 1, 1] 210 2 = true := by kernel_rfl
set_option maxRecDepth 1000000 in
theorem b_111_212 : law.blk Try.prog ids Summs.tab 60 [1, 1, 1] 212 2 = true := by kernel_rfl
set_option maxRecDepth 1000000 in
theorem b_111_214 : law.blk Try.prog ids Summs.tab 60 [1, 1, 1] 214 2 = true := by kernel_rfl
set_option maxRecDepth 1000000 in
theorem b_111_216 : law.blk Try.prog ids Summs.tab 60 [1, 1, 1] 216 2 = true := by kernel_rfl
set_option maxRecDepth 1000000 in
theorem b_111_218 : law.blk Try.prog ids Summs.tab 60 [1, 1, 1] 218 2 = true := by kernel_rfl
set_option maxRecDepth 1000000 in
theorem b_111_220 : law.blk Try.prog ids Summs.tab 60 [1, 1, 1] 220 2 = true := by kernel_rfl
set_option maxRecDepth 1000000 in
theorem b_111_222 : law.blk Try.prog ids Summs.tab 60 [1, 1, 1] 222 2 = true := by kernel_rfl
set_option maxRecDepth 1000000 in
theorem b_111_224 : law.blk Try.prog ids Summs.tab 60 [1, 1, 1] 224 2 = true := by kernel_rfl
set_option maxRecDepth 1000000 in
theorem b_111_226 : law.blk Try.prog ids Summs.tab 60 [1, 1, 1] 226 2 = true := by kernel_rfl
set_option maxRecDepth 1000000 in
theorem b_111_228 : law.blk Try.prog ids Summs.tab 60 [1, 1, 1] 228 2 = true := by kernel_rfl
set_option maxRecDepth 1000000 in
theorem b_111_230 : law.blk Try.prog ids Summs.tab 60 [1, 1, 1] 230 2 = true := by kernel_rfl
set_option maxRecDepth 1000000 in
theorem b_111_232 : law.blk Try.prog ids Summs.tab 60 [1, 1, 1] 232 2 = true := by kernel_rfl
set_option maxRecDepth 1000000 in
theorem b_111_234 : law.blk Try.prog ids Summs.tab 60 [1, 1, 1] 234 2 = true := by kernel_rfl
set_option maxRecDepth 1000000 in
theorem b_111_236 : law.blk Try.prog ids Summs.tab 60 [1, 1, 1] 236 2 = true := by kernel_rfl
set_option maxRecDepth 1000000 in
theorem b_111_238 : law.blk Try.prog ids Summs.tab 60 [1, 1, 1] 238 2 = true := by kernel_rfl
set_option maxRecDepth 1000000 in
theorem b_111_240 : law.blk Try.prog ids Summs.tab 60 [1, 1, 1] 240 2 = true := by kernel_rfl
set_option maxRecDepth 1000000 in
theorem b_111_242 : law.blk Try.prog ids Summs.tab 60 [1, 1, 1] 242 2 = true := by kernel_rfl
set_option maxRecDepth 1000000 in
theorem b_111_244 : law.blk Try.prog ids Summs.tab 60 [1, 1, 1] 244 2 = true := by kernel_rfl
set_option maxRecDepth 1000000 in
theorem b_111_246 : law.blk Try.prog ids Summs.tab 60 [1, 1, 1] 246 2 = true := by kernel_rfl
set_option maxRecDepth 1000000 in
theorem b_111_248 : law.blk Try.prog ids Summs.tab 60 [1, 1, 1] 248 2 = true := by kernel_rfl
set_option maxRecDepth 1000000 in
theorem b_111_250 : law.blk Try.prog ids Summs.tab 60 [1, 1, 1] 250 2 = true := by kernel_rfl
set_option maxRecDepth 1000000 in
theorem b_111_252 : law.blk Try.prog ids Summs.tab 60 [1, 1, 1] 252 2 = true := by kernel_rfl
set_option maxRecDepth 1000000 in
theorem b_111_254 : law.blk Try.prog ids Summs.tab 60 [1, 1, 1] 254 2 = true := by kernel_rfl
set_option maxRecDepth 1000000 in
theorem b_111_256 : law.blk Try.prog ids Summs.tab 60 [1, 1, 1] 256 2 = true := by kernel_rfl
set_option maxRecDepth 1000000 in
theorem b_111_258 : law.blk Try.prog ids Summs.tab 60 [1, 1, 1] 258 2 = true := by kernel_rfl
set_option maxRecDepth 1000000 in
theorem b_111_260 : law.blk Try.prog ids Summs.tab 60 [1, 1, 1] 260 2 = true := by kernel_rfl
set_option maxRecDepth 1000000 in
theorem b_111_262 : law.blk Try.prog ids Summs.tab 60 [1, 1, 1] 262 2 = true := by kernel_rfl
set_option maxRecDepth 1000000 in
theorem b_111_264 : law.blk Try.prog ids Summs.tab 60 [1, 1, 1] 264 2 = true := by kernel_rfl
set_option maxRecDepth 1000000 in
theorem b_111_266 : law.blk Try.prog ids Summs.tab 60 [1, 1, 1] 266 2 = true := by kernel_rfl
set_option maxRecDepth 1000000 in
theorem b_111_268 : law.blk Try.prog ids Summs.tab 60 [1, 1, 1] 268 2 = true := by kernel_rfl
set_option maxRecDepth 1000000 in
theorem b_111_270 : law.blk Try.prog ids Summs.tab 60 [1, 1, 1] 270 2 = true := by kernel_rfl
set_option maxRecDepth 1000000 in
theorem b_111_272 : law.blk Try.prog ids Summs.tab 60 [1, 1, 1] 272 2 = true := by kernel_rfl
set_option maxRecDepth 1000000 in
theorem b_111_274 : law.blk Try.prog ids Summs.tab 60 [1, 1, 1] 274 2 = true := by kernel_rfl
set_option maxRecDepth 1000000 in
theorem b_111_276 : law.blk Try.prog ids Summs.tab 60 [1, 1, 1] 276 2 = true := by kernel_rfl
set_option maxRecDepth 1000000 in
theorem b_111_278 : law.blk Try.prog ids Summs.tab 60 [1, 1, 1] 278 2 = true := by kernel_rfl
set_option maxRecDepth 1000000 in
theorem b_111_280 : law.blk Try.prog ids Summs.tab 60 [1, 1, 1] 280 2 = true := by kernel_rfl
set_option maxRecDepth 1000000 in
theorem b_111_282 : law.blk Try.prog ids Summs.tab 60 [1, 1, 1] 282 2 = true := by kernel_rfl
set_option maxRecDepth 1000000 in
theorem b_111_284 : law.blk Try.prog ids Summs.tab 60 [1, 1, 1] 284 2 = true := by kernel_rfl
set_option maxRecDepth 1000000 in
theorem b_111_286 : law.blk Try.prog ids Summs.tab 60 [1, 1, 1] 286 2 = true := by kernel_rfl
end Go.Proofs.Ytjodjcmdlbhciaa.DTransformBy

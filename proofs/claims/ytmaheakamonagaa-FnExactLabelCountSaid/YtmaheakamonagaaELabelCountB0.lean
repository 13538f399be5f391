/-
  A part of the proof of FnExactLabelCount: cases of its law, each a run. No condition.
-/
import Derived.Test.YtmaheakamonagaaELabelCountA
namespace Go.Proofs.Ytmaheakamonagaa.ELabelCount
open Go.ChangeShapes Go.WideShapes Go.ChangeAt Go.RowKit Go.Sx Go.Proofs.Ytmaheakamonagaa.Ids
set_option linter.unusedVariables false
set_option linter.unusedSimpArgs false

set_option maxRecDepth 1000000 in
theorem b_00_0 : law.blk Try.prog ids Summs.tab 200 [0, 0] 0 1 = true := by kernel_rfl
set_option maxRecDepth 1000000 in
theorem b_01_0 : law.blk Try.prog ids Summs.tab 200 [0, 1] 0 1 = true := by kernel_rfl
set_option maxRecDepth 1000000 in
theorem b_10_0 : law.blk Try.prog ids Summs.tab 200 [1, 0] 0 6 = true := by kernel_rfl
set_option maxRecDepth 1000000 in
theorem b_10_6 : law.blk Try.prog ids Summs.tab 200 [1, 0] 6 1 = true := by kernel_rfl
set_option maxRecDepth 1000000 in
theorem b_11_0 : law.blk Try.prog ids Summs.tab 200 [1, 1] 0 6 = true := by kernel_rfl
set_option maxRecDepth 1000000 in
theorem b_11_6 : law.blk Try.prog ids Summs.tab 200 [1, 1] 6 6 = true := by kernel_rfl
set_option maxRecDepth 1000000 in
theorem b_11_12 : law.blk Try.prog ids Summs.tab 200 [1, 1] 12 6 = true := by kernel_rfl
set_option maxRecDepth 1000000 in
theorem b_11_18 : law.blk Try.prog ids Summs.tab 200 [1, 1] 18 6 = true := by kernel_rfl
set_option maxRecDepth 1000000 in
theorem b_11_24 : law.blk Try.prog ids Summs.tab 200 [1, 1] 24 6 = true := by kernel_rfl
set_option maxRecDepth 1000000 in
theorem b_11_30 : law.blk Try.prog ids Summs.tab 200 [1, 1] 30 6 = true := by kernel_rfl
set_option maxRecDepth 1000000 in
theorem b_11_36 : law.blk Try.prog ids Summs.tab 200 [1, 1] 36 6 = true := by kernel_rfl
set_option maxRecDepth 1000000 in
theorem b_11_42 : law.blk Try.prog ids Summs.tab 200 [1, 1] 42 6 = true := by kernel_rfl
set_option maxRecDepth 1000000 in
theorem b_11_48 : law.blk Try.prog ids Summs.tab 200 [1, 1] 48 6 = true := by kernel_rfl
set_option maxRecDepth 1000000 in
theorem b_11_54 : law.blk Try.prog ids Summs.tab 200 [1, 1] 54 6 = true := by kernel_rfl
set_option maxRecDepth 1000000 in
theorem b_11_60 : law.blk Try.prog ids Summs.tab 200 [1, 1] 60 6 = true := by kernel_rfl
set_option maxRecDepth 1000000 in
theorem b_11_66 : law.blk Try.prog ids Summs.tab 200 [1, 1] 66 6 = true := by kernel_rfl
set_option maxRecDepth 1000000 in
theorem b_11_72 : law.blk Try.prog ids Summs.tab 200 [1, 1] 72 6 = true := by kernel_rfl
set_option maxRecDepth 1000000 in
theorem b_11_78 : law.blk Try.prog ids Summs.tab 200 [1, 1] 78 6 = true := by kernel_rfl
set_option maxRecDepth 1000000 in
theorem b_11_84 : law.blk Try.prog ids Summs.tab 200 [1, 1] 84 6 = true := by kernel_rfl
set_option maxRecDepth 1000000 in
theorem b_11_90 : law.blk Try.prog ids Summs.tab 200 [1, 1] 90 6 = true := by kernel_rfl
set_option maxRecDepth 1000000 in
theorem b_11_96 : law.blk Try.prog ids Summs.tab 200 [1, 1] 96 6 = true := by kernel_rfl
set_option maxRecDepth 1000000 in
theorem b_11_102 : law.blk Try.prog ids Summs.tab 200 [1, 1] 102 6 = true := by kernel_rfl
set_option maxRecDepth 1000000 in
theorem b_11_108 : law.blk Try.prog ids Summs.tab 200 [1, 1] 108 6 = true := by kernel_rfl
set_option maxRecDepth 1000000 in
theorem b_11_114 : law.blk Try.prog ids Summs.tab 200 [1, 1] 114 6 = true := by kernel_rfl
set_option maxRecDepth 1000000 in
theorem b_11_120 : law.blk Try.prog ids Summs.tab 200 [1, 1] 120 6 = true := by kernel_rfl
set_option maxRecDepth 1000000 in
theorem b_11_126 : law.blk Try.prog ids Summs.tab 200 [1, 1] 126 6 = true := by kernel_rfl
set_option maxRecDepth 1000000 in
theorem b_11_132 : law.blk Try.prog ids Summs.tab 200 [1, 1] 132 6 = true := by kernel_rfl
set_option maxRecDepth 1000000 in
theorem b_11_138 : law.blk Try.prog ids Summs.tab 200 [1, 1] 138 6 = true := by kernel_rfl
set_option maxRecDepth 1000000 in
theorem b_11_144 : law.blk Try.prog ids Summs.tab 200 [1, 1] 144 6 = true := by kernel_rfl
set_option maxRecDepth 1000000 in
theorem b_11_150 : law.blk Try.prog ids Summs.tab 200 [1, 1] 150 6 = true := by kernel_rfl
set_option maxRecDepth 1000000 in
theorem b_11_156 : law.blk Try.prog ids Summs.tab 200 [1, 1] 156 6 = true := by kernel_rfl
set_option maxRecDepth 1000000 in
theorem b_11_162 : law.blk Try.prog ids Summs.tab 200 [1, 1] 162 6 = true := by kernel_rfl
set_option maxRecDepth 1000000 in
theorem b_11_168 : law.blk Try.prog ids Summs.tab 200 [1, 1] 168 6 = true := by kernel_rfl
set_option maxRecDepth 1000000 in
theorem b_11_174 : law.blk Try.prog ids Summs.tab 200 [1, 1] 174 6 = true := by kernel_rfl
set_option maxRecDepth 1000000 in
theorem b_11_180 : law.blk Try.prog ids Summs.tab 200 [1, 1] 180 6 = true := by kernel_rfl
set_option maxRecDepth 1000000 in
theorem b_11_186 : law.blk Try.prog ids Summs.tab 200 [1, 1] 186 6 = true := by kernel_rfl
set_option maxRecDepth 1000000 in
theorem b_11_192 : law.blk Try.prog ids Summs.tab 200 [1, 1] 192 6 = true := by kernel_rfl
set_option maxRecDepth 1000000 in
theorem b_11_198 : law.blk Try.prog ids Summs.tab 200 [1, 1] 198 6 = true := by kernel_rfl
set_option maxRecDepth 1000000 in
theorem b_11_204 : law.blk Try.prog ids Summs.tab 200 [1, 1] 204 6 = true := by kernel_rfl
set_option maxRecDepth 1000000 in
theorem b_11_210 : law.blk Try.prog ids Summs.tab 200 [1, 1] 210 6 = true := by kernel_rfl
set_option maxRecDepth 1000000 in
theorem b_11_216 : law.blk Try.prog ids Summs.tab 200 [1, 1] 216 6 = true := by kernel_rfl
set_option maxRecDepth 1000000 in
theorem b_11_222 : law.blk Try.prog ids Summs.tab 200 [1, 1] 222 6 = true := by kernel_rfl
set_option maxRecDepth 1000000 in
theorem b_11_228 : law.blk Try.prog ids Summs.tab 200 [1, 1] 228 6 = true := by kernel_rfl
set_option maxRecDepth 1000000 in
theorem b_11_234 : law.blk Try.prog ids Summs.tab 200 [1, 1] 234 6 = true := by kernel_rfl
set_option maxRecDepth 1000000 in
theorem b_11_240 : law.blk Try.prog ids Summs.tab 200 [1, 1] 240 6 = true := by kernel_rfl
set_option maxRecDepth 1000000 in
theorem b_11_246 : law.blk Try.prog ids Summs.tab 200 [1, 1] 246 6 = true := by kernel_rfl
set_option maxRecDepth 1000000 in
theorem b_11_252 : law.blk Try.prog ids Summs.tab 200 [1, 1] 252 6 = true := by kernel_rfl
set_option maxRecDepth 1000000 in
theorem b_11_258 : law.blk Try.prog ids Summs.tab 200 [1, 1] 258 6 = true := by kernel_rfl
set_option maxRecDepth 1000000 in
theorem b_11_264 : law.blk Try.prog ids Summs.tab 200 [1, 1] 264 6 = true := by kernel_rfl
set_option maxRecDepth 1000000 in
theorem b_11_270 : law.blk Try.prog ids Summs.tab 200 [1, 1] 270 6 = true := by kernel_rfl
set_option maxRecDepth 1000000 in
theorem b_11_276 : law.blk Try.prog ids Summs.tab 200 [1, 1] 276 6 = true := by kernel_rfl
set_option maxRecDepth 1000000 in
theorem b_11_282 : law.blk Try.prog ids Summs.tab 200 [1, 1] 282 6 = true := by kernel_rfl
set_option maxRecDepth 1000000 in
theorem b_11_288 : law.blk Try.prog ids Summs.tab 200 [1, 1] 288 6 = true := by kernel_rfl
set_option maxRecDepth 1000000 in
theorem b_11_294 : law.blk Try.prog ids Summs.tab 200 [1, 1] 294 6 = true := by kernel_rfl
set_option maxRecDepth 1000000 in
theorem b_11_300 : law.blk Try.prog ids Summs.tab 200 [1, 1] 300 6 = true := by kernel_rfl
set_option maxRecDepth 1000000 in
theorem b_11_306 : law.blk Try.prog ids Summs.tab 200 [1, 1] 306 6 = true := by kernel_rfl
set_option maxRecDepth 1000000 in
theorem b_11_312 : law.blk Try.prog ids Summs.tab 200 [1, 1] 312 6 = true := by kernel_rfl
set_option maxRecDepth 1000000 in
theorem b_11_318 : law.blk Try.prog ids Summs.tab 200 [1, 1] 318 6 = true := by kernel_rfl
set_option maxRecDepth 1000000 in
theorem b_11_324 : law.blk Try.prog ids Summs.tab 200 [1, 1] 324 6 = true := by kernel_rfl
set_option maxRecDepth 1000000 in
theorem b_11_330 : law.blk Try.prog ids Summs.tab 200 [1, 1] 330 6 = true := by kernel_rfl
set_option maxRecDepth 1000000 in
theorem b_11_336 : law.blk Try.prog ids Summs.tab 200 [1, 1] 336 6 = true := by kernel_rfl
set_option maxRecDepth 1000000 in
theorem b_11_342 : law.blk Try.prog ids Summs.tab 200 [1, 1] 342 6 = true := by kernel_rfl
set_option maxRecDepth 1000000 in
theorem b_11_348 : law.blk Try.prog ids Summs.tab 200 [1, 1] 348 6 = true := by kernel_rfl
set_option maxRecDepth 1000000 in
theorem b_11_354 : law.blk Try.prog ids Summs.tab 200 [1, 1] 354 6 = true := by kernel_rfl
set_option maxRecDepth 1000000 in
theorem b_11_360 : law.blk Try.prog ids Summs.tab 200 [1, 1] 360 6 = true := by kernel_rfl
set_option maxRecDepth 1000000 in
theorem b_11_366 : law.blk Try.prog ids Summs.tab 200 [1, 1] 366 6 = true := by kernel_rfl
set_option maxRecDepth 1000000 in
theorem b_11_372 : law.blk Try.prog ids Summs.tab 200 [1, 1] 372 6 = true := by kernel_rfl
set_option maxRecDepth 1000000 in
theorem b_11_378 : law.blk Try.prog ids Summs.tab 200 [1, 1] 378 6 = true := by kernel_rfl
set_option maxRecDepth 1000000 in
theorem b_11_384 : law.blk Try.prog ids Summs.tab 200 [1, 1] 384 6 = true := by kernel_rfl
set_option maxRecDepth 1000000 in
theorem b_11_390 : law.blk Try.prog ids Summs.tab 200 [1, 1] 390 6 = true := by kernel_rfl
end Go.Proofs.Ytmaheakamonagaa.ELabelCount

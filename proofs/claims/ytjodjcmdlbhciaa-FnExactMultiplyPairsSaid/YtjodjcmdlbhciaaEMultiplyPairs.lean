/-
  A part of the proof of FnExactMultiplyPairs: cases of its law, each a run. No condition.
-/
import Derived.Test.YtjodjcmdlbhciaaEMultiplyPairsB0
import Derived.Test.YtjodjcmdlbhciaaEMultiplyPairsB1
import Derived.Test.YtjodjcmdlbhciaaEMultiplyPairsB2
import Derived.Test.YtjodjcmdlbhciaaEMultiplyPairsB3
import Derived.Test.YtjodjcmdlbhciaaEMultiplyPairsB4
import Derived.WalkKit
import Derived.ProofKit
import Derived.OpenShut
namespace Go.Proofs.Ytjodjcmdlbhciaa.EMultiplyPairs
open Go.ChangeShapes Go.WideShapes Go.ChangeAt Go.RowKit Go.Sx Go.Proofs.Ytjodjcmdlbhciaa.Ids
set_option linter.unusedVariables false
set_option linter.unusedSimpArgs false

theorem cnt_0000 : (law.tree [0, 0, 0, 0]).count = 1 := by kernel_rfl
theorem at_0000 : law.at Try.prog ids Summs.tab 60 [0, 0, 0, 0] = true := by
  refine LawU.at_of (fun j hj => ?_)
  rw [cnt_0000] at hj
  exact LawU.of_blk b_0000_0 (by omega) (by omega)
theorem cnt_0001 : (law.tree [0, 0, 0, 1]).count = 1 := by kernel_rfl
theorem at_0001 : law.at Try.prog ids Summs.tab 60 [0, 0, 0, 1] = true := by
  refine LawU.at_of (fun j hj => ?_)
  rw [cnt_0001] at hj
  exact LawU.of_blk b_0001_0 (by omega) (by omega)
theorem cnt_0010 : (law.tree [0, 0, 1, 0]).count = 1 := by kernel_rfl
theorem at_0010 : law.at Try.prog ids Summs.tab 60 [0, 0, 1, 0] = true := by
  refine LawU.at_of (fun j hj => ?_)
  rw [cnt_0010] at hj
  exact LawU.of_blk b_0010_0 (by omega) (by omega)
theorem cnt_0011 : (law.tree [0, 0, 1, 1]).count = 1 := by kernel_rfl
theorem at_0011 : law.at Try.prog ids Summs.tab 60 [0, 0, 1, 1] = true := by
  refine LawU.at_of (fun j hj => ?_)
  rw [cnt_0011] at hj
  exact LawU.of_blk b_0011_0 (by omega) (by omega)
theorem cnt_0100 : (law.tree [0, 1, 0, 0]).count = 1 := by kernel_rfl
theorem at_0100 : law.at Try.prog ids Summs.tab 60 [0, 1, 0, 0] = true := by
  refine LawU.at_of (fun j hj => ?_)
  rw [cnt_0100] at hj
  exact LawU.of_blk b_0100_0 (by omega) (by omega)
theorem cnt_0101 : (law.tree [0, 1, 0, 1]).count = 1 := by kernel_rfl
theorem at_0101 : law.at Try.prog ids Summs.tab 60 [0, 1, 0, 1] = true := by
  refine LawU.at_of (fun j hj => ?_)
  rw [cnt_0101] at hj
  exact LawU.of_blk b_0101_0 (by omega) (by omega)
theorem cnt_0110 : (law.tree [0, 1, 1, 0]).count = 1 := by kernel_rfl
theorem at_0110 : law.at Try.prog ids Summs.tab 60 [0, 1, 1, 0] = true := by
  refine LawU.at_of (fun j hj => ?_)
  rw [cnt_0110] at hj
  exact LawU.of_blk b_0110_0 (by omega) (by omega)
theorem cnt_0111 : (law.tree [0, 1, 1, 1]).count = 1 := by kernel_rfl
theorem at_0111 : law.at Try.prog ids Summs.tab 60 [0, 1, 1, 1] = true := by
  refine LawU.at_of (fun j hj => ?_)
  rw [cnt_0111] at hj
  exact LawU.of_blk b_0111_0 (by omega) (by omega)
theorem cnt_1000 : (law.tree [1, 0, 0, 0]).count = 2 := by kernel_rfl
theorem at_1000 : law.at Try.prog ids Summs.tab 60 [1, 0, 0, 0] = true := by
  refine LawU.at_of (fun j hj => ?_)
  rw [cnt_1000] at hj
  exact LawU.of_blk b_1000_0 (by omega) (by omega)
theorem cnt_1001 : (law.tree [1, 0, 0, 1]).count = 2 := by kernel_rfl
theorem at_1001 : law.at Try.prog ids Summs.tab 60 [1, 0, 0, 1] = true := by
  refine LawU.at_of (fun j hj => ?_)
  rw [cnt_1001] at hj
  exact LawU.of_blk b_1001_0 (by omega) (by omega)
theorem cnt_1010 : (law.tree [1, 0, 1, 0]).count = 2 := by kernel_rfl
theorem at_1010 : law.at Try.prog ids Summs.tab 60 [1, 0, 1, 0] = true := by
  refine LawU.at_of (fun j hj => ?_)
  rw [cnt_1010] at hj
  exact LawU.of_blk b_1010_0 (by omega) (by omega)
theorem cnt_1011 : (law.tree [1, 0, 1, 1]).count = 2 := by kernel_rfl
theorem at_1011 : law.at Try.prog ids Summs.tab 60 [1, 0, 1, 1] = true := by
  refine LawU.at_of (fun j hj => ?_)
  rw [cnt_1011] at hj
  exact LawU.of_blk b_1011_0 (by omega) (by omega)
theorem cnt_1100 : (law.tree [1, 1, 0, 0]).count = 64 := by kernel_rfl
theorem at_1100 : law.at Try.prog ids Summs.tab 60 [1, 1, 0, 0] = true := by
  refine LawU.at_of (fun j hj => ?_)
  rw [cnt_1100] at hj
  by_cases h0 : j < 4
  · exact LawU.of_blk b_1100_0 (by omega) (by omega)
  by_cases h4 : j < 8
  · exact LawU.of_blk b_1100_4 (by omega) (by omega)
  by_cases h8 : j < 12
  · exact LawU.of_blk b_1100_8 (by omega) (by omega)
  by_cases h12 : j < 16
  · exact LawU.of_blk b_1100_12 (by omega) (by omega)
  by_cases h16 : j < 20
  · exact LawU.of_blk b_1100_16 (by omega) (by omega)
  by_cases h20 : j < 24
  · exact LawU.of_blk b_1100_20 (by omega) (by omega)
  by_cases h24 : j < 28
  · exact LawU.of_blk b_1100_24 (by omega) (by omega)
  by_cases h28 : j < 32
  · exact LawU.of_blk b_1100_28 (by omega) (by omega)
  by_cases h32 : j < 36
  · exact LawU.of_blk b_1100_32 (by omega) (by omega)
  by_cases h36 : j < 40
  · exact LawU.of_blk b_1100_36 (by omega) (by omega)
  by_cases h40 : j < 44
  · exact LawU.of_blk b_1100_40 (by omega) (by omega)
  by_cases h44 : j < 48
  · exact LawU.of_blk b_1100_44 (by omega) (by omega)
  by_cases h48 : j < 52
  · exact LawU.of_blk b_1100_48 (by omega) (by omega)
  by_cases h52 : j < 56
  · exact LawU.of_blk b_1100_52 (by omega) (by omega)
  by_cases h56 : j < 60
  · exact LawU.of_blk b_1100_56 (by omega) (by omega)
  exact LawU.of_blk b_1100_60 (by omega) (by omega)
theorem cnt_1101 : (law.tree [1, 1, 0, 1]).count = 64 := by kernel_rfl
theorem at_1101 : law.at Try.prog ids Summs.tab 60 [1, 1, 0, 1] = true := by
  refine LawU.at_of (fun j hj => ?_)
  rw [cnt_1101] at hj
  by_cases h0 : j < 4
  · exact LawU.of_blk b_1101_0 (by omega) (by omega)
  by_cases h4 : j < 8
  · exact LawU.of_blk b_1101_4 (by omega) (by omega)
  by_cases h8 : j < 12
  · exact LawU.of_blk b_1101_8 (by omega) (by omega)
  by_cases h12 : j < 16
  · exact LawU.of_blk b_1101_12 (by omega) (by omega)
  by_cases h16 : j < 20
  · exact LawU.of_blk b_1101_16 (by omega) (by omega)
  by_cases h20 : j < 24
  · exact LawU.of_blk b_1101_20 (by omega) (by omega)
  by_cases h24 : j < 28
  · exact LawU.of_blk b_1101_24 (by omega) (by omega)
  by_cases h28 : j < 32
  · exact LawU.of_blk b_1101_28 (by omega) (by omega)
  by_cases h32 : j < 36
  · exact LawU.of_blk b_1101_32 (by omega) (by omega)
  by_cases h36 : j < 40
  · exact LawU.of_blk b_1101_36 (by omega) (by omega)
  by_cases h40 : j < 44
  · exact LawU.of_blk b_1101_40 (by omega) (by omega)
  by_cases h44 : j < 48
  · exact LawU.of_blk b_1101_44 (by omega) (by omega)
  by_cases h48 : j < 52
  · exact LawU.of_blk b_1101_48 (by omega) (by omega)
  by_cases h52 : j < 56
  · exact LawU.of_blk b_1101_52 (by omega) (by omega)
  by_cases h56 : j < 60
  · exact LawU.of_blk b_1101_56 (by omega) (by omega)
  exact LawU.of_blk b_1101_60 (by omega) (by omega)
theorem cnt_1110 : (law.tree [1, 1, 1, 0]).count = 69 := by kernel_rfl
theorem at_1110 : law.at Try.prog ids Summs.tab 60 [1, 1, 1, 0] = true := by
  refine LawU.at_of (fun j hj => ?_)
  rw [cnt_1110] at hj
  by_cases h0 : j < 4
  · exact LawU.of_blk b_1110_0 (by omega) (by omega)
  by_cases h4 : j < 8
  · exact LawU.of_blk b_1110_4 (by omega) (by omega)
  by_cases h8 : j < 12
  · exact LawU.of_blk b_1110_8 (by omega) (by omega)
  by_cases h12 : j < 16
  · exact LawU.of_blk b_1110_12 (by omega) (by omega)
  by_cases h16 : j < 20
  · exact LawU.of_blk b_1110_16 (by omega) (by omega)
  by_cases h20 : j < 24
  · exact LawU.of_blk b_1110_20 (by omega) (by omega)
  by_cases h24 : j < 28
  · exact LawU.of_blk b_1110_24 (by omega) (by omega)
  by_cases h28 : j < 32
  · exact LawU.of_blk b_1110_28 (by omega) (by omega)
  by_cases h32 : j < 36
  · exact LawU.of_blk b_1110_32 (by omega) (by omega)
  by_cases h36 : j < 40
  · exact LawU.of_blk b_1110_36 (by omega) (by omega)
  by_cases h40 : j < 44
  · exact LawU.of_blk b_1110_40 (by omega) (by omega)
  by_cases h44 : j < 48
  · exact LawU.of_blk b_1110_44 (by omega) (by omega)
  by_cases h48 : j < 52
  · exact LawU.of_blk b_1110_48 (by omega) (by omega)
  by_cases h52 : j < 56
  · exact LawU.of_blk b_1110_52 (by omega) (by omega)
  by_cases h56 : j < 60
  · exact LawU.of_blk b_1110_56 (by omega) (by omega)
  by_cases h60 : j < 64
  · exact LawU.of_blk b_1110_60 (by omega) (by omega)
  by_cases h64 : j < 68
  · exact LawU.of_blk b_1110_64 (by omega) (by omega)
  exact LawU.of_blk b_1110_68 (by omega) (by omega)
theorem cnt_1111 : (law.tree [1, 1, 1, 1]).count = 404 := by kernel_rfl
theorem at_1111 : law.at Try.prog ids Summs.tab 60 [1, 1, 1, 1] = true := by
  refine LawU.at_of (fun j hj => ?_)
  rw [cnt_1111] at hj
  by_cases h0 : j < 4
  · exact LawU.of_blk b_1111_0 (by omega) (by omega)
  by_cases h4 : j < 8
  · exact LawU.of_blk b_1111_4 (by omega) (by omega)
  by_cases h8 : j < 12
  · exact LawU.of_blk b_1111_8 (by omega) (by omega)
  by_cases h12 : j < 16
  · exact LawU.of_blk b_1111_12 (by omega) (by omega)
  by_cases h16 : j < 20
  · exact LawU.of_blk b_1111_16 (by omega) (by omega)
  by_cases h20 : j < 24
  · exact LawU.of_blk b_1111_20 (by omega) (by omega)
  by_cases h24 : j < 28
  · exact LawU.of_blk b_1111_24 (by omega) (by omega)
  by_cases h28 : j < 32
  · exact LawU.of_blk b_1111_28 (by omega) (by omega)
  by_cases h32 : j < 36
  · exact LawU.of_blk b_1111_32 (by omega) (by omega)
  by_cases h36 : j < 40
  · exact LawU.of_blk b_1111_36 (by omega) (by omega)
  by_cases h40 : j < 44
  · exact LawU.of_blk b_1111_40 (by omega) (by omega)
  by_cases h44 : j < 48
  · exact LawU.of_blk b_1111_44 (by omega) (by omega)
  by_cases h48 : j < 52
  · exact LawU.of_blk b_1111_48 (by omega) (by omega)
  by_cases h52 : j < 56
  · exact LawU.of_blk b_1111_52 (by omega) (by omega)
  by_cases h56 : j < 60
  · exact LawU.of_blk b_1111_56 (by omega) (by omega)
  by_cases h60 : j < 64
  · exact LawU.of_blk b_1111_60 (by omega) (by omega)
  by_cases h64 : j < 68
  · exact LawU.of_blk b_1111_64 (by omega) (by omega)
  by_cases h68 : j < 72
  · exact LawU.of_blk b_1111_68 (by omega) (by omega)
  by_cases h72 : j < 76
  · exact LawU.of_blk b_1111_72 (by omega) (by omega)
  by_cases h76 : j < 80
  · exact LawU.of_blk b_1111_76 (by omega) (by omega)
  by_cases h80 : j < 84
  · exact LawU.of_blk b_1111_80 (by omega) (by omega)
  by_cases h84 : j < 88
  · exact LawU.of_blk b_1111_84 (by omega) (by omega)
  by_cases h88 : j < 92
  · exact LawU.of_blk b_1111_88 (by omega) (by omega)
  by_cases h92 : j < 96
  · exact LawU.of_blk b_1111_92 (by omega) (by omega)
  by_cases h96 : j < 100
  · exact LawU.of_blk b_1111_96 (by omega) (by omega)
  by_cases h100 : j < 104
  · exact LawU.of_blk b_1111_100 (by omega) (by omega)
  by_cases h104 : j < 108
  · exact LawU.of_blk b_1111_104 (by omega) (by omega)
  by_cases h108 : j < 112
  · exact LawU.of_blk b_1111_108 (by omega) (by omega)
  by_cases h112 : j < 116
  · exact LawU.of_blk b_1111_112 (by omega) (by omega)
  by_cases h116 : j < 120
  · exact LawU.of_blk b_1111_116 (by omega) (by omega)
  by_cases h120 : j < 124
  · exact LawU.of_blk b_1111_120 (by omega) (by omega)
  by_cases h124 : j < 128
  · exact LawU.of_blk b_1111_124 (by omega) (by omega)
  by_cases h128 : j < 132
  · exact LawU.of_blk b_1111_128 (by omega) (by omega)
  by_cases h132 : j < 136
  · exact LawU.of_blk b_1111_132 (by omega) (by omega)
  by_cases h136 : j < 140
  · exact LawU.of_blk b_1111_136 (by omega) (by omega)
  by_cases h140 : j < 144
  · exact LawU.of_blk b_1111_140 (by omega) (by omega)
  by_cases h144 : j < 148
  · exact LawU.of_blk b_1111_144 (by omega) (by omega)
  by_cases h148 : j < 152
  · exact LawU.of_blk b_1111_148 (by omega) (by omega)
  by_cases h152 : j < 156
  · exact LawU.of_blk b_1111_152 (by omega) (by omega)
  by_cases h156 : j < 160
  · exact LawU.of_blk b_1111_156 (by omega) (by omega)
  by_cases h160 : j < 164
  · exact LawU.of_blk b_1111_160 (by omega) (by omega)
  by_cases h164 : j < 168
  · exact LawU.of_blk b_1111_164 (by omega) (by omega)
  by_cases h168 : j < 172
  · exact LawU.of_blk b_1111_168 (by omega) (by omega)
  by_cases h172 : j < 176
  · exact LawU.of_blk b_1111_172 (by omega) (by omega)
  by_cases h176 : j < 180
  · exact LawU.of_blk b_1111_176 (by omega) (by omega)
  by_cases h180 : j < 184
  · exact LawU.of_blk b_1111_180 (by omega) (by omega)
  by_cases h184 : j < 188
  · exact LawU.of_blk b_1111_184 (by omega) (by omega)
  by_cases h188 : j < 192
  · exact LawU.of_blk b_1111_188 (by omega) (by omega)
  by_cases h192 : j < 196
  · exact LawU.of_blk b_1111_192 (by omega) (by omega)
  by_cases h196 : j < 200
  · exact LawU.of_blk b_1111_196 (by omega) (by omega)
  by_cases h200 : j < 204
  · exact LawU.of_blk b_1111_200 (by omega) (by omega)
  by_cases h204 : j < 208
  · exact LawU.of_blk b_1111_204 (by omega) (by omega)
  by_cases h208 : j < 212
  · exact LawU.of_blk b_1111_208 (by omega) (by omega)
  by_cases h212 : j < 216
  · exact LawU.of_blk b_1111_212 (by omega) (by omega)
  by_cases h216 : j < 220
  · exact LawU.of_blk b_1111_216 (by omega) (by omega)
  by_cases h220 : j < 224
  · exact LawU.of_blk b_1111_220 (by omega) (by omega)
  by_cases h224 : j < 228
  · exact LawU.of_blk b_1111_224 (by omega) (by omega)
  by_cases h228 : j < 232
  · exact LawU.of_blk b_1111_228 (by omega) (by omega)
  by_cases h232 : j < 236
  · exact LawU.of_blk b_1111_232 (by omega) (by omega)
  by_cases h236 : j < 240
  · exact LawU.of_blk b_1111_236 (by omega) (by omega)
  by_cases h240 : j < 244
  · exact LawU.of_blk b_1111_240 (by omega) (by omega)
  by_cases h244 : j < 248
  · exact LawU.of_blk b_1111_244 (by omega) (by omega)
  by_cases h248 : j < 252
  · exact LawU.of_blk b_1111_248 (by omega) (by omega)
  by_cases h252 : j < 256
  · exact LawU.of_blk b_1111_252 (by omega) (by omega)
  by_cases h256 : j < 260
  · exact LawU.of_blk b_1111_256 (by omega) (by omega)
  by_cases h260 : j < 264
  · exact LawU.of_blk b_1111_260 (by omega) (by omega)
  by_cases h264 : j < 268
  · exact LawU.of_blk b_1111_264 (by omega) (by omega)
  by_cases h268 : j < 272
  · exact LawU.of_blk b_1111_268 (by omega) (by omega)
  by_cases h272 : j < 276
  · exact LawU.of_blk b_1111_272 (by omega) (by omega)
  by_cases h276 : j < 280
  · exact LawU.of_blk b_1111_276 (by omega) (by omega)
  by_cases h280 : j < 284
  · exact LawU.of_blk b_1111_280 (by omega) (by omega)
  by_cases h284 : j < 288
  · exact LawU.of_blk b_1111_284 (by omega) (by omega)
  by_cases h288 : j < 292
  · exact LawU.of_blk b_1111_288 (by omega) (by omega)
  by_cases h292 : j < 296
  · exact LawU.of_blk b_1111_292 (by omega) (by omega)
  by_cases h296 : j < 300
  · exact LawU.of_blk b_1111_296 (by omega) (by omega)
  by_cases h300 : j < 304
  · exact LawU.of_blk b_1111_300 (by omega) (by omega)
  by_cases h304 : j < 308
  · exact LawU.of_blk b_1111_304 (by omega) (by omega)
  by_cases h308 : j < 312
  · exact LawU.of_blk b_1111_308 (by omega) (by omega)
  by_cases h312 : j < 316
  · exact LawU.of_blk b_1111_312 (by omega) (by omega)
  by_cases h316 : j < 320
  · exact LawU.of_blk b_1111_316 (by omega) (by omega)
  by_cases h320 : j < 324
  · exact LawU.of_blk b_1111_320 (by omega) (by omega)
  by_cases h324 : j < 328
  · exact LawU.of_blk b_1111_324 (by omega) (by omega)
  by_cases h328 : j < 332
  · exact LawU.of_blk b_1111_328 (by omega) (by omega)
  by_cases h332 : j < 336
  · exact LawU.of_blk b_1111_332 (by omega) (by omega)
  by_cases h336 : j < 340
  · exact LawU.of_blk b_1111_336 (by omega) (by omega)
  by_cases h340 : j < 344
  · exact LawU.of_blk b_1111_340 (by omega) (by omega)
  by_cases h344 : j < 348
  · exact LawU.of_blk b_1111_344 (by omega) (by omega)
  by_cases h348 : j < 352
  · exact LawU.of_blk b_1111_348 (by omega) (by omega)
  by_cases h352 : j < 356
  · exact LawU.of_blk b_1111_352 (by omega) (by omega)
  by_cases h356 : j < 360
  · exact LawU.of_blk b_1111_356 (by omega) (by omega)
  by_cases h360 : j < 364
  · exact LawU.of_blk b_1111_360 (by omega) (by omega)
  by_cases h364 : j < 368
  · exact LawU.of_blk b_1111_364 (by omega) (by omega)
  by_cases h368 : j < 372
  · exact LawU.of_blk b_1111_368 (by omega) (by omega)
  by_cases h372 : j < 376
  · exact LawU.of_blk b_1111_372 (by omega) (by omega)
  by_cases h376 : j < 380
  · exact LawU.of_blk b_1111_376 (by omega) (by omega)
  by_cases h380 : j < 384
  · exact LawU.of_blk b_1111_380 (by omega) (by omega)
  by_cases h384 : j < 388
  · exact LawU.of_blk b_1111_384 (by omega) (by omega)
  by_cases h388 : j < 392
  · exact LawU.of_blk b_1111_388 (by omega) (by omega)
  by_cases h392 : j < 396
  · exact LawU.of_blk b_1111_392 (by omega) (by omega)
  by_cases h396 : j < 400
  · exact LawU.of_blk b_1111_396 (by omega) (by omega)
  exact LawU.of_blk b_1111_400 (by omega) (by omega)

theorem cases (es : List Nat) (hl : es.length = law.bds.length) (hx : ∀ x, x ∈ es → x ≤ 1) : law.at Try.prog ids Summs.tab 60 es = true := by
  have hl : es.length = 4 := hl
  match es, hl, hx with
  | [e0, e1, e2, e3], _, hx =>
    have he0 : e0 = 0 ∨ e0 = 1 := by have := hx e0 (by simp); omega
    have he1 : e1 = 0 ∨ e1 = 1 := by have := hx e1 (by simp); omega
    have he2 : e2 = 0 ∨ e2 = 1 := by have := hx e2 (by simp); omega
    have he3 : e3 = 0 ∨ e3 = 1 := by have := hx e3 (by simp); omega
    clear hx
    rcases he0 with rfl | rfl
    · rcases he1 with rfl | rfl
      · rcases he2 with rfl | rfl
        · rcases he3 with rfl | rfl
          · exact at_0000
          · exact at_0001
        · rcases he3 with rfl | rfl
          · exact at_0010
          · exact at_0011
      · rcases he2 with rfl | rfl
        · rcases he3 with rfl | rfl
          · exact at_0100
          · exact at_0101
        · rcases he3 with rfl | rfl
          · exact at_0110
          · exact at_0111
    · rcases he1 with rfl | rfl
      · rcases he2 with rfl | rfl
        · rcases he3 with rfl | rfl
          · exact at_1000
          · exact at_1001
        · rcases he3 with rfl | rfl
          · exact at_1010
          · exact at_1011
      · rcases he2 with rfl | rfl
        · rcases he3 with rfl | rfl
          · exact at_1100
          · exact at_1101
        · rcases he3 with rfl | rfl
          · exact at_1110
          · exact at_1111
theorem own : ownKnob Try.prog.godebug = none := by kernel_rfl
theorem laidOut : laidOutB Try.prog = true := by kernel_rfl

theorem walk {v0g v0f v1g v1f : Value} (z0g z0f z1g z1f : List Int)  (w : World) (h_z0g : IsList w z0g v0g ∧ z0g.length ≤ 9223372036854775807) (h_z0f : IsList w z0f v0f ∧ z0f.length ≤ 9223372036854775807) (h_z1g : IsList w z1g v1g ∧ z1g.length ≤ 9223372036854775807) (h_z1f : IsList w z1f v1f ∧ z1f.length ≤ 9223372036854775807) :
    LawTrue Try.prog 7 #[.agg #[v0g, v0f], .agg #[v1g, v1f]] w := by
  have hwf : ∀ ls, ls ∈ [z0g, z0f, z1g, z1f] → (∀ z, z ∈ ls → IntKind.i64.wrap z = z) ∧ ls.length ≤ 9223372036854775807 := by
    intro ls hls
    simp only [List.mem_cons, List.not_mem_nil, or_false] at hls
    rcases hls with rfl | rfl | rfl | rfl
    · exact ⟨h_z0g.1.1, h_z0g.2⟩
    · exact ⟨h_z0f.1.1, h_z0f.2⟩
    · exact ⟨h_z1g.1.1, h_z1g.2⟩
    · exact ⟨h_z1f.1.1, h_z1f.2⟩
  refine LawU.ok (l := law) (D := ids) (t := Summs.tab) (N := 60) (Ls := [z0g, z0f, z1g, z1f]) (lv := [v0g, v0f, v1g, v1f]) (I := []) noCount mixed ids_ok Summs.tab_ok huge cases (by decide) ?_ rfl hwf rfl ?_ ?_ ?_ ?_
  · exact ⟨h_z0g.1, h_z0f.1, h_z1g.1, h_z1f.1, trivial⟩
  · intro z hz; cases hz
  · intro ρ s ll xi h1 h2
    obtain ⟨x0, r0, rfl, q0, h1⟩ := h1.uncons
    obtain ⟨x1, r1, rfl, q1, h1⟩ := h1.uncons
    obtain ⟨x2, r2, rfl, q2, h1⟩ := h1.uncons
    obtain ⟨x3, r3, rfl, q3, h1⟩ := h1.uncons
    obtain rfl := h1.unnil
    simp only [law, List.cons_append, List.nil_append]
    exact (.cons (VRs.agg (.cons q0 (.cons q1 .nil))) (.cons (VRs.agg (.cons q2 (.cons q3 .nil))) h2))
  · intro ρ ys hx hp
    exact sizeT_ok (fun l hl => (hwf l hl).2) ρ ys hx hp
  · intro ρ ys zs h
    exact sizeT_cg ρ ys zs h

set_option maxRecDepth 100000 in
theorem lifted (os : Os) (started : os.Started) (H : Type) (enc : TypeId × Value → H) :
    ReturnsInHanded {} Try.checked os 7 .any (Rows.fnExactMultiplyPairsSpec.pre6 enc Try.prog Try.f7 Rows.fnExactMultiplyPairsRow.domain false) (Rows.fnExactMultiplyPairsSpec.post enc Try.prog Try.f7 false true false false) := by
  refine returnsInHanded_of_change (C := Try.checked) own started (by kernel_rfl) Try.func7
    (ChangeSpec.witness6 (enc := enc) (C := Try.checked) false ⟨#[], #[.agg #[.slice none 0 0, .slice none 0 0], .agg #[.slice none 0 0, .slice none 0 0]], []⟩ 8 (by kernel_rfl) (by kernel_rfl) (by kernel_rfl) (by kernel_rfl)) ?_
  intro W base args ds gs before hval0 hW hcnd _
  have hval : ∀ (j : Nat) t v, Try.f7.params[j]? = some t → args[j]? = some v → Value.okWide Try.prog W .any base t v := hval0
  have hW' := hW
  obtain ⟨p, q, hA0, hV, rfl, hfz, hnd⟩ := hW
  have hA : DataW.TrodAll enc Try.prog W 0 (fun _ => true) true Try.f7.params.toList args.toList ds p := hA0
  rw [Try.params7] at hA hval
  obtain ⟨v0, vs0, d0, ds0, p0, q0, hargs0, rfl, rfl, g0, r0⟩ := trodAll_cons hA
  obtain ⟨v1, vs1, d1, ds1, p1, q1, hargs1, rfl, rfl, g1, r1⟩ := trodAll_cons r0
  obtain ⟨rfl, rfl, rfl⟩ := trodAll_nil r1
  obtain rfl : args = #[v0, v1] := by cases args; simp_all
  obtain ⟨rfl, rfl⟩ := trodVars_none hV
  have k0 := g0
  have lt0 := trod_lt_block k0
  obtain ⟨v0g, v0f, z0g, z0f, rfl, h_z0g, h_z0f⟩ := open_pair Try.underlying41 (by kernel_rfl) (by kernel_rfl) (by kernel_rfl) rfl rfl Try.underlying23 Try.underlying3 (by kernel_rfl) (hval 0 41 v0 rfl rfl) g0
  have k1 := g1
  have lt1 := trod_lt_block k1
  obtain ⟨v1g, v1f, z1g, z1f, rfl, h_z1g, h_z1f⟩ := open_pair Try.underlying41 (by kernel_rfl) (by kernel_rfl) (by kernel_rfl) rfl rfl Try.underlying23 Try.underlying3 (by kernel_rfl) (hval 1 41 v1 rfl rfl) g1
  clear hA0 hval0
  refine (walk z0g z0f z1g z1f  W h_z0g h_z0f h_z1g h_z1f).mono fun e W' ⟨he, bel, hz⟩ => ?_
  subst he
  exact ⟨_, rfl, _, _, _, [], _, [], hW', trodAll_mk1 (shut_bool Try.underlying4 _), (trodAll_cons_mk (Below.trod laidOut (by kernel_rfl) (of_decide_eq_true (by kernel_rfl)) k0 bel lt0) (trodAll_cons_mk (Below.trod laidOut (by kernel_rfl) (of_decide_eq_true (by kernel_rfl)) k1 bel lt1) trodAll_mk0)), rfl, bel.frame _, fun h => by cases h⟩

theorem proved : Rows.FnExactMultiplyPairsSaid :=
  OpenClaim.holds_of_wide 7 Try.f7 rfl rfl rfl rfl rfl rfl rfl ⟨rfl, rfl, rfl, rfl, rfl⟩ rfl rfl rfl rfl rfl (by kernel_rfl) Try.func7 (by kernel_rfl)
    (of_decide_eq_true (by kernel_rfl)) (by unfold Func.isWrapper; first | (rw [if_pos (by decide +kernel)]; kernel_rfl) | (rw [if_neg (by decide +kernel)]; exact ⟨rfl, rfl⟩))
    (fun os started H enc _ => lifted os started H enc)
#print axioms proved

end Go.Proofs.Ytjodjcmdlbhciaa.EMultiplyPairs

/-
  A part of the proof of FnTransformBy: cases of its law, each a run. No condition.
-/
import Derived.Test.YtjodjcmdlbhciaaDTransformByB0
import Derived.Test.YtjodjcmdlbhciaaDTransformByB1
import Derived.Test.YtjodjcmdlbhciaaDTransformByB2
import Derived.Test.YtjodjcmdlbhciaaDTransformByB3
import Derived.Test.YtjodjcmdlbhciaaDTransformByB4
import Derived.WalkKit
import Derived.ProofKit
import Derived.OpenShut
namespace Go.Proofs.Ytjodjcmdlbhciaa.DTransformBy
open Go.ChangeShapes Go.WideShapes Go.ChangeAt Go.RowKit Go.Sx Go.Proofs.Ytjodjcmdlbhciaa.Ids
set_option linter.unusedVariables false
set_option linter.unusedSimpArgs false

theorem cnt_000 : (law.tree [0, 0, 0]).count = 1 := by kernel_rfl
theorem at_000 : law.at Try.prog ids Summs.tab 60 [0, 0, 0] = true := by
  refine LawD.at_of (fun j hj => ?_)
  rw [cnt_000] at hj
  exact LawD.of_blk b_000_0 (by omega) (by omega)
theorem cnt_001 : (law.tree [0, 0, 1]).count = 1 := by kernel_rfl
theorem at_001 : law.at Try.prog ids Summs.tab 60 [0, 0, 1] = true := by
  refine LawD.at_of (fun j hj => ?_)
  rw [cnt_001] at hj
  exact LawD.of_blk b_001_0 (by omega) (by omega)
theorem cnt_010 : (law.tree [0, 1, 0]).count = 1 := by kernel_rfl
theorem at_010 : law.at Try.prog ids Summs.tab 60 [0, 1, 0] = true := by
  refine LawD.at_of (fun j hj => ?_)
  rw [cnt_010] at hj
  exact LawD.of_blk b_010_0 (by omega) (by omega)
theorem cnt_011 : (law.tree [0, 1, 1]).count = 1 := by kernel_rfl
theorem at_011 : law.at Try.prog ids Summs.tab 60 [0, 1, 1] = true := by
  refine LawD.at_of (fun j hj => ?_)
  rw [cnt_011] at hj
  exact LawD.of_blk b_011_0 (by omega) (by omega)
theorem cnt_100 : (law.tree [1, 0, 0]).count = 2 := by kernel_rfl
theorem at_100 : law.at Try.prog ids Summs.tab 60 [1, 0, 0] = true := by
  refine LawD.at_of (fun j hj => ?_)
  rw [cnt_100] at hj
  exact LawD.of_blk b_100_0 (by omega) (by omega)
theorem cnt_101 : (law.tree [1, 0, 1]).count = 2 := by kernel_rfl
theorem at_101 : law.at Try.prog ids Summs.tab 60 [1, 0, 1] = true := by
  refine LawD.at_of (fun j hj => ?_)
  rw [cnt_101] at hj
  exact LawD.of_blk b_101_0 (by omega) (by omega)
theorem cnt_110 : (law.tree [1, 1, 0]).count = 64 := by kernel_rfl
theorem at_110 : law.at Try.prog ids Summs.tab 60 [1, 1, 0] = true := by
  refine LawD.at_of (fun j hj => ?_)
  rw [cnt_110] at hj
  by_cases h0 : j < 2
  · exact LawD.of_blk b_110_0 (by omega) (by omega)
  by_cases h2 : j < 4
  · exact LawD.of_blk b_110_2 (by omega) (by omega)
  by_cases h4 : j < 6
  · exact LawD.of_blk b_110_4 (by omega) (by omega)
  by_cases h6 : j < 8
  · exact LawD.of_blk b_110_6 (by omega) (by omega)
  by_cases h8 : j < 10
  · exact LawD.of_blk b_110_8 (by omega) (by omega)
  by_cases h10 : j < 12
  · exact LawD.of_blk b_110_10 (by omega) (by omega)
  by_cases h12 : j < 14
  · exact LawD.of_blk b_110_12 (by omega) (by omega)
  by_cases h14 : j < 16
  · exact LawD.of_blk b_110_14 (by omega) (by omega)
  by_cases h16 : j < 18
  · exact LawD.of_blk b_110_16 (by omega) (by omega)
  by_cases h18 : j < 20
  · exact LawD.of_blk b_110_18 (by omega) (by omega)
  by_cases h20 : j < 22
  · exact LawD.of_blk b_110_20 (by omega) (by omega)
  by_cases h22 : j < 24
  · exact LawD.of_blk b_110_22 (by omega) (by omega)
  by_cases h24 : j < 26
  · exact LawD.of_blk b_110_24 (by omega) (by omega)
  by_cases h26 : j < 28
  · exact LawD.of_blk b_110_26 (by omega) (by omega)
  by_cases h28 : j < 30
  · exact LawD.of_blk b_110_28 (by omega) (by omega)
  by_cases h30 : j < 32
  · exact LawD.of_blk b_110_30 (by omega) (by omega)
  by_cases h32 : j < 34
  · exact LawD.of_blk b_110_32 (by omega) (by omega)
  by_cases h34 : j < 36
  · exact LawD.of_blk b_110_34 (by omega) (by omega)
  by_cases h36 : j < 38
  · exact LawD.of_blk b_110_36 (by omega) (by omega)
  by_cases h38 : j < 40
  · exact LawD.of_blk b_110_38 (by omega) (by omega)
  by_cases h40 : j < 42
  · exact LawD.of_blk b_110_40 (by omega) (by omega)
  by_cases h42 : j < 44
  · exact LawD.of_blk b_110_42 (by omega) (by omega)
  by_cases h44 : j < 46
  · exact LawD.of_blk b_110_44 (by omega) (by omega)
  by_cases h46 : j < 48
  · exact LawD.of_blk b_110_46 (by omega) (by omega)
  by_cases h48 : j < 50
  · exact LawD.of_blk b_110_48 (by omega) (by omega)
  by_cases h50 : j < 52
  · exact LawD.of_blk b_110_50 (by omega) (by omega)
  by_cases h52 : j < 54
  · exact LawD.of_blk b_110_52 (by omega) (by omega)
  by_cases h54 : j < 56
  · exact LawD.of_blk b_110_54 (by omega) (by omega)
  by_cases h56 : j < 58
  · exact LawD.of_blk b_110_56 (by omega) (by omega)
  by_cases h58 : j < 60
  · exact LawD.of_blk b_110_58 (by omega) (by omega)
  by_cases h60 : j < 62
  · exact LawD.of_blk b_110_60 (by omega) (by omega)
  exact LawD.of_blk b_110_62 (by omega) (by omega)
theorem cnt_111 : (law.tree [1, 1, 1]).count = 344 := by kernel_rfl
theorem at_111 : law.at Try.prog ids Summs.tab 60 [1, 1, 1] = true := by
  refine LawD.at_of (fun j hj => ?_)
  rw [cnt_111] at hj
  by_cases h0 : j < 2
  · exact LawD.of_blk b_111_0 (by omega) (by omega)
  by_cases h2 : j < 4
  · exact LawD.of_blk b_111_2 (by omega) (by omega)
  by_cases h4 : j < 6
  · exact LawD.of_blk b_111_4 (by omega) (by omega)
  by_cases h6 : j < 8
  · exact LawD.of_blk b_111_6 (by omega) (by omega)
  by_cases h8 : j < 10
  · exact LawD.of_blk b_111_8 (by omega) (by omega)
  by_cases h10 : j < 12
  · exact LawD.of_blk b_111_10 (by omega) (by omega)
  by_cases h12 : j < 14
  · exact LawD.of_blk b_111_12 (by omega) (by omega)
  by_cases h14 : j < 16
  · exact LawD.of_blk b_111_14 (by omega) (by omega)
  by_cases h16 : j < 18
  · exact LawD.of_blk b_111_16 (by omega) (by omega)
  by_cases h18 : j < 20
  · exact LawD.of_blk b_111_18 (by omega) (by omega)
  by_cases h20 : j < 22
  · exact LawD.of_blk b_111_20 (by omega) (by omega)
  by_cases h22 : j < 24
  · exact LawD.of_blk b_111_22 (by omega) (by omega)
  by_cases h24 : j < 26
  · exact LawD.of_blk b_111_24 (by omega) (by omega)
  by_cases h26 : j < 28
  · exact LawD.of_blk b_111_26 (by omega) (by omega)
  by_cases h28 : j < 30
  · exact LawD.of_blk b_111_28 (by omega) (by omega)
  by_cases h30 : j < 32
  · exact LawD.of_blk b_111_30 (by omega) (by omega)
  by_cases h32 : j < 34
  · exact LawD.of_blk b_111_32 (by omega) (by omega)
  by_cases h34 : j < 36
  · exact LawD.of_blk b_111_34 (by omega) (by omega)
  by_cases h36 : j < 38
  · exact LawD.of_blk b_111_36 (by omega) (by omega)
  by_cases h38 : j < 40
  · exact LawD.of_blk b_111_38 (by omega) (by omega)
  by_cases h40 : j < 42
  · exact LawD.of_blk b_111_40 (by omega) (by omega)
  by_cases h42 : j < 44
  · exact LawD.of_blk b_111_42 (by omega) (by omega)
  by_cases h44 : j < 46
  · exact LawD.of_blk b_111_44 (by omega) (by omega)
  by_cases h46 : j < 48
  · exact LawD.of_blk b_111_46 (by omega) (by omega)
  by_cases h48 : j < 50
  · exact LawD.of_blk b_111_48 (by omega) (by omega)
  by_cases h50 : j < 52
  · exact LawD.of_blk b_111_50 (by omega) (by omega)
  by_cases h52 : j < 54
  · exact LawD.of_blk b_111_52 (by omega) (by omega)
  by_cases h54 : j < 56
  · exact LawD.of_blk b_111_54 (by omega) (by omega)
  by_cases h56 : j < 58
  · exact LawD.of_blk b_111_56 (by omega) (by omega)
  by_cases h58 : j < 60
  · exact LawD.of_blk b_111_58 (by omega) (by omega)
  by_cases h60 : j < 62
  · exact LawD.of_blk b_111_60 (by omega) (by omega)
  by_cases h62 : j < 64
  · exact LawD.of_blk b_111_62 (by omega) (by omega)
  by_cases h64 : j < 66
  · exact LawD.of_blk b_111_64 (by omega) (by omega)
  by_cases h66 : j < 68
  · exact LawD.of_blk b_111_66 (by omega) (by omega)
  by_cases h68 : j < 70
  · exact LawD.of_blk b_111_68 (by omega) (by omega)
  by_cases h70 : j < 72
  · exact LawD.of_blk b_111_70 (by omega) (by omega)
  by_cases h72 : j < 74
  · exact LawD.of_blk b_111_72 (by omega) (by omega)
  by_cases h74 : j < 76
  · exact LawD.of_blk b_111_74 (by omega) (by omega)
  by_cases h76 : j < 78
  · exact LawD.of_blk b_111_76 (by omega) (by omega)
  by_cases h78 : j < 80
  · exact LawD.of_blk b_111_78 (by omega) (by omega)
  by_cases h80 : j < 82
  · exact LawD.of_blk b_111_80 (by omega) (by omega)
  by_cases h82 : j < 84
  · exact LawD.of_blk b_111_82 (by omega) (by omega)
  by_cases h84 : j < 86
  · exact LawD.of_blk b_111_84 (by omega) (by omega)
  by_cases h86 : j < 88
  · exact LawD.of_blk b_111_86 (by omega) (by omega)
  by_cases h88 : j < 90
  · exact LawD.of_blk b_111_88 (by omega) (by omega)
  by_cases h90 : j < 92
  · exact LawD.of_blk b_111_90 (by omega) (by omega)
  by_cases h92 : j < 94
  · exact LawD.of_blk b_111_92 (by omega) (by omega)
  by_cases h94 : j < 96
  · exact LawD.of_blk b_111_94 (by omega) (by omega)
  by_cases h96 : j < 98
  · exact LawD.of_blk b_111_96 (by omega) (by omega)
  by_cases h98 : j < 100
  · exact LawD.of_blk b_111_98 (by omega) (by omega)
  by_cases h100 : j < 102
  · exact LawD.of_blk b_111_100 (by omega) (by omega)
  by_cases h102 : j < 104
  · exact LawD.of_blk b_111_102 (by omega) (by omega)
  by_cases h104 : j < 106
  · exact LawD.of_blk b_111_104 (by omega) (by omega)
  by_cases h106 : j < 108
  · exact LawD.of_blk b_111_106 (by omega) (by omega)
  by_cases h108 : j < 110
  · exact LawD.of_blk b_111_108 (by omega) (by omega)
  by_cases h110 : j < 112
  · exact LawD.of_blk b_111_110 (by omega) (by omega)
  by_cases h112 : j < 114
  · exact LawD.of_blk b_111_112 (by omega) (by omega)
  by_cases h114 : j < 116
  · exact LawD.of_blk b_111_114 (by omega) (by omega)
  by_cases h116 : j < 118
  · exact LawD.of_blk b_111_116 (by omega) (by omega)
  by_cases h118 : j < 120
  · exact LawD.of_blk b_111_118 (by omega) (by omega)
  by_cases h120 : j < 122
  · exact LawD.of_blk b_111_120 (by omega) (by omega)
  by_cases h122 : j < 124
  · exact LawD.of_blk b_111_122 (by omega) (by omega)
  by_cases h124 : j < 126
  · exact LawD.of_blk b_111_124 (by omega) (by omega)
  by_cases h126 : j < 128
  · exact LawD.of_blk b_111_126 (by omega) (by omega)
  by_cases h128 : j < 130
  · exact LawD.of_blk b_111_128 (by omega) (by omega)
  by_cases h130 : j < 132
  · exact LawD.of_blk b_111_130 (by omega) (by omega)
  by_cases h132 : j < 134
  · exact LawD.of_blk b_111_132 (by omega) (by omega)
  by_cases h134 : j < 136
  · exact LawD.of_blk b_111_134 (by omega) (by omega)
  by_cases h136 : j < 138
  · exact LawD.of_blk b_111_136 (by omega) (by omega)
  by_cases h138 : j < 140
  · exact LawD.of_blk b_111_138 (by omega) (by omega)
  by_cases h140 : j < 142
  · exact LawD.of_blk b_111_140 (by omega) (by omega)
  by_cases h142 : j < 144
  · exact LawD.of_blk b_111_142 (by omega) (by omega)
  by_cases h144 : j < 146
  · exact LawD.of_blk b_111_144 (by omega) (by omega)
  by_cases h146 : j < 148
  · exact LawD.of_blk b_111_146 (by omega) (by omega)
  by_cases h148 : j < 150
  · exact LawD.of_blk b_111_148 (by omega) (by omega)
  by_cases h150 : j < 152
  · exact LawD.of_blk b_111_150 (by omega) (by omega)
  by_cases h152 : j < 154
  · exact LawD.of_blk b_111_152 (by omega) (by omega)
  by_cases h154 : j < 156
  · exact LawD.of_blk b_111_154 (by omega) (by omega)
  by_cases h156 : j < 158
  · exact LawD.of_blk b_111_156 (by omega) (by omega)
  by_cases h158 : j < 160
  · exact LawD.of_blk b_111_158 (by omega) (by omega)
  by_cases h160 : j < 162
  · exact LawD.of_blk b_111_160 (by omega) (by omega)
  by_cases h162 : j < 164
  · exact LawD.of_blk b_111_162 (by omega) (by omega)
  by_cases h164 : j < 166
  · exact LawD.of_blk b_111_164 (by omega) (by omega)
  by_cases h166 : j < 168
  · exact LawD.of_blk b_111_166 (by omega) (by omega)
  by_cases h168 : j < 170
  · exact LawD.of_blk b_111_168 (by omega) (by omega)
  by_cases h170 : j < 172
  · exact LawD.of_blk b_111_170 (by omega) (by omega)
  by_cases h172 : j < 174
  · exact LawD.of_blk b_111_172 (by omega) (by omega)
  by_cases h174 : j < 176
  · exact LawD.of_blk b_111_174 (by omega) (by omega)
  by_cases h176 : j < 178
  · exact LawD.of_blk b_111_176 (by omega) (by omega)
  by_cases h178 : j < 180
  · exact LawD.of_blk b_111_178 (by omega) (by omega)
  by_cases h180 : j < 182
  · exact LawD.of_blk b_111_180 (by omega) (by omega)
  by_cases h182 : j < 184
  · exact LawD.of_blk b_111_182 (by omega) (by omega)
  by_cases h184 : j < 186
  · exact LawD.of_blk b_111_184 (by omega) (by omega)
  by_cases h186 : j < 188
  · exact LawD.of_blk b_111_186 (by omega) (by omega)
  by_cases h188 : j < 190
  · exact LawD.of_blk b_111_188 (by omega) (by omega)
  by_cases h190 : j < 192
  · exact LawD.of_blk b_111_190 (by omega) (by omega)
  by_cases h192 : j < 194
  · exact LawD.of_blk b_111_192 (by omega) (by omega)
  by_cases h194 : j < 196
  · exact LawD.of_blk b_111_194 (by omega) (by omega)
  by_cases h196 : j < 198
  · exact LawD.of_blk b_111_196 (by omega) (by omega)
  by_cases h198 : j < 200
  · exact LawD.of_blk b_111_198 (by omega) (by omega)
  by_cases h200 : j < 202
  · exact LawD.of_blk b_111_200 (by omega) (by omega)
  by_cases h202 : j < 204
  · exact LawD.of_blk b_111_202 (by omega) (by omega)
  by_cases h204 : j < 206
  · exact LawD.of_blk b_111_204 (by omega) (by omega)
  by_cases h206 : j < 208
  · exact LawD.of_blk b_111_206 (by omega) (by omega)
  by_cases h208 : j < 210
  · exact LawD.of_blk b_111_208 (by omega) (by omega)
  by_cases h210 : j < 212
  · exact LawD.of_blk b_111_210 (by omega) (by omega)
  by_cases h212 : j < 214
  · exact LawD.of_blk b_111_212 (by omega) (by omega)
  by_cases h214 : j < 216
  · exact LawD.of_blk b_111_214 (by omega) (by omega)
  by_cases h216 : j < 218
  · exact LawD.of_blk b_111_216 (by omega) (by omega)
  by_cases h218 : j < 220
  · exact LawD.of_blk b_111_218 (by omega) (by omega)
  by_cases h220 : j < 222
  · exact LawD.of_blk b_111_220 (by omega) (by omega)
  by_cases h222 : j < 224
  · exact LawD.of_blk b_111_222 (by omega) (by omega)
  by_cases h224 : j < 226
  · exact LawD.of_blk b_111_224 (by omega) (by omega)
  by_cases h226 : j < 228
  · exact LawD.of_blk b_111_226 (by omega) (by omega)
  by_cases h228 : j < 230
  · exact LawD.of_blk b_111_228 (by omega) (by omega)
  by_cases h230 : j < 232
  · exact LawD.of_blk b_111_230 (by omega) (by omega)
  by_cases h232 : j < 234
  · exact LawD.of_blk b_111_232 (by omega) (by omega)
  by_cases h234 : j < 236
  · exact LawD.of_blk b_111_234 (by omega) (by omega)
  by_cases h236 : j < 238
  · exact LawD.of_blk b_111_236 (by omega) (by omega)
  by_cases h238 : j < 240
  · exact LawD.of_blk b_111_238 (by omega) (by omega)
  by_cases h240 : j < 242
  · exact LawD.of_blk b_111_240 (by omega) (by omega)
  by_cases h242 : j < 244
  · exact LawD.of_blk b_111_242 (by omega) (by omega)
  by_cases h244 : j < 246
  · exact LawD.of_blk b_111_244 (by omega) (by omega)
  by_cases h246 : j < 248
  · exact LawD.of_blk b_111_246 (by omega) (by omega)
  by_cases h248 : j < 250
  · exact LawD.of_blk b_111_248 (by omega) (by omega)
  by_cases h250 : j < 252
  · exact LawD.of_blk b_111_250 (by omega) (by omega)
  by_cases h252 : j < 254
  · exact LawD.of_blk b_111_252 (by omega) (by omega)
  by_cases h254 : j < 256
  · exact LawD.of_blk b_111_254 (by omega) (by omega)
  by_cases h256 : j < 258
  · exact LawD.of_blk b_111_256 (by omega) (by omega)
  by_cases h258 : j < 260
  · exact LawD.of_blk b_111_258 (by omega) (by omega)
  by_cases h260 : j < 262
  · exact LawD.of_blk b_111_260 (by omega) (by omega)
  by_cases h262 : j < 264
  · exact LawD.of_blk b_111_262 (by omega) (by omega)
  by_cases h264 : j < 266
  · exact LawD.of_blk b_111_264 (by omega) (by omega)
  by_cases h266 : j < 268
  · exact LawD.of_blk b_111_266 (by omega) (by omega)
  by_cases h268 : j < 270
  · exact LawD.of_blk b_111_268 (by omega) (by omega)
  by_cases h270 : j < 272
  · exact LawD.of_blk b_111_270 (by omega) (by omega)
  by_cases h272 : j < 274
  · exact LawD.of_blk b_111_272 (by omega) (by omega)
  by_cases h274 : j < 276
  · exact LawD.of_blk b_111_274 (by omega) (by omega)
  by_cases h276 : j < 278
  · exact LawD.of_blk b_111_276 (by omega) (by omega)
  by_cases h278 : j < 280
  · exact LawD.of_blk b_111_278 (by omega) (by omega)
  by_cases h280 : j < 282
  · exact LawD.of_blk b_111_280 (by omega) (by omega)
  by_cases h282 : j < 284
  · exact LawD.of_blk b_111_282 (by omega) (by omega)
  by_cases h284 : j < 286
  · exact LawD.of_blk b_111_284 (by omega) (by omega)
  by_cases h286 : j < 288
  · exact LawD.of_blk b_111_286 (by omega) (by omega)
  by_cases h288 : j < 290
  · exact LawD.of_blk b_111_288 (by omega) (by omega)
  by_cases h290 : j < 292
  · exact LawD.of_blk b_111_290 (by omega) (by omega)
  by_cases h292 : j < 294
  · exact LawD.of_blk b_111_292 (by omega) (by omega)
  by_cases h294 : j < 296
  · exact LawD.of_blk b_111_294 (by omega) (by omega)
  by_cases h296 : j < 298
  · exact LawD.of_blk b_111_296 (by omega) (by omega)
  by_cases h298 : j < 300
  · exact LawD.of_blk b_111_298 (by omega) (by omega)
  by_cases h300 : j < 302
  · exact LawD.of_blk b_111_300 (by omega) (by omega)
  by_cases h302 : j < 304
  · exact LawD.of_blk b_111_302 (by omega) (by omega)
  by_cases h304 : j < 306
  · exact LawD.of_blk b_111_304 (by omega) (by omega)
  by_cases h306 : j < 308
  · exact LawD.of_blk b_111_306 (by omega) (by omega)
  by_cases h308 : j < 310
  · exact LawD.of_blk b_111_308 (by omega) (by omega)
  by_cases h310 : j < 312
  · exact LawD.of_blk b_111_310 (by omega) (by omega)
  by_cases h312 : j < 314
  · exact LawD.of_blk b_111_312 (by omega) (by omega)
  by_cases h314 : j < 316
  · exact LawD.of_blk b_111_314 (by omega) (by omega)
  by_cases h316 : j < 318
  · exact LawD.of_blk b_111_316 (by omega) (by omega)
  by_cases h318 : j < 320
  · exact LawD.of_blk b_111_318 (by omega) (by omega)
  by_cases h320 : j < 322
  · exact LawD.of_blk b_111_320 (by omega) (by omega)
  by_cases h322 : j < 324
  · exact LawD.of_blk b_111_322 (by omega) (by omega)
  by_cases h324 : j < 326
  · exact LawD.of_blk b_111_324 (by omega) (by omega)
  by_cases h326 : j < 328
  · exact LawD.of_blk b_111_326 (by omega) (by omega)
  by_cases h328 : j < 330
  · exact LawD.of_blk b_111_328 (by omega) (by omega)
  by_cases h330 : j < 332
  · exact LawD.of_blk b_111_330 (by omega) (by omega)
  by_cases h332 : j < 334
  · exact LawD.of_blk b_111_332 (by omega) (by omega)
  by_cases h334 : j < 336
  · exact LawD.of_blk b_111_334 (by omega) (by omega)
  by_cases h336 : j < 338
  · exact LawD.of_blk b_111_336 (by omega) (by omega)
  by_cases h338 : j < 340
  · exact LawD.of_blk b_111_338 (by omega) (by omega)
  by_cases h340 : j < 342
  · exact LawD.of_blk b_111_340 (by omega) (by omega)
  exact LawD.of_blk b_111_342 (by omega) (by omega)

theorem cases (es : List Nat) (hl : es.length = law.bds.length) (hx : ∀ x, x ∈ es → x ≤ 1) : law.at Try.prog ids Summs.tab 60 es = true := by
  have hl : es.length = 3 := hl
  match es, hl, hx with
  | [e0, e1, e2], _, hx =>
    have he0 : e0 = 0 ∨ e0 = 1 := by have := hx e0 (by simp); omega
    have he1 : e1 = 0 ∨ e1 = 1 := by have := hx e1 (by simp); omega
    have he2 : e2 = 0 ∨ e2 = 1 := by have := hx e2 (by simp); omega
    clear hx
    rcases he0 with rfl | rfl
    · rcases he1 with rfl | rfl
      · rcases he2 with rfl | rfl
        · exact at_000
        · exact at_001
      · rcases he2 with rfl | rfl
        · exact at_010
        · exact at_011
    · rcases he1 with rfl | rfl
      · rcases he2 with rfl | rfl
        · exact at_100
        · exact at_101
      · rcases he2 with rfl | rfl
        · exact at_110
        · exact at_111
theorem own : ownKnob Try.prog.godebug = none := by kernel_rfl
theorem laidOut : laidOutB Try.prog = true := by kernel_rfl

theorem drawn (bs : List Int) (hbs : ∀ b, b ∈ bs → 0 ≤ b ∧ b < 256) : ∃ Ls I, Drawn Try.prog law.dk law.outs bs Ls I ∧ Ls.length = law.bds.length ∧ I.length = law.m ∧ (∀ ls, ls ∈ Ls → (∀ z, z ∈ ls → IntKind.i64.wrap z = z) ∧ ls.length ≤ 1048576) ∧ ∀ z, z ∈ I → IntKind.i64.wrap z = z := by
  exact drawn_pl Draw.K0_ok (Draw.drawTransformBy bs hbs 0)

theorem walk {v0 : Value} (bs : List Int) (w : World) (h : IsBytes w bs v0 ∧ bs.length ≤ 9223372036854775807) : LawTrue Try.prog 5 #[v0] w :=
  LawD.ok (l := law) (D := ids) (t := Summs.tab) (N := 60) noCount mixed ids_ok Summs.tab_ok huge cases (by decide) ⟨_, Try.func28, rfl⟩ drawn h.1 h.2

set_option maxRecDepth 100000 in
theorem lifted (os : Os) (started : os.Started) (H : Type) (enc : TypeId × Value → H) :
    ReturnsInHanded {} Try.checked os 5 .any (Rows.fnTransformBySpec.pre6 enc Try.prog Try.f5 Rows.fnTransformByRow.domain false) (Rows.fnTransformBySpec.post enc Try.prog Try.f5 false true false false) := by
  refine returnsInHanded_of_change (C := Try.checked) own started (by kernel_rfl) Try.func5
    (ChangeSpec.witness6 (enc := enc) (C := Try.checked) false ⟨#[], #[.slice none 0 0], []⟩ 8 (by kernel_rfl) (by kernel_rfl) (by kernel_rfl) (by kernel_rfl)) ?_
  intro W base args ds gs before hval0 hW hcnd _
  have hval : ∀ (j : Nat) t v, Try.f5.params[j]? = some t → args[j]? = some v → Value.okWide Try.prog W .any base t v := hval0
  have hW' := hW
  obtain ⟨p, q, hA0, hV, rfl, hfz, hnd⟩ := hW
  have hA : DataW.TrodAll enc Try.prog W 0 (fun _ => true) true Try.f5.params.toList args.toList ds p := hA0
  rw [Try.params5] at hA hval
  obtain ⟨v0, vs0, d0, ds0, p0, q0, hargs0, rfl, rfl, g0, r0⟩ := trodAll_cons hA
  obtain ⟨rfl, rfl, rfl⟩ := trodAll_nil r0
  obtain rfl : args = #[v0] := by cases args; simp_all
  obtain ⟨rfl, rfl⟩ := trodVars_none hV
  have k0 := g0
  have lt0 := trod_lt_block k0
  obtain ⟨z0, h_z0⟩ := open_bytes Try.underlying22 Try.underlying5 (by kernel_rfl) (hval 0 22 v0 rfl rfl) g0
  clear hA0 hval0
  refine (walk z0 W h_z0).mono fun e W' ⟨he, bel, hz⟩ => ?_
  subst he
  exact ⟨_, rfl, _, _, _, [], _, [], hW', trodAll_mk1 (shut_bool Try.underlying4 _), (trodAll_cons_mk (Below.trod laidOut (by kernel_rfl) (of_decide_eq_true (by kernel_rfl)) k0 bel lt0) trodAll_mk0), rfl, bel.frame _, fun h => by cases h⟩

theorem proved : Rows.FnTransformBySaid :=
  OpenClaim.holds_of_wide 5 Try.f5 rfl rfl rfl rfl rfl rfl rfl ⟨rfl, rfl, rfl, rfl, rfl⟩ rfl rfl rfl rfl rfl (by kernel_rfl) Try.func5 (by kernel_rfl)
    (of_decide_eq_true (by kernel_rfl)) (by unfold Func.isWrapper; first | (rw [if_pos (by decide +kernel)]; kernel_rfl) | (rw [if_neg (by decide +kernel)]; exact ⟨rfl, rfl⟩))
    (fun os started H enc _ => lifted os started H enc)
#print axioms proved

end Go.Proofs.Ytjodjcmdlbhciaa.DTransformBy

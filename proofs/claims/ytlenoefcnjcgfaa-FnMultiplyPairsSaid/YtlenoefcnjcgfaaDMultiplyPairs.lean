/-
  A part of the proof of FnMultiplyPairs: cases of its law, each a run. No condition.
-/
import Derived.Test.YtlenoefcnjcgfaaDMultiplyPairsB0
import Derived.Test.YtlenoefcnjcgfaaDMultiplyPairsB1
import Derived.Test.YtlenoefcnjcgfaaDMultiplyPairsB2
import Derived.Test.YtlenoefcnjcgfaaDMultiplyPairsB3
import Derived.Test.YtlenoefcnjcgfaaDMultiplyPairsB4
import Derived.Test.YtlenoefcnjcgfaaDMultiplyPairsB5
import Derived.Test.YtlenoefcnjcgfaaDMultiplyPairsB6
import Derived.Test.YtlenoefcnjcgfaaDMultiplyPairsB7
import Derived.Test.YtlenoefcnjcgfaaDMultiplyPairsB8
import Derived.Test.YtlenoefcnjcgfaaDMultiplyPairsB9
import Derived.Test.YtlenoefcnjcgfaaDMultiplyPairsB10
import Derived.Test.YtlenoefcnjcgfaaDMultiplyPairsB11
import Derived.Test.YtlenoefcnjcgfaaDMultiplyPairsB12
import Derived.Test.YtlenoefcnjcgfaaDMultiplyPairsB13
import Derived.WalkKit
import Derived.ProofKit
import Derived.OpenShut
namespace Go.Proofs.Ytlenoefcnjcgfaa.DMultiplyPairs
open Go.ChangeShapes Go.WideShapes Go.ChangeAt Go.RowKit Go.Sx Go.Proofs.Ytlenoefcnjcgfaa.Ids
set_option linter.unusedVariables false
set_option linter.unusedSimpArgs false

theorem cnt_0000 : (law.tree [0, 0, 0, 0]).count = 1 := by kernel_rfl
theorem at_0000 : law.at Try.prog ids Summs.tab 60 [0, 0, 0, 0] = true := by
  refine Nn.LawD.at_of (fun j hj => ?_)
  rw [cnt_0000] at hj
  exact Nn.LawD.of_blk b_0000_0 (by omega) (by omega)
theorem cnt_0001 : (law.tree [0, 0, 0, 1]).count = 1 := by kernel_rfl
theorem at_0001 : law.at Try.prog ids Summs.tab 60 [0, 0, 0, 1] = true := by
  refine Nn.LawD.at_of (fun j hj => ?_)
  rw [cnt_0001] at hj
  exact Nn.LawD.of_blk b_0001_0 (by omega) (by omega)
theorem cnt_0010 : (law.tree [0, 0, 1, 0]).count = 1 := by kernel_rfl
theorem at_0010 : law.at Try.prog ids Summs.tab 60 [0, 0, 1, 0] = true := by
  refine Nn.LawD.at_of (fun j hj => ?_)
  rw [cnt_0010] at hj
  exact Nn.LawD.of_blk b_0010_0 (by omega) (by omega)
theorem cnt_0011 : (law.tree [0, 0, 1, 1]).count = 1 := by kernel_rfl
theorem at_0011 : law.at Try.prog ids Summs.tab 60 [0, 0, 1, 1] = true := by
  refine Nn.LawD.at_of (fun j hj => ?_)
  rw [cnt_0011] at hj
  exact Nn.LawD.of_blk b_0011_0 (by omega) (by omega)
theorem cnt_0100 : (law.tree [0, 1, 0, 0]).count = 1 := by kernel_rfl
theorem at_0100 : law.at Try.prog ids Summs.tab 60 [0, 1, 0, 0] = true := by
  refine Nn.LawD.at_of (fun j hj => ?_)
  rw [cnt_0100] at hj
  exact Nn.LawD.of_blk b_0100_0 (by omega) (by omega)
theorem cnt_0101 : (law.tree [0, 1, 0, 1]).count = 1 := by kernel_rfl
theorem at_0101 : law.at Try.prog ids Summs.tab 60 [0, 1, 0, 1] = true := by
  refine Nn.LawD.at_of (fun j hj => ?_)
  rw [cnt_0101] at hj
  exact Nn.LawD.of_blk b_0101_0 (by omega) (by omega)
theorem cnt_0110 : (law.tree [0, 1, 1, 0]).count = 1 := by kernel_rfl
theorem at_0110 : law.at Try.prog ids Summs.tab 60 [0, 1, 1, 0] = true := by
  refine Nn.LawD.at_of (fun j hj => ?_)
  rw [cnt_0110] at hj
  exact Nn.LawD.of_blk b_0110_0 (by omega) (by omega)
theorem cnt_0111 : (law.tree [0, 1, 1, 1]).count = 1 := by kernel_rfl
theorem at_0111 : law.at Try.prog ids Summs.tab 60 [0, 1, 1, 1] = true := by
  refine Nn.LawD.at_of (fun j hj => ?_)
  rw [cnt_0111] at hj
  exact Nn.LawD.of_blk b_0111_0 (by omega) (by omega)
theorem cnt_1000 : (law.tree [1, 0, 0, 0]).count = 2 := by kernel_rfl
theorem at_1000 : law.at Try.prog ids Summs.tab 60 [1, 0, 0, 0] = true := by
  refine Nn.LawD.at_of (fun j hj => ?_)
  rw [cnt_1000] at hj
  exact Nn.LawD.of_blk b_1000_0 (by omega) (by omega)
theorem cnt_1001 : (law.tree [1, 0, 0, 1]).count = 2 := by kernel_rfl
theorem at_1001 : law.at Try.prog ids Summs.tab 60 [1, 0, 0, 1] = true := by
  refine Nn.LawD.at_of (fun j hj => ?_)
  rw [cnt_1001] at hj
  exact Nn.LawD.of_blk b_1001_0 (by omega) (by omega)
theorem cnt_1010 : (law.tree [1, 0, 1, 0]).count = 2 := by kernel_rfl
theorem at_1010 : law.at Try.prog ids Summs.tab 60 [1, 0, 1, 0] = true := by
  refine Nn.LawD.at_of (fun j hj => ?_)
  rw [cnt_1010] at hj
  exact Nn.LawD.of_blk b_1010_0 (by omega) (by omega)
theorem cnt_1011 : (law.tree [1, 0, 1, 1]).count = 2 := by kernel_rfl
theorem at_1011 : law.at Try.prog ids Summs.tab 60 [1, 0, 1, 1] = true := by
  refine Nn.LawD.at_of (fun j hj => ?_)
  rw [cnt_1011] at hj
  exact Nn.LawD.of_blk b_1011_0 (by omega) (by omega)
theorem cnt_1100 : (law.tree [1, 1, 0, 0]).count = 79 := by kernel_rfl
theorem at_1100 : law.at Try.prog ids Summs.tab 60 [1, 1, 0, 0] = true := by
  refine Nn.LawD.at_of (fun j hj => ?_)
  rw [cnt_1100] at hj
  by_cases h0 : j < 40
  · by_cases h1 : j < 20
    · by_cases h2 : j < 8
      · by_cases h3 : j < 4
        · exact Nn.LawD.of_blk b_1100_0 (by omega) (by omega)
        · exact Nn.LawD.of_blk b_1100_4 (by omega) (by omega)
      · by_cases h3 : j < 12
        · exact Nn.LawD.of_blk b_1100_8 (by omega) (by omega)
        · by_cases h4 : j < 16
          · exact Nn.LawD.of_blk b_1100_12 (by omega) (by omega)
          · exact Nn.LawD.of_blk b_1100_16 (by omega) (by omega)
    · by_cases h2 : j < 28
      · by_cases h3 : j < 24
        · exact Nn.LawD.of_blk b_1100_20 (by omega) (by omega)
        · exact Nn.LawD.of_blk b_1100_24 (by omega) (by omega)
      · by_cases h3 : j < 32
        · exact Nn.LawD.of_blk b_1100_28 (by omega) (by omega)
        · by_cases h4 : j < 36
          · exact Nn.LawD.of_blk b_1100_32 (by omega) (by omega)
          · exact Nn.LawD.of_blk b_1100_36 (by omega) (by omega)
  · by_cases h1 : j < 60
    · by_cases h2 : j < 48
      · by_cases h3 : j < 44
        · exact Nn.LawD.of_blk b_1100_40 (by omega) (by omega)
        · exact Nn.LawD.of_blk b_1100_44 (by omega) (by omega)
      · by_cases h3 : j < 52
        · exact Nn.LawD.of_blk b_1100_48 (by omega) (by omega)
        · by_cases h4 : j < 56
          · exact Nn.LawD.of_blk b_1100_52 (by omega) (by omega)
          · exact Nn.LawD.of_blk b_1100_56 (by omega) (by omega)
    · by_cases h2 : j < 68
      · by_cases h3 : j < 64
        · exact Nn.LawD.of_blk b_1100_60 (by omega) (by omega)
        · exact Nn.LawD.of_blk b_1100_64 (by omega) (by omega)
      · by_cases h3 : j < 72
        · exact Nn.LawD.of_blk b_1100_68 (by omega) (by omega)
        · by_cases h4 : j < 76
          · exact Nn.LawD.of_blk b_1100_72 (by omega) (by omega)
          · exact Nn.LawD.of_blk b_1100_76 (by omega) (by omega)
theorem cnt_1101 : (law.tree [1, 1, 0, 1]).count = 79 := by kernel_rfl
theorem at_1101 : law.at Try.prog ids Summs.tab 60 [1, 1, 0, 1] = true := by
  refine Nn.LawD.at_of (fun j hj => ?_)
  rw [cnt_1101] at hj
  by_cases h0 : j < 40
  · by_cases h1 : j < 20
    · by_cases h2 : j < 8
      · by_cases h3 : j < 4
        · exact Nn.LawD.of_blk b_1101_0 (by omega) (by omega)
        · exact Nn.LawD.of_blk b_1101_4 (by omega) (by omega)
      · by_cases h3 : j < 12
        · exact Nn.LawD.of_blk b_1101_8 (by omega) (by omega)
        · by_cases h4 : j < 16
          · exact Nn.LawD.of_blk b_1101_12 (by omega) (by omega)
          · exact Nn.LawD.of_blk b_1101_16 (by omega) (by omega)
    · by_cases h2 : j < 28
      · by_cases h3 : j < 24
        · exact Nn.LawD.of_blk b_1101_20 (by omega) (by omega)
        · exact Nn.LawD.of_blk b_1101_24 (by omega) (by omega)
      · by_cases h3 : j < 32
        · exact Nn.LawD.of_blk b_1101_28 (by omega) (by omega)
        · by_cases h4 : j < 36
          · exact Nn.LawD.of_blk b_1101_32 (by omega) (by omega)
          · exact Nn.LawD.of_blk b_1101_36 (by omega) (by omega)
  · by_cases h1 : j < 60
    · by_cases h2 : j < 48
      · by_cases h3 : j < 44
        · exact Nn.LawD.of_blk b_1101_40 (by omega) (by omega)
        · exact Nn.LawD.of_blk b_1101_44 (by omega) (by omega)
      · by_cases h3 : j < 52
        · exact Nn.LawD.of_blk b_1101_48 (by omega) (by omega)
        · by_cases h4 : j < 56
          · exact Nn.LawD.of_blk b_1101_52 (by omega) (by omega)
          · exact Nn.LawD.of_blk b_1101_56 (by omega) (by omega)
    · by_cases h2 : j < 68
      · by_cases h3 : j < 64
        · exact Nn.LawD.of_blk b_1101_60 (by omega) (by omega)
        · exact Nn.LawD.of_blk b_1101_64 (by omega) (by omega)
      · by_cases h3 : j < 72
        · exact Nn.LawD.of_blk b_1101_68 (by omega) (by omega)
        · by_cases h4 : j < 76
          · exact Nn.LawD.of_blk b_1101_72 (by omega) (by omega)
          · exact Nn.LawD.of_blk b_1101_76 (by omega) (by omega)
theorem cnt_1110 : (law.tree [1, 1, 1, 0]).count = 99 := by kernel_rfl
theorem at_1110 : law.at Try.prog ids Summs.tab 60 [1, 1, 1, 0] = true := by
  refine Nn.LawD.at_of (fun j hj => ?_)
  rw [cnt_1110] at hj
  by_cases h0 : j < 48
  · by_cases h1 : j < 24
    · by_cases h2 : j < 12
      · by_cases h3 : j < 4
        · exact Nn.LawD.of_blk b_1110_0 (by omega) (by omega)
        · by_cases h4 : j < 8
          · exact Nn.LawD.of_blk b_1110_4 (by omega) (by omega)
          · exact Nn.LawD.of_blk b_1110_8 (by omega) (by omega)
      · by_cases h3 : j < 16
        · exact Nn.LawD.of_blk b_1110_12 (by omega) (by omega)
        · by_cases h4 : j < 20
          · exact Nn.LawD.of_blk b_1110_16 (by omega) (by omega)
          · exact Nn.LawD.of_blk b_1110_20 (by omega) (by omega)
    · by_cases h2 : j < 36
      · by_cases h3 : j < 28
        · exact Nn.LawD.of_blk b_1110_24 (by omega) (by omega)
        · by_cases h4 : j < 32
          · exact Nn.LawD.of_blk b_1110_28 (by omega) (by omega)
          · exact Nn.LawD.of_blk b_1110_32 (by omega) (by omega)
      · by_cases h3 : j < 40
        · exact Nn.LawD.of_blk b_1110_36 (by omega) (by omega)
        · by_cases h4 : j < 44
          · exact Nn.LawD.of_blk b_1110_40 (by omega) (by omega)
          · exact Nn.LawD.of_blk b_1110_44 (by omega) (by omega)
  · by_cases h1 : j < 72
    · by_cases h2 : j < 60
      · by_cases h3 : j < 52
        · exact Nn.LawD.of_blk b_1110_48 (by omega) (by omega)
        · by_cases h4 : j < 56
          · exact Nn.LawD.of_blk b_1110_52 (by omega) (by omega)
          · exact Nn.LawD.of_blk b_1110_56 (by omega) (by omega)
      · by_cases h3 : j < 64
        · exact Nn.LawD.of_blk b_1110_60 (by omega) (by omega)
        · by_cases h4 : j < 68
          · exact Nn.LawD.of_blk b_1110_64 (by omega) (by omega)
          · exact Nn.LawD.of_blk b_1110_68 (by omega) (by omega)
    · by_cases h2 : j < 84
      · by_cases h3 : j < 76
        · exact Nn.LawD.of_blk b_1110_72 (by omega) (by omega)
        · by_cases h4 : j < 80
          · exact Nn.LawD.of_blk b_1110_76 (by omega) (by omega)
          · exact Nn.LawD.of_blk b_1110_80 (by omega) (by omega)
      · by_cases h3 : j < 92
        · by_cases h4 : j < 88
          · exact Nn.LawD.of_blk b_1110_84 (by omega) (by omega)
          · exact Nn.LawD.of_blk b_1110_88 (by omega) (by omega)
        · by_cases h4 : j < 96
          · exact Nn.LawD.of_blk b_1110_92 (by omega) (by omega)
          · exact Nn.LawD.of_blk b_1110_96 (by omega) (by omega)
theorem cnt_1111 : (law.tree [1, 1, 1, 1]).count = 1799 := by kernel_rfl
theorem at_1111 : law.at Try.prog ids Summs.tab 60 [1, 1, 1, 1] = true := by
  refine Nn.LawD.at_of (fun j hj => ?_)
  rw [cnt_1111] at hj
  by_cases h0 : j < 900
  · by_cases h1 : j < 448
    · by_cases h2 : j < 224
      · by_cases h3 : j < 112
        · by_cases h4 : j < 56
          · by_cases h5 : j < 28
            · by_cases h6 : j < 12
              · by_cases h7 : j < 4
                · exact Nn.LawD.of_blk b_1111_0 (by omega) (by omega)
                · by_cases h8 : j < 8
                  · exact Nn.LawD.of_blk b_1111_4 (by omega) (by omega)
                  · exact Nn.LawD.of_blk b_1111_8 (by omega) (by omega)
              · by_cases h7 : j < 20
                · by_cases h8 : j < 16
                  · exact Nn.LawD.of_blk b_1111_12 (by omega) (by omega)
                  · exact Nn.LawD.of_blk b_1111_16 (by omega) (by omega)
                · by_cases h8 : j < 24
                  · exact Nn.LawD.of_blk b_1111_20 (by omega) (by omega)
                  · exact Nn.LawD.of_blk b_1111_24 (by omega) (by omega)
            · by_cases h6 : j < 40
              · by_cases h7 : j < 32
                · exact Nn.LawD.of_blk b_1111_28 (by omega) (by omega)
                · by_cases h8 : j < 36
                  · exact Nn.LawD.of_blk b_1111_32 (by omega) (by omega)
                  · exact Nn.LawD.of_blk b_1111_36 (by omega) (by omega)
              · by_cases h7 : j < 48
                · by_cases h8 : j < 44
                  · exact Nn.LawD.of_blk b_1111_40 (by omega) (by omega)
                  · exact Nn.LawD.of_blk b_1111_44 (by omega) (by omega)
                · by_cases h8 : j < 52
                  · exact Nn.LawD.of_blk b_1111_48 (by omega) (by omega)
                  · exact Nn.LawD.of_blk b_1111_52 (by omega) (by omega)
          · by_cases h5 : j < 84
            · by_cases h6 : j < 68
              · by_cases h7 : j < 60
                · exact Nn.LawD.of_blk b_1111_56 (by omega) (by omega)
                · by_cases h8 : j < 64
                  · exact Nn.LawD.of_blk b_1111_60 (by omega) (by omega)
                  · exact Nn.LawD.of_blk b_1111_64 (by omega) (by omega)
              · by_cases h7 : j < 76
                · by_cases h8 : j < 72
                  · exact Nn.LawD.of_blk b_1111_68 (by omega) (by omega)
                  · exact Nn.LawD.of_blk b_1111_72 (by omega) (by omega)
                · by_cases h8 : j < 80
                  · exact Nn.LawD.of_blk b_1111_76 (by omega) (by omega)
                  · exact Nn.LawD.of_blk b_1111_80 (by omega) (by omega)
            · by_cases h6 : j < 96
              · by_cases h7 : j < 88
                · exact Nn.LawD.of_blk b_1111_84 (by omega) (by omega)
                · by_cases h8 : j < 92
                  · exact Nn.LawD.of_blk b_1111_88 (by omega) (by omega)
                  · exact Nn.LawD.of_blk b_1111_92 (by omega) (by omega)
              · by_cases h7 : j < 104
                · by_cases h8 : j < 100
                  · exact Nn.LawD.of_blk b_1111_96 (by omega) (by omega)
                  · exact Nn.LawD.of_blk b_1111_100 (by omega) (by omega)
                · by_cases h8 : j < 108
                  · exact Nn.LawD.of_blk b_1111_104 (by omega) (by omega)
                  · exact Nn.LawD.of_blk b_1111_108 (by omega) (by omega)
        · by_cases h4 : j < 168
          · by_cases h5 : j < 140
            · by_cases h6 : j < 124
              · by_cases h7 : j < 116
                · exact Nn.LawD.of_blk b_1111_112 (by omega) (by omega)
                · by_cases h8 : j < 120
                  · exact Nn.LawD.of_blk b_1111_116 (by omega) (by omega)
                  · exact Nn.LawD.of_blk b_1111_120 (by omega) (by omega)
              · by_cases h7 : j < 132
                · by_cases h8 : j < 128
                  · exact Nn.LawD.of_blk b_1111_124 (by omega) (by omega)
                  · exact Nn.LawD.of_blk b_1111_128 (by omega) (by omega)
                · by_cases h8 : j < 136
                  · exact Nn.LawD.of_blk b_1111_132 (by omega) (by omega)
                  · exact Nn.LawD.of_blk b_1111_136 (by omega) (by omega)
            · by_cases h6 : j < 152
              · by_cases h7 : j < 144
                · exact Nn.LawD.of_blk b_1111_140 (by omega) (by omega)
                · by_cases h8 : j < 148
                  · exact Nn.LawD.of_blk b_1111_144 (by omega) (by omega)
                  · exact Nn.LawD.of_blk b_1111_148 (by omega) (by omega)
              · by_cases h7 : j < 160
                · by_cases h8 : j < 156
                  · exact Nn.LawD.of_blk b_1111_152 (by omega) (by omega)
                  · exact Nn.LawD.of_blk b_1111_156 (by omega) (by omega)
                · by_cases h8 : j < 164
                  · exact Nn.LawD.of_blk b_1111_160 (by omega) (by omega)
                  · exact Nn.LawD.of_blk b_1111_164 (by omega) (by omega)
          · by_cases h5 : j < 196
            · by_cases h6 : j < 180
              · by_cases h7 : j < 172
                · exact Nn.LawD.of_blk b_1111_168 (by omega) (by omega)
                · by_cases h8 : j < 176
                  · exact Nn.LawD.of_blk b_1111_172 (by omega) (by omega)
                  · exact Nn.LawD.of_blk b_1111_176 (by omega) (by omega)
              · by_cases h7 : j < 188
                · by_cases h8 : j < 184
                  · exact Nn.LawD.of_blk b_1111_180 (by omega) (by omega)
                  · exact Nn.LawD.of_blk b_1111_184 (by omega) (by omega)
                · by_cases h8 : j < 192
                  · exact Nn.LawD.of_blk b_1111_188 (by omega) (by omega)
                  · exact Nn.LawD.of_blk b_1111_192 (by omega) (by omega)
            · by_cases h6 : j < 208
              · by_cases h7 : j < 200
                · exact Nn.LawD.of_blk b_1111_196 (by omega) (by omega)
                · by_cases h8 : j < 204
                  · exact Nn.LawD.of_blk b_1111_200 (by omega) (by omega)
                  · exact Nn.LawD.of_blk b_1111_204 (by omega) (by omega)
              · by_cases h7 : j < 216
                · by_cases h8 : j < 212
                  · exact Nn.LawD.of_blk b_1111_208 (by omega) (by omega)
                  · exact Nn.LawD.of_blk b_1111_212 (by omega) (by omega)
                · by_cases h8 : j < 220
                  · exact Nn.LawD.of_blk b_1111_216 (by omega) (by omega)
                  · exact Nn.LawD.of_blk b_1111_220 (by omega) (by omega)
      · by_cases h3 : j < 336
        · by_cases h4 : j < 280
          · by_cases h5 : j < 252
            · by_cases h6 : j < 236
              · by_cases h7 : j < 228
                · exact Nn.LawD.of_blk b_1111_224 (by omega) (by omega)
                · by_cases h8 : j < 232
                  · exact Nn.LawD.of_blk b_1111_228 (by omega) (by omega)
                  · exact Nn.LawD.of_blk b_1111_232 (by omega) (by omega)
              · by_cases h7 : j < 244
                · by_cases h8 : j < 240
                  · exact Nn.LawD.of_blk b_1111_236 (by omega) (by omega)
                  · exact Nn.LawD.of_blk b_1111_240 (by omega) (by omega)
                · by_cases h8 : j < 248
                  · exact Nn.LawD.of_blk b_1111_244 (by omega) (by omega)
                  · exact Nn.LawD.of_blk b_1111_248 (by omega) (by omega)
            · by_cases h6 : j < 264
              · by_cases h7 : j < 256
                · exact Nn.LawD.of_blk b_1111_252 (by omega) (by omega)
                · by_cases h8 : j < 260
                  · exact Nn.LawD.of_blk b_1111_256 (by omega) (by omega)
                  · exact Nn.LawD.of_blk b_1111_260 (by omega) (by omega)
              · by_cases h7 : j < 272
                · by_cases h8 : j < 268
                  · exact Nn.LawD.of_blk b_1111_264 (by omega) (by omega)
                  · exact Nn.LawD.of_blk b_1111_268 (by omega) (by omega)
                · by_cases h8 : j < 276
                  · exact Nn.LawD.of_blk b_1111_272 (by omega) (by omega)
                  · exact Nn.LawD.of_blk b_1111_276 (by omega) (by omega)
          · by_cases h5 : j < 308
            · by_cases h6 : j < 292
              · by_cases h7 : j < 284
                · exact Nn.LawD.of_blk b_1111_280 (by omega) (by omega)
                · by_cases h8 : j < 288
                  · exact Nn.LawD.of_blk b_1111_284 (by omega) (by omega)
                  · exact Nn.LawD.of_blk b_1111_288 (by omega) (by omega)
              · by_cases h7 : j < 300
                · by_cases h8 : j < 296
                  · exact Nn.LawD.of_blk b_1111_292 (by omega) (by omega)
                  · exact Nn.LawD.of_blk b_1111_296 (by omega) (by omega)
                · by_cases h8 : j < 304
                  · exact Nn.LawD.of_blk b_1111_300 (by omega) (by omega)
                  · exact Nn.LawD.of_blk b_1111_304 (by omega) (by omega)
            · by_cases h6 : j < 320
              · by_cases h7 : j < 312
                · exact Nn.LawD.of_blk b_1111_308 (by omega) (by omega)
                · by_cases h8 : j < 316
                  · exact Nn.LawD.of_blk b_1111_312 (by omega) (by omega)
                  · exact Nn.LawD.of_blk b_1111_316 (by omega) (by omega)
              · by_cases h7 : j < 328
                · by_cases h8 : j < 324
                  · exact Nn.LawD.of_blk b_1111_320 (by omega) (by omega)
                  · exact Nn.LawD.of_blk b_1111_324 (by omega) (by omega)
                · by_cases h8 : j < 332
                  · exact Nn.LawD.of_blk b_1111_328 (by omega) (by omega)
                  · exact Nn.LawD.of_blk b_1111_332 (by omega) (by omega)
        · by_cases h4 : j < 392
          · by_cases h5 : j < 364
            · by_cases h6 : j < 348
              · by_cases h7 : j < 340
                · exact Nn.LawD.of_blk b_1111_336 (by omega) (by omega)
                · by_cases h8 : j < 344
                  · exact Nn.LawD.of_blk b_1111_340 (by omega) (by omega)
                  · exact Nn.LawD.of_blk b_1111_344 (by omega) (by omega)
              · by_cases h7 : j < 356
                · by_cases h8 : j < 352
                  · exact Nn.LawD.of_blk b_1111_348 (by omega) (by omega)
                  · exact Nn.LawD.of_blk b_1111_352 (by omega) (by omega)
                · by_cases h8 : j < 360
                  · exact Nn.LawD.of_blk b_1111_356 (by omega) (by omega)
                  · exact Nn.LawD.of_blk b_1111_360 (by omega) (by omega)
            · by_cases h6 : j < 376
              · by_cases h7 : j < 368
                · exact Nn.LawD.of_blk b_1111_364 (by omega) (by omega)
                · by_cases h8 : j < 372
                  · exact Nn.LawD.of_blk b_1111_368 (by omega) (by omega)
                  · exact Nn.LawD.of_blk b_1111_372 (by omega) (by omega)
              · by_cases h7 : j < 384
                · by_cases h8 : j < 380
                  · exact Nn.LawD.of_blk b_1111_376 (by omega) (by omega)
                  · exact Nn.LawD.of_blk b_1111_380 (by omega) (by omega)
                · by_cases h8 : j < 388
                  · exact Nn.LawD.of_blk b_1111_384 (by omega) (by omega)
                  · exact Nn.LawD.of_blk b_1111_388 (by omega) (by omega)
          · by_cases h5 : j < 420
            · by_cases h6 : j < 404
              · by_cases h7 : j < 396
                · exact Nn.LawD.of_blk b_1111_392 (by omega) (by omega)
                · by_cases h8 : j < 400
                  · exact Nn.LawD.of_blk b_1111_396 (by omega) (by omega)
                  · exact Nn.LawD.of_blk b_1111_400 (by omega) (by omega)
              · by_cases h7 : j < 412
                · by_cases h8 : j < 408
                  · exact Nn.LawD.of_blk b_1111_404 (by omega) (by omega)
                  · exact Nn.LawD.of_blk b_1111_408 (by omega) (by omega)
                · by_cases h8 : j < 416
                  · exact Nn.LawD.of_blk b_1111_412 (by omega) (by omega)
                  · exact Nn.LawD.of_blk b_1111_416 (by omega) (by omega)
            · by_cases h6 : j < 432
              · by_cases h7 : j < 424
                · exact Nn.LawD.of_blk b_1111_420 (by omega) (by omega)
                · by_cases h8 : j < 428
                  · exact Nn.LawD.of_blk b_1111_424 (by omega) (by omega)
                  · exact Nn.LawD.of_blk b_1111_428 (by omega) (by omega)
              · by_cases h7 : j < 440
                · by_cases h8 : j < 436
                  · exact Nn.LawD.of_blk b_1111_432 (by omega) (by omega)
                  · exact Nn.LawD.of_blk b_1111_436 (by omega) (by omega)
                · by_cases h8 : j < 444
                  · exact Nn.LawD.of_blk b_1111_440 (by omega) (by omega)
                  · exact Nn.LawD.of_blk b_1111_444 (by omega) (by omega)
    · by_cases h2 : j < 672
      · by_cases h3 : j < 560
        · by_cases h4 : j < 504
          · by_cases h5 : j < 476
            · by_cases h6 : j < 460
              · by_cases h7 : j < 452
                · exact Nn.LawD.of_blk b_1111_448 (by omega) (by omega)
                · by_cases h8 : j < 456
                  · exact Nn.LawD.of_blk b_1111_452 (by omega) (by omega)
                  · exact Nn.LawD.of_blk b_1111_456 (by omega) (by omega)
              · by_cases h7 : j < 468
                · by_cases h8 : j < 464
                  · exact Nn.LawD.of_blk b_1111_460 (by omega) (by omega)
                  · exact Nn.LawD.of_blk b_1111_464 (by omega) (by omega)
                · by_cases h8 : j < 472
                  · exact Nn.LawD.of_blk b_1111_468 (by omega) (by omega)
                  · exact Nn.LawD.of_blk b_1111_472 (by omega) (by omega)
            · by_cases h6 : j < 488
              · by_cases h7 : j < 480
                · exact Nn.LawD.of_blk b_1111_476 (by omega) (by omega)
                · by_cases h8 : j < 484
                  · exact Nn.LawD.of_blk b_1111_480 (by omega) (by omega)
                  · exact Nn.LawD.of_blk b_1111_484 (by omega) (by omega)
              · by_cases h7 : j < 496
                · by_cases h8 : j < 492
                  · exact Nn.LawD.of_blk b_1111_488 (by omega) (by omega)
                  · exact Nn.LawD.of_blk b_1111_492 (by omega) (by omega)
                · by_cases h8 : j < 500
                  · exact Nn.LawD.of_blk b_1111_496 (by omega) (by omega)
                  · exact Nn.LawD.of_blk b_1111_500 (by omega) (by omega)
          · by_cases h5 : j < 532
            · by_cases h6 : j < 516
              · by_cases h7 : j < 508
                · exact Nn.LawD.of_blk b_1111_504 (by omega) (by omega)
                · by_cases h8 : j < 512
                  · exact Nn.LawD.of_blk b_1111_508 (by omega) (by omega)
                  · exact Nn.LawD.of_blk b_1111_512 (by omega) (by omega)
              · by_cases h7 : j < 524
                · by_cases h8 : j < 520
                  · exact Nn.LawD.of_blk b_1111_516 (by omega) (by omega)
                  · exact Nn.LawD.of_blk b_1111_520 (by omega) (by omega)
                · by_cases h8 : j < 528
                  · exact Nn.LawD.of_blk b_1111_524 (by omega) (by omega)
                  · exact Nn.LawD.of_blk b_1111_528 (by omega) (by omega)
            · by_cases h6 : j < 544
              · by_cases h7 : j < 536
                · exact Nn.LawD.of_blk b_1111_532 (by omega) (by omega)
                · by_cases h8 : j < 540
                  · exact Nn.LawD.of_blk b_1111_536 (by omega) (by omega)
                  · exact Nn.LawD.of_blk b_1111_540 (by omega) (by omega)
              · by_cases h7 : j < 552
                · by_cases h8 : j < 548
                  · exact Nn.LawD.of_blk b_1111_544 (by omega) (by omega)
                  · exact Nn.LawD.of_blk b_1111_548 (by omega) (by omega)
                · by_cases h8 : j < 556
                  · exact Nn.LawD.of_blk b_1111_552 (by omega) (by omega)
                  · exact Nn.LawD.of_blk b_1111_556 (by omega) (by omega)
        · by_cases h4 : j < 616
          · by_cases h5 : j < 588
            · by_cases h6 : j < 572
              · by_cases h7 : j < 564
                · exact Nn.LawD.of_blk b_1111_560 (by omega) (by omega)
                · by_cases h8 : j < 568
                  · exact Nn.LawD.of_blk b_1111_564 (by omega) (by omega)
                  · exact Nn.LawD.of_blk b_1111_568 (by omega) (by omega)
              · by_cases h7 : j < 580
                · by_cases h8 : j < 576
                  · exact Nn.LawD.of_blk b_1111_572 (by omega) (by omega)
                  · exact Nn.LawD.of_blk b_1111_576 (by omega) (by omega)
                · by_cases h8 : j < 584
                  · exact Nn.LawD.of_blk b_1111_580 (by omega) (by omega)
                  · exact Nn.LawD.of_blk b_1111_584 (by omega) (by omega)
            · by_cases h6 : j < 600
              · by_cases h7 : j < 592
                · exact Nn.LawD.of_blk b_1111_588 (by omega) (by omega)
                · by_cases h8 : j < 596
                  · exact Nn.LawD.of_blk b_1111_592 (by omega) (by omega)
                  · exact Nn.LawD.of_blk b_1111_596 (by omega) (by omega)
              · by_cases h7 : j < 608
                · by_cases h8 : j < 604
                  · exact Nn.LawD.of_blk b_1111_600 (by omega) (by omega)
                  · exact Nn.LawD.of_blk b_1111_604 (by omega) (by omega)
                · by_cases h8 : j < 612
                  · exact Nn.LawD.of_blk b_1111_608 (by omega) (by omega)
                  · exact Nn.LawD.of_blk b_1111_612 (by omega) (by omega)
          · by_cases h5 : j < 644
            · by_cases h6 : j < 628
              · by_cases h7 : j < 620
                · exact Nn.LawD.of_blk b_1111_616 (by omega) (by omega)
                · by_cases h8 : j < 624
                  · exact Nn.LawD.of_blk b_1111_620 (by omega) (by omega)
                  · exact Nn.LawD.of_blk b_1111_624 (by omega) (by omega)
              · by_cases h7 : j < 636
                · by_cases h8 : j < 632
                  · exact Nn.LawD.of_blk b_1111_628 (by omega) (by omega)
                  · exact Nn.LawD.of_blk b_1111_632 (by omega) (by omega)
                · by_cases h8 : j < 640
                  · exact Nn.LawD.of_blk b_1111_636 (by omega) (by omega)
                  · exact Nn.LawD.of_blk b_1111_640 (by omega) (by omega)
            · by_cases h6 : j < 656
              · by_cases h7 : j < 648
                · exact Nn.LawD.of_blk b_1111_644 (by omega) (by omega)
                · by_cases h8 : j < 652
                  · exact Nn.LawD.of_blk b_1111_648 (by omega) (by omega)
                  · exact Nn.LawD.of_blk b_1111_652 (by omega) (by omega)
              · by_cases h7 : j < 664
                · by_cases h8 : j < 660
                  · exact Nn.LawD.of_blk b_1111_656 (by omega) (by omega)
                  · exact Nn.LawD.of_blk b_1111_660 (by omega) (by omega)
                · by_cases h8 : j < 668
                  · exact Nn.LawD.of_blk b_1111_664 (by omega) (by omega)
                  · exact Nn.LawD.of_blk b_1111_668 (by omega) (by omega)
      · by_cases h3 : j < 784
        · by_cases h4 : j < 728
          · by_cases h5 : j < 700
            · by_cases h6 : j < 684
              · by_cases h7 : j < 676
                · exact Nn.LawD.of_blk b_1111_672 (by omega) (by omega)
                · by_cases h8 : j < 680
                  · exact Nn.LawD.of_blk b_1111_676 (by omega) (by omega)
                  · exact Nn.LawD.of_blk b_1111_680 (by omega) (by omega)
              · by_cases h7 : j < 692
                · by_cases h8 : j < 688
                  · exact Nn.LawD.of_blk b_1111_684 (by omega) (by omega)
                  · exact Nn.LawD.of_blk b_1111_688 (by omega) (by omega)
                · by_cases h8 : j < 696
                  · exact Nn.LawD.of_blk b_1111_692 (by omega) (by omega)
                  · exact Nn.LawD.of_blk b_1111_696 (by omega) (by omega)
            · by_cases h6 : j < 712
              · by_cases h7 : j < 704
                · exact Nn.LawD.of_blk b_1111_700 (by omega) (by omega)
                · by_cases h8 : j < 708
                  · exact Nn.LawD.of_blk b_1111_704 (by omega) (by omega)
                  · exact Nn.LawD.of_blk b_1111_708 (by omega) (by omega)
              · by_cases h7 : j < 720
                · by_cases h8 : j < 716
                  · exact Nn.LawD.of_blk b_1111_712 (by omega) (by omega)
                  · exact Nn.LawD.of_blk b_1111_716 (by omega) (by omega)
                · by_cases h8 : j < 724
                  · exact Nn.LawD.of_blk b_1111_720 (by omega) (by omega)
                  · exact Nn.LawD.of_blk b_1111_724 (by omega) (by omega)
          · by_cases h5 : j < 756
            · by_cases h6 : j < 740
              · by_cases h7 : j < 732
                · exact Nn.LawD.of_blk b_1111_728 (by omega) (by omega)
                · by_cases h8 : j < 736
                  · exact Nn.LawD.of_blk b_1111_732 (by omega) (by omega)
                  · exact Nn.LawD.of_blk b_1111_736 (by omega) (by omega)
              · by_cases h7 : j < 748
                · by_cases h8 : j < 744
                  · exact Nn.LawD.of_blk b_1111_740 (by omega) (by omega)
                  · exact Nn.LawD.of_blk b_1111_744 (by omega) (by omega)
                · by_cases h8 : j < 752
                  · exact Nn.LawD.of_blk b_1111_748 (by omega) (by omega)
                  · exact Nn.LawD.of_blk b_1111_752 (by omega) (by omega)
            · by_cases h6 : j < 768
              · by_cases h7 : j < 760
                · exact Nn.LawD.of_blk b_1111_756 (by omega) (by omega)
                · by_cases h8 : j < 764
                  · exact Nn.LawD.of_blk b_1111_760 (by omega) (by omega)
                  · exact Nn.LawD.of_blk b_1111_764 (by omega) (by omega)
              · by_cases h7 : j < 776
                · by_cases h8 : j < 772
                  · exact Nn.LawD.of_blk b_1111_768 (by omega) (by omega)
                  · exact Nn.LawD.of_blk b_1111_772 (by omega) (by omega)
                · by_cases h8 : j < 780
                  · exact Nn.LawD.of_blk b_1111_776 (by omega) (by omega)
                  · exact Nn.LawD.of_blk b_1111_780 (by omega) (by omega)
        · by_cases h4 : j < 840
          · by_cases h5 : j < 812
            · by_cases h6 : j < 796
              · by_cases h7 : j < 788
                · exact Nn.LawD.of_blk b_1111_784 (by omega) (by omega)
                · by_cases h8 : j < 792
                  · exact Nn.LawD.of_blk b_1111_788 (by omega) (by omega)
                  · exact Nn.LawD.of_blk b_1111_792 (by omega) (by omega)
              · by_cases h7 : j < 804
                · by_cases h8 : j < 800
                  · exact Nn.LawD.of_blk b_1111_796 (by omega) (by omega)
                  · exact Nn.LawD.of_blk b_1111_800 (by omega) (by omega)
                · by_cases h8 : j < 808
                  · exact Nn.LawD.of_blk b_1111_804 (by omega) (by omega)
                  · exact Nn.LawD.of_blk b_1111_808 (by omega) (by omega)
            · by_cases h6 : j < 824
              · by_cases h7 : j < 816
                · exact Nn.LawD.of_blk b_1111_812 (by omega) (by omega)
                · by_cases h8 : j < 820
                  · exact Nn.LawD.of_blk b_1111_816 (by omega) (by omega)
                  · exact Nn.LawD.of_blk b_1111_820 (by omega) (by omega)
              · by_cases h7 : j < 832
                · by_cases h8 : j < 828
                  · exact Nn.LawD.of_blk b_1111_824 (by omega) (by omega)
                  · exact Nn.LawD.of_blk b_1111_828 (by omega) (by omega)
                · by_cases h8 : j < 836
                  · exact Nn.LawD.of_blk b_1111_832 (by omega) (by omega)
                  · exact Nn.LawD.of_blk b_1111_836 (by omega) (by omega)
          · by_cases h5 : j < 868
            · by_cases h6 : j < 852
              · by_cases h7 : j < 844
                · exact Nn.LawD.of_blk b_1111_840 (by omega) (by omega)
                · by_cases h8 : j < 848
                  · exact Nn.LawD.of_blk b_1111_844 (by omega) (by omega)
                  · exact Nn.LawD.of_blk b_1111_848 (by omega) (by omega)
              · by_cases h7 : j < 860
                · by_cases h8 : j < 856
                  · exact Nn.LawD.of_blk b_1111_852 (by omega) (by omega)
                  · exact Nn.LawD.of_blk b_1111_856 (by omega) (by omega)
                · by_cases h8 : j < 864
                  · exact Nn.LawD.of_blk b_1111_860 (by omega) (by omega)
                  · exact Nn.LawD.of_blk b_1111_864 (by omega) (by omega)
            · by_cases h6 : j < 884
              · by_cases h7 : j < 876
                · by_cases h8 : j < 872
                  · exact Nn.LawD.of_blk b_1111_868 (by omega) (by omega)
                  · exact Nn.LawD.of_blk b_1111_872 (by omega) (by omega)
                · by_cases h8 : j < 880
                  · exact Nn.LawD.of_blk b_1111_876 (by omega) (by omega)
                  · exact Nn.LawD.of_blk b_1111_880 (by omega) (by omega)
              · by_cases h7 : j < 892
                · by_cases h8 : j < 888
                  · exact Nn.LawD.of_blk b_1111_884 (by omega) (by omega)
                  · exact Nn.LawD.of_blk b_1111_888 (by omega) (by omega)
                · by_cases h8 : j < 896
                  · exact Nn.LawD.of_blk b_1111_892 (by omega) (by omega)
                  · exact Nn.LawD.of_blk b_1111_896 (by omega) (by omega)
  · by_cases h1 : j < 1348
    · by_cases h2 : j < 1124
      · by_cases h3 : j < 1012
        · by_cases h4 : j < 956
          · by_cases h5 : j < 928
            · by_cases h6 : j < 912
              · by_cases h7 : j < 904
                · exact Nn.LawD.of_blk b_1111_900 (by omega) (by omega)
                · by_cases h8 : j < 908
                  · exact Nn.LawD.of_blk b_1111_904 (by omega) (by omega)
                  · exact Nn.LawD.of_blk b_1111_908 (by omega) (by omega)
              · by_cases h7 : j < 920
                · by_cases h8 : j < 916
                  · exact Nn.LawD.of_blk b_1111_912 (by omega) (by omega)
                  · exact Nn.LawD.of_blk b_1111_916 (by omega) (by omega)
                · by_cases h8 : j < 924
                  · exact Nn.LawD.of_blk b_1111_920 (by omega) (by omega)
                  · exact Nn.LawD.of_blk b_1111_924 (by omega) (by omega)
            · by_cases h6 : j < 940
              · by_cases h7 : j < 932
                · exact Nn.LawD.of_blk b_1111_928 (by omega) (by omega)
                · by_cases h8 : j < 936
                  · exact Nn.LawD.of_blk b_1111_932 (by omega) (by omega)
                  · exact Nn.LawD.of_blk b_1111_936 (by omega) (by omega)
              · by_cases h7 : j < 948
                · by_cases h8 : j < 944
                  · exact Nn.LawD.of_blk b_1111_940 (by omega) (by omega)
                  · exact Nn.LawD.of_blk b_1111_944 (by omega) (by omega)
                · by_cases h8 : j < 952
                  · exact Nn.LawD.of_blk b_1111_948 (by omega) (by omega)
                  · exact Nn.LawD.of_blk b_1111_952 (by omega) (by omega)
          · by_cases h5 : j < 984
            · by_cases h6 : j < 968
              · by_cases h7 : j < 960
                · exact Nn.LawD.of_blk b_1111_956 (by omega) (by omega)
                · by_cases h8 : j < 964
                  · exact Nn.LawD.of_blk b_1111_960 (by omega) (by omega)
                  · exact Nn.LawD.of_blk b_1111_964 (by omega) (by omega)
              · by_cases h7 : j < 976
                · by_cases h8 : j < 972
                  · exact Nn.LawD.of_blk b_1111_968 (by omega) (by omega)
                  · exact Nn.LawD.of_blk b_1111_972 (by omega) (by omega)
                · by_cases h8 : j < 980
                  · exact Nn.LawD.of_blk b_1111_976 (by omega) (by omega)
                  · exact Nn.LawD.of_blk b_1111_980 (by omega) (by omega)
            · by_cases h6 : j < 996
              · by_cases h7 : j < 988
                · exact Nn.LawD.of_blk b_1111_984 (by omega) (by omega)
                · by_cases h8 : j < 992
                  · exact Nn.LawD.of_blk b_1111_988 (by omega) (by omega)
                  · exact Nn.LawD.of_blk b_1111_992 (by omega) (by omega)
              · by_cases h7 : j < 1004
                · by_cases h8 : j < 1000
                  · exact Nn.LawD.of_blk b_1111_996 (by omega) (by omega)
                  · exact Nn.LawD.of_blk b_1111_1000 (by omega) (by omega)
                · by_cases h8 : j < 1008
                  · exact Nn.LawD.of_blk b_1111_1004 (by omega) (by omega)
                  · exact Nn.LawD.of_blk b_1111_1008 (by omega) (by omega)
        · by_cases h4 : j < 1068
          · by_cases h5 : j < 1040
            · by_cases h6 : j < 1024
              · by_cases h7 : j < 1016
                · exact Nn.LawD.of_blk b_1111_1012 (by omega) (by omega)
                · by_cases h8 : j < 1020
                  · exact Nn.LawD.of_blk b_1111_1016 (by omega) (by omega)
                  · exact Nn.LawD.of_blk b_1111_1020 (by omega) (by omega)
              · by_cases h7 : j < 1032
                · by_cases h8 : j < 1028
                  · exact Nn.LawD.of_blk b_1111_1024 (by omega) (by omega)
                  · exact Nn.LawD.of_blk b_1111_1028 (by omega) (by omega)
                · by_cases h8 : j < 1036
                  · exact Nn.LawD.of_blk b_1111_1032 (by omega) (by omega)
                  · exact Nn.LawD.of_blk b_1111_1036 (by omega) (by omega)
            · by_cases h6 : j < 1052
              · by_cases h7 : j < 1044
                · exact Nn.LawD.of_blk b_1111_1040 (by omega) (by omega)
                · by_cases h8 : j < 1048
                  · exact Nn.LawD.of_blk b_1111_1044 (by omega) (by omega)
                  · exact Nn.LawD.of_blk b_1111_1048 (by omega) (by omega)
              · by_cases h7 : j < 1060
                · by_cases h8 : j < 1056
                  · exact Nn.LawD.of_blk b_1111_1052 (by omega) (by omega)
                  · exact Nn.LawD.of_blk b_1111_1056 (by omega) (by omega)
                · by_cases h8 : j < 1064
                  · exact Nn.LawD.of_blk b_1111_1060 (by omega) (by omega)
                  · exact Nn.LawD.of_blk b_1111_1064 (by omega) (by omega)
          · by_cases h5 : j < 1096
            · by_cases h6 : j < 1080
              · by_cases h7 : j < 1072
                · exact Nn.LawD.of_blk b_1111_1068 (by omega) (by omega)
                · by_cases h8 : j < 1076
                  · exact Nn.LawD.of_blk b_1111_1072 (by omega) (by omega)
                  · exact Nn.LawD.of_blk b_1111_1076 (by omega) (by omega)
              · by_cases h7 : j < 1088
                · by_cases h8 : j < 1084
                  · exact Nn.LawD.of_blk b_1111_1080 (by omega) (by omega)
                  · exact Nn.LawD.of_blk b_1111_1084 (by omega) (by omega)
                · by_cases h8 : j < 1092
                  · exact Nn.LawD.of_blk b_1111_1088 (by omega) (by omega)
                  · exact Nn.LawD.of_blk b_1111_1092 (by omega) (by omega)
            · by_cases h6 : j < 1108
              · by_cases h7 : j < 1100
                · exact Nn.LawD.of_blk b_1111_1096 (by omega) (by omega)
                · by_cases h8 : j < 1104
                  · exact Nn.LawD.of_blk b_1111_1100 (by omega) (by omega)
                  · exact Nn.LawD.of_blk b_1111_1104 (by omega) (by omega)
              · by_cases h7 : j < 1116
                · by_cases h8 : j < 1112
                  · exact Nn.LawD.of_blk b_1111_1108 (by omega) (by omega)
                  · exact Nn.LawD.of_blk b_1111_1112 (by omega) (by omega)
                · by_cases h8 : j < 1120
                  · exact Nn.LawD.of_blk b_1111_1116 (by omega) (by omega)
                  · exact Nn.LawD.of_blk b_1111_1120 (by omega) (by omega)
      · by_cases h3 : j < 1236
        · by_cases h4 : j < 1180
          · by_cases h5 : j < 1152
            · by_cases h6 : j < 1136
              · by_cases h7 : j < 1128
                · exact Nn.LawD.of_blk b_1111_1124 (by omega) (by omega)
                · by_cases h8 : j < 1132
                  · exact Nn.LawD.of_blk b_1111_1128 (by omega) (by omega)
                  · exact Nn.LawD.of_blk b_1111_1132 (by omega) (by omega)
              · by_cases h7 : j < 1144
                · by_cases h8 : j < 1140
                  · exact Nn.LawD.of_blk b_1111_1136 (by omega) (by omega)
                  · exact Nn.LawD.of_blk b_1111_1140 (by omega) (by omega)
                · by_cases h8 : j < 1148
                  · exact Nn.LawD.of_blk b_1111_1144 (by omega) (by omega)
                  · exact Nn.LawD.of_blk b_1111_1148 (by omega) (by omega)
            · by_cases h6 : j < 1164
              · by_cases h7 : j < 1156
                · exact Nn.LawD.of_blk b_1111_1152 (by omega) (by omega)
                · by_cases h8 : j < 1160
                  · exact Nn.LawD.of_blk b_1111_1156 (by omega) (by omega)
                  · exact Nn.LawD.of_blk b_1111_1160 (by omega) (by omega)
              · by_cases h7 : j < 1172
                · by_cases h8 : j < 1168
                  · exact Nn.LawD.of_blk b_1111_1164 (by omega) (by omega)
                  · exact Nn.LawD.of_blk b_1111_1168 (by omega) (by omega)
                · by_cases h8 : j < 1176
                  · exact Nn.LawD.of_blk b_1111_1172 (by omega) (by omega)
                  · exact Nn.LawD.of_blk b_1111_1176 (by omega) (by omega)
          · by_cases h5 : j < 1208
            · by_cases h6 : j < 1192
              · by_cases h7 : j < 1184
                · exact Nn.LawD.of_blk b_1111_1180 (by omega) (by omega)
                · by_cases h8 : j < 1188
                  · exact Nn.LawD.of_blk b_1111_1184 (by omega) (by omega)
                  · exact Nn.LawD.of_blk b_1111_1188 (by omega) (by omega)
              · by_cases h7 : j < 1200
                · by_cases h8 : j < 1196
                  · exact Nn.LawD.of_blk b_1111_1192 (by omega) (by omega)
                  · exact Nn.LawD.of_blk b_1111_1196 (by omega) (by omega)
                · by_cases h8 : j < 1204
                  · exact Nn.LawD.of_blk b_1111_1200 (by omega) (by omega)
                  · exact Nn.LawD.of_blk b_1111_1204 (by omega) (by omega)
            · by_cases h6 : j < 1220
              · by_cases h7 : j < 1212
                · exact Nn.LawD.of_blk b_1111_1208 (by omega) (by omega)
                · by_cases h8 : j < 1216
                  · exact Nn.LawD.of_blk b_1111_1212 (by omega) (by omega)
                  · exact Nn.LawD.of_blk b_1111_1216 (by omega) (by omega)
              · by_cases h7 : j < 1228
                · by_cases h8 : j < 1224
                  · exact Nn.LawD.of_blk b_1111_1220 (by omega) (by omega)
                  · exact Nn.LawD.of_blk b_1111_1224 (by omega) (by omega)
                · by_cases h8 : j < 1232
                  · exact Nn.LawD.of_blk b_1111_1228 (by omega) (by omega)
                  · exact Nn.LawD.of_blk b_1111_1232 (by omega) (by omega)
        · by_cases h4 : j < 1292
          · by_cases h5 : j < 1264
            · by_cases h6 : j < 1248
              · by_cases h7 : j < 1240
                · exact Nn.LawD.of_blk b_1111_1236 (by omega) (by omega)
                · by_cases h8 : j < 1244
                  · exact Nn.LawD.of_blk b_1111_1240 (by omega) (by omega)
                  · exact Nn.LawD.of_blk b_1111_1244 (by omega) (by omega)
              · by_cases h7 : j < 1256
                · by_cases h8 : j < 1252
                  · exact Nn.LawD.of_blk b_1111_1248 (by omega) (by omega)
                  · exact Nn.LawD.of_blk b_1111_1252 (by omega) (by omega)
                · by_cases h8 : j < 1260
                  · exact Nn.LawD.of_blk b_1111_1256 (by omega) (by omega)
                  · exact Nn.LawD.of_blk b_1111_1260 (by omega) (by omega)
            · by_cases h6 : j < 1276
              · by_cases h7 : j < 1268
                · exact Nn.LawD.of_blk b_1111_1264 (by omega) (by omega)
                · by_cases h8 : j < 1272
                  · exact Nn.LawD.of_blk b_1111_1268 (by omega) (by omega)
                  · exact Nn.LawD.of_blk b_1111_1272 (by omega) (by omega)
              · by_cases h7 : j < 1284
                · by_cases h8 : j < 1280
                  · exact Nn.LawD.of_blk b_1111_1276 (by omega) (by omega)
                  · exact Nn.LawD.of_blk b_1111_1280 (by omega) (by omega)
                · by_cases h8 : j < 1288
                  · exact Nn.LawD.of_blk b_1111_1284 (by omega) (by omega)
                  · exact Nn.LawD.of_blk b_1111_1288 (by omega) (by omega)
          · by_cases h5 : j < 1320
            · by_cases h6 : j < 1304
              · by_cases h7 : j < 1296
                · exact Nn.LawD.of_blk b_1111_1292 (by omega) (by omega)
                · by_cases h8 : j < 1300
                  · exact Nn.LawD.of_blk b_1111_1296 (by omega) (by omega)
                  · exact Nn.LawD.of_blk b_1111_1300 (by omega) (by omega)
              · by_cases h7 : j < 1312
                · by_cases h8 : j < 1308
                  · exact Nn.LawD.of_blk b_1111_1304 (by omega) (by omega)
                  · exact Nn.LawD.of_blk b_1111_1308 (by omega) (by omega)
                · by_cases h8 : j < 1316
                  · exact Nn.LawD.of_blk b_1111_1312 (by omega) (by omega)
                  · exact Nn.LawD.of_blk b_1111_1316 (by omega) (by omega)
            · by_cases h6 : j < 1332
              · by_cases h7 : j < 1324
                · exact Nn.LawD.of_blk b_1111_1320 (by omega) (by omega)
                · by_cases h8 : j < 1328
                  · exact Nn.LawD.of_blk b_1111_1324 (by omega) (by omega)
                  · exact Nn.LawD.of_blk b_1111_1328 (by omega) (by omega)
              · by_cases h7 : j < 1340
                · by_cases h8 : j < 1336
                  · exact Nn.LawD.of_blk b_1111_1332 (by omega) (by omega)
                  · exact Nn.LawD.of_blk b_1111_1336 (by omega) (by omega)
                · by_cases h8 : j < 1344
                  · exact Nn.LawD.of_blk b_1111_1340 (by omega) (by omega)
                  · exact Nn.LawD.of_blk b_1111_1344 (by omega) (by omega)
    · by_cases h2 : j < 1572
      · by_cases h3 : j < 1460
        · by_cases h4 : j < 1404
          · by_cases h5 : j < 1376
            · by_cases h6 : j < 1360
              · by_cases h7 : j < 1352
                · exact Nn.LawD.of_blk b_1111_1348 (by omega) (by omega)
                · by_cases h8 : j < 1356
                  · exact Nn.LawD.of_blk b_1111_1352 (by omega) (by omega)
                  · exact Nn.LawD.of_blk b_1111_1356 (by omega) (by omega)
              · by_cases h7 : j < 1368
                · by_cases h8 : j < 1364
                  · exact Nn.LawD.of_blk b_1111_1360 (by omega) (by omega)
                  · exact Nn.LawD.of_blk b_1111_1364 (by omega) (by omega)
                · by_cases h8 : j < 1372
                  · exact Nn.LawD.of_blk b_1111_1368 (by omega) (by omega)
                  · exact Nn.LawD.of_blk b_1111_1372 (by omega) (by omega)
            · by_cases h6 : j < 1388
              · by_cases h7 : j < 1380
                · exact Nn.LawD.of_blk b_1111_1376 (by omega) (by omega)
                · by_cases h8 : j < 1384
                  · exact Nn.LawD.of_blk b_1111_1380 (by omega) (by omega)
                  · exact Nn.LawD.of_blk b_1111_1384 (by omega) (by omega)
              · by_cases h7 : j < 1396
                · by_cases h8 : j < 1392
                  · exact Nn.LawD.of_blk b_1111_1388 (by omega) (by omega)
                  · exact Nn.LawD.of_blk b_1111_1392 (by omega) (by omega)
                · by_cases h8 : j < 1400
                  · exact Nn.LawD.of_blk b_1111_1396 (by omega) (by omega)
                  · exact Nn.LawD.of_blk b_1111_1400 (by omega) (by omega)
          · by_cases h5 : j < 1432
            · by_cases h6 : j < 1416
              · by_cases h7 : j < 1408
                · exact Nn.LawD.of_blk b_1111_1404 (by omega) (by omega)
                · by_cases h8 : j < 1412
                  · exact Nn.LawD.of_blk b_1111_1408 (by omega) (by omega)
                  · exact Nn.LawD.of_blk b_1111_1412 (by omega) (by omega)
              · by_cases h7 : j < 1424
                · by_cases h8 : j < 1420
                  · exact Nn.LawD.of_blk b_1111_1416 (by omega) (by omega)
                  · exact Nn.LawD.of_blk b_1111_1420 (by omega) (by omega)
                · by_cases h8 : j < 1428
                  · exact Nn.LawD.of_blk b_1111_1424 (by omega) (by omega)
                  · exact Nn.LawD.of_blk b_1111_1428 (by omega) (by omega)
            · by_cases h6 : j < 1444
              · by_cases h7 : j < 1436
                · exact Nn.LawD.of_blk b_1111_1432 (by omega) (by omega)
                · by_cases h8 : j < 1440
                  · exact Nn.LawD.of_blk b_1111_1436 (by omega) (by omega)
                  · exact Nn.LawD.of_blk b_1111_1440 (by omega) (by omega)
              · by_cases h7 : j < 1452
                · by_cases h8 : j < 1448
                  · exact Nn.LawD.of_blk b_1111_1444 (by omega) (by omega)
                  · exact Nn.LawD.of_blk b_1111_1448 (by omega) (by omega)
                · by_cases h8 : j < 1456
                  · exact Nn.LawD.of_blk b_1111_1452 (by omega) (by omega)
                  · exact Nn.LawD.of_blk b_1111_1456 (by omega) (by omega)
        · by_cases h4 : j < 1516
          · by_cases h5 : j < 1488
            · by_cases h6 : j < 1472
              · by_cases h7 : j < 1464
                · exact Nn.LawD.of_blk b_1111_1460 (by omega) (by omega)
                · by_cases h8 : j < 1468
                  · exact Nn.LawD.of_blk b_1111_1464 (by omega) (by omega)
                  · exact Nn.LawD.of_blk b_1111_1468 (by omega) (by omega)
              · by_cases h7 : j < 1480
                · by_cases h8 : j < 1476
                  · exact Nn.LawD.of_blk b_1111_1472 (by omega) (by omega)
                  · exact Nn.LawD.of_blk b_1111_1476 (by omega) (by omega)
                · by_cases h8 : j < 1484
                  · exact Nn.LawD.of_blk b_1111_1480 (by omega) (by omega)
                  · exact Nn.LawD.of_blk b_1111_1484 (by omega) (by omega)
            · by_cases h6 : j < 1500
              · by_cases h7 : j < 1492
                · exact Nn.LawD.of_blk b_1111_1488 (by omega) (by omega)
                · by_cases h8 : j < 1496
                  · exact Nn.LawD.of_blk b_1111_1492 (by omega) (by omega)
                  · exact Nn.LawD.of_blk b_1111_1496 (by omega) (by omega)
              · by_cases h7 : j < 1508
                · by_cases h8 : j < 1504
                  · exact Nn.LawD.of_blk b_1111_1500 (by omega) (by omega)
                  · exact Nn.LawD.of_blk b_1111_1504 (by omega) (by omega)
                · by_cases h8 : j < 1512
                  · exact Nn.LawD.of_blk b_1111_1508 (by omega) (by omega)
                  · exact Nn.LawD.of_blk b_1111_1512 (by omega) (by omega)
          · by_cases h5 : j < 1544
            · by_cases h6 : j < 1528
              · by_cases h7 : j < 1520
                · exact Nn.LawD.of_blk b_1111_1516 (by omega) (by omega)
                · by_cases h8 : j < 1524
                  · exact Nn.LawD.of_blk b_1111_1520 (by omega) (by omega)
                  · exact Nn.LawD.of_blk b_1111_1524 (by omega) (by omega)
              · by_cases h7 : j < 1536
                · by_cases h8 : j < 1532
                  · exact Nn.LawD.of_blk b_1111_1528 (by omega) (by omega)
                  · exact Nn.LawD.of_blk b_1111_1532 (by omega) (by omega)
                · by_cases h8 : j < 1540
                  · exact Nn.LawD.of_blk b_1111_1536 (by omega) (by omega)
                  · exact Nn.LawD.of_blk b_1111_1540 (by omega) (by omega)
            · by_cases h6 : j < 1556
              · by_cases h7 : j < 1548
                · exact Nn.LawD.of_blk b_1111_1544 (by omega) (by omega)
                · by_cases h8 : j < 1552
                  · exact Nn.LawD.of_blk b_1111_1548 (by omega) (by omega)
                  · exact Nn.LawD.of_blk b_1111_1552 (by omega) (by omega)
              · by_cases h7 : j < 1564
                · by_cases h8 : j < 1560
                  · exact Nn.LawD.of_blk b_1111_1556 (by omega) (by omega)
                  · exact Nn.LawD.of_blk b_1111_1560 (by omega) (by omega)
                · by_cases h8 : j < 1568
                  · exact Nn.LawD.of_blk b_1111_1564 (by omega) (by omega)
                  · exact Nn.LawD.of_blk b_1111_1568 (by omega) (by omega)
      · by_cases h3 : j < 1684
        · by_cases h4 : j < 1628
          · by_cases h5 : j < 1600
            · by_cases h6 : j < 1584
              · by_cases h7 : j < 1576
                · exact Nn.LawD.of_blk b_1111_1572 (by omega) (by omega)
                · by_cases h8 : j < 1580
                  · exact Nn.LawD.of_blk b_1111_1576 (by omega) (by omega)
                  · exact Nn.LawD.of_blk b_1111_1580 (by omega) (by omega)
              · by_cases h7 : j < 1592
                · by_cases h8 : j < 1588
                  · exact Nn.LawD.of_blk b_1111_1584 (by omega) (by omega)
                  · exact Nn.LawD.of_blk b_1111_1588 (by omega) (by omega)
                · by_cases h8 : j < 1596
                  · exact Nn.LawD.of_blk b_1111_1592 (by omega) (by omega)
                  · exact Nn.LawD.of_blk b_1111_1596 (by omega) (by omega)
            · by_cases h6 : j < 1612
              · by_cases h7 : j < 1604
                · exact Nn.LawD.of_blk b_1111_1600 (by omega) (by omega)
                · by_cases h8 : j < 1608
                  · exact Nn.LawD.of_blk b_1111_1604 (by omega) (by omega)
                  · exact Nn.LawD.of_blk b_1111_1608 (by omega) (by omega)
              · by_cases h7 : j < 1620
                · by_cases h8 : j < 1616
                  · exact Nn.LawD.of_blk b_1111_1612 (by omega) (by omega)
                  · exact Nn.LawD.of_blk b_1111_1616 (by omega) (by omega)
                · by_cases h8 : j < 1624
                  · exact Nn.LawD.of_blk b_1111_1620 (by omega) (by omega)
                  · exact Nn.LawD.of_blk b_1111_1624 (by omega) (by omega)
          · by_cases h5 : j < 1656
            · by_cases h6 : j < 1640
              · by_cases h7 : j < 1632
                · exact Nn.LawD.of_blk b_1111_1628 (by omega) (by omega)
                · by_cases h8 : j < 1636
                  · exact Nn.LawD.of_blk b_1111_1632 (by omega) (by omega)
                  · exact Nn.LawD.of_blk b_1111_1636 (by omega) (by omega)
              · by_cases h7 : j < 1648
                · by_cases h8 : j < 1644
                  · exact Nn.LawD.of_blk b_1111_1640 (by omega) (by omega)
                  · exact Nn.LawD.of_blk b_1111_1644 (by omega) (by omega)
                · by_cases h8 : j < 1652
                  · exact Nn.LawD.of_blk b_1111_1648 (by omega) (by omega)
                  · exact Nn.LawD.of_blk b_1111_1652 (by omega) (by omega)
            · by_cases h6 : j < 1668
              · by_cases h7 : j < 1660
                · exact Nn.LawD.of_blk b_1111_1656 (by omega) (by omega)
                · by_cases h8 : j < 1664
                  · exact Nn.LawD.of_blk b_1111_1660 (by omega) (by omega)
                  · exact Nn.LawD.of_blk b_1111_1664 (by omega) (by omega)
              · by_cases h7 : j < 1676
                · by_cases h8 : j < 1672
                  · exact Nn.LawD.of_blk b_1111_1668 (by omega) (by omega)
                  · exact Nn.LawD.of_blk b_1111_1672 (by omega) (by omega)
                · by_cases h8 : j < 1680
                  · exact Nn.LawD.of_blk b_1111_1676 (by omega) (by omega)
                  · exact Nn.LawD.of_blk b_1111_1680 (by omega) (by omega)
        · by_cases h4 : j < 1740
          · by_cases h5 : j < 1712
            · by_cases h6 : j < 1696
              · by_cases h7 : j < 1688
                · exact Nn.LawD.of_blk b_1111_1684 (by omega) (by omega)
                · by_cases h8 : j < 1692
                  · exact Nn.LawD.of_blk b_1111_1688 (by omega) (by omega)
                  · exact Nn.LawD.of_blk b_1111_1692 (by omega) (by omega)
              · by_cases h7 : j < 1704
                · by_cases h8 : j < 1700
                  · exact Nn.LawD.of_blk b_1111_1696 (by omega) (by omega)
                  · exact Nn.LawD.of_blk b_1111_1700 (by omega) (by omega)
                · by_cases h8 : j < 1708
                  · exact Nn.LawD.of_blk b_1111_1704 (by omega) (by omega)
                  · exact Nn.LawD.of_blk b_1111_1708 (by omega) (by omega)
            · by_cases h6 : j < 1724
              · by_cases h7 : j < 1716
                · exact Nn.LawD.of_blk b_1111_1712 (by omega) (by omega)
                · by_cases h8 : j < 1720
                  · exact Nn.LawD.of_blk b_1111_1716 (by omega) (by omega)
                  · exact Nn.LawD.of_blk b_1111_1720 (by omega) (by omega)
              · by_cases h7 : j < 1732
                · by_cases h8 : j < 1728
                  · exact Nn.LawD.of_blk b_1111_1724 (by omega) (by omega)
                  · exact Nn.LawD.of_blk b_1111_1728 (by omega) (by omega)
                · by_cases h8 : j < 1736
                  · exact Nn.LawD.of_blk b_1111_1732 (by omega) (by omega)
                  · exact Nn.LawD.of_blk b_1111_1736 (by omega) (by omega)
          · by_cases h5 : j < 1768
            · by_cases h6 : j < 1752
              · by_cases h7 : j < 1744
                · exact Nn.LawD.of_blk b_1111_1740 (by omega) (by omega)
                · by_cases h8 : j < 1748
                  · exact Nn.LawD.of_blk b_1111_1744 (by omega) (by omega)
                  · exact Nn.LawD.of_blk b_1111_1748 (by omega) (by omega)
              · by_cases h7 : j < 1760
                · by_cases h8 : j < 1756
                  · exact Nn.LawD.of_blk b_1111_1752 (by omega) (by omega)
                  · exact Nn.LawD.of_blk b_1111_1756 (by omega) (by omega)
                · by_cases h8 : j < 1764
                  · exact Nn.LawD.of_blk b_1111_1760 (by omega) (by omega)
                  · exact Nn.LawD.of_blk b_1111_1764 (by omega) (by omega)
            · by_cases h6 : j < 1784
              · by_cases h7 : j < 1776
                · by_cases h8 : j < 1772
                  · exact Nn.LawD.of_blk b_1111_1768 (by omega) (by omega)
                  · exact Nn.LawD.of_blk b_1111_1772 (by omega) (by omega)
                · by_cases h8 : j < 1780
                  · exact Nn.LawD.of_blk b_1111_1776 (by omega) (by omega)
                  · exact Nn.LawD.of_blk b_1111_1780 (by omega) (by omega)
              · by_cases h7 : j < 1792
                · by_cases h8 : j < 1788
                  · exact Nn.LawD.of_blk b_1111_1784 (by omega) (by omega)
                  · exact Nn.LawD.of_blk b_1111_1788 (by omega) (by omega)
                · by_cases h8 : j < 1796
                  · exact Nn.LawD.of_blk b_1111_1792 (by omega) (by omega)
                  · exact Nn.LawD.of_blk b_1111_1796 (by omega) (by omega)

theorem cases (es : List Nat) (hl : es.length = law.bds.length) (hx : ∀ x, x ∈ es → x ≤ 1) : law.at Try.prog ids Summs.tab 60 es = true := by
  have hl : es.length = 4 := hl
  match es, hl, hx with
  | [e0, e1, e2, e3], _, hx =>
    have he0 : e0 = 0 ∨ e0 = 1 := by have := hx e0 (by simp); omega
    have he1 : e1 = 0 ∨ e1 = 1 := by have := hx e1 (by simp); omega
    have he2 : e2 = 0 ∨ e2 = 1 := by have := hx e2 (by simp); omega
    have he3 : e3 = 0 ∨ e3 = 1 := by have := hx e3 (by simp); omega
    clear hx
    rcases he0 with rfl | rfl
    · rcases he1 with rfl | rfl
      · rcases he2 with rfl | rfl
        · rcases he3 with rfl | rfl
          · exact at_0000
          · exact at_0001
        · rcases he3 with rfl | rfl
          · exact at_0010
          · exact at_0011
      · rcases he2 with rfl | rfl
        · rcases he3 with rfl | rfl
          · exact at_0100
          · exact at_0101
        · rcases he3 with rfl | rfl
          · exact at_0110
          · exact at_0111
    · rcases he1 with rfl | rfl
      · rcases he2 with rfl | rfl
        · rcases he3 with rfl | rfl
          · exact at_1000
          · exact at_1001
        · rcases he3 with rfl | rfl
          · exact at_1010
          · exact at_1011
      · rcases he2 with rfl | rfl
        · rcases he3 with rfl | rfl
          · exact at_1100
          · exact at_1101
        · rcases he3 with rfl | rfl
          · exact at_1110
          · exact at_1111
theorem own : ownKnob Try.prog.godebug = none := by kernel_rfl
theorem laidOut : laidOutB Try.prog = true := by kernel_rfl

theorem drawn (bs : List Int) (hbs : ∀ b, b ∈ bs → 0 ≤ b ∧ b < 256) : ∃ Ls I, Nn.Drawn Try.prog law.dk law.outs bs Ls I ∧ Ls.length = law.bds.length ∧ I.length = law.m ∧ (∀ ls, ls ∈ Ls → (∀ z, z ∈ ls → IntKind.i64.wrap z = z) ∧ ls.length ≤ 1048576) ∧ ∀ z, z ∈ I → IntKind.i64.wrap z = z := by
  exact Nn.drawn_pp Draw.K0_ok (Draw.drawMultiplyPairs bs hbs 0)

theorem walk {v0 : Value} (bs : List Int) (w : World) (h : IsBytes w bs v0 ∧ bs.length ≤ 9223372036854775807) : LawTrue Try.prog 3 #[v0] w :=
  Nn.LawD.ok (l := law) (D := ids) (t := Summs.tab) (N := 60) noCount mixed ids_ok Summs.tab_ok huge cases (by decide) ⟨_, Try.func7, rfl⟩ drawn h.1 h.2

set_option maxRecDepth 100000 in
theorem lifted (os : Os) (started : os.Started) (H : Type) (enc : TypeId × Value → H) :
    ReturnsInHanded {} Try.checked os 3 .any (Rows.fnMultiplyPairsSpec.pre6 enc Try.prog Try.f3 Rows.fnMultiplyPairsRow.domain false) (Rows.fnMultiplyPairsSpec.post enc Try.prog Try.f3 false true false false) := by
  refine returnsInHanded_of_change (C := Try.checked) own started (by kernel_rfl) Try.func3
    (ChangeSpec.witness6 (enc := enc) (C := Try.checked) false ⟨#[], #[.slice none 0 0], []⟩ 8 (by kernel_rfl) (by kernel_rfl) (by kernel_rfl) (by kernel_rfl)) ?_
  intro W base args ds gs before hval0 hW hcnd _
  have hval : ∀ (j : Nat) t v, Try.f3.params[j]? = some t → args[j]? = some v → Value.okWide Try.prog W .any base t v := hval0
  have hW' := hW
  obtain ⟨p, q, hA0, hV, rfl, hfz, hnd⟩ := hW
  have hA : DataW.TrodAll enc Try.prog W 0 (fun _ => true) true Try.f3.params.toList args.toList ds p := hA0
  rw [Try.params3] at hA hval
  obtain ⟨v0, vs0, d0, ds0, p0, q0, hargs0, rfl, rfl, g0, r0⟩ := trodAll_cons hA
  obtain ⟨rfl, rfl, rfl⟩ := trodAll_nil r0
  obtain rfl : args = #[v0] := by cases args; simp_all
  obtain ⟨rfl, rfl⟩ := trodVars_none hV
  have k0 := g0
  have lt0 := trod_lt_block k0
  obtain ⟨z0, h_z0⟩ := open_bytes Try.underlying22 Try.underlying5 (by kernel_rfl) (hval 0 22 v0 rfl rfl) g0
  clear hA0 hval0
  refine (walk z0 W h_z0).mono fun e W' ⟨he, bel, hz⟩ => ?_
  subst he
  exact ⟨_, rfl, _, _, _, [], _, [], hW', trodAll_mk1 (shut_bool Try.underlying4 _), (trodAll_cons_mk (Below.trod laidOut (by kernel_rfl) (of_decide_eq_true (by kernel_rfl)) k0 bel lt0) trodAll_mk0), rfl, bel.frame _, fun h => by cases h⟩

theorem proved : Rows.FnMultiplyPairsSaid :=
  OpenClaim.holds_of_wide 3 Try.f3 rfl rfl rfl rfl rfl rfl rfl ⟨rfl, rfl, rfl, rfl, rfl⟩ rfl rfl rfl rfl rfl (by kernel_rfl) Try.func3 (by kernel_rfl)
    (of_decide_eq_true (by kernel_rfl)) (by unfold Func.isWrapper; first | (rw [if_pos (by decide +kernel)]; kernel_rfl) | (rw [if_neg (by decide +kernel)]; exact ⟨rfl, rfl⟩))
    (fun os started H enc _ => lifted os started H enc)
#print axioms proved

end Go.Proofs.Ytlenoefcnjcgfaa.DMultiplyPairs

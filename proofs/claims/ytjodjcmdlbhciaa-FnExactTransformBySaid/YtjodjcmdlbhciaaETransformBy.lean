/-
  A part of the proof of FnExactTransformBy: cases of its law, each a run. No condition.
-/
import Derived.Test.YtjodjcmdlbhciaaETransformByB0
import Derived.Test.YtjodjcmdlbhciaaETransformByB1
import Derived.Test.YtjodjcmdlbhciaaETransformByB2
import Derived.Test.YtjodjcmdlbhciaaETransformByB3
import Derived.WalkKit
import Derived.ProofKit
import Derived.OpenShut
namespace Go.Proofs.Ytjodjcmdlbhciaa.ETransformBy
open Go.ChangeShapes Go.WideShapes Go.ChangeAt Go.RowKit Go.Sx Go.Proofs.Ytjodjcmdlbhciaa.Ids
set_option linter.unusedVariables false
set_option linter.unusedSimpArgs false

theorem cnt_000 : (law.tree [0, 0, 0]).count = 1 := by kernel_rfl
theorem at_000 : law.at Try.prog ids Summs.tab 60 [0, 0, 0] = true := by
  refine LawU.at_of (fun j hj => ?_)
  rw [cnt_000] at hj
  exact LawU.of_blk b_000_0 (by omega) (by omega)
theorem cnt_001 : (law.tree [0, 0, 1]).count = 1 := by kernel_rfl
theorem at_001 : law.at Try.prog ids Summs.tab 60 [0, 0, 1] = true := by
  refine LawU.at_of (fun j hj => ?_)
  rw [cnt_001] at hj
  exact LawU.of_blk b_001_0 (by omega) (by omega)
theorem cnt_010 : (law.tree [0, 1, 0]).count = 2 := by kernel_rfl
theorem at_010 : law.at Try.prog ids Summs.tab 60 [0, 1, 0] = true := by
  refine LawU.at_of (fun j hj => ?_)
  rw [cnt_010] at hj
  exact LawU.of_blk b_010_0 (by omega) (by omega)
theorem cnt_011 : (law.tree [0, 1, 1]).count = 64 := by kernel_rfl
theorem at_011 : law.at Try.prog ids Summs.tab 60 [0, 1, 1] = true := by
  refine LawU.at_of (fun j hj => ?_)
  rw [cnt_011] at hj
  by_cases h0 : j < 4
  · exact LawU.of_blk b_011_0 (by omega) (by omega)
  by_cases h4 : j < 8
  · exact LawU.of_blk b_011_4 (by omega) (by omega)
  by_cases h8 : j < 12
  · exact LawU.of_blk b_011_8 (by omega) (by omega)
  by_cases h12 : j < 16
  · exact LawU.of_blk b_011_12 (by omega) (by omega)
  by_cases h16 : j < 20
  · exact LawU.of_blk b_011_16 (by omega) (by omega)
  by_cases h20 : j < 24
  · exact LawU.of_blk b_011_20 (by omega) (by omega)
  by_cases h24 : j < 28
  · exact LawU.of_blk b_011_24 (by omega) (by omega)
  by_cases h28 : j < 32
  · exact LawU.of_blk b_011_28 (by omega) (by omega)
  by_cases h32 : j < 36
  · exact LawU.of_blk b_011_32 (by omega) (by omega)
  by_cases h36 : j < 40
  · exact LawU.of_blk b_011_36 (by omega) (by omega)
  by_cases h40 : j < 44
  · exact LawU.of_blk b_011_40 (by omega) (by omega)
  by_cases h44 : j < 48
  · exact LawU.of_blk b_011_44 (by omega) (by omega)
  by_cases h48 : j < 52
  · exact LawU.of_blk b_011_48 (by omega) (by omega)
  by_cases h52 : j < 56
  · exact LawU.of_blk b_011_52 (by omega) (by omega)
  by_cases h56 : j < 60
  · exact LawU.of_blk b_011_56 (by omega) (by omega)
  exact LawU.of_blk b_011_60 (by omega) (by omega)
theorem cnt_100 : (law.tree [1, 0, 0]).count = 1 := by kernel_rfl
theorem at_100 : law.at Try.prog ids Summs.tab 60 [1, 0, 0] = true := by
  refine LawU.at_of (fun j hj => ?_)
  rw [cnt_100] at hj
  exact LawU.of_blk b_100_0 (by omega) (by omega)
theorem cnt_101 : (law.tree [1, 0, 1]).count = 1 := by kernel_rfl
theorem at_101 : law.at Try.prog ids Summs.tab 60 [1, 0, 1] = true := by
  refine LawU.at_of (fun j hj => ?_)
  rw [cnt_101] at hj
  exact LawU.of_blk b_101_0 (by omega) (by omega)
theorem cnt_110 : (law.tree [1, 1, 0]).count = 2 := by kernel_rfl
theorem at_110 : law.at Try.prog ids Summs.tab 60 [1, 1, 0] = true := by
  refine LawU.at_of (fun j hj => ?_)
  rw [cnt_110] at hj
  exact LawU.of_blk b_110_0 (by omega) (by omega)
theorem cnt_111 : (law.tree [1, 1, 1]).count = 264 := by kernel_rfl
theorem at_111 : law.at Try.prog ids Summs.tab 60 [1, 1, 1] = true := by
  refine LawU.at_of (fun j hj => ?_)
  rw [cnt_111] at hj
  by_cases h0 : j < 4
  · exact LawU.of_blk b_111_0 (by omega) (by omega)
  by_cases h4 : j < 8
  · exact LawU.of_blk b_111_4 (by omega) (by omega)
  by_cases h8 : j < 12
  · exact LawU.of_blk b_111_8 (by omega) (by omega)
  by_cases h12 : j < 16
  · exact LawU.of_blk b_111_12 (by omega) (by omega)
  by_cases h16 : j < 20
  · exact LawU.of_blk b_111_16 (by omega) (by omega)
  by_cases h20 : j < 24
  · exact LawU.of_blk b_111_20 (by omega) (by omega)
  by_cases h24 : j < 28
  · exact LawU.of_blk b_111_24 (by omega) (by omega)
  by_cases h28 : j < 32
  · exact LawU.of_blk b_111_28 (by omega) (by omega)
  by_cases h32 : j < 36
  · exact LawU.of_blk b_111_32 (by omega) (by omega)
  by_cases h36 : j < 40
  · exact LawU.of_blk b_111_36 (by omega) (by omega)
  by_cases h40 : j < 44
  · exact LawU.of_blk b_111_40 (by omega) (by omega)
  by_cases h44 : j < 48
  · exact LawU.of_blk b_111_44 (by omega) (by omega)
  by_cases h48 : j < 52
  · exact LawU.of_blk b_111_48 (by omega) (by omega)
  by_cases h52 : j < 56
  · exact LawU.of_blk b_111_52 (by omega) (by omega)
  by_cases h56 : j < 60
  · exact LawU.of_blk b_111_56 (by omega) (by omega)
  by_cases h60 : j < 64
  · exact LawU.of_blk b_111_60 (by omega) (by omega)
  by_cases h64 : j < 68
  · exact LawU.of_blk b_111_64 (by omega) (by omega)
  by_cases h68 : j < 72
  · exact LawU.of_blk b_111_68 (by omega) (by omega)
  by_cases h72 : j < 76
  · exact LawU.of_blk b_111_72 (by omega) (by omega)
  by_cases h76 : j < 80
  · exact LawU.of_blk b_111_76 (by omega) (by omega)
  by_cases h80 : j < 84
  · exact LawU.of_blk b_111_80 (by omega) (by omega)
  by_cases h84 : j < 88
  · exact LawU.of_blk b_111_84 (by omega) (by omega)
  by_cases h88 : j < 92
  · exact LawU.of_blk b_111_88 (by omega) (by omega)
  by_cases h92 : j < 96
  · exact LawU.of_blk b_111_92 (by omega) (by omega)
  by_cases h96 : j < 100
  · exact LawU.of_blk b_111_96 (by omega) (by omega)
  by_cases h100 : j < 104
  · exact LawU.of_blk b_111_100 (by omega) (by omega)
  by_cases h104 : j < 108
  · exact LawU.of_blk b_111_104 (by omega) (by omega)
  by_cases h108 : j < 112
  · exact LawU.of_blk b_111_108 (by omega) (by omega)
  by_cases h112 : j < 116
  · exact LawU.of_blk b_111_112 (by omega) (by omega)
  by_cases h116 : j < 120
  · exact LawU.of_blk b_111_116 (by omega) (by omega)
  by_cases h120 : j < 124
  · exact LawU.of_blk b_111_120 (by omega) (by omega)
  by_cases h124 : j < 128
  · exact LawU.of_blk b_111_124 (by omega) (by omega)
  by_cases h128 : j < 132
  · exact LawU.of_blk b_111_128 (by omega) (by omega)
  by_cases h132 : j < 136
  · exact LawU.of_blk b_111_132 (by omega) (by omega)
  by_cases h136 : j < 140
  · exact LawU.of_blk b_111_136 (by omega) (by omega)
  by_cases h140 : j < 144
  · exact LawU.of_blk b_111_140 (by omega) (by omega)
  by_cases h144 : j < 148
  · exact LawU.of_blk b_111_144 (by omega) (by omega)
  by_cases h148 : j < 152
  · exact LawU.of_blk b_111_148 (by omega) (by omega)
  by_cases h152 : j < 156
  · exact LawU.of_blk b_111_152 (by omega) (by omega)
  by_cases h156 : j < 160
  · exact LawU.of_blk b_111_156 (by omega) (by omega)
  by_cases h160 : j < 164
  · exact LawU.of_blk b_111_160 (by omega) (by omega)
  by_cases h164 : j < 168
  · exact LawU.of_blk b_111_164 (by omega) (by omega)
  by_cases h168 : j < 172
  · exact LawU.of_blk b_111_168 (by omega) (by omega)
  by_cases h172 : j < 176
  · exact LawU.of_blk b_111_172 (by omega) (by omega)
  by_cases h176 : j < 180
  · exact LawU.of_blk b_111_176 (by omega) (by omega)
  by_cases h180 : j < 184
  · exact LawU.of_blk b_111_180 (by omega) (by omega)
  by_cases h184 : j < 188
  · exact LawU.of_blk b_111_184 (by omega) (by omega)
  by_cases h188 : j < 192
  · exact LawU.of_blk b_111_188 (by omega) (by omega)
  by_cases h192 : j < 196
  · exact LawU.of_blk b_111_192 (by omega) (by omega)
  by_cases h196 : j < 200
  · exact LawU.of_blk b_111_196 (by omega) (by omega)
  by_cases h200 : j < 204
  · exact LawU.of_blk b_111_200 (by omega) (by omega)
  by_cases h204 : j < 208
  · exact LawU.of_blk b_111_204 (by omega) (by omega)
  by_cases h208 : j < 212
  · exact LawU.of_blk b_111_208 (by omega) (by omega)
  by_cases h212 : j < 216
  · exact LawU.of_blk b_111_212 (by omega) (by omega)
  by_cases h216 : j < 220
  · exact LawU.of_blk b_111_216 (by omega) (by omega)
  by_cases h220 : j < 224
  · exact LawU.of_blk b_111_220 (by omega) (by omega)
  by_cases h224 : j < 228
  · exact LawU.of_blk b_111_224 (by omega) (by omega)
  by_cases h228 : j < 232
  · exact LawU.of_blk b_111_228 (by omega) (by omega)
  by_cases h232 : j < 236
  · exact LawU.of_blk b_111_232 (by omega) (by omega)
  by_cases h236 : j < 240
  · exact LawU.of_blk b_111_236 (by omega) (by omega)
  by_cases h240 : j < 244
  · exact LawU.of_blk b_111_240 (by omega) (by omega)
  by_cases h244 : j < 248
  · exact LawU.of_blk b_111_244 (by omega) (by omega)
  by_cases h248 : j < 252
  · exact LawU.of_blk b_111_248 (by omega) (by omega)
  by_cases h252 : j < 256
  · exact LawU.of_blk b_111_252 (by omega) (by omega)
  by_cases h256 : j < 260
  · exact LawU.of_blk b_111_256 (by omega) (by omega)
  exact LawU.of_blk b_111_260 (by omega) (by omega)

theorem cases (es : List Nat) (hl : es.length = law.bds.length) (hx : ∀ x, x ∈ es → x ≤ 1) : law.at Try.prog ids Summs.tab 60 es = true := by
  have hl : es.length = 3 := hl
  match es, hl, hx with
  | [e0, e1, e2], _, hx =>
    have he0 : e0 = 0 ∨ e0 = 1 := by have := hx e0 (by simp); omega
    have he1 : e1 = 0 ∨ e1 = 1 := by have := hx e1 (by simp); omega
    have he2 : e2 = 0 ∨ e2 = 1 := by have := hx e2 (by simp); omega
    clear hx
    rcases he0 with rfl | rfl
    · rcases he1 with rfl | rfl
      · rcases he2 with rfl | rfl
        · exact at_000
        · exact at_001
      · rcases he2 with rfl | rfl
        · exact at_010
        · exact at_011
    · rcases he1 with rfl | rfl
      · rcases he2 with rfl | rfl
        · exact at_100
        · exact at_101
      · rcases he2 with rfl | rfl
        · exact at_110
        · exact at_111
theorem own : ownKnob Try.prog.godebug = none := by kernel_rfl
theorem laidOut : laidOutB Try.prog = true := by kernel_rfl

theorem walk {v1 v0g v0f : Value} (z1 z0g z0f : List Int)  (w : World) (h_z1 : IsList w z1 v1 ∧ z1.length ≤ 9223372036854775807) (h_z0g : IsList w z0g v0g ∧ z0g.length ≤ 9223372036854775807) (h_z0f : IsList w z0f v0f ∧ z0f.length ≤ 9223372036854775807) :
    LawTrue Try.prog 6 #[.agg #[v0g, v0f], v1] w := by
  have hwf : ∀ ls, ls ∈ [z1, z0g, z0f] → (∀ z, z ∈ ls → IntKind.i64.wrap z = z) ∧ ls.length ≤ 9223372036854775807 := by
    intro ls hls
    simp only [List.mem_cons, List.not_mem_nil, or_false] at hls
    rcases hls with rfl | rfl | rfl
    · exact ⟨h_z1.1.1, h_z1.2⟩
    · exact ⟨h_z0g.1.1, h_z0g.2⟩
    · exact ⟨h_z0f.1.1, h_z0f.2⟩
  refine LawU.ok (l := law) (D := ids) (t := Summs.tab) (N := 60) (Ls := [z1, z0g, z0f]) (lv := [v1, v0g, v0f]) (I := []) noCount mixed ids_ok Summs.tab_ok huge cases (by decide) ?_ rfl hwf rfl ?_ ?_ ?_ ?_
  · exact ⟨h_z1.1, h_z0g.1, h_z0f.1, trivial⟩
  · intro z hz; cases hz
  · intro ρ s ll xi h1 h2
    obtain ⟨x0, r0, rfl, q0, h1⟩ := h1.uncons
    obtain ⟨x1, r1, rfl, q1, h1⟩ := h1.uncons
    obtain ⟨x2, r2, rfl, q2, h1⟩ := h1.uncons
    obtain rfl := h1.unnil
    simp only [law, List.cons_append, List.nil_append]
    exact (.cons (VRs.agg (.cons q1 (.cons q2 .nil))) (.cons q0 h2))
  · intro ρ ys hx hp
    exact sizeT_ok (fun l hl => (hwf l hl).2) ρ ys hx hp
  · intro ρ ys zs h
    exact sizeT_cg ρ ys zs h

set_option maxRecDepth 100000 in
theorem lifted (os : Os) (started : os.Started) (H : Type) (enc : TypeId × Value → H) :
    ReturnsInHanded {} Try.checked os 6 .any (Rows.fnExactTransformBySpec.pre6 enc Try.prog Try.f6 Rows.fnExactTransformByRow.domain false) (Rows.fnExactTransformBySpec.post enc Try.prog Try.f6 false true false false) := by
  refine returnsInHanded_of_change (C := Try.checked) own started (by kernel_rfl) Try.func6
    (ChangeSpec.witness6 (enc := enc) (C := Try.checked) false ⟨#[], #[.agg #[.slice none 0 0, .slice none 0 0], .slice none 0 0], []⟩ 8 (by kernel_rfl) (by kernel_rfl) (by kernel_rfl) (by kernel_rfl)) ?_
  intro W base args ds gs before hval0 hW hcnd _
  have hval : ∀ (j : Nat) t v, Try.f6.params[j]? = some t → args[j]? = some v → Value.okWide Try.prog W .any base t v := hval0
  have hW' := hW
  obtain ⟨p, q, hA0, hV, rfl, hfz, hnd⟩ := hW
  have hA : DataW.TrodAll enc Try.prog W 0 (fun _ => true) true Try.f6.params.toList args.toList ds p := hA0
  rw [Try.params6] at hA hval
  obtain ⟨v0, vs0, d0, ds0, p0, q0, hargs0, rfl, rfl, g0, r0⟩ := trodAll_cons hA
  obtain ⟨v1, vs1, d1, ds1, p1, q1, hargs1, rfl, rfl, g1, r1⟩ := trodAll_cons r0
  obtain ⟨rfl, rfl, rfl⟩ := trodAll_nil r1
  obtain rfl : args = #[v0, v1] := by cases args; simp_all
  obtain ⟨rfl, rfl⟩ := trodVars_none hV
  have k0 := g0
  have lt0 := trod_lt_block k0
  obtain ⟨v0g, v0f, z0g, z0f, rfl, h_z0g, h_z0f⟩ := open_pair Try.underlying41 (by kernel_rfl) (by kernel_rfl) (by kernel_rfl) rfl rfl Try.underlying23 Try.underlying3 (by kernel_rfl) (hval 0 41 v0 rfl rfl) g0
  have k1 := g1
  have lt1 := trod_lt_block k1
  obtain ⟨z1, h_z1⟩ := open_list2 Try.underlying23 Try.underlying3 (by kernel_rfl) (hval 1 23 v1 rfl rfl) g1
  clear hA0 hval0
  refine (walk z1 z0g z0f  W h_z1 h_z0g h_z0f).mono fun e W' ⟨he, bel, hz⟩ => ?_
  subst he
  exact ⟨_, rfl, _, _, _, [], _, [], hW', trodAll_mk1 (shut_bool Try.underlying4 _), (trodAll_cons_mk (Below.trod laidOut (by kernel_rfl) (of_decide_eq_true (by kernel_rfl)) k0 bel lt0) (trodAll_cons_mk (Below.trod laidOut (by kernel_rfl) (of_decide_eq_true (by kernel_rfl)) k1 bel lt1) trodAll_mk0)), rfl, bel.frame _, fun h => by cases h⟩

theorem proved : Rows.FnExactTransformBySaid :=
  OpenClaim.holds_of_wide 6 Try.f6 rfl rfl rfl rfl rfl rfl rfl ⟨rfl, rfl, rfl, rfl, rfl⟩ rfl rfl rfl rfl rfl (by kernel_rfl) Try.func6 (by kernel_rfl)
    (of_decide_eq_true (by kernel_rfl)) (by unfold Func.isWrapper; first | (rw [if_pos (by decide +kernel)]; kernel_rfl) | (rw [if_neg (by decide +kernel)]; exact ⟨rfl, rfl⟩))
    (fun os started H enc _ => lifted os started H enc)
#print axioms proved

end Go.Proofs.Ytjodjcmdlbhciaa.ETransformBy

/-
  A part of the proof of FnExactIsMirror: cases of its law, each a run. No condition.
-/
import Derived.Test.YtjodjcmdlbhciaaEIsMirrorB0
import Derived.Test.YtjodjcmdlbhciaaEIsMirrorB1
import Derived.Test.YtjodjcmdlbhciaaEIsMirrorB2
import Derived.Test.YtjodjcmdlbhciaaEIsMirrorB3
import Derived.WalkKit
import Derived.ProofKit
import Derived.OpenShut
namespace Go.Proofs.Ytjodjcmdlbhciaa.EIsMirror
open Go.ChangeShapes Go.WideShapes Go.ChangeAt Go.RowKit Go.Sx Go.Proofs.Ytjodjcmdlbhciaa.Ids
set_option linter.unusedVariables false
set_option linter.unusedSimpArgs false

theorem cnt_00 : (law.tree [0, 0]).count = 1 := by kernel_rfl
theorem at_00 : law.at Try.prog ids Summs.tab 60 [0, 0] = true := by
  refine LawU.at_of (fun j hj => ?_)
  rw [cnt_00] at hj
  exact LawU.of_blk b_00_0 (by omega) (by omega)
theorem cnt_01 : (law.tree [0, 1]).count = 1 := by kernel_rfl
theorem at_01 : law.at Try.prog ids Summs.tab 60 [0, 1] = true := by
  refine LawU.at_of (fun j hj => ?_)
  rw [cnt_01] at hj
  exact LawU.of_blk b_01_0 (by omega) (by omega)
theorem cnt_10 : (law.tree [1, 0]).count = 2 := by kernel_rfl
theorem at_10 : law.at Try.prog ids Summs.tab 60 [1, 0] = true := by
  refine LawU.at_of (fun j hj => ?_)
  rw [cnt_10] at hj
  exact LawU.of_blk b_10_0 (by omega) (by omega)
theorem cnt_11 : (law.tree [1, 1]).count = 439 := by kernel_rfl
theorem at_11 : law.at Try.prog ids Summs.tab 60 [1, 1] = true := by
  refine LawU.at_of (fun j hj => ?_)
  rw [cnt_11] at hj
  by_cases h0 : j < 4
  · exact LawU.of_blk b_11_0 (by omega) (by omega)
  by_cases h4 : j < 8
  · exact LawU.of_blk b_11_4 (by omega) (by omega)
  by_cases h8 : j < 12
  · exact LawU.of_blk b_11_8 (by omega) (by omega)
  by_cases h12 : j < 16
  · exact LawU.of_blk b_11_12 (by omega) (by omega)
  by_cases h16 : j < 20
  · exact LawU.of_blk b_11_16 (by omega) (by omega)
  by_cases h20 : j < 24
  · exact LawU.of_blk b_11_20 (by omega) (by omega)
  by_cases h24 : j < 28
  · exact LawU.of_blk b_11_24 (by omega) (by omega)
  by_cases h28 : j < 32
  · exact LawU.of_blk b_11_28 (by omega) (by omega)
  by_cases h32 : j < 36
  · exact LawU.of_blk b_11_32 (by omega) (by omega)
  by_cases h36 : j < 40
  · exact LawU.of_blk b_11_36 (by omega) (by omega)
  by_cases h40 : j < 44
  · exact LawU.of_blk b_11_40 (by omega) (by omega)
  by_cases h44 : j < 48
  · exact LawU.of_blk b_11_44 (by omega) (by omega)
  by_cases h48 : j < 52
  · exact LawU.of_blk b_11_48 (by omega) (by omega)
  by_cases h52 : j < 56
  · exact LawU.of_blk b_11_52 (by omega) (by omega)
  by_cases h56 : j < 60
  · exact LawU.of_blk b_11_56 (by omega) (by omega)
  by_cases h60 : j < 64
  · exact LawU.of_blk b_11_60 (by omega) (by omega)
  by_cases h64 : j < 68
  · exact LawU.of_blk b_11_64 (by omega) (by omega)
  by_cases h68 : j < 72
  · exact LawU.of_blk b_11_68 (by omega) (by omega)
  by_cases h72 : j < 76
  · exact LawU.of_blk b_11_72 (by omega) (by omega)
  by_cases h76 : j < 80
  · exact LawU.of_blk b_11_76 (by omega) (by omega)
  by_cases h80 : j < 84
  · exact LawU.of_blk b_11_80 (by omega) (by omega)
  by_cases h84 : j < 88
  · exact LawU.of_blk b_11_84 (by omega) (by omega)
  by_cases h88 : j < 92
  · exact LawU.of_blk b_11_88 (by omega) (by omega)
  by_cases h92 : j < 96
  · exact LawU.of_blk b_11_92 (by omega) (by omega)
  by_cases h96 : j < 100
  · exact LawU.of_blk b_11_96 (by omega) (by omega)
  by_cases h100 : j < 104
  · exact LawU.of_blk b_11_100 (by omega) (by omega)
  by_cases h104 : j < 108
  · exact LawU.of_blk b_11_104 (by omega) (by omega)
  by_cases h108 : j < 112
  · exact LawU.of_blk b_11_108 (by omega) (by omega)
  by_cases h112 : j < 116
  · exact LawU.of_blk b_11_112 (by omega) (by omega)
  by_cases h116 : j < 120
  · exact LawU.of_blk b_11_116 (by omega) (by omega)
  by_cases h120 : j < 124
  · exact LawU.of_blk b_11_120 (by omega) (by omega)
  by_cases h124 : j < 128
  · exact LawU.of_blk b_11_124 (by omega) (by omega)
  by_cases h128 : j < 132
  · exact LawU.of_blk b_11_128 (by omega) (by omega)
  by_cases h132 : j < 136
  · exact LawU.of_blk b_11_132 (by omega) (by omega)
  by_cases h136 : j < 140
  · exact LawU.of_blk b_11_136 (by omega) (by omega)
  by_cases h140 : j < 144
  · exact LawU.of_blk b_11_140 (by omega) (by omega)
  by_cases h144 : j < 148
  · exact LawU.of_blk b_11_144 (by omega) (by omega)
  by_cases h148 : j < 152
  · exact LawU.of_blk b_11_148 (by omega) (by omega)
  by_cases h152 : j < 156
  · exact LawU.of_blk b_11_152 (by omega) (by omega)
  by_cases h156 : j < 160
  · exact LawU.of_blk b_11_156 (by omega) (by omega)
  by_cases h160 : j < 164
  · exact LawU.of_blk b_11_160 (by omega) (by omega)
  by_cases h164 : j < 168
  · exact LawU.of_blk b_11_164 (by omega) (by omega)
  by_cases h168 : j < 172
  · exact LawU.of_blk b_11_168 (by omega) (by omega)
  by_cases h172 : j < 176
  · exact LawU.of_blk b_11_172 (by omega) (by omega)
  by_cases h176 : j < 180
  · exact LawU.of_blk b_11_176 (by omega) (by omega)
  by_cases h180 : j < 184
  · exact LawU.of_blk b_11_180 (by omega) (by omega)
  by_cases h184 : j < 188
  · exact LawU.of_blk b_11_184 (by omega) (by omega)
  by_cases h188 : j < 192
  · exact LawU.of_blk b_11_188 (by omega) (by omega)
  by_cases h192 : j < 196
  · exact LawU.of_blk b_11_192 (by omega) (by omega)
  by_cases h196 : j < 200
  · exact LawU.of_blk b_11_196 (by omega) (by omega)
  by_cases h200 : j < 204
  · exact LawU.of_blk b_11_200 (by omega) (by omega)
  by_cases h204 : j < 208
  · exact LawU.of_blk b_11_204 (by omega) (by omega)
  by_cases h208 : j < 212
  · exact LawU.of_blk b_11_208 (by omega) (by omega)
  by_cases h212 : j < 216
  · exact LawU.of_blk b_11_212 (by omega) (by omega)
  by_cases h216 : j < 220
  · exact LawU.of_blk b_11_216 (by omega) (by omega)
  by_cases h220 : j < 224
  · exact LawU.of_blk b_11_220 (by omega) (by omega)
  by_cases h224 : j < 228
  · exact LawU.of_blk b_11_224 (by omega) (by omega)
  by_cases h228 : j < 232
  · exact LawU.of_blk b_11_228 (by omega) (by omega)
  by_cases h232 : j < 236
  · exact LawU.of_blk b_11_232 (by omega) (by omega)
  by_cases h236 : j < 240
  · exact LawU.of_blk b_11_236 (by omega) (by omega)
  by_cases h240 : j < 244
  · exact LawU.of_blk b_11_240 (by omega) (by omega)
  by_cases h244 : j < 248
  · exact LawU.of_blk b_11_244 (by omega) (by omega)
  by_cases h248 : j < 252
  · exact LawU.of_blk b_11_248 (by omega) (by omega)
  by_cases h252 : j < 256
  · exact LawU.of_blk b_11_252 (by omega) (by omega)
  by_cases h256 : j < 260
  · exact LawU.of_blk b_11_256 (by omega) (by omega)
  by_cases h260 : j < 264
  · exact LawU.of_blk b_11_260 (by omega) (by omega)
  by_cases h264 : j < 268
  · exact LawU.of_blk b_11_264 (by omega) (by omega)
  by_cases h268 : j < 272
  · exact LawU.of_blk b_11_268 (by omega) (by omega)
  by_cases h272 : j < 276
  · exact LawU.of_blk b_11_272 (by omega) (by omega)
  by_cases h276 : j < 280
  · exact LawU.of_blk b_11_276 (by omega) (by omega)
  by_cases h280 : j < 284
  · exact LawU.of_blk b_11_280 (by omega) (by omega)
  by_cases h284 : j < 288
  · exact LawU.of_blk b_11_284 (by omega) (by omega)
  by_cases h288 : j < 292
  · exact LawU.of_blk b_11_288 (by omega) (by omega)
  by_cases h292 : j < 296
  · exact LawU.of_blk b_11_292 (by omega) (by omega)
  by_cases h296 : j < 300
  · exact LawU.of_blk b_11_296 (by omega) (by omega)
  by_cases h300 : j < 304
  · exact LawU.of_blk b_11_300 (by omega) (by omega)
  by_cases h304 : j < 308
  · exact LawU.of_blk b_11_304 (by omega) (by omega)
  by_cases h308 : j < 312
  · exact LawU.of_blk b_11_308 (by omega) (by omega)
  by_cases h312 : j < 316
  · exact LawU.of_blk b_11_312 (by omega) (by omega)
  by_cases h316 : j < 320
  · exact LawU.of_blk b_11_316 (by omega) (by omega)
  by_cases h320 : j < 324
  · exact LawU.of_blk b_11_320 (by omega) (by omega)
  by_cases h324 : j < 328
  · exact LawU.of_blk b_11_324 (by omega) (by omega)
  by_cases h328 : j < 332
  · exact LawU.of_blk b_11_328 (by omega) (by omega)
  by_cases h332 : j < 336
  · exact LawU.of_blk b_11_332 (by omega) (by omega)
  by_cases h336 : j < 340
  · exact LawU.of_blk b_11_336 (by omega) (by omega)
  by_cases h340 : j < 344
  · exact LawU.of_blk b_11_340 (by omega) (by omega)
  by_cases h344 : j < 348
  · exact LawU.of_blk b_11_344 (by omega) (by omega)
  by_cases h348 : j < 352
  · exact LawU.of_blk b_11_348 (by omega) (by omega)
  by_cases h352 : j < 356
  · exact LawU.of_blk b_11_352 (by omega) (by omega)
  by_cases h356 : j < 360
  · exact LawU.of_blk b_11_356 (by omega) (by omega)
  by_cases h360 : j < 364
  · exact LawU.of_blk b_11_360 (by omega) (by omega)
  by_cases h364 : j < 368
  · exact LawU.of_blk b_11_364 (by omega) (by omega)
  by_cases h368 : j < 372
  · exact LawU.of_blk b_11_368 (by omega) (by omega)
  by_cases h372 : j < 376
  · exact LawU.of_blk b_11_372 (by omega) (by omega)
  by_cases h376 : j < 380
  · exact LawU.of_blk b_11_376 (by omega) (by omega)
  by_cases h380 : j < 384
  · exact LawU.of_blk b_11_380 (by omega) (by omega)
  by_cases h384 : j < 388
  · exact LawU.of_blk b_11_384 (by omega) (by omega)
  by_cases h388 : j < 392
  · exact LawU.of_blk b_11_388 (by omega) (by omega)
  by_cases h392 : j < 396
  · exact LawU.of_blk b_11_392 (by omega) (by omega)
  by_cases h396 : j < 400
  · exact LawU.of_blk b_11_396 (by omega) (by omega)
  by_cases h400 : j < 404
  · exact LawU.of_blk b_11_400 (by omega) (by omega)
  by_cases h404 : j < 408
  · exact LawU.of_blk b_11_404 (by omega) (by omega)
  by_cases h408 : j < 412
  · exact LawU.of_blk b_11_408 (by omega) (by omega)
  by_cases h412 : j < 416
  · exact LawU.of_blk b_11_412 (by omega) (by omega)
  by_cases h416 : j < 420
  · exact LawU.of_blk b_11_416 (by omega) (by omega)
  by_cases h420 : j < 424
  · exact LawU.of_blk b_11_420 (by omega) (by omega)
  by_cases h424 : j < 428
  · exact LawU.of_blk b_11_424 (by omega) (by omega)
  by_cases h428 : j < 432
  · exact LawU.of_blk b_11_428 (by omega) (by omega)
  by_cases h432 : j < 436
  · exact LawU.of_blk b_11_432 (by omega) (by omega)
  exact LawU.of_blk b_11_436 (by omega) (by omega)

theorem cases (es : List Nat) (hl : es.length = law.bds.length) (hx : ∀ x, x ∈ es → x ≤ 1) : law.at Try.prog ids Summs.tab 60 es = true := by
  have hl : es.length = 2 := hl
  match es, hl, hx with
  | [e0, e1], _, hx =>
    have he0 : e0 = 0 ∨ e0 = 1 := by have := hx e0 (by simp); omega
    have he1 : e1 = 0 ∨ e1 = 1 := by have := hx e1 (by simp); omega
    clear hx
    rcases he0 with rfl | rfl
    · rcases he1 with rfl | rfl
      · exact at_00
      · exact at_01
    · rcases he1 with rfl | rfl
      · exact at_10
      · exact at_11
theorem own : ownKnob Try.prog.godebug = none := by kernel_rfl
theorem laidOut : laidOutB Try.prog = true := by kernel_rfl

theorem walk {v0g v0f : Value} (z0g z0f : List Int)  (w : World) (h_z0g : IsList w z0g v0g ∧ z0g.length ≤ 9223372036854775807) (h_z0f : IsList w z0f v0f ∧ z0f.length ≤ 9223372036854775807) :
    LawTrue Try.prog 10 #[.agg #[v0g, v0f]] w := by
  have hwf : ∀ ls, ls ∈ [z0g, z0f] → (∀ z, z ∈ ls → IntKind.i64.wrap z = z) ∧ ls.length ≤ 9223372036854775807 := by
    intro ls hls
    simp only [List.mem_cons, List.not_mem_nil, or_false] at hls
    rcases hls with rfl | rfl
    · exact ⟨h_z0g.1.1, h_z0g.2⟩
    · exact ⟨h_z0f.1.1, h_z0f.2⟩
  refine LawU.ok (l := law) (D := ids) (t := Summs.tab) (N := 60) (Ls := [z0g, z0f]) (lv := [v0g, v0f]) (I := []) noCount mixed ids_ok Summs.tab_ok huge cases (by decide) ?_ rfl hwf rfl ?_ ?_ ?_ ?_
  · exact ⟨h_z0g.1, h_z0f.1, trivial⟩
  · intro z hz; cases hz
  · intro ρ s ll xi h1 h2
    obtain ⟨x0, r0, rfl, q0, h1⟩ := h1.uncons
    obtain ⟨x1, r1, rfl, q1, h1⟩ := h1.uncons
    obtain rfl := h1.unnil
    simp only [law, List.cons_append, List.nil_append]
    exact (.cons (VRs.agg (.cons q0 (.cons q1 .nil))) h2)
  · intro ρ ys hx hp
    exact sizeT_ok (fun l hl => (hwf l hl).2) ρ ys hx hp
  · intro ρ ys zs h
    exact sizeT_cg ρ ys zs h

set_option maxRecDepth 100000 in
theorem lifted (os : Os) (started : os.Started) (H : Type) (enc : TypeId × Value → H) :
    ReturnsInHanded {} Try.checked os 10 .any (Rows.fnExactIsMirrorSpec.pre6 enc Try.prog Try.f10 Rows.fnExactIsMirrorRow.domain false) (Rows.fnExactIsMirrorSpec.post enc Try.prog Try.f10 false true false false) := by
  refine returnsInHanded_of_change (C := Try.checked) own started (by kernel_rfl) Try.func10
    (ChangeSpec.witness6 (enc := enc) (C := Try.checked) false ⟨#[], #[.agg #[.slice none 0 0, .slice none 0 0]], []⟩ 8 (by kernel_rfl) (by kernel_rfl) (by kernel_rfl) (by kernel_rfl)) ?_
  intro W base args ds gs before hval0 hW hcnd _
  have hval : ∀ (j : Nat) t v, Try.f10.params[j]? = some t → args[j]? = some v → Value.okWide Try.prog W .any base t v := hval0
  have hW' := hW
  obtain ⟨p, q, hA0, hV, rfl, hfz, hnd⟩ := hW
  have hA : DataW.TrodAll enc Try.prog W 0 (fun _ => true) true Try.f10.params.toList args.toList ds p := hA0
  rw [Try.params10] at hA hval
  obtain ⟨v0, vs0, d0, ds0, p0, q0, hargs0, rfl, rfl, g0, r0⟩ := trodAll_cons hA
  obtain ⟨rfl, rfl, rfl⟩ := trodAll_nil r0
  obtain rfl : args = #[v0] := by cases args; simp_all
  obtain ⟨rfl, rfl⟩ := trodVars_none hV
  have k0 := g0
  have lt0 := trod_lt_block k0
  obtain ⟨v0g, v0f, z0g, z0f, rfl, h_z0g, h_z0f⟩ := open_pair Try.underlying41 (by kernel_rfl) (by kernel_rfl) (by kernel_rfl) rfl rfl Try.underlying23 Try.underlying3 (by kernel_rfl) (hval 0 41 v0 rfl rfl) g0
  clear hA0 hval0
  refine (walk z0g z0f  W h_z0g h_z0f).mono fun e W' ⟨he, bel, hz⟩ => ?_
  subst he
  exact ⟨_, rfl, _, _, _, [], _, [], hW', trodAll_mk1 (shut_bool Try.underlying4 _), (trodAll_cons_mk (Below.trod laidOut (by kernel_rfl) (of_decide_eq_true (by kernel_rfl)) k0 bel lt0) trodAll_mk0), rfl, bel.frame _, fun h => by cases h⟩

theorem proved : Rows.FnExactIsMirrorSaid :=
  OpenClaim.holds_of_wide 10 Try.f10 rfl rfl rfl rfl rfl rfl rfl ⟨rfl, rfl, rfl, rfl, rfl⟩ rfl rfl rfl rfl rfl (by kernel_rfl) Try.func10 (by kernel_rfl)
    (of_decide_eq_true (by kernel_rfl)) (by unfold Func.isWrapper; first | (rw [if_pos (by decide +kernel)]; kernel_rfl) | (rw [if_neg (by decide +kernel)]; exact ⟨rfl, rfl⟩))
    (fun os started H enc _ => lifted os started H enc)
#print axioms proved

end Go.Proofs.Ytjodjcmdlbhciaa.EIsMirror

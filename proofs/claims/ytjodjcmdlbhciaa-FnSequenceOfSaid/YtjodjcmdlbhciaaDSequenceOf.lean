/-
  A part of the proof of FnSequenceOf: cases of its law, each a run. No condition.
-/
import Derived.Test.YtjodjcmdlbhciaaDSequenceOfB0
import Derived.Test.YtjodjcmdlbhciaaDSequenceOfB1
import Derived.Test.YtjodjcmdlbhciaaDSequenceOfB2
import Derived.Test.YtjodjcmdlbhciaaDSequenceOfB3
import Derived.WalkKit
import Derived.ProofKit
import Derived.OpenShut
namespace Go.Proofs.Ytjodjcmdlbhciaa.DSequenceOf
open Go.ChangeShapes Go.WideShapes Go.ChangeAt Go.RowKit Go.Sx Go.Proofs.Ytjodjcmdlbhciaa.Ids
set_option linter.unusedVariables false
set_option linter.unusedSimpArgs false

theorem cnt_00 : (law.tree [0, 0]).count = 1 := by kernel_rfl
theorem at_00 : law.at Try.prog ids Summs.tab 60 [0, 0] = true := by
  refine LawD.at_of (fun j hj => ?_)
  rw [cnt_00] at hj
  exact LawD.of_blk b_00_0 (by omega) (by omega)
theorem cnt_01 : (law.tree [0, 1]).count = 1 := by kernel_rfl
theorem at_01 : law.at Try.prog ids Summs.tab 60 [0, 1] = true := by
  refine LawD.at_of (fun j hj => ?_)
  rw [cnt_01] at hj
  exact LawD.of_blk b_01_0 (by omega) (by omega)
theorem cnt_10 : (law.tree [1, 0]).count = 2 := by kernel_rfl
theorem at_10 : law.at Try.prog ids Summs.tab 60 [1, 0] = true := by
  refine LawD.at_of (fun j hj => ?_)
  rw [cnt_10] at hj
  exact LawD.of_blk b_10_0 (by omega) (by omega)
theorem cnt_11 : (law.tree [1, 1]).count = 563 := by kernel_rfl
theorem at_11 : law.at Try.prog ids Summs.tab 60 [1, 1] = true := by
  refine LawD.at_of (fun j hj => ?_)
  rw [cnt_11] at hj
  by_cases h0 : j < 8
  · exact LawD.of_blk b_11_0 (by omega) (by omega)
  by_cases h8 : j < 16
  · exact LawD.of_blk b_11_8 (by omega) (by omega)
  by_cases h16 : j < 24
  · exact LawD.of_blk b_11_16 (by omega) (by omega)
  by_cases h24 : j < 32
  · exact LawD.of_blk b_11_24 (by omega) (by omega)
  by_cases h32 : j < 40
  · exact LawD.of_blk b_11_32 (by omega) (by omega)
  by_cases h40 : j < 48
  · exact LawD.of_blk b_11_40 (by omega) (by omega)
  by_cases h48 : j < 56
  · exact LawD.of_blk b_11_48 (by omega) (by omega)
  by_cases h56 : j < 64
  · exact LawD.of_blk b_11_56 (by omega) (by omega)
  by_cases h64 : j < 72
  · exact LawD.of_blk b_11_64 (by omega) (by omega)
  by_cases h72 : j < 80
  · exact LawD.of_blk b_11_72 (by omega) (by omega)
  by_cases h80 : j < 88
  · exact LawD.of_blk b_11_80 (by omega) (by omega)
  by_cases h88 : j < 96
  · exact LawD.of_blk b_11_88 (by omega) (by omega)
  by_cases h96 : j < 104
  · exact LawD.of_blk b_11_96 (by omega) (by omega)
  by_cases h104 : j < 112
  · exact LawD.of_blk b_11_104 (by omega) (by omega)
  by_cases h112 : j < 120
  · exact LawD.of_blk b_11_112 (by omega) (by omega)
  by_cases h120 : j < 128
  · exact LawD.of_blk b_11_120 (by omega) (by omega)
  by_cases h128 : j < 136
  · exact LawD.of_blk b_11_128 (by omega) (by omega)
  by_cases h136 : j < 144
  · exact LawD.of_blk b_11_136 (by omega) (by omega)
  by_cases h144 : j < 152
  · exact LawD.of_blk b_11_144 (by omega) (by omega)
  by_cases h152 : j < 160
  · exact LawD.of_blk b_11_152 (by omega) (by omega)
  by_cases h160 : j < 168
  · exact LawD.of_blk b_11_160 (by omega) (by omega)
  by_cases h168 : j < 176
  · exact LawD.of_blk b_11_168 (by omega) (by omega)
  by_cases h176 : j < 184
  · exact LawD.of_blk b_11_176 (by omega) (by omega)
  by_cases h184 : j < 192
  · exact LawD.of_blk b_11_184 (by omega) (by omega)
  by_cases h192 : j < 200
  · exact LawD.of_blk b_11_192 (by omega) (by omega)
  by_cases h200 : j < 208
  · exact LawD.of_blk b_11_200 (by omega) (by omega)
  by_cases h208 : j < 216
  · exact LawD.of_blk b_11_208 (by omega) (by omega)
  by_cases h216 : j < 224
  · exact LawD.of_blk b_11_216 (by omega) (by omega)
  by_cases h224 : j < 232
  · exact LawD.of_blk b_11_224 (by omega) (by omega)
  by_cases h232 : j < 240
  · exact LawD.of_blk b_11_232 (by omega) (by omega)
  by_cases h240 : j < 248
  · exact LawD.of_blk b_11_240 (by omega) (by omega)
  by_cases h248 : j < 256
  · exact LawD.of_blk b_11_248 (by omega) (by omega)
  by_cases h256 : j < 264
  · exact LawD.of_blk b_11_256 (by omega) (by omega)
  by_cases h264 : j < 272
  · exact LawD.of_blk b_11_264 (by omega) (by omega)
  by_cases h272 : j < 280
  · exact LawD.of_blk b_11_272 (by omega) (by omega)
  by_cases h280 : j < 288
  · exact LawD.of_blk b_11_280 (by omega) (by omega)
  by_cases h288 : j < 296
  · exact LawD.of_blk b_11_288 (by omega) (by omega)
  by_cases h296 : j < 304
  · exact LawD.of_blk b_11_296 (by omega) (by omega)
  by_cases h304 : j < 312
  · exact LawD.of_blk b_11_304 (by omega) (by omega)
  by_cases h312 : j < 320
  · exact LawD.of_blk b_11_312 (by omega) (by omega)
  by_cases h320 : j < 328
  · exact LawD.of_blk b_11_320 (by omega) (by omega)
  by_cases h328 : j < 336
  · exact LawD.of_blk b_11_328 (by omega) (by omega)
  by_cases h336 : j < 344
  · exact LawD.of_blk b_11_336 (by omega) (by omega)
  by_cases h344 : j < 352
  · exact LawD.of_blk b_11_344 (by omega) (by omega)
  by_cases h352 : j < 360
  · exact LawD.of_blk b_11_352 (by omega) (by omega)
  by_cases h360 : j < 368
  · exact LawD.of_blk b_11_360 (by omega) (by omega)
  by_cases h368 : j < 376
  · exact LawD.of_blk b_11_368 (by omega) (by omega)
  by_cases h376 : j < 384
  · exact LawD.of_blk b_11_376 (by omega) (by omega)
  by_cases h384 : j < 392
  · exact LawD.of_blk b_11_384 (by omega) (by omega)
  by_cases h392 : j < 400
  · exact LawD.of_blk b_11_392 (by omega) (by omega)
  by_cases h400 : j < 408
  · exact LawD.of_blk b_11_400 (by omega) (by omega)
  by_cases h408 : j < 416
  · exact LawD.of_blk b_11_408 (by omega) (by omega)
  by_cases h416 : j < 424
  · exact LawD.of_blk b_11_416 (by omega) (by omega)
  by_cases h424 : j < 432
  · exact LawD.of_blk b_11_424 (by omega) (by omega)
  by_cases h432 : j < 440
  · exact LawD.of_blk b_11_432 (by omega) (by omega)
  by_cases h440 : j < 448
  · exact LawD.of_blk b_11_440 (by omega) (by omega)
  by_cases h448 : j < 456
  · exact LawD.of_blk b_11_448 (by omega) (by omega)
  by_cases h456 : j < 464
  · exact LawD.of_blk b_11_456 (by omega) (by omega)
  by_cases h464 : j < 472
  · exact LawD.of_blk b_11_464 (by omega) (by omega)
  by_cases h472 : j < 480
  · exact LawD.of_blk b_11_472 (by omega) (by omega)
  by_cases h480 : j < 488
  · exact LawD.of_blk b_11_480 (by omega) (by omega)
  by_cases h488 : j < 496
  · exact LawD.of_blk b_11_488 (by omega) (by omega)
  by_cases h496 : j < 504
  · exact LawD.of_blk b_11_496 (by omega) (by omega)
  by_cases h504 : j < 512
  · exact LawD.of_blk b_11_504 (by omega) (by omega)
  by_cases h512 : j < 520
  · exact LawD.of_blk b_11_512 (by omega) (by omega)
  by_cases h520 : j < 528
  · exact LawD.of_blk b_11_520 (by omega) (by omega)
  by_cases h528 : j < 536
  · exact LawD.of_blk b_11_528 (by omega) (by omega)
  by_cases h536 : j < 544
  · exact LawD.of_blk b_11_536 (by omega) (by omega)
  by_cases h544 : j < 552
  · exact LawD.of_blk b_11_544 (by omega) (by omega)
  by_cases h552 : j < 560
  · exact LawD.of_blk b_11_552 (by omega) (by omega)
  exact LawD.of_blk b_11_560 (by omega) (by omega)

theorem cases (es : List Nat) (hl : es.length = law.bds.length) (hx : ∀ x, x ∈ es → x ≤ 1) : law.at Try.prog ids Summs.tab 60 es = true := by
  have hl : es.length = 2 := hl
  match es, hl, hx with
  | [e0, e1], _, hx =>
    have he0 : e0 = 0 ∨ e0 = 1 := by have := hx e0 (by simp); omega
    have he1 : e1 = 0 ∨ e1 = 1 := by have := hx e1 (by simp); omega
    clear hx
    rcases he0 with rfl | rfl
    · rcases he1 with rfl | rfl
      · exact at_00
      · exact at_01
    · rcases he1 with rfl | rfl
      · exact at_10
      · exact at_11
theorem own : ownKnob Try.prog.godebug = none := by kernel_rfl
theorem laidOut : laidOutB Try.prog = true := by kernel_rfl

theorem drawn (bs : List Int) (hbs : ∀ b, b ∈ bs → 0 ≤ b ∧ b < 256) : ∃ Ls I, Drawn Try.prog law.dk law.outs bs Ls I ∧ Ls.length = law.bds.length ∧ I.length = law.m ∧ (∀ ls, ls ∈ Ls → (∀ z, z ∈ ls → IntKind.i64.wrap z = z) ∧ ls.length ≤ 1048576) ∧ ∀ z, z ∈ I → IntKind.i64.wrap z = z := by
  exact drawn_p Draw.K0_ok (Draw.drawSequenceOf bs hbs 0)

theorem walk {v0 : Value} (bs : List Int) (w : World) (h : IsBytes w bs v0 ∧ bs.length ≤ 9223372036854775807) : LawTrue Try.prog 3 #[v0] w :=
  LawD.ok (l := law) (D := ids) (t := Summs.tab) (N := 60) noCount mixed ids_ok Summs.tab_ok huge cases (by decide) ⟨_, Try.func15, rfl⟩ drawn h.1 h.2

set_option maxRecDepth 100000 in
theorem lifted (os : Os) (started : os.Started) (H : Type) (enc : TypeId × Value → H) :
    ReturnsInHanded {} Try.checked os 3 .any (Rows.fnSequenceOfSpec.pre6 enc Try.prog Try.f3 Rows.fnSequenceOfRow.domain false) (Rows.fnSequenceOfSpec.post enc Try.prog Try.f3 false true false false) := by
  refine returnsInHanded_of_change (C := Try.checked) own started (by kernel_rfl) Try.func3
    (ChangeSpec.witness6 (enc := enc) (C := Try.checked) false ⟨#[], #[.slice none 0 0], []⟩ 8 (by kernel_rfl) (by kernel_rfl) (by kernel_rfl) (by kernel_rfl)) ?_
  intro W base args ds gs before hval0 hW hcnd _
  have hval : ∀ (j : Nat) t v, Try.f3.params[j]? = some t → args[j]? = some v → Value.okWide Try.prog W .any base t v := hval0
  have hW' := hW
  obtain ⟨p, q, hA0, hV, rfl, hfz, hnd⟩ := hW
  have hA : DataW.TrodAll enc Try.prog W 0 (fun _ => true) true Try.f3.params.toList args.toList ds p := hA0
  rw [Try.params3] at hA hval
  obtain ⟨v0, vs0, d0, ds0, p0, q0, hargs0, rfl, rfl, g0, r0⟩ := trodAll_cons hA
  obtain ⟨rfl, rfl, rfl⟩ := trodAll_nil r0
  obtain rfl : args = #[v0] := by cases args; simp_all
  obtain ⟨rfl, rfl⟩ := trodVars_none hV
  have k0 := g0
  have lt0 := trod_lt_block k0
  obtain ⟨z0, h_z0⟩ := open_bytes Try.underlying22 Try.underlying5 (by kernel_rfl) (hval 0 22 v0 rfl rfl) g0
  clear hA0 hval0
  refine (walk z0 W h_z0).mono fun e W' ⟨he, bel, hz⟩ => ?_
  subst he
  exact ⟨_, rfl, _, _, _, [], _, [], hW', trodAll_mk1 (shut_bool Try.underlying4 _), (trodAll_cons_mk (Below.trod laidOut (by kernel_rfl) (of_decide_eq_true (by kernel_rfl)) k0 bel lt0) trodAll_mk0), rfl, bel.frame _, fun h => by cases h⟩

theorem proved : Rows.FnSequenceOfSaid :=
  OpenClaim.holds_of_wide 3 Try.f3 rfl rfl rfl rfl rfl rfl rfl ⟨rfl, rfl, rfl, rfl, rfl⟩ rfl rfl rfl rfl rfl (by kernel_rfl) Try.func3 (by kernel_rfl)
    (of_decide_eq_true (by kernel_rfl)) (by unfold Func.isWrapper; first | (rw [if_pos (by decide +kernel)]; kernel_rfl) | (rw [if_neg (by decide +kernel)]; exact ⟨rfl, rfl⟩))
    (fun os started H enc _ => lifted os started H enc)
#print axioms proved

end Go.Proofs.Ytjodjcmdlbhciaa.DSequenceOf

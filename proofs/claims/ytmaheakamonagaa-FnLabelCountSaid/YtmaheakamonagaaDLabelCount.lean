/-
  A part of the proof of FnLabelCount: cases of its law, each a run. No condition.
-/
import Derived.Test.YtmaheakamonagaaDLabelCountB0
import Derived.Test.YtmaheakamonagaaDLabelCountB1
import Derived.Test.YtmaheakamonagaaDLabelCountB2
import Derived.Test.YtmaheakamonagaaDLabelCountB3
import Derived.WalkKit
import Derived.ProofKit
import Derived.OpenShut
namespace Go.Proofs.Ytmaheakamonagaa.DLabelCount
open Go.ChangeShapes Go.WideShapes Go.ChangeAt Go.RowKit Go.Sx Go.Proofs.Ytmaheakamonagaa.Ids
set_option linter.unusedVariables false
set_option linter.unusedSimpArgs false

theorem cnt_00 : (law.tree [0, 0]).count = 1 := by kernel_rfl
theorem at_00 : law.at Try.prog ids Summs.tab 200 [0, 0] = true := by
  refine LawD.at_of (fun j hj => ?_)
  rw [cnt_00] at hj
  exact LawD.of_blk b_00_0 (by omega) (by omega)
theorem cnt_01 : (law.tree [0, 1]).count = 1 := by kernel_rfl
theorem at_01 : law.at Try.prog ids Summs.tab 200 [0, 1] = true := by
  refine LawD.at_of (fun j hj => ?_)
  rw [cnt_01] at hj
  exact LawD.of_blk b_01_0 (by omega) (by omega)
theorem cnt_10 : (law.tree [1, 0]).count = 7 := by kernel_rfl
theorem at_10 : law.at Try.prog ids Summs.tab 200 [1, 0] = true := by
  refine LawD.at_of (fun j hj => ?_)
  rw [cnt_10] at hj
  by_cases h0 : j < 6
  · exact LawD.of_blk b_10_0 (by omega) (by omega)
  exact LawD.of_blk b_10_6 (by omega) (by omega)
theorem cnt_11 : (law.tree [1, 1]).count = 703 := by kernel_rfl
theorem at_11 : law.at Try.prog ids Summs.tab 200 [1, 1] = true := by
  refine LawD.at_of (fun j hj => ?_)
  rw [cnt_11] at hj
  by_cases h0 : j < 6
  · exact LawD.of_blk b_11_0 (by omega) (by omega)
  by_cases h6 : j < 12
  · exact LawD.of_blk b_11_6 (by omega) (by omega)
  by_cases h12 : j < 18
  · exact LawD.of_blk b_11_12 (by omega) (by omega)
  by_cases h18 : j < 24
  · exact LawD.of_blk b_11_18 (by omega) (by omega)
  by_cases h24 : j < 30
  · exact LawD.of_blk b_11_24 (by omega) (by omega)
  by_cases h30 : j < 36
  · exact LawD.of_blk b_11_30 (by omega) (by omega)
  by_cases h36 : j < 42
  · exact LawD.of_blk b_11_36 (by omega) (by omega)
  by_cases h42 : j < 48
  · exact LawD.of_blk b_11_42 (by omega) (by omega)
  by_cases h48 : j < 54
  · exact LawD.of_blk b_11_48 (by omega) (by omega)
  by_cases h54 : j < 60
  · exact LawD.of_blk b_11_54 (by omega) (by omega)
  by_cases h60 : j < 66
  · exact LawD.of_blk b_11_60 (by omega) (by omega)
  by_cases h66 : j < 72
  · exact LawD.of_blk b_11_66 (by omega) (by omega)
  by_cases h72 : j < 78
  · exact LawD.of_blk b_11_72 (by omega) (by omega)
  by_cases h78 : j < 84
  · exact LawD.of_blk b_11_78 (by omega) (by omega)
  by_cases h84 : j < 90
  · exact LawD.of_blk b_11_84 (by omega) (by omega)
  by_cases h90 : j < 96
  · exact LawD.of_blk b_11_90 (by omega) (by omega)
  by_cases h96 : j < 102
  · exact LawD.of_blk b_11_96 (by omega) (by omega)
  by_cases h102 : j < 108
  · exact LawD.of_blk b_11_102 (by omega) (by omega)
  by_cases h108 : j < 114
  · exact LawD.of_blk b_11_108 (by omega) (by omega)
  by_cases h114 : j < 120
  · exact LawD.of_blk b_11_114 (by omega) (by omega)
  by_cases h120 : j < 126
  · exact LawD.of_blk b_11_120 (by omega) (by omega)
  by_cases h126 : j < 132
  · exact LawD.of_blk b_11_126 (by omega) (by omega)
  by_cases h132 : j < 138
  · exact LawD.of_blk b_11_132 (by omega) (by omega)
  by_cases h138 : j < 144
  · exact LawD.of_blk b_11_138 (by omega) (by omega)
  by_cases h144 : j < 150
  · exact LawD.of_blk b_11_144 (by omega) (by omega)
  by_cases h150 : j < 156
  · exact LawD.of_blk b_11_150 (by omega) (by omega)
  by_cases h156 : j < 162
  · exact LawD.of_blk b_11_156 (by omega) (by omega)
  by_cases h162 : j < 168
  · exact LawD.of_blk b_11_162 (by omega) (by omega)
  by_cases h168 : j < 174
  · exact LawD.of_blk b_11_168 (by omega) (by omega)
  by_cases h174 : j < 180
  · exact LawD.of_blk b_11_174 (by omega) (by omega)
  by_cases h180 : j < 186
  · exact LawD.of_blk b_11_180 (by omega) (by omega)
  by_cases h186 : j < 192
  · exact LawD.of_blk b_11_186 (by omega) (by omega)
  by_cases h192 : j < 198
  · exact LawD.of_blk b_11_192 (by omega) (by omega)
  by_cases h198 : j < 204
  · exact LawD.of_blk b_11_198 (by omega) (by omega)
  by_cases h204 : j < 210
  · exact LawD.of_blk b_11_204 (by omega) (by omega)
  by_cases h210 : j < 216
  · exact LawD.of_blk b_11_210 (by omega) (by omega)
  by_cases h216 : j < 222
  · exact LawD.of_blk b_11_216 (by omega) (by omega)
  by_cases h222 : j < 228
  · exact LawD.of_blk b_11_222 (by omega) (by omega)
  by_cases h228 : j < 234
  · exact LawD.of_blk b_11_228 (by omega) (by omega)
  by_cases h234 : j < 240
  · exact LawD.of_blk b_11_234 (by omega) (by omega)
  by_cases h240 : j < 246
  · exact LawD.of_blk b_11_240 (by omega) (by omega)
  by_cases h246 : j < 252
  · exact LawD.of_blk b_11_246 (by omega) (by omega)
  by_cases h252 : j < 258
  · exact LawD.of_blk b_11_252 (by omega) (by omega)
  by_cases h258 : j < 264
  · exact LawD.of_blk b_11_258 (by omega) (by omega)
  by_cases h264 : j < 270
  · exact LawD.of_blk b_11_264 (by omega) (by omega)
  by_cases h270 : j < 276
  · exact LawD.of_blk b_11_270 (by omega) (by omega)
  by_cases h276 : j < 282
  · exact LawD.of_blk b_11_276 (by omega) (by omega)
  by_cases h282 : j < 288
  · exact LawD.of_blk b_11_282 (by omega) (by omega)
  by_cases h288 : j < 294
  · exact LawD.of_blk b_11_288 (by omega) (by omega)
  by_cases h294 : j < 300
  · exact LawD.of_blk b_11_294 (by omega) (by omega)
  by_cases h300 : j < 306
  · exact LawD.of_blk b_11_300 (by omega) (by omega)
  by_cases h306 : j < 312
  · exact LawD.of_blk b_11_306 (by omega) (by omega)
  by_cases h312 : j < 318
  · exact LawD.of_blk b_11_312 (by omega) (by omega)
  by_cases h318 : j < 324
  · exact LawD.of_blk b_11_318 (by omega) (by omega)
  by_cases h324 : j < 330
  · exact LawD.of_blk b_11_324 (by omega) (by omega)
  by_cases h330 : j < 336
  · exact LawD.of_blk b_11_330 (by omega) (by omega)
  by_cases h336 : j < 342
  · exact LawD.of_blk b_11_336 (by omega) (by omega)
  by_cases h342 : j < 348
  · exact LawD.of_blk b_11_342 (by omega) (by omega)
  by_cases h348 : j < 354
  · exact LawD.of_blk b_11_348 (by omega) (by omega)
  by_cases h354 : j < 360
  · exact LawD.of_blk b_11_354 (by omega) (by omega)
  by_cases h360 : j < 366
  · exact LawD.of_blk b_11_360 (by omega) (by omega)
  by_cases h366 : j < 372
  · exact LawD.of_blk b_11_366 (by omega) (by omega)
  by_cases h372 : j < 378
  · exact LawD.of_blk b_11_372 (by omega) (by omega)
  by_cases h378 : j < 384
  · exact LawD.of_blk b_11_378 (by omega) (by omega)
  by_cases h384 : j < 390
  · exact LawD.of_blk b_11_384 (by omega) (by omega)
  by_cases h390 : j < 396
  · exact LawD.of_blk b_11_390 (by omega) (by omega)
  by_cases h396 : j < 402
  · exact LawD.of_blk b_11_396 (by omega) (by omega)
  by_cases h402 : j < 408
  · exact LawD.of_blk b_11_402 (by omega) (by omega)
  by_cases h408 : j < 414
  · exact LawD.of_blk b_11_408 (by omega) (by omega)
  by_cases h414 : j < 420
  · exact LawD.of_blk b_11_414 (by omega) (by omega)
  by_cases h420 : j < 426
  · exact LawD.of_blk b_11_420 (by omega) (by omega)
  by_cases h426 : j < 432
  · exact LawD.of_blk b_11_426 (by omega) (by omega)
  by_cases h432 : j < 438
  · exact LawD.of_blk b_11_432 (by omega) (by omega)
  by_cases h438 : j < 444
  · exact LawD.of_blk b_11_438 (by omega) (by omega)
  by_cases h444 : j < 450
  · exact LawD.of_blk b_11_444 (by omega) (by omega)
  by_cases h450 : j < 456
  · exact LawD.of_blk b_11_450 (by omega) (by omega)
  by_cases h456 : j < 462
  · exact LawD.of_blk b_11_456 (by omega) (by omega)
  by_cases h462 : j < 468
  · exact LawD.of_blk b_11_462 (by omega) (by omega)
  by_cases h468 : j < 474
  · exact LawD.of_blk b_11_468 (by omega) (by omega)
  by_cases h474 : j < 480
  · exact LawD.of_blk b_11_474 (by omega) (by omega)
  by_cases h480 : j < 486
  · exact LawD.of_blk b_11_480 (by omega) (by omega)
  by_cases h486 : j < 492
  · exact LawD.of_blk b_11_486 (by omega) (by omega)
  by_cases h492 : j < 498
  · exact LawD.of_blk b_11_492 (by omega) (by omega)
  by_cases h498 : j < 504
  · exact LawD.of_blk b_11_498 (by omega) (by omega)
  by_cases h504 : j < 510
  · exact LawD.of_blk b_11_504 (by omega) (by omega)
  by_cases h510 : j < 516
  · exact LawD.of_blk b_11_510 (by omega) (by omega)
  by_cases h516 : j < 522
  · exact LawD.of_blk b_11_516 (by omega) (by omega)
  by_cases h522 : j < 528
  · exact LawD.of_blk b_11_522 (by omega) (by omega)
  by_cases h528 : j < 534
  · exact LawD.of_blk b_11_528 (by omega) (by omega)
  by_cases h534 : j < 540
  · exact LawD.of_blk b_11_534 (by omega) (by omega)
  by_cases h540 : j < 546
  · exact LawD.of_blk b_11_540 (by omega) (by omega)
  by_cases h546 : j < 552
  · exact LawD.of_blk b_11_546 (by omega) (by omega)
  by_cases h552 : j < 558
  · exact LawD.of_blk b_11_552 (by omega) (by omega)
  by_cases h558 : j < 564
  · exact LawD.of_blk b_11_558 (by omega) (by omega)
  by_cases h564 : j < 570
  · exact LawD.of_blk b_11_564 (by omega) (by omega)
  by_cases h570 : j < 576
  · exact LawD.of_blk b_11_570 (by omega) (by omega)
  by_cases h576 : j < 582
  · exact LawD.of_blk b_11_576 (by omega) (by omega)
  by_cases h582 : j < 588
  · exact LawD.of_blk b_11_582 (by omega) (by omega)
  by_cases h588 : j < 594
  · exact LawD.of_blk b_11_588 (by omega) (by omega)
  by_cases h594 : j < 600
  · exact LawD.of_blk b_11_594 (by omega) (by omega)
  by_cases h600 : j < 606
  · exact LawD.of_blk b_11_600 (by omega) (by omega)
  by_cases h606 : j < 612
  · exact LawD.of_blk b_11_606 (by omega) (by omega)
  by_cases h612 : j < 618
  · exact LawD.of_blk b_11_612 (by omega) (by omega)
  by_cases h618 : j < 624
  · exact LawD.of_blk b_11_618 (by omega) (by omega)
  by_cases h624 : j < 630
  · exact LawD.of_blk b_11_624 (by omega) (by omega)
  by_cases h630 : j < 636
  · exact LawD.of_blk b_11_630 (by omega) (by omega)
  by_cases h636 : j < 642
  · exact LawD.of_blk b_11_636 (by omega) (by omega)
  by_cases h642 : j < 648
  · exact LawD.of_blk b_11_642 (by omega) (by omega)
  by_cases h648 : j < 654
  · exact LawD.of_blk b_11_648 (by omega) (by omega)
  by_cases h654 : j < 660
  · exact LawD.of_blk b_11_654 (by omega) (by omega)
  by_cases h660 : j < 666
  · exact LawD.of_blk b_11_660 (by omega) (by omega)
  by_cases h666 : j < 672
  · exact LawD.of_blk b_11_666 (by omega) (by omega)
  by_cases h672 : j < 678
  · exact LawD.of_blk b_11_672 (by omega) (by omega)
  by_cases h678 : j < 684
  · exact LawD.of_blk b_11_678 (by omega) (by omega)
  by_cases h684 : j < 690
  · exact LawD.of_blk b_11_684 (by omega) (by omega)
  by_cases h690 : j < 696
  · exact LawD.of_blk b_11_690 (by omega) (by omega)
  by_cases h696 : j < 702
  · exact LawD.of_blk b_11_696 (by omega) (by omega)
  exact LawD.of_blk b_11_702 (by omega) (by omega)

theorem cases (es : List Nat) (hl : es.length = law.bds.length) (hx : ∀ x, x ∈ es → x ≤ 1) : law.at Try.prog ids Summs.tab 200 es = true := by
  have hl : es.length = 2 := hl
  match es, hl, hx with
  | [e0, e1], _, hx =>
    have he0 : e0 = 0 ∨ e0 = 1 := by have := hx e0 (by simp); omega
    have he1 : e1 = 0 ∨ e1 = 1 := by have := hx e1 (by simp); omega
    clear hx
    rcases he0 with rfl | rfl
    · rcases he1 with rfl | rfl
      · exact at_00
      · exact at_01
    · rcases he1 with rfl | rfl
      · exact at_10
      · exact at_11
theorem own : ownKnob Try.prog.godebug = none := by kernel_rfl
theorem laidOut : laidOutB Try.prog = true := by kernel_rfl

theorem drawn (bs : List Int) (hbs : ∀ b, b ∈ bs → 0 ≤ b ∧ b < 256) : ∃ Ls I, Drawn Try.prog law.dk law.outs bs Ls I ∧ Ls.length = law.bds.length ∧ I.length = law.m ∧ (∀ ls, ls ∈ Ls → (∀ z, z ∈ ls → IntKind.i64.wrap z = z) ∧ ls.length ≤ 1048576) ∧ ∀ z, z ∈ I → IntKind.i64.wrap z = z := by
  exact drawn_ll Draw.K0_ok (Draw.drawLabelCount bs hbs 0)

theorem walk {v0 : Value} (bs : List Int) (w : World) (h : IsBytes w bs v0 ∧ bs.length ≤ 9223372036854775807) : LawTrue Try.prog 6 #[v0] w :=
  LawD.ok (l := law) (D := ids) (t := Summs.tab) (N := 200) noCount mixed ids_ok Summs.tab_ok huge cases (by decide) ⟨_, Try.func29, rfl⟩ drawn h.1 h.2

set_option maxRecDepth 100000 in
theorem lifted (os : Os) (started : os.Started) (H : Type) (enc : TypeId × Value → H) :
    ReturnsInHanded {} Try.checked os 6 .any (Rows.fnLabelCountSpec.pre6 enc Try.prog Try.f6 Rows.fnLabelCountRow.domain false) (Rows.fnLabelCountSpec.post enc Try.prog Try.f6 false true false false) := by
  refine returnsInHanded_of_change (C := Try.checked) own started (by kernel_rfl) Try.func6
    (ChangeSpec.witness6 (enc := enc) (C := Try.checked) false ⟨#[], #[.slice none 0 0], []⟩ 8 (by kernel_rfl) (by kernel_rfl) (by kernel_rfl) (by kernel_rfl)) ?_
  intro W base args ds gs before hval0 hW hcnd _
  have hval : ∀ (j : Nat) t v, Try.f6.params[j]? = some t → args[j]? = some v → Value.okWide Try.prog W .any base t v := hval0
  have hW' := hW
  obtain ⟨p, q, hA0, hV, rfl, hfz, hnd⟩ := hW
  have hA : DataW.TrodAll enc Try.prog W 0 (fun _ => true) true Try.f6.params.toList args.toList ds p := hA0
  rw [Try.params6] at hA hval
  obtain ⟨v0, vs0, d0, ds0, p0, q0, hargs0, rfl, rfl, g0, r0⟩ := trodAll_cons hA
  obtain ⟨rfl, rfl, rfl⟩ := trodAll_nil r0
  obtain rfl : args = #[v0] := by cases args; simp_all
  obtain ⟨rfl, rfl⟩ := trodVars_none hV
  have k0 := g0
  have lt0 := trod_lt_block k0
  obtain ⟨z0, h_z0⟩ := open_bytes Try.underlying27 Try.underlying5 (by kernel_rfl) (hval 0 27 v0 rfl rfl) g0
  clear hA0 hval0
  refine (walk z0 W h_z0).mono fun e W' ⟨he, bel, hz⟩ => ?_
  subst he
  exact ⟨_, rfl, _, _, _, [], _, [], hW', trodAll_mk1 (shut_bool Try.underlying4 _), (trodAll_cons_mk (Below.trod laidOut (by kernel_rfl) (of_decide_eq_true (by kernel_rfl)) k0 bel lt0) trodAll_mk0), rfl, bel.frame _, fun h => by cases h⟩

theorem proved : Rows.FnLabelCountSaid :=
  OpenClaim.holds_of_wide 6 Try.f6 rfl rfl rfl rfl rfl rfl rfl ⟨rfl, rfl, rfl, rfl, rfl⟩ rfl rfl rfl rfl rfl (by kernel_rfl) Try.func6 (by kernel_rfl)
    (of_decide_eq_true (by kernel_rfl)) (by unfold Func.isWrapper; first | (rw [if_pos (by decide +kernel)]; kernel_rfl) | (rw [if_neg (by decide +kernel)]; exact ⟨rfl, rfl⟩))
    (fun os started H enc _ => lifted os started H enc)
#print axioms proved

end Go.Proofs.Ytmaheakamonagaa.DLabelCount

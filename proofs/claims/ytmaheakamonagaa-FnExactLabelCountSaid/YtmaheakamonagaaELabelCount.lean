/-
  A part of the proof of FnExactLabelCount: cases of its law, each a run. No condition.
-/
import Derived.Test.YtmaheakamonagaaELabelCountB0
import Derived.Test.YtmaheakamonagaaELabelCountB1
import Derived.WalkKit
import Derived.ProofKit
import Derived.OpenShut
namespace Go.Proofs.Ytmaheakamonagaa.ELabelCount
open Go.ChangeShapes Go.WideShapes Go.ChangeAt Go.RowKit Go.Sx Go.Proofs.Ytmaheakamonagaa.Ids
set_option linter.unusedVariables false
set_option linter.unusedSimpArgs false

theorem cnt_00 : (law.tree [0, 0]).count = 1 := by kernel_rfl
theorem at_00 : law.at Try.prog ids Summs.tab 200 [0, 0] = true := by
  refine LawU.at_of (fun j hj => ?_)
  rw [cnt_00] at hj
  exact LawU.of_blk b_00_0 (by omega) (by omega)
theorem cnt_01 : (law.tree [0, 1]).count = 1 := by kernel_rfl
theorem at_01 : law.at Try.prog ids Summs.tab 200 [0, 1] = true := by
  refine LawU.at_of (fun j hj => ?_)
  rw [cnt_01] at hj
  exact LawU.of_blk b_01_0 (by omega) (by omega)
theorem cnt_10 : (law.tree [1, 0]).count = 7 := by kernel_rfl
theorem at_10 : law.at Try.prog ids Summs.tab 200 [1, 0] = true := by
  refine LawU.at_of (fun j hj => ?_)
  rw [cnt_10] at hj
  by_cases h0 : j < 6
  · exact LawU.of_blk b_10_0 (by omega) (by omega)
  exact LawU.of_blk b_10_6 (by omega) (by omega)
theorem cnt_11 : (law.tree [1, 1]).count = 703 := by kernel_rfl
theorem at_11 : law.at Try.prog ids Summs.tab 200 [1, 1] = true := by
  refine LawU.at_of (fun j hj => ?_)
  rw [cnt_11] at hj
  by_cases h0 : j < 6
  · exact LawU.of_blk b_11_0 (by omega) (by omega)
  by_cases h6 : j < 12
  · exact LawU.of_blk b_11_6 (by omega) (by omega)
  by_cases h12 : j < 18
  · exact LawU.of_blk b_11_12 (by omega) (by omega)
  by_cases h18 : j < 24
  · exact LawU.of_blk b_11_18 (by omega) (by omega)
  by_cases h24 : j < 30
  · exact LawU.of_blk b_11_24 (by omega) (by omega)
  by_cases h30 : j < 36
  · exact LawU.of_blk b_11_30 (by omega) (by omega)
  by_cases h36 : j < 42
  · exact LawU.of_blk b_11_36 (by omega) (by omega)
  by_cases h42 : j < 48
  · exact LawU.of_blk b_11_42 (by omega) (by omega)
  by_cases h48 : j < 54
  · exact LawU.of_blk b_11_48 (by omega) (by omega)
  by_cases h54 : j < 60
  · exact LawU.of_blk b_11_54 (by omega) (by omega)
  by_cases h60 : j < 66
  · exact LawU.of_blk b_11_60 (by omega) (by omega)
  by_cases h66 : j < 72
  · exact LawU.of_blk b_11_66 (by omega) (by omega)
  by_cases h72 : j < 78
  · exact LawU.of_blk b_11_72 (by omega) (by omega)
  by_cases h78 : j < 84
  · exact LawU.of_blk b_11_78 (by omega) (by omega)
  by_cases h84 : j < 90
  · exact LawU.of_blk b_11_84 (by omega) (by omega)
  by_cases h90 : j < 96
  · exact LawU.of_blk b_11_90 (by omega) (by omega)
  by_cases h96 : j < 102
  · exact LawU.of_blk b_11_96 (by omega) (by omega)
  by_cases h102 : j < 108
  · exact LawU.of_blk b_11_102 (by omega) (by omega)
  by_cases h108 : j < 114
  · exact LawU.of_blk b_11_108 (by omega) (by omega)
  by_cases h114 : j < 120
  · exact LawU.of_blk b_11_114 (by omega) (by omega)
  by_cases h120 : j < 126
  · exact LawU.of_blk b_11_120 (by omega) (by omega)
  by_cases h126 : j < 132
  · exact LawU.of_blk b_11_126 (by omega) (by omega)
  by_cases h132 : j < 138
  · exact LawU.of_blk b_11_132 (by omega) (by omega)
  by_cases h138 : j < 144
  · exact LawU.of_blk b_11_138 (by omega) (by omega)
  by_cases h144 : j < 150
  · exact LawU.of_blk b_11_144 (by omega) (by omega)
  by_cases h150 : j < 156
  · exact LawU.of_blk b_11_150 (by omega) (by omega)
  by_cases h156 : j < 162
  · exact LawU.of_blk b_11_156 (by omega) (by omega)
  by_cases h162 : j < 168
  · exact LawU.of_blk b_11_162 (by omega) (by omega)
  by_cases h168 : j < 174
  · exact LawU.of_blk b_11_168 (by omega) (by omega)
  by_cases h174 : j < 180
  · exact LawU.of_blk b_11_174 (by omega) (by omega)
  by_cases h180 : j < 186
  · exact LawU.of_blk b_11_180 (by omega) (by omega)
  by_cases h186 : j < 192
  · exact LawU.of_blk b_11_186 (by omega) (by omega)
  by_cases h192 : j < 198
  · exact LawU.of_blk b_11_192 (by omega) (by omega)
  by_cases h198 : j < 204
  · exact LawU.of_blk b_11_198 (by omega) (by omega)
  by_cases h204 : j < 210
  · exact LawU.of_blk b_11_204 (by omega) (by omega)
  by_cases h210 : j < 216
  · exact LawU.of_blk b_11_210 (by omega) (by omega)
  by_cases h216 : j < 222
  · exact LawU.of_blk b_11_216 (by omega) (by omega)
  by_cases h222 : j < 228
  · exact LawU.of_blk b_11_222 (by omega) (by omega)
  by_cases h228 : j < 234
  · exact LawU.of_blk b_11_228 (by omega) (by omega)
  by_cases h234 : j < 240
  · exact LawU.of_blk b_11_234 (by omega) (by omega)
  by_cases h240 : j < 246
  · exact LawU.of_blk b_11_240 (by omega) (by omega)
  by_cases h246 : j < 252
  · exact LawU.of_blk b_11_246 (by omega) (by omega)
  by_cases h252 : j < 258
  · exact LawU.of_blk b_11_252 (by omega) (by omega)
  by_cases h258 : j < 264
  · exact LawU.of_blk b_11_258 (by omega) (by omega)
  by_cases h264 : j < 270
  · exact LawU.of_blk b_11_264 (by omega) (by omega)
  by_cases h270 : j < 276
  · exact LawU.of_blk b_11_270 (by omega) (by omega)
  by_cases h276 : j < 282
  · exact LawU.of_blk b_11_276 (by omega) (by omega)
  by_cases h282 : j < 288
  · exact LawU.of_blk b_11_282 (by omega) (by omega)
  by_cases h288 : j < 294
  · exact LawU.of_blk b_11_288 (by omega) (by omega)
  by_cases h294 : j < 300
  · exact LawU.of_blk b_11_294 (by omega) (by omega)
  by_cases h300 : j < 306
  · exact LawU.of_blk b_11_300 (by omega) (by omega)
  by_cases h306 : j < 312
  · exact LawU.of_blk b_11_306 (by omega) (by omega)
  by_cases h312 : j < 318
  · exact LawU.of_blk b_11_312 (by omega) (by omega)
  by_cases h318 : j < 324
  · exact LawU.of_blk b_11_318 (by omega) (by omega)
  by_cases h324 : j < 330
  · exact LawU.of_blk b_11_324 (by omega) (by omega)
  by_cases h330 : j < 336
  · exact LawU.of_blk b_11_330 (by omega) (by omega)
  by_cases h336 : j < 342
  · exact LawU.of_blk b_11_336 (by omega) (by omega)
  by_cases h342 : j < 348
  · exact LawU.of_blk b_11_342 (by omega) (by omega)
  by_cases h348 : j < 354
  · exact LawU.of_blk b_11_348 (by omega) (by omega)
  by_cases h354 : j < 360
  · exact LawU.of_blk b_11_354 (by omega) (by omega)
  by_cases h360 : j < 366
  · exact LawU.of_blk b_11_360 (by omega) (by omega)
  by_cases h366 : j < 372
  · exact LawU.of_blk b_11_366 (by omega) (by omega)
  by_cases h372 : j < 378
  · exact LawU.of_blk b_11_372 (by omega) (by omega)
  by_cases h378 : j < 384
  · exact LawU.of_blk b_11_378 (by omega) (by omega)
  by_cases h384 : j < 390
  · exact LawU.of_blk b_11_384 (by omega) (by omega)
  by_cases h390 : j < 396
  · exact LawU.of_blk b_11_390 (by omega) (by omega)
  by_cases h396 : j < 402
  · exact LawU.of_blk b_11_396 (by omega) (by omega)
  by_cases h402 : j < 408
  · exact LawU.of_blk b_11_402 (by omega) (by omega)
  by_cases h408 : j < 414
  · exact LawU.of_blk b_11_408 (by omega) (by omega)
  by_cases h414 : j < 420
  · exact LawU.of_blk b_11_414 (by omega) (by omega)
  by_cases h420 : j < 426
  · exact LawU.of_blk b_11_420 (by omega) (by omega)
  by_cases h426 : j < 432
  · exact LawU.of_blk b_11_426 (by omega) (by omega)
  by_cases h432 : j < 438
  · exact LawU.of_blk b_11_432 (by omega) (by omega)
  by_cases h438 : j < 444
  · exact LawU.of_blk b_11_438 (by omega) (by omega)
  by_cases h444 : j < 450
  · exact LawU.of_blk b_11_444 (by omega) (by omega)
  by_cases h450 : j < 456
  · exact LawU.of_blk b_11_450 (by omega) (by omega)
  by_cases h456 : j < 462
  · exact LawU.of_blk b_11_456 (by omega) (by omega)
  by_cases h462 : j < 468
  · exact LawU.of_blk b_11_462 (by omega) (by omega)
  by_cases h468 : j < 474
  · exact LawU.of_blk b_11_468 (by omega) (by omega)
  by_cases h474 : j < 480
  · exact LawU.of_blk b_11_474 (by omega) (by omega)
  by_cases h480 : j < 486
  · exact LawU.of_blk b_11_480 (by omega) (by omega)
  by_cases h486 : j < 492
  · exact LawU.of_blk b_11_486 (by omega) (by omega)
  by_cases h492 : j < 498
  · exact LawU.of_blk b_11_492 (by omega) (by omega)
  by_cases h498 : j < 504
  · exact LawU.of_blk b_11_498 (by omega) (by omega)
  by_cases h504 : j < 510
  · exact LawU.of_blk b_11_504 (by omega) (by omega)
  by_cases h510 : j < 516
  · exact LawU.of_blk b_11_510 (by omega) (by omega)
  by_cases h516 : j < 522
  · exact LawU.of_blk b_11_516 (by omega) (by omega)
  by_cases h522 : j < 528
  · exact LawU.of_blk b_11_522 (by omega) (by omega)
  by_cases h528 : j < 534
  · exact LawU.of_blk b_11_528 (by omega) (by omega)
  by_cases h534 : j < 540
  · exact LawU.of_blk b_11_534 (by omega) (by omega)
  by_cases h540 : j < 546
  · exact LawU.of_blk b_11_540 (by omega) (by omega)
  by_cases h546 : j < 552
  · exact LawU.of_blk b_11_546 (by omega) (by omega)
  by_cases h552 : j < 558
  · exact LawU.of_blk b_11_552 (by omega) (by omega)
  by_cases h558 : j < 564
  · exact LawU.of_blk b_11_558 (by omega) (by omega)
  by_cases h564 : j < 570
  · exact LawU.of_blk b_11_564 (by omega) (by omega)
  by_cases h570 : j < 576
  · exact LawU.of_blk b_11_570 (by omega) (by omega)
  by_cases h576 : j < 582
  · exact LawU.of_blk b_11_576 (by omega) (by omega)
  by_cases h582 : j < 588
  · exact LawU.of_blk b_11_582 (by omega) (by omega)
  by_cases h588 : j < 594
  · exact LawU.of_blk b_11_588 (by omega) (by omega)
  by_cases h594 : j < 600
  · exact LawU.of_blk b_11_594 (by omega) (by omega)
  by_cases h600 : j < 606
  · exact LawU.of_blk b_11_600 (by omega) (by omega)
  by_cases h606 : j < 612
  · exact LawU.of_blk b_11_606 (by omega) (by omega)
  by_cases h612 : j < 618
  · exact LawU.of_blk b_11_612 (by omega) (by omega)
  by_cases h618 : j < 624
  · exact LawU.of_blk b_11_618 (by omega) (by omega)
  by_cases h624 : j < 630
  · exact LawU.of_blk b_11_624 (by omega) (by omega)
  by_cases h630 : j < 636
  · exact LawU.of_blk b_11_630 (by omega) (by omega)
  by_cases h636 : j < 642
  · exact LawU.of_blk b_11_636 (by omega) (by omega)
  by_cases h642 : j < 648
  · exact LawU.of_blk b_11_642 (by omega) (by omega)
  by_cases h648 : j < 654
  · exact LawU.of_blk b_11_648 (by omega) (by omega)
  by_cases h654 : j < 660
  · exact LawU.of_blk b_11_654 (by omega) (by omega)
  by_cases h660 : j < 666
  · exact LawU.of_blk b_11_660 (by omega) (by omega)
  by_cases h666 : j < 672
  · exact LawU.of_blk b_11_666 (by omega) (by omega)
  by_cases h672 : j < 678
  · exact LawU.of_blk b_11_672 (by omega) (by omega)
  by_cases h678 : j < 684
  · exact LawU.of_blk b_11_678 (by omega) (by omega)
  by_cases h684 : j < 690
  · exact LawU.of_blk b_11_684 (by omega) (by omega)
  by_cases h690 : j < 696
  · exact LawU.of_blk b_11_690 (by omega) (by omega)
  by_cases h696 : j < 702
  · exact LawU.of_blk b_11_696 (by omega) (by omega)
  exact LawU.of_blk b_11_702 (by omega) (by omega)

theorem cases (es : List Nat) (hl : es.length = law.bds.length) (hx : ∀ x, x ∈ es → x ≤ 1) : law.at Try.prog ids Summs.tab 200 es = true := by
  have hl : es.length = 2 := hl
  match es, hl, hx with
  | [e0, e1], _, hx =>
    have he0 : e0 = 0 ∨ e0 = 1 := by have := hx e0 (by simp); omega
    have he1 : e1 = 0 ∨ e1 = 1 := by have := hx e1 (by simp); omega
    clear hx
    rcases he0 with rfl | rfl
    · rcases he1 with rfl | rfl
      · exact at_00
      · exact at_01
    · rcases he1 with rfl | rfl
      · exact at_10
      · exact at_11
theorem own : ownKnob Try.prog.godebug = none := by kernel_rfl
theorem laidOut : laidOutB Try.prog = true := by kernel_rfl

theorem walk {v0 v1 : Value} (z0 z1 : List Int)  (w : World) (h_z0 : IsList w z0 v0 ∧ z0.length ≤ 9223372036854775807) (h_z1 : IsList w z1 v1 ∧ z1.length ≤ 9223372036854775807) :
    LawTrue Try.prog 5 #[v0, v1] w := by
  have hwf : ∀ ls, ls ∈ [z0, z1] → (∀ z, z ∈ ls → IntKind.i64.wrap z = z) ∧ ls.length ≤ 9223372036854775807 := by
    intro ls hls
    simp only [List.mem_cons, List.not_mem_nil, or_false] at hls
    rcases hls with rfl | rfl
    · exact ⟨h_z0.1.1, h_z0.2⟩
    · exact ⟨h_z1.1.1, h_z1.2⟩
  refine LawU.ok (l := law) (D := ids) (t := Summs.tab) (N := 200) (Ls := [z0, z1]) (lv := [v0, v1]) (I := []) noCount mixed ids_ok Summs.tab_ok huge cases (by decide) ?_ rfl hwf rfl ?_ ?_ ?_ ?_
  · exact ⟨h_z0.1, h_z1.1, trivial⟩
  · intro z hz; cases hz
  · intro ρ s ll xi h1 h2
    obtain ⟨x0, r0, rfl, q0, h1⟩ := h1.uncons
    obtain ⟨x1, r1, rfl, q1, h1⟩ := h1.uncons
    obtain rfl := h1.unnil
    simp only [law, List.cons_append, List.nil_append]
    exact (.cons q0 (.cons q1 h2))
  · intro ρ ys hx hp
    exact sizeT_ok (fun l hl => (hwf l hl).2) ρ ys hx hp
  · intro ρ ys zs h
    exact sizeT_cg ρ ys zs h

set_option maxRecDepth 100000 in
theorem lifted (os : Os) (started : os.Started) (H : Type) (enc : TypeId × Value → H) :
    ReturnsInHanded {} Try.checked os 5 .any (Rows.fnExactLabelCountSpec.pre6 enc Try.prog Try.f5 Rows.fnExactLabelCountRow.domain false) (Rows.fnExactLabelCountSpec.post enc Try.prog Try.f5 false true false false) := by
  refine returnsInHanded_of_change (C := Try.checked) own started (by kernel_rfl) Try.func5
    (ChangeSpec.witness6 (enc := enc) (C := Try.checked) false ⟨#[], #[.slice none 0 0, .slice none 0 0], []⟩ 8 (by kernel_rfl) (by kernel_rfl) (by kernel_rfl) (by kernel_rfl)) ?_
  intro W base args ds gs before hval0 hW hcnd _
  have hval : ∀ (j : Nat) t v, Try.f5.params[j]? = some t → args[j]? = some v → Value.okWide Try.prog W .any base t v := hval0
  have hW' := hW
  obtain ⟨p, q, hA0, hV, rfl, hfz, hnd⟩ := hW
  have hA : DataW.TrodAll enc Try.prog W 0 (fun _ => true) true Try.f5.params.toList args.toList ds p := hA0
  rw [Try.params5] at hA hval
  obtain ⟨v0, vs0, d0, ds0, p0, q0, hargs0, rfl, rfl, g0, r0⟩ := trodAll_cons hA
  obtain ⟨v1, vs1, d1, ds1, p1, q1, hargs1, rfl, rfl, g1, r1⟩ := trodAll_cons r0
  obtain ⟨rfl, rfl, rfl⟩ := trodAll_nil r1
  obtain rfl : args = #[v0, v1] := by cases args; simp_all
  obtain ⟨rfl, rfl⟩ := trodVars_none hV
  have k0 := g0
  have lt0 := trod_lt_block k0
  obtain ⟨z0, h_z0⟩ := open_list2 Try.underlying22 Try.underlying3 (by kernel_rfl) (hval 0 22 v0 rfl rfl) g0
  have k1 := g1
  have lt1 := trod_lt_block k1
  obtain ⟨z1, h_z1⟩ := open_list2 Try.underlying22 Try.underlying3 (by kernel_rfl) (hval 1 22 v1 rfl rfl) g1
  clear hA0 hval0
  refine (walk z0 z1  W h_z0 h_z1).mono fun e W' ⟨he, bel, hz⟩ => ?_
  subst he
  exact ⟨_, rfl, _, _, _, [], _, [], hW', trodAll_mk1 (shut_bool Try.underlying4 _), (trodAll_cons_mk (Below.trod laidOut (by kernel_rfl) (of_decide_eq_true (by kernel_rfl)) k0 bel lt0) (trodAll_cons_mk (Below.trod laidOut (by kernel_rfl) (of_decide_eq_true (by kernel_rfl)) k1 bel lt1) trodAll_mk0)), rfl, bel.frame _, fun h => by cases h⟩

theorem proved : Rows.FnExactLabelCountSaid :=
  OpenClaim.holds_of_wide 5 Try.f5 rfl rfl rfl rfl rfl rfl rfl ⟨rfl, rfl, rfl, rfl, rfl⟩ rfl rfl rfl rfl rfl (by kernel_rfl) Try.func5 (by kernel_rfl)
    (of_decide_eq_true (by kernel_rfl)) (by unfold Func.isWrapper; first | (rw [if_pos (by decide +kernel)]; kernel_rfl) | (rw [if_neg (by decide +kernel)]; exact ⟨rfl, rfl⟩))
    (fun os started H enc _ => lifted os started H enc)
#print axioms proved

end Go.Proofs.Ytmaheakamonagaa.ELabelCount

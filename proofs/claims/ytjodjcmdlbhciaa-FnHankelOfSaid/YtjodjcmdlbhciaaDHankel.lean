/-
  For all arguments the law FnHankelOf returns true, and the arguments read as they did. No condition.
  How: a machine over the model, proved right (Mach, Sym), runs the law on symbols, case by case.
-/
import Derived.Test.YtjodjcmdlbhciaaRows
import Derived.Test.YtjodjcmdlbhciaaSym
import Derived.Test.YtjodjcmdlbhciaaIds
import Derived.Test.YtjodjcmdlbhciaaSumm
import Derived.Test.YtjodjcmdlbhciaaDraw
import Derived.Test.YtjodjcmdlbhciaaDrawC
import Derived.WalkKit
import Derived.ProofKit
import Derived.OpenShut
namespace Go.Proofs.Ytjodjcmdlbhciaa.DHankel
open Go.ChangeShapes Go.WideShapes Go.ChangeAt Go.RowKit Go.Sx Go.Proofs.Ytjodjcmdlbhciaa.Ids
set_option linter.unusedVariables false
set_option linter.unusedSimpArgs false

noncomputable def law : LawD := ⟨14, 55, [.c (.l 0)], [600], 0, fun es => oneL es .leaf (fun L => (rngs 600 (fun xs => numsRun Try.prog Summs.tab 60 120 ([slS xs 0 L, .slice (ints (powS (.c 1) L))])) .leaf .leaf 1 (L - 1)))⟩
set_option maxRecDepth 1000000 in
theorem huge : law.huge Try.prog 60 = true := by kernel_rfl
set_option maxRecDepth 1000000 in
theorem b_0_0 : law.blk Try.prog ids Summs.tab 60 [0] 0 1 = true := by kernel_rfl
set_option maxRecDepth 1000000 in
theorem b_1_0 : law.blk Try.prog ids Summs.tab 60 [1] 0 1 = true := by kernel_rfl
set_option maxRecDepth 1000000 in
theorem b_1_1 : law.blk Try.prog ids Summs.tab 60 [1] 1 1 = true := by kernel_rfl
set_option maxRecDepth 1000000 in
theorem b_1_2 : law.blk Try.prog ids Summs.tab 60 [1] 2 1 = true := by kernel_rfl
set_option maxRecDepth 1000000 in
theorem b_1_3 : law.blk Try.prog ids Summs.tab 60 [1] 3 1 = true := by kernel_rfl
set_option maxRecDepth 1000000 in
theorem b_1_4 : law.blk Try.prog ids Summs.tab 60 [1] 4 1 = true := by kernel_rfl
set_option maxRecDepth 1000000 in
theorem b_1_5 : law.blk Try.prog ids Summs.tab 60 [1] 5 1 = true := by kernel_rfl
set_option maxRecDepth 1000000 in
theorem b_1_6 : law.blk Try.prog ids Summs.tab 60 [1] 6 1 = true := by kernel_rfl
set_option maxRecDepth 1000000 in
theorem b_1_7 : law.blk Try.prog ids Summs.tab 60 [1] 7 1 = true := by kernel_rfl
set_option maxRecDepth 1000000 in
theorem b_1_8 : law.blk Try.prog ids Summs.tab 60 [1] 8 1 = true := by kernel_rfl
set_option maxRecDepth 1000000 in
theorem b_1_9 : law.blk Try.prog ids Summs.tab 60 [1] 9 1 = true := by kernel_rfl
set_option maxRecDepth 1000000 in
theorem b_1_10 : law.blk Try.prog ids Summs.tab 60 [1] 10 1 = true := by kernel_rfl
set_option maxRecDepth 1000000 in
theorem b_1_11 : law.blk Try.prog ids Summs.tab 60 [1] 11 1 = true := by kernel_rfl
set_option maxRecDepth 1000000 in
theorem b_1_12 : law.blk Try.prog ids Summs.tab 60 [1] 12 1 = true := by kernel_rfl
set_option maxRecDepth 1000000 in
theorem b_1_13 : law.blk Try.prog ids Summs.tab 60 [1] 13 1 = true := by kernel_rfl
set_option maxRecDepth 1000000 in
theorem b_1_14 : law.blk Try.prog ids Summs.tab 60 [1] 14 1 = true := by kernel_rfl
set_option maxRecDepth 1000000 in
theorem b_1_15 : law.blk Try.prog ids Summs.tab 60 [1] 15 1 = true := by kernel_rfl
set_option maxRecDepth 1000000 in
theorem b_1_16 : law.blk Try.prog ids Summs.tab 60 [1] 16 1 = true := by kernel_rfl
set_option maxRecDepth 1000000 in
theorem b_1_17 : law.blk Try.prog ids Summs.tab 60 [1] 17 1 = true := by kernel_rfl
set_option maxRecDepth 1000000 in
theorem b_1_18 : law.blk Try.prog ids Summs.tab 60 [1] 18 1 = true := by kernel_rfl
set_option maxRecDepth 1000000 in
theorem b_1_19 : law.blk Try.prog ids Summs.tab 60 [1] 19 1 = true := by kernel_rfl
set_option maxRecDepth 1000000 in
theorem b_1_20 : law.blk Try.prog ids Summs.tab 60 [1] 20 1 = true := by kernel_rfl
set_option maxRecDepth 1000000 in
theorem b_1_21 : law.blk Try.prog ids Summs.tab 60 [1] 21 1 = true := by kernel_rfl
set_option maxRecDepth 1000000 in
theorem b_1_22 : law.blk Try.prog ids Summs.tab 60 [1] 22 1 = true := by kernel_rfl
set_option maxRecDepth 1000000 in
theorem b_1_23 : law.blk Try.prog ids Summs.tab 60 [1] 23 1 = true := by kernel_rfl
set_option maxRecDepth 1000000 in
theorem b_1_24 : law.blk Try.prog ids Summs.tab 60 [1] 24 1 = true := by kernel_rfl
set_option maxRecDepth 1000000 in
theorem b_1_25 : law.blk Try.prog ids Summs.tab 60 [1] 25 1 = true := by kernel_rfl
set_option maxRecDepth 1000000 in
theorem b_1_26 : law.blk Try.prog ids Summs.tab 60 [1] 26 1 = true := by kernel_rfl
set_option maxRecDepth 1000000 in
theorem b_1_27 : law.blk Try.prog ids Summs.tab 60 [1] 27 1 = true := by kernel_rfl
set_option maxRecDepth 1000000 in
theorem b_1_28 : law.blk Try.prog ids Summs.tab 60 [1] 28 1 = true := by kernel_rfl
set_option maxRecDepth 1000000 in
theorem b_1_29 : law.blk Try.prog ids Summs.tab 60 [1] 29 1 = true := by kernel_rfl
set_option maxRecDepth 1000000 in
theorem b_1_30 : law.blk Try.prog ids Summs.tab 60 [1] 30 1 = true := by kernel_rfl
set_option maxRecDepth 1000000 in
theorem b_1_31 : law.blk Try.prog ids Summs.tab 60 [1] 31 1 = true := by kernel_rfl
set_option maxRecDepth 1000000 in
theorem b_1_32 : law.blk Try.prog ids Summs.tab 60 [1] 32 1 = true := by kernel_rfl
set_option maxRecDepth 1000000 in
theorem b_1_33 : law.blk Try.prog ids Summs.tab 60 [1] 33 1 = true := by kernel_rfl
set_option maxRecDepth 1000000 in
theorem b_1_34 : law.blk Try.prog ids Summs.tab 60 [1] 34 1 = true := by kernel_rfl
set_option maxRecDepth 1000000 in
theorem b_1_35 : law.blk Try.prog ids Summs.tab 60 [1] 35 1 = true := by kernel_rfl
set_option maxRecDepth 1000000 in
theorem b_1_36 : law.blk Try.prog ids Summs.tab 60 [1] 36 1 = true := by kernel_rfl
theorem cnt_0 : (law.tree [0]).count = 1 := by kernel_rfl
theorem at_0 : law.at Try.prog ids Summs.tab 60 [0] = true := by
  refine LawD.at_of (fun j hj => ?_)
  rw [cnt_0] at hj
  exact LawD.of_blk b_0_0 (by omega) (by omega)
theorem cnt_1 : (law.tree [1]).count = 37 := by kernel_rfl
theorem at_1 : law.at Try.prog ids Summs.tab 60 [1] = true := by
  refine LawD.at_of (fun j hj => ?_)
  rw [cnt_1] at hj
  by_cases h0 : j < 1
  · exact LawD.of_blk b_1_0 (by omega) (by omega)
  by_cases h1 : j < 2
  · exact LawD.of_blk b_1_1 (by omega) (by omega)
  by_cases h2 : j < 3
  · exact LawD.of_blk b_1_2 (by omega) (by omega)
  by_cases h3 : j < 4
  · exact LawD.of_blk b_1_3 (by omega) (by omega)
  by_cases h4 : j < 5
  · exact LawD.of_blk b_1_4 (by omega) (by omega)
  by_cases h5 : j < 6
  · exact LawD.of_blk b_1_5 (by omega) (by omega)
  by_cases h6 : j < 7
  · exact LawD.of_blk b_1_6 (by omega) (by omega)
  by_cases h7 : j < 8
  · exact LawD.of_blk b_1_7 (by omega) (by omega)
  by_cases h8 : j < 9
  · exact LawD.of_blk b_1_8 (by omega) (by omega)
  by_cases h9 : j < 10
  · exact LawD.of_blk b_1_9 (by omega) (by omega)
  by_cases h10 : j < 11
  · exact LawD.of_blk b_1_10 (by omega) (by omega)
  by_cases h11 : j < 12
  · exact LawD.of_blk b_1_11 (by omega) (by omega)
  by_cases h12 : j < 13
  · exact LawD.of_blk b_1_12 (by omega) (by omega)
  by_cases h13 : j < 14
  · exact LawD.of_blk b_1_13 (by omega) (by omega)
  by_cases h14 : j < 15
  · exact LawD.of_blk b_1_14 (by omega) (by omega)
  by_cases h15 : j < 16
  · exact LawD.of_blk b_1_15 (by omega) (by omega)
  by_cases h16 : j < 17
  · exact LawD.of_blk b_1_16 (by omega) (by omega)
  by_cases h17 : j < 18
  · exact LawD.of_blk b_1_17 (by omega) (by omega)
  by_cases h18 : j < 19
  · exact LawD.of_blk b_1_18 (by omega) (by omega)
  by_cases h19 : j < 20
  · exact LawD.of_blk b_1_19 (by omega) (by omega)
  by_cases h20 : j < 21
  · exact LawD.of_blk b_1_20 (by omega) (by omega)
  by_cases h21 : j < 22
  · exact LawD.of_blk b_1_21 (by omega) (by omega)
  by_cases h22 : j < 23
  · exact LawD.of_blk b_1_22 (by omega) (by omega)
  by_cases h23 : j < 24
  · exact LawD.of_blk b_1_23 (by omega) (by omega)
  by_cases h24 : j < 25
  · exact LawD.of_blk b_1_24 (by omega) (by omega)
  by_cases h25 : j < 26
  · exact LawD.of_blk b_1_25 (by omega) (by omega)
  by_cases h26 : j < 27
  · exact LawD.of_blk b_1_26 (by omega) (by omega)
  by_cases h27 : j < 28
  · exact LawD.of_blk b_1_27 (by omega) (by omega)
  by_cases h28 : j < 29
  · exact LawD.of_blk b_1_28 (by omega) (by omega)
  by_cases h29 : j < 30
  · exact LawD.of_blk b_1_29 (by omega) (by omega)
  by_cases h30 : j < 31
  · exact LawD.of_blk b_1_30 (by omega) (by omega)
  by_cases h31 : j < 32
  · exact LawD.of_blk b_1_31 (by omega) (by omega)
  by_cases h32 : j < 33
  · exact LawD.of_blk b_1_32 (by omega) (by omega)
  by_cases h33 : j < 34
  · exact LawD.of_blk b_1_33 (by omega) (by omega)
  by_cases h34 : j < 35
  · exact LawD.of_blk b_1_34 (by omega) (by omega)
  by_cases h35 : j < 36
  · exact LawD.of_blk b_1_35 (by omega) (by omega)
  exact LawD.of_blk b_1_36 (by omega) (by omega)

theorem cases (es : List Nat) (hl : es.length = law.bds.length) (hx : ∀ x, x ∈ es → x ≤ 1) : law.at Try.prog ids Summs.tab 60 es = true := by
  have hl : es.length = 1 := hl
  match es, hl, hx with
  | [e0], _, hx =>
    have he0 : e0 = 0 ∨ e0 = 1 := by have := hx e0 (by simp); omega
    clear hx
    rcases he0 with rfl | rfl
    · exact at_0
    · exact at_1
theorem own : ownKnob Try.prog.godebug = none := by kernel_rfl
theorem laidOut : laidOutB Try.prog = true := by kernel_rfl

theorem drawn (bs : List Int) (hbs : ∀ b, b ∈ bs → 0 ≤ b ∧ b < 256) : ∃ Ls I, Drawn Try.prog law.dk law.outs bs Ls I ∧ Ls.length = law.bds.length ∧ I.length = law.m ∧ (∀ ls, ls ∈ Ls → (∀ z, z ∈ ls → IntKind.i64.wrap z = z) ∧ ls.length ≤ 1048576) ∧ ∀ z, z ∈ I → IntKind.i64.wrap z = z := by
  exact drawn_l Draw.K0_ok (Draw.drawHankelOf bs hbs 0)

theorem walk {v0 : Value} (bs : List Int) (w : World) (h : IsBytes w bs v0 ∧ bs.length ≤ 9223372036854775807) : LawTrue Try.prog 14 #[v0] w :=
  LawD.ok (l := law) (D := ids) (t := Summs.tab) (N := 60) noCount mixed ids_ok Summs.tab_ok huge cases (by decide) ⟨_, Try.func55, rfl⟩ drawn h.1 h.2

set_option maxRecDepth 100000 in
theorem lifted (os : Os) (started : os.Started) (H : Type) (enc : TypeId × Value → H) :
    ReturnsInHanded {} Try.checked os 14 .any (Rows.fnHankelOfSpec.pre6 enc Try.prog Try.f14 Rows.fnHankelOfRow.domain false) (Rows.fnHankelOfSpec.post enc Try.prog Try.f14 false true false false) := by
  refine returnsInHanded_of_change (C := Try.checked) own started (by kernel_rfl) Try.func14
    (ChangeSpec.witness6 (enc := enc) (C := Try.checked) false ⟨#[], #[.slice none 0 0], []⟩ 8 (by kernel_rfl) (by kernel_rfl) (by kernel_rfl) (by kernel_rfl)) ?_
  intro W base args ds gs before hval0 hW hcnd _
  have hval : ∀ (j : Nat) t v, Try.f14.params[j]? = some t → args[j]? = some v → Value.okWide Try.prog W .any base t v := hval0
  have hW' := hW
  obtain ⟨p, q, hA0, hV, rfl, hfz, hnd⟩ := hW
  have hA : DataW.TrodAll enc Try.prog W 0 (fun _ => true) true Try.f14.params.toList args.toList ds p := hA0
  rw [Try.params14] at hA hval
  obtain ⟨v0, vs0, d0, ds0, p0, q0, hargs0, rfl, rfl, g0, r0⟩ := trodAll_cons hA
  obtain ⟨rfl, rfl, rfl⟩ := trodAll_nil r0
  obtain rfl : args = #[v0] := by cases args; simp_all
  obtain ⟨rfl, rfl⟩ := trodVars_none hV
  have k0 := g0
  have lt0 := trod_lt_block k0
  obtain ⟨z0, h_z0⟩ := open_bytes Try.underlying22 Try.underlying5 (by kernel_rfl) (hval 0 22 v0 rfl rfl) g0
  clear hA0 hval0
  refine (walk z0 W h_z0).mono fun e W' ⟨he, bel, hz⟩ => ?_
  subst he
  exact ⟨_, rfl, _, _, _, [], _, [], hW', trodAll_mk1 (shut_bool Try.underlying4 _), (trodAll_cons_mk (Below.trod laidOut (by kernel_rfl) (of_decide_eq_true (by kernel_rfl)) k0 bel lt0) trodAll_mk0), rfl, bel.frame _, fun h => by cases h⟩

theorem proved : Rows.FnHankelOfSaid :=
  OpenClaim.holds_of_wide 14 Try.f14 rfl rfl rfl rfl rfl rfl rfl ⟨rfl, rfl, rfl, rfl, rfl⟩ rfl rfl rfl rfl rfl (by kernel_rfl) Try.func14 (by kernel_rfl)
    (of_decide_eq_true (by kernel_rfl)) (by unfold Func.isWrapper; first | (rw [if_pos (by decide +kernel)]; kernel_rfl) | (rw [if_neg (by decide +kernel)]; exact ⟨rfl, rfl⟩))
    (fun os started H enc _ => lifted os started H enc)
#print axioms proved

end Go.Proofs.Ytjodjcmdlbhciaa.DHankel

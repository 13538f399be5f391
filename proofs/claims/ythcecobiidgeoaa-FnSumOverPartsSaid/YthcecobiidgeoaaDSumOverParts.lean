/-
  A part of the proof of FnSumOverParts: cases of its law, each a run. No condition.
-/
import Derived.Test.YthcecobiidgeoaaDSumOverPartsB0
import Derived.Test.YthcecobiidgeoaaDSumOverPartsB1
import Derived.Test.YthcecobiidgeoaaDSumOverPartsB2
import Derived.WalkKit
import Derived.ProofKit
import Derived.OpenShut
namespace Go.Proofs.Ythcecobiidgeoaa.DSumOverParts
open Go.ChangeShapes Go.WideShapes Go.ChangeAt Go.RowKit Go.Sx Go.Proofs.Ythcecobiidgeoaa.Ids
set_option linter.unusedVariables false
set_option linter.unusedSimpArgs false

theorem cnt_00 : (law.tree [0, 0]).count = 1 := by kernel_rfl
theorem at_00 : law.at Try.prog ids Summs.tab 200 [0, 0] = true := by
  refine LawD.at_of (fun j hj => ?_)
  rw [cnt_00] at hj
  exact LawD.of_blk b_00_0 (by omega) (by omega)
theorem cnt_01 : (law.tree [0, 1]).count = 1 := by kernel_rfl
theorem at_01 : law.at Try.prog ids Summs.tab 200 [0, 1] = true := by
  refine LawD.at_of (fun j hj => ?_)
  rw [cnt_01] at hj
  exact LawD.of_blk b_01_0 (by omega) (by omega)
theorem cnt_10 : (law.tree [1, 0]).count = 2 := by kernel_rfl
theorem at_10 : law.at Try.prog ids Summs.tab 200 [1, 0] = true := by
  refine LawD.at_of (fun j hj => ?_)
  rw [cnt_10] at hj
  by_cases h0 : j < 1
  · exact LawD.of_blk b_10_0 (by omega) (by omega)
  exact LawD.of_blk b_10_1 (by omega) (by omega)
theorem cnt_11 : (law.tree [1, 1]).count = 17 := by kernel_rfl
theorem at_11 : law.at Try.prog ids Summs.tab 200 [1, 1] = true := by
  refine LawD.at_of (fun j hj => ?_)
  rw [cnt_11] at hj
  by_cases h0 : j < 1
  · exact LawD.of_blk b_11_0 (by omega) (by omega)
  by_cases h1 : j < 2
  · exact LawD.of_blk b_11_1 (by omega) (by omega)
  by_cases h2 : j < 3
  · exact LawD.of_blk b_11_2 (by omega) (by omega)
  by_cases h3 : j < 4
  · exact LawD.of_blk b_11_3 (by omega) (by omega)
  by_cases h4 : j < 5
  · exact LawD.of_blk b_11_4 (by omega) (by omega)
  by_cases h5 : j < 6
  · exact LawD.of_blk b_11_5 (by omega) (by omega)
  by_cases h6 : j < 7
  · exact LawD.of_blk b_11_6 (by omega) (by omega)
  by_cases h7 : j < 8
  · exact LawD.of_blk b_11_7 (by omega) (by omega)
  by_cases h8 : j < 9
  · exact LawD.of_blk b_11_8 (by omega) (by omega)
  by_cases h9 : j < 10
  · exact LawD.of_blk b_11_9 (by omega) (by omega)
  by_cases h10 : j < 11
  · exact LawD.of_blk b_11_10 (by omega) (by omega)
  by_cases h11 : j < 12
  · exact LawD.of_blk b_11_11 (by omega) (by omega)
  by_cases h12 : j < 13
  · exact LawD.of_blk b_11_12 (by omega) (by omega)
  by_cases h13 : j < 14
  · exact LawD.of_blk b_11_13 (by omega) (by omega)
  by_cases h14 : j < 15
  · exact LawD.of_blk b_11_14 (by omega) (by omega)
  by_cases h15 : j < 16
  · exact LawD.of_blk b_11_15 (by omega) (by omega)
  exact LawD.of_blk b_11_16 (by omega) (by omega)

theorem cases (es : List Nat) (hl : es.length = law.bds.length) (hx : ∀ x, x ∈ es → x ≤ 1) : law.at Try.prog ids Summs.tab 200 es = true := by
  have hl : es.length = 2 := hl
  match es, hl, hx with
  | [e0, e1], _, hx =>
    have he0 : e0 = 0 ∨ e0 = 1 := by have := hx e0 (by simp); omega
    have he1 : e1 = 0 ∨ e1 = 1 := by have := hx e1 (by simp); omega
    clear hx
    rcases he0 with rfl | rfl
    · rcases he1 with rfl | rfl
      · exact at_00
      · exact at_01
    · rcases he1 with rfl | rfl
      · exact at_10
      · exact at_11
theorem own : ownKnob Try.prog.godebug = none := by kernel_rfl
theorem laidOut : laidOutB Try.prog = true := by kernel_rfl

theorem drawn (bs : List Int) (hbs : ∀ b, b ∈ bs → 0 ≤ b ∧ b < 256) : ∃ Ls I, Drawn Try.prog law.dk law.outs bs Ls I ∧ Ls.length = law.bds.length ∧ I.length = law.m ∧ (∀ ls, ls ∈ Ls → (∀ z, z ∈ ls → IntKind.i64.wrap z = z) ∧ ls.length ≤ 1048576) ∧ ∀ z, z ∈ I → IntKind.i64.wrap z = z := by
  exact drawn_ll Draw.K0_ok (Draw.drawSumOverParts bs hbs 0)

theorem walk {v0 : Value} (bs : List Int) (w : World) (h : IsBytes w bs v0 ∧ bs.length ≤ 9223372036854775807) : LawTrue Try.prog 6 #[v0] w :=
  LawD.ok (l := law) (D := ids) (t := Summs.tab) (N := 200) noCount mixed ids_ok Summs.tab_ok huge cases (by decide) ⟨_, Try.func29, rfl⟩ drawn h.1 h.2

set_option maxRecDepth 100000 in
theorem lifted (os : Os) (started : os.Started) (H : Type) (enc : TypeId × Value → H) :
    ReturnsInHanded {} Try.checked os 6 .any (Rows.fnSumOverPartsSpec.pre6 enc Try.prog Try.f6 Rows.fnSumOverPartsRow.domain false) (Rows.fnSumOverPartsSpec.post enc Try.prog Try.f6 false true false false) := by
  refine returnsInHanded_of_change (C := Try.checked) own started (by kernel_rfl) Try.func6
    (ChangeSpec.witness6 (enc := enc) (C := Try.checked) false ⟨#[], #[.slice none 0 0], []⟩ 8 (by kernel_rfl) (by kernel_rfl) (by kernel_rfl) (by kernel_rfl)) ?_
  intro W base args ds gs before hval0 hW hcnd _
  have hval : ∀ (j : Nat) t v, Try.f6.params[j]? = some t → args[j]? = some v → Value.okWide Try.prog W .any base t v := hval0
  have hW' := hW
  obtain ⟨p, q, hA0, hV, rfl, hfz, hnd⟩ := hW
  have hA : DataW.TrodAll enc Try.prog W 0 (fun _ => true) true Try.f6.params.toList args.toList ds p := hA0
  rw [Try.params6] at hA hval
  obtain ⟨v0, vs0, d0, ds0, p0, q0, hargs0, rfl, rfl, g0, r0⟩ := trodAll_cons hA
  obtain ⟨rfl, rfl, rfl⟩ := trodAll_nil r0
  obtain rfl : args = #[v0] := by cases args; simp_all
  obtain ⟨rfl, rfl⟩ := trodVars_none hV
  have k0 := g0
  have lt0 := trod_lt_block k0
  obtain ⟨z0, h_z0⟩ := open_bytes Try.underlying27 Try.underlying5 (by kernel_rfl) (hval 0 27 v0 rfl rfl) g0
  clear hA0 hval0
  refine (walk z0 W h_z0).mono fun e W' ⟨he, bel, hz⟩ => ?_
  subst he
  exact ⟨_, rfl, _, _, _, [], _, [], hW', trodAll_mk1 (shut_bool Try.underlying4 _), (trodAll_cons_mk (Below.trod laidOut (by kernel_rfl) (of_decide_eq_true (by kernel_rfl)) k0 bel lt0) trodAll_mk0), rfl, bel.frame _, fun h => by cases h⟩

theorem proved : Rows.FnSumOverPartsSaid :=
  OpenClaim.holds_of_wide 6 Try.f6 rfl rfl rfl rfl rfl rfl rfl ⟨rfl, rfl, rfl, rfl, rfl⟩ rfl rfl rfl rfl rfl (by kernel_rfl) Try.func6 (by kernel_rfl)
    (of_decide_eq_true (by kernel_rfl)) (by unfold Func.isWrapper; first | (rw [if_pos (by decide +kernel)]; kernel_rfl) | (rw [if_neg (by decide +kernel)]; exact ⟨rfl, rfl⟩))
    (fun os started H enc _ => lifted os started H enc)
#print axioms proved

end Go.Proofs.Ythcecobiidgeoaa.DSumOverParts

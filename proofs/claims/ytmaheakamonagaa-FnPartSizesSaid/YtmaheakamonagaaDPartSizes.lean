/-
  For all arguments the law FnPartSizes returns true, and the arguments read as they did. No condition.
  How: a machine over the model, proved right (Mach, Sym), runs the law on symbols, case by case.
-/
import Derived.Test.YtmaheakamonagaaRows
import Derived.Test.YtmaheakamonagaaSym
import Derived.Test.YtmaheakamonagaaIds
import Derived.Test.YtmaheakamonagaaSumm
import Derived.Test.YtmaheakamonagaaDraw
import Derived.Test.YtmaheakamonagaaDrawC
import Derived.WalkKit
import Derived.ProofKit
import Derived.OpenShut
namespace Go.Proofs.Ytmaheakamonagaa.DPartSizes
open Go.ChangeShapes Go.WideShapes Go.ChangeAt Go.RowKit Go.Sx Go.Proofs.Ytmaheakamonagaa.Ids
set_option linter.unusedVariables false
set_option linter.unusedSimpArgs false

noncomputable def law : LawD := ⟨4, 21, [.c (.l 0)], [4], 0, fun es => wayL es 0 (fun _ => .leaf) .leaf⟩
set_option maxRecDepth 1000000 in
theorem huge : law.huge Try.prog 200 = true := by kernel_rfl
set_option maxRecDepth 1000000 in
theorem b_0_0 : law.blk Try.prog ids Summs.tab 200 [0] 0 1 = true := by kernel_rfl
set_option maxRecDepth 1000000 in
theorem b_1_0 : law.blk Try.prog ids Summs.tab 200 [1] 0 8 = true := by kernel_rfl
set_option maxRecDepth 1000000 in
theorem b_1_8 : law.blk Try.prog ids Summs.tab 200 [1] 8 8 = true := by kernel_rfl
set_option maxRecDepth 1000000 in
theorem b_1_16 : law.blk Try.prog ids Summs.tab 200 [1] 16 8 = true := by kernel_rfl
set_option maxRecDepth 1000000 in
theorem b_1_24 : law.blk Try.prog ids Summs.tab 200 [1] 24 8 = true := by kernel_rfl
set_option maxRecDepth 1000000 in
theorem b_1_32 : law.blk Try.prog ids Summs.tab 200 [1] 32 8 = true := by kernel_rfl
set_option maxRecDepth 1000000 in
theorem b_1_40 : law.blk Try.prog ids Summs.tab 200 [1] 40 8 = true := by kernel_rfl
set_option maxRecDepth 1000000 in
theorem b_1_48 : law.blk Try.prog ids Summs.tab 200 [1] 48 8 = true := by kernel_rfl
set_option maxRecDepth 1000000 in
theorem b_1_56 : law.blk Try.prog ids Summs.tab 200 [1] 56 8 = true := by kernel_rfl
set_option maxRecDepth 1000000 in
theorem b_1_64 : law.blk Try.prog ids Summs.tab 200 [1] 64 8 = true := by kernel_rfl
set_option maxRecDepth 1000000 in
theorem b_1_72 : law.blk Try.prog ids Summs.tab 200 [1] 72 8 = true := by kernel_rfl
set_option maxRecDepth 1000000 in
theorem b_1_80 : law.blk Try.prog ids Summs.tab 200 [1] 80 8 = true := by kernel_rfl
set_option maxRecDepth 1000000 in
theorem b_1_88 : law.blk Try.prog ids Summs.tab 200 [1] 88 8 = true := by kernel_rfl
set_option maxRecDepth 1000000 in
theorem b_1_96 : law.blk Try.prog ids Summs.tab 200 [1] 96 8 = true := by kernel_rfl
set_option maxRecDepth 1000000 in
theorem b_1_104 : law.blk Try.prog ids Summs.tab 200 [1] 104 8 = true := by kernel_rfl
set_option maxRecDepth 1000000 in
theorem b_1_112 : law.blk Try.prog ids Summs.tab 200 [1] 112 5 = true := by kernel_rfl
theorem cnt_0 : (law.tree [0]).count = 1 := by kernel_rfl
theorem at_0 : law.at Try.prog ids Summs.tab 200 [0] = true := by
  refine LawD.at_of (fun j hj => ?_)
  rw [cnt_0] at hj
  exact LawD.of_blk b_0_0 (by omega) (by omega)
theorem cnt_1 : (law.tree [1]).count = 117 := by kernel_rfl
theorem at_1 : law.at Try.prog ids Summs.tab 200 [1] = true := by
  refine LawD.at_of (fun j hj => ?_)
  rw [cnt_1] at hj
  by_cases h0 : j < 8
  · exact LawD.of_blk b_1_0 (by omega) (by omega)
  by_cases h8 : j < 16
  · exact LawD.of_blk b_1_8 (by omega) (by omega)
  by_cases h16 : j < 24
  · exact LawD.of_blk b_1_16 (by omega) (by omega)
  by_cases h24 : j < 32
  · exact LawD.of_blk b_1_24 (by omega) (by omega)
  by_cases h32 : j < 40
  · exact LawD.of_blk b_1_32 (by omega) (by omega)
  by_cases h40 : j < 48
  · exact LawD.of_blk b_1_40 (by omega) (by omega)
  by_cases h48 : j < 56
  · exact LawD.of_blk b_1_48 (by omega) (by omega)
  by_cases h56 : j < 64
  · exact LawD.of_blk b_1_56 (by omega) (by omega)
  by_cases h64 : j < 72
  · exact LawD.of_blk b_1_64 (by omega) (by omega)
  by_cases h72 : j < 80
  · exact LawD.of_blk b_1_72 (by omega) (by omega)
  by_cases h80 : j < 88
  · exact LawD.of_blk b_1_80 (by omega) (by omega)
  by_cases h88 : j < 96
  · exact LawD.of_blk b_1_88 (by omega) (by omega)
  by_cases h96 : j < 104
  · exact LawD.of_blk b_1_96 (by omega) (by omega)
  by_cases h104 : j < 112
  · exact LawD.of_blk b_1_104 (by omega) (by omega)
  exact LawD.of_blk b_1_112 (by omega) (by omega)

theorem cases (es : List Nat) (hl : es.length = law.bds.length) (hx : ∀ x, x ∈ es → x ≤ 1) : law.at Try.prog ids Summs.tab 200 es = true := by
  have hl : es.length = 1 := hl
  match es, hl, hx with
  | [e0], _, hx =>
    have he0 : e0 = 0 ∨ e0 = 1 := by have := hx e0 (by simp); omega
    clear hx
    rcases he0 with rfl | rfl
    · exact at_0
    · exact at_1
theorem own : ownKnob Try.prog.godebug = none := by kernel_rfl
theorem laidOut : laidOutB Try.prog = true := by kernel_rfl

theorem drawn (bs : List Int) (hbs : ∀ b, b ∈ bs → 0 ≤ b ∧ b < 256) : ∃ Ls I, Drawn Try.prog law.dk law.outs bs Ls I ∧ Ls.length = law.bds.length ∧ I.length = law.m ∧ (∀ ls, ls ∈ Ls → (∀ z, z ∈ ls → IntKind.i64.wrap z = z) ∧ ls.length ≤ 1048576) ∧ ∀ z, z ∈ I → IntKind.i64.wrap z = z := by
  exact drawn_l Draw.K0_ok (Draw.drawPartSizes bs hbs 0)

theorem walk {v0 : Value} (bs : List Int) (w : World) (h : IsBytes w bs v0 ∧ bs.length ≤ 9223372036854775807) : LawTrue Try.prog 4 #[v0] w :=
  LawD.ok (l := law) (D := ids) (t := Summs.tab) (N := 200) noCount mixed ids_ok Summs.tab_ok huge cases (by decide) ⟨_, Try.func21, rfl⟩ drawn h.1 h.2

set_option maxRecDepth 100000 in
theorem lifted (os : Os) (started : os.Started) (H : Type) (enc : TypeId × Value → H) :
    ReturnsInHanded {} Try.checked os 4 .any (Rows.fnPartSizesSpec.pre6 enc Try.prog Try.f4 Rows.fnPartSizesRow.domain false) (Rows.fnPartSizesSpec.post enc Try.prog Try.f4 false true false false) := by
  refine returnsInHanded_of_change (C := Try.checked) own started (by kernel_rfl) Try.func4
    (ChangeSpec.witness6 (enc := enc) (C := Try.checked) false ⟨#[], #[.slice none 0 0], []⟩ 8 (by kernel_rfl) (by kernel_rfl) (by kernel_rfl) (by kernel_rfl)) ?_
  intro W base args ds gs before hval0 hW hcnd _
  have hval : ∀ (j : Nat) t v, Try.f4.params[j]? = some t → args[j]? = some v → Value.okWide Try.prog W .any base t v := hval0
  have hW' := hW
  obtain ⟨p, q, hA0, hV, rfl, hfz, hnd⟩ := hW
  have hA : DataW.TrodAll enc Try.prog W 0 (fun _ => true) true Try.f4.params.toList args.toList ds p := hA0
  rw [Try.params4] at hA hval
  obtain ⟨v0, vs0, d0, ds0, p0, q0, hargs0, rfl, rfl, g0, r0⟩ := trodAll_cons hA
  obtain ⟨rfl, rfl, rfl⟩ := trodAll_nil r0
  obtain rfl : args = #[v0] := by cases args; simp_all
  obtain ⟨rfl, rfl⟩ := trodVars_none hV
  have k0 := g0
  have lt0 := trod_lt_block k0
  obtain ⟨z0, h_z0⟩ := open_bytes Try.underlying27 Try.underlying5 (by kernel_rfl) (hval 0 27 v0 rfl rfl) g0
  clear hA0 hval0
  refine (walk z0 W h_z0).mono fun e W' ⟨he, bel, hz⟩ => ?_
  subst he
  exact ⟨_, rfl, _, _, _, [], _, [], hW', trodAll_mk1 (shut_bool Try.underlying4 _), (trodAll_cons_mk (Below.trod laidOut (by kernel_rfl) (of_decide_eq_true (by kernel_rfl)) k0 bel lt0) trodAll_mk0), rfl, bel.frame _, fun h => by cases h⟩

theorem proved : Rows.FnPartSizesSaid :=
  OpenClaim.holds_of_wide 4 Try.f4 rfl rfl rfl rfl rfl rfl rfl ⟨rfl, rfl, rfl, rfl, rfl⟩ rfl rfl rfl rfl rfl (by kernel_rfl) Try.func4 (by kernel_rfl)
    (of_decide_eq_true (by kernel_rfl)) (by unfold Func.isWrapper; first | (rw [if_pos (by decide +kernel)]; kernel_rfl) | (rw [if_neg (by decide +kernel)]; exact ⟨rfl, rfl⟩))
    (fun os started H enc _ => lifted os started H enc)
#print axioms proved

end Go.Proofs.Ytmaheakamonagaa.DPartSizes

/-
  For all arguments the law FnArrayOf returns true, and the arguments read as they did. No condition.
  How: a machine over the model, proved right (Mach, Sym), runs the law on symbols, case by case.
-/
import Derived.Test.YtjodjcmdlbhciaaRows
import Derived.Test.YtjodjcmdlbhciaaSym
import Derived.Test.YtjodjcmdlbhciaaIds
import Derived.Test.YtjodjcmdlbhciaaSumm
import Derived.Test.YtjodjcmdlbhciaaDraw
import Derived.Test.YtjodjcmdlbhciaaDrawC
import Derived.Test.YtjodjcmdlbhciaaDrawD
import Derived.WalkKit
import Derived.ProofKit
import Derived.OpenShut
namespace Go.Proofs.Ytjodjcmdlbhciaa.DArrayOf
open Go.ChangeShapes Go.WideShapes Go.ChangeAt Go.RowKit Go.Sx Go.Proofs.Ytjodjcmdlbhciaa.Ids
set_option linter.unusedVariables false
set_option linter.unusedSimpArgs false

noncomputable def law : LawD := ⟨12, 50, [.a [.l 0, .l 1]], [600, 600], 0, fun es => pairL es 0 1 id (fun L => .leaf (unitSp 0 1 .leaf))⟩
set_option maxRecDepth 1000000 in
theorem huge : law.huge Try.prog 60 = true := by kernel_rfl
set_option maxRecDepth 1000000 in
theorem b_00_0 : law.blk Try.prog ids Summs.tab 60 [0, 0] 0 1 = true := by kernel_rfl
set_option maxRecDepth 1000000 in
theorem b_01_0 : law.blk Try.prog ids Summs.tab 60 [0, 1] 0 1 = true := by kernel_rfl
set_option maxRecDepth 1000000 in
theorem b_10_0 : law.blk Try.prog ids Summs.tab 60 [1, 0] 0 2 = true := by kernel_rfl
set_option maxRecDepth 1000000 in
theorem b_11_0 : law.blk Try.prog ids Summs.tab 60 [1, 1] 0 8 = true := by kernel_rfl
set_option maxRecDepth 1000000 in
theorem b_11_8 : law.blk Try.prog ids Summs.tab 60 [1, 1] 8 8 = true := by kernel_rfl
set_option maxRecDepth 1000000 in
theorem b_11_16 : law.blk Try.prog ids Summs.tab 60 [1, 1] 16 8 = true := by kernel_rfl
set_option maxRecDepth 1000000 in
theorem b_11_24 : law.blk Try.prog ids Summs.tab 60 [1, 1] 24 8 = true := by kernel_rfl
set_option maxRecDepth 1000000 in
theorem b_11_32 : law.blk Try.prog ids Summs.tab 60 [1, 1] 32 8 = true := by kernel_rfl
set_option maxRecDepth 1000000 in
theorem b_11_40 : law.blk Try.prog ids Summs.tab 60 [1, 1] 40 8 = true := by kernel_rfl
set_option maxRecDepth 1000000 in
theorem b_11_48 : law.blk Try.prog ids Summs.tab 60 [1, 1] 48 8 = true := by kernel_rfl
set_option maxRecDepth 1000000 in
theorem b_11_56 : law.blk Try.prog ids Summs.tab 60 [1, 1] 56 8 = true := by kernel_rfl
set_option maxRecDepth 1000000 in
theorem b_11_64 : law.blk Try.prog ids Summs.tab 60 [1, 1] 64 8 = true := by kernel_rfl
set_option maxRecDepth 1000000 in
theorem b_11_72 : law.blk Try.prog ids Summs.tab 60 [1, 1] 72 7 = true := by kernel_rfl
theorem cnt_00 : (law.tree [0, 0]).count = 1 := by kernel_rfl
theorem at_00 : law.at Try.prog ids Summs.tab 60 [0, 0] = true := by
  refine LawD.at_of (fun j hj => ?_)
  rw [cnt_00] at hj
  exact LawD.of_blk b_00_0 (by omega) (by omega)
theorem cnt_01 : (law.tree [0, 1]).count = 1 := by kernel_rfl
theorem at_01 : law.at Try.prog ids Summs.tab 60 [0, 1] = true := by
  refine LawD.at_of (fun j hj => ?_)
  rw [cnt_01] at hj
  exact LawD.of_blk b_01_0 (by omega) (by omega)
theorem cnt_10 : (law.tree [1, 0]).count = 2 := by kernel_rfl
theorem at_10 : law.at Try.prog ids Summs.tab 60 [1, 0] = true := by
  refine LawD.at_of (fun j hj => ?_)
  rw [cnt_10] at hj
  exact LawD.of_blk b_10_0 (by omega) (by omega)
theorem cnt_11 : (law.tree [1, 1]).count = 79 := by kernel_rfl
theorem at_11 : law.at Try.prog ids Summs.tab 60 [1, 1] = true := by
  refine LawD.at_of (fun j hj => ?_)
  rw [cnt_11] at hj
  by_cases h0 : j < 8
  · exact LawD.of_blk b_11_0 (by omega) (by omega)
  by_cases h8 : j < 16
  · exact LawD.of_blk b_11_8 (by omega) (by omega)
  by_cases h16 : j < 24
  · exact LawD.of_blk b_11_16 (by omega) (by omega)
  by_cases h24 : j < 32
  · exact LawD.of_blk b_11_24 (by omega) (by omega)
  by_cases h32 : j < 40
  · exact LawD.of_blk b_11_32 (by omega) (by omega)
  by_cases h40 : j < 48
  · exact LawD.of_blk b_11_40 (by omega) (by omega)
  by_cases h48 : j < 56
  · exact LawD.of_blk b_11_48 (by omega) (by omega)
  by_cases h56 : j < 64
  · exact LawD.of_blk b_11_56 (by omega) (by omega)
  by_cases h64 : j < 72
  · exact LawD.of_blk b_11_64 (by omega) (by omega)
  exact LawD.of_blk b_11_72 (by omega) (by omega)

theorem cases (es : List Nat) (hl : es.length = law.bds.length) (hx : ∀ x, x ∈ es → x ≤ 1) : law.at Try.prog ids Summs.tab 60 es = true := by
  have hl : es.length = 2 := hl
  match es, hl, hx with
  | [e0, e1], _, hx =>
    have he0 : e0 = 0 ∨ e0 = 1 := by have := hx e0 (by simp); omega
    have he1 : e1 = 0 ∨ e1 = 1 := by have := hx e1 (by simp); omega
    clear hx
    rcases he0 with rfl | rfl
    · rcases he1 with rfl | rfl
      · exact at_00
      · exact at_01
    · rcases he1 with rfl | rfl
      · exact at_10
      · exact at_11
theorem own : ownKnob Try.prog.godebug = none := by kernel_rfl
theorem laidOut : laidOutB Try.prog = true := by kernel_rfl

theorem drawn (bs : List Int) (hbs : ∀ b, b ∈ bs → 0 ≤ b ∧ b < 256) : ∃ Ls I, Drawn Try.prog law.dk law.outs bs Ls I ∧ Ls.length = law.bds.length ∧ I.length = law.m ∧ (∀ ls, ls ∈ Ls → (∀ z, z ∈ ls → IntKind.i64.wrap z = z) ∧ ls.length ≤ 1048576) ∧ ∀ z, z ∈ I → IntKind.i64.wrap z = z := by
  exact drawn_p Draw.K0_ok (Draw.drawArrayOf bs hbs 0)

theorem walk {v0 : Value} (bs : List Int) (w : World) (h : IsBytes w bs v0 ∧ bs.length ≤ 9223372036854775807) : LawTrue Try.prog 12 #[v0] w :=
  LawD.ok (l := law) (D := ids) (t := Summs.tab) (N := 60) noCount mixed ids_ok Summs.tab_ok huge cases (by decide) ⟨_, Try.func50, rfl⟩ drawn h.1 h.2

set_option maxRecDepth 100000 in
theorem lifted (os : Os) (started : os.Started) (H : Type) (enc : TypeId × Value → H) :
    ReturnsInHanded {} Try.checked os 12 .any (Rows.fnArrayOfSpec.pre6 enc Try.prog Try.f12 Rows.fnArrayOfRow.domain false) (Rows.fnArrayOfSpec.post enc Try.prog Try.f12 false true false false) := by
  refine returnsInHanded_of_change (C := Try.checked) own started (by kernel_rfl) Try.func12
    (ChangeSpec.witness6 (enc := enc) (C := Try.checked) false ⟨#[], #[.slice none 0 0], []⟩ 8 (by kernel_rfl) (by kernel_rfl) (by kernel_rfl) (by kernel_rfl)) ?_
  intro W base args ds gs before hval0 hW hcnd _
  have hval : ∀ (j : Nat) t v, Try.f12.params[j]? = some t → args[j]? = some v → Value.okWide Try.prog W .any base t v := hval0
  have hW' := hW
  obtain ⟨p, q, hA0, hV, rfl, hfz, hnd⟩ := hW
  have hA : DataW.TrodAll enc Try.prog W 0 (fun _ => true) true Try.f12.params.toList args.toList ds p := hA0
  rw [Try.params12] at hA hval
  obtain ⟨v0, vs0, d0, ds0, p0, q0, hargs0, rfl, rfl, g0, r0⟩ := trodAll_cons hA
  obtain ⟨rfl, rfl, rfl⟩ := trodAll_nil r0
  obtain rfl : args = #[v0] := by cases args; simp_all
  obtain ⟨rfl, rfl⟩ := trodVars_none hV
  have k0 := g0
  have lt0 := trod_lt_block k0
  obtain ⟨z0, h_z0⟩ := open_bytes Try.underlying22 Try.underlying5 (by kernel_rfl) (hval 0 22 v0 rfl rfl) g0
  clear hA0 hval0
  refine (walk z0 W h_z0).mono fun e W' ⟨he, bel, hz⟩ => ?_
  subst he
  exact ⟨_, rfl, _, _, _, [], _, [], hW', trodAll_mk1 (shut_bool Try.underlying4 _), (trodAll_cons_mk (Below.trod laidOut (by kernel_rfl) (of_decide_eq_true (by kernel_rfl)) k0 bel lt0) trodAll_mk0), rfl, bel.frame _, fun h => by cases h⟩

theorem proved : Rows.FnArrayOfSaid :=
  OpenClaim.holds_of_wide 12 Try.f12 rfl rfl rfl rfl rfl rfl rfl ⟨rfl, rfl, rfl, rfl, rfl⟩ rfl rfl rfl rfl rfl (by kernel_rfl) Try.func12 (by kernel_rfl)
    (of_decide_eq_true (by kernel_rfl)) (by unfold Func.isWrapper; first | (rw [if_pos (by decide +kernel)]; kernel_rfl) | (rw [if_neg (by decide +kernel)]; exact ⟨rfl, rfl⟩))
    (fun os started H enc _ => lifted os started H enc)
#print axioms proved

end Go.Proofs.Ytjodjcmdlbhciaa.DArrayOf

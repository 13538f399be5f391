/-
  For all arguments the law FnExactValidPoly returns true, and the arguments read as they did. No condition.
  How: a machine over the model, proved right (Mach, Sym), runs the law on symbols, case by case.
-/
import Derived.Test.YtbjjlimncodmkaaRows
import Derived.Test.YtbjjlimncodmkaaSym
import Derived.Test.YtbjjlimncodmkaaIds
import Derived.Test.YtbjjlimncodmkaaSumm
import Derived.WalkKit
import Derived.ProofKit
import Derived.OpenShut
namespace Go.Proofs.Ytbjjlimncodmkaa.EValidPoly
open Go.ChangeShapes Go.WideShapes Go.ChangeAt Go.RowKit Go.Sx Go.Proofs.Ytbjjlimncodmkaa.Ids
set_option linter.unusedVariables false
set_option linter.unusedSimpArgs false

noncomputable def law : LawU := ⟨14, [1000000], 0, fun ll ii => match ll with | [x0] => [x0] ++ ii | _ => [], sizeT 1, fun es => oneL es .leaf (fun _ => .leaf)⟩
set_option maxRecDepth 1000000 in
theorem huge : law.huge Try.prog 60 = true := by kernel_rfl
set_option maxRecDepth 1000000 in
theorem b_0_0 : law.blk Try.prog ids Summs.tab 60 [0] 0 1 = true := by kernel_rfl
set_option maxRecDepth 1000000 in
theorem b_1_0 : law.blk Try.prog ids Summs.tab 60 [1] 0 7 = true := by kernel_rfl
theorem cnt_0 : (law.tree [0]).count = 1 := by kernel_rfl
theorem at_0 : law.at Try.prog ids Summs.tab 60 [0] = true := by
  refine LawU.at_of (fun j hj => ?_)
  rw [cnt_0] at hj
  exact LawU.of_blk b_0_0 (by omega) (by omega)
theorem cnt_1 : (law.tree [1]).count = 7 := by kernel_rfl
theorem at_1 : law.at Try.prog ids Summs.tab 60 [1] = true := by
  refine LawU.at_of (fun j hj => ?_)
  rw [cnt_1] at hj
  exact LawU.of_blk b_1_0 (by omega) (by omega)

theorem cases (es : List Nat) (hl : es.length = law.bds.length) (hx : ∀ x, x ∈ es → x ≤ 1) : law.at Try.prog ids Summs.tab 60 es = true := by
  have hl : es.length = 1 := hl
  match es, hl, hx with
  | [e0], _, hx =>
    have he0 : e0 = 0 ∨ e0 = 1 := by have := hx e0 (by simp); omega
    clear hx
    rcases he0 with rfl | rfl
    · exact at_0
    · exact at_1
theorem own : ownKnob Try.prog.godebug = none := by kernel_rfl
theorem laidOut : laidOutB Try.prog = true := by kernel_rfl

theorem walk {v0 : Value} (z0 : List Int)  (w : World) (h_z0 : IsList w z0 v0 ∧ z0.length ≤ 9223372036854775807) :
    LawTrue Try.prog 14 #[v0] w := by
  have hwf : ∀ ls, ls ∈ [z0] → (∀ z, z ∈ ls → IntKind.i64.wrap z = z) ∧ ls.length ≤ 9223372036854775807 := by
    intro ls hls
    simp only [List.mem_cons, List.not_mem_nil, or_false] at hls
    rcases hls with rfl
    · exact ⟨h_z0.1.1, h_z0.2⟩
  refine LawU.ok (l := law) (D := ids) (t := Summs.tab) (N := 60) (Ls := [z0]) (lv := [v0]) (I := []) noCount mixed ids_ok Summs.tab_ok huge cases (by decide) ?_ rfl hwf rfl ?_ ?_ ?_ ?_
  · exact ⟨h_z0.1, trivial⟩
  · intro z hz; cases hz
  · intro ρ s ll xi h1 h2
    obtain ⟨x0, r0, rfl, q0, h1⟩ := h1.uncons
    obtain rfl := h1.unnil
    simp only [law, List.cons_append, List.nil_append]
    exact (.cons q0 h2)
  · intro ρ ys hx hp
    exact sizeT_ok (fun l hl => (hwf l hl).2) ρ ys hx hp
  · intro ρ ys zs h
    exact sizeT_cg ρ ys zs h

set_option maxRecDepth 100000 in
theorem lifted (os : Os) (started : os.Started) (H : Type) (enc : TypeId × Value → H) :
    ReturnsInHanded {} Try.checked os 14 .any (Rows.fnExactValidPolySpec.pre6 enc Try.prog Try.f14 Rows.fnExactValidPolyRow.domain false) (Rows.fnExactValidPolySpec.post enc Try.prog Try.f14 false true false false) := by
  refine returnsInHanded_of_change (C := Try.checked) own started (by kernel_rfl) Try.func14
    (ChangeSpec.witness6 (enc := enc) (C := Try.checked) false ⟨#[], #[.slice none 0 0], []⟩ 8 (by kernel_rfl) (by kernel_rfl) (by kernel_rfl) (by kernel_rfl)) ?_
  intro W base args ds gs before hval0 hW hcnd _
  have hval : ∀ (j : Nat) t v, Try.f14.params[j]? = some t → args[j]? = some v → Value.okWide Try.prog W .any base t v := hval0
  have hW' := hW
  obtain ⟨p, q, hA0, hV, rfl, hfz, hnd⟩ := hW
  have hA : DataW.TrodAll enc Try.prog W 0 (fun _ => true) true Try.f14.params.toList args.toList ds p := hA0
  rw [Try.params14] at hA hval
  obtain ⟨v0, vs0, d0, ds0, p0, q0, hargs0, rfl, rfl, g0, r0⟩ := trodAll_cons hA
  obtain ⟨rfl, rfl, rfl⟩ := trodAll_nil r0
  obtain rfl : args = #[v0] := by cases args; simp_all
  obtain ⟨rfl, rfl⟩ := trodVars_none hV
  have k0 := g0
  have lt0 := trod_lt_block k0
  obtain ⟨z0, h_z0⟩ := open_list2 Try.underlying22 Try.underlying3 (by kernel_rfl) (hval 0 22 v0 rfl rfl) g0
  clear hA0 hval0
  refine (walk z0  W h_z0).mono fun e W' ⟨he, bel, hz⟩ => ?_
  subst he
  exact ⟨_, rfl, _, _, _, [], _, [], hW', trodAll_mk1 (shut_bool Try.underlying4 _), (trodAll_cons_mk (Below.trod laidOut (by kernel_rfl) (of_decide_eq_true (by kernel_rfl)) k0 bel lt0) trodAll_mk0), rfl, bel.frame _, fun h => by cases h⟩

theorem proved : Rows.FnExactValidPolySaid :=
  OpenClaim.holds_of_wide 14 Try.f14 rfl rfl rfl rfl rfl rfl rfl ⟨rfl, rfl, rfl, rfl, rfl⟩ rfl rfl rfl rfl rfl (by kernel_rfl) Try.func14 (by kernel_rfl)
    (of_decide_eq_true (by kernel_rfl)) (by unfold Func.isWrapper; first | (rw [if_pos (by decide +kernel)]; kernel_rfl) | (rw [if_neg (by decide +kernel)]; exact ⟨rfl, rfl⟩))
    (fun os started H enc _ => lifted os started H enc)
#print axioms proved

end Go.Proofs.Ytbjjlimncodmkaa.EValidPoly

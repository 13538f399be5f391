/-
  For all arguments the law FnExactUnitPair returns true, and the arguments read as they did. No condition.
  How: a machine over the model, proved right (Mach, Sym), runs the law on symbols, case by case.
-/
import Derived.Test.YtbjjlimncodmkaaRows
import Derived.Test.YtbjjlimncodmkaaSym
import Derived.Test.YtbjjlimncodmkaaIds
import Derived.Test.YtbjjlimncodmkaaSumm
import Derived.WalkKit
import Derived.ProofKit
import Derived.OpenShut
namespace Go.Proofs.Ytbjjlimncodmkaa.EUnitPair
open Go.ChangeShapes Go.WideShapes Go.ChangeAt Go.RowKit Go.Sx Go.Proofs.Ytbjjlimncodmkaa.Ids
set_option linter.unusedVariables false
set_option linter.unusedSimpArgs false

noncomputable def law : LawU := ⟨7, [], 1, fun ll ii => match ll with | [] => [] ++ ii | _ => [], sizeT 0, fun _ => .leaf (.rng 0 2 5 (fun _ => .leaf) .leaf)⟩
set_option maxRecDepth 1000000 in
theorem huge : law.huge Try.prog 60 = true := by kernel_rfl
set_option maxRecDepth 1000000 in
theorem b__0 : law.blk Try.prog ids Summs.tab 60 [] 0 7 = true := by kernel_rfl
theorem cnt_ : (law.tree []).count = 7 := by kernel_rfl
theorem at_ : law.at Try.prog ids Summs.tab 60 [] = true := by
  refine LawU.at_of (fun j hj => ?_)
  rw [cnt_] at hj
  exact LawU.of_blk b__0 (by omega) (by omega)

theorem cases (es : List Nat) (hl : es.length = law.bds.length) (hx : ∀ x, x ∈ es → x ≤ 1) : law.at Try.prog ids Summs.tab 60 es = true := by
  have hl : es.length = 0 := hl
  obtain rfl := List.eq_nil_of_length_eq_zero hl
  exact at_
theorem own : ownKnob Try.prog.godebug = none := by kernel_rfl
theorem laidOut : laidOutB Try.prog = true := by kernel_rfl

theorem walk (a0 : Int) (w0 : (Lit.int .i64 a0).wf = true) (w : World) :
    LawTrue Try.prog 7 #[.int .i64 a0] w := by
  have hwf : ∀ ls, ls ∈ ([] : List (List Int)) → (∀ z, z ∈ ls → IntKind.i64.wrap z = z) ∧ ls.length ≤ 9223372036854775807 := by
    intro ls hls
    cases hls
  refine LawU.ok (l := law) (D := ids) (t := Summs.tab) (N := 60) (Ls := []) (lv := []) (I := [a0]) noCount mixed ids_ok Summs.tab_ok huge cases (by decide) ?_ rfl hwf rfl ?_ ?_ ?_ ?_
  · exact trivial
  · intro z hz
    simp only [List.mem_cons, List.not_mem_nil, or_false] at hz
    rcases hz with rfl
    · exact wrap_of_wf w0
  · intro ρ s ll xi h1 h2
    obtain rfl := h1.unnil
    simp only [law, List.cons_append, List.nil_append]
    exact h2
  · intro ρ ys hx hp
    exact sizeT_ok (fun l hl => (hwf l hl).2) ρ ys hx hp
  · intro ρ ys zs h
    exact sizeT_cg ρ ys zs h

set_option maxRecDepth 100000 in
theorem lifted (os : Os) (started : os.Started) (H : Type) (enc : TypeId × Value → H) :
    ReturnsInHanded {} Try.checked os 7 .any (Rows.fnExactUnitPairSpec.pre6 enc Try.prog Try.f7 Rows.fnExactUnitPairRow.domain false) (Rows.fnExactUnitPairSpec.post enc Try.prog Try.f7 false true false false) := by
  refine returnsInHanded_of_change (C := Try.checked) own started (by kernel_rfl) Try.func7
    (ChangeSpec.witness6 (enc := enc) (C := Try.checked) false ⟨#[], #[.int .i64 0], []⟩ 8 (by kernel_rfl) (by kernel_rfl) (by kernel_rfl) (by kernel_rfl)) ?_
  intro W base args ds gs before hval0 hW hcnd _
  have hval : ∀ (j : Nat) t v, Try.f7.params[j]? = some t → args[j]? = some v → Value.okWide Try.prog W .any base t v := hval0
  have hW' := hW
  obtain ⟨p, q, hA0, hV, rfl, hfz, hnd⟩ := hW
  have hA : DataW.TrodAll enc Try.prog W 0 (fun _ => true) true Try.f7.params.toList args.toList ds p := hA0
  rw [Try.params7] at hA hval
  obtain ⟨v0, vs0, d0, ds0, p0, q0, hargs0, rfl, rfl, g0, r0⟩ := trodAll_cons hA
  obtain ⟨rfl, rfl, rfl⟩ := trodAll_nil r0
  obtain rfl : args = #[v0] := by cases args; simp_all
  obtain ⟨rfl, rfl⟩ := trodVars_none hV
  obtain ⟨a0, rfl, rfl, rfl, w0⟩ := open_int Try.underlying3 (hval 0 3 v0 rfl rfl) g0
  clear hA0 hval0
  refine (walk  a0 w0 W ).mono fun e W' ⟨he, bel, hz⟩ => ?_
  subst he
  exact ⟨_, rfl, _, _, _, [], _, [], hW', trodAll_mk1 (shut_bool Try.underlying4 _), (trodAll_cons_mk (shut_int Try.underlying3 w0) trodAll_mk0), rfl, bel.frame _, fun h => by cases h⟩

theorem proved : Rows.FnExactUnitPairSaid :=
  OpenClaim.holds_of_wide 7 Try.f7 rfl rfl rfl rfl rfl rfl rfl ⟨rfl, rfl, rfl, rfl, rfl⟩ rfl rfl rfl rfl rfl (by kernel_rfl) Try.func7 (by kernel_rfl)
    (of_decide_eq_true (by kernel_rfl)) (by unfold Func.isWrapper; first | (rw [if_pos (by decide +kernel)]; kernel_rfl) | (rw [if_neg (by decide +kernel)]; exact ⟨rfl, rfl⟩))
    (fun os started H enc _ => lifted os started H enc)
#print axioms proved

end Go.Proofs.Ytbjjlimncodmkaa.EUnitPair

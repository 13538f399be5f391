/-
  For all arguments the law FnExactValidSeries returns true, and the arguments read as they did. No condition.
  How: a machine over the model, proved right (Mach, Sym), runs the law on symbols, case by case.
-/
import Derived.Test.YtakhojmofpokiaaRows
import Derived.Test.YtakhojmofpokiaaSym
import Derived.Test.YtakhojmofpokiaaIds
import Derived.Test.YtakhojmofpokiaaSumm
import Derived.WalkKit
import Derived.ProofKit
import Derived.OpenShut
namespace Go.Proofs.Ytakhojmofpokiaa.EValidSeries
open Go.ChangeShapes Go.WideShapes Go.ChangeAt Go.RowKit Go.Sx Go.Proofs.Ytakhojmofpokiaa.Ids
set_option linter.unusedVariables false
set_option linter.unusedSimpArgs false

noncomputable def law : Law := ⟨3, [600], 0, fun ll ii => ll ++ ii, lenTests 1, fun _ => .leaf, fun _ => .leaf⟩
set_option maxRecDepth 1000000 in
theorem huge : law.huge Try.prog 60 = true := by kernel_rfl
set_option maxRecDepth 1000000 in
theorem sts : law.sts Try.prog ids Summs.tab 60 = true := by kernel_rfl
set_option maxRecDepth 1000000 in
theorem known1 : law.known Try.prog ids Summs.tab 60 1 = true := by kernel_rfl
set_option maxRecDepth 1000000 in
theorem known2 : law.known Try.prog ids Summs.tab 60 2 = true := by kernel_rfl
set_option maxRecDepth 1000000 in
theorem known3 : law.known Try.prog ids Summs.tab 60 3 = true := by kernel_rfl
set_option maxRecDepth 1000000 in
theorem known4 : law.known Try.prog ids Summs.tab 60 4 = true := by kernel_rfl
set_option maxRecDepth 1000000 in
theorem known5 : law.known Try.prog ids Summs.tab 60 5 = true := by kernel_rfl
set_option maxRecDepth 1000000 in
theorem known6 : law.known Try.prog ids Summs.tab 60 6 = true := by kernel_rfl

theorem known (L : Nat) (h1 : 1 ≤ L) (h6 : L ≤ 6) : law.known Try.prog ids Summs.tab 60 L = true := by
  rcases (by omega : L = 1 ∨ L = 2 ∨ L = 3 ∨ L = 4 ∨ L = 5 ∨ L = 6) with rfl | rfl | rfl | rfl | rfl | rfl
  · exact known1
  · exact known2
  · exact known3
  · exact known4
  · exact known5
  · exact known6
theorem own : ownKnob Try.prog.godebug = none := by kernel_rfl
theorem laidOut : laidOutB Try.prog = true := by kernel_rfl

theorem walk {v0 : Value} (z0 : List Int)  (w : World) (h0 : IsList w z0 v0 ∧ z0.length ≤ 9223372036854775807) :
    LawTrue Try.prog 3 #[v0] w := by
  refine Law.ok (l := law) (D := ids) (t := Summs.tab) (N := 60) (Ls := [z0]) (lv := [v0]) (I := []) noCount mixed ids_ok Summs.tab_ok huge sts known (by decide) (by decide) ?_ rfl ?_ rfl ?_ ?_ ?_
  · exact ⟨h0.1, trivial⟩
  · intro ls hls
    simp only [List.mem_cons, List.not_mem_nil, or_false] at hls
    rcases hls with rfl
    · exact ⟨h0.1.1, h0.2⟩
  · intro z hz; cases hz
  · intro ρ s ll xi h1 h2
    exact VRs.append h1 h2
  · intro ρ hx hp
    exact lenTests_ok rfl hx hp

set_option maxRecDepth 100000 in
theorem lifted (os : Os) (started : os.Started) (H : Type) (enc : TypeId × Value → H) :
    ReturnsInHanded {} Try.checked os 3 .any (Rows.fnExactValidSeriesSpec.pre6 enc Try.prog Try.f3 Rows.fnExactValidSeriesRow.domain false) (Rows.fnExactValidSeriesSpec.post enc Try.prog Try.f3 false true false false) := by
  refine returnsInHanded_of_change (C := Try.checked) own started (by kernel_rfl) Try.func3
    (ChangeSpec.witness6 (enc := enc) (C := Try.checked) false ⟨#[], #[.slice none 0 0], []⟩ 8 (by kernel_rfl) (by kernel_rfl) (by kernel_rfl) (by kernel_rfl)) ?_
  intro W base args ds gs before hval0 hW hcnd _
  have hval : ∀ (j : Nat) t v, Try.f3.params[j]? = some t → args[j]? = some v → Value.okWide Try.prog W .any base t v := hval0
  have hW' := hW
  obtain ⟨p, q, hA0, hV, rfl, hfz, hnd⟩ := hW
  have hA : DataW.TrodAll enc Try.prog W 0 (fun _ => true) true Try.f3.params.toList args.toList ds p := hA0
  rw [Try.params3] at hA hval
  obtain ⟨v0, vs0, d0, ds0, p0, q0, hargs0, rfl, rfl, g0, r0⟩ := trodAll_cons hA
  obtain ⟨rfl, rfl, rfl⟩ := trodAll_nil r0
  obtain rfl : args = #[v0] := by cases args; simp_all
  obtain ⟨rfl, rfl⟩ := trodVars_none hV
  have k0 := g0
  have lt0 := trod_lt_block k0
  obtain ⟨z0, hl0⟩ := open_list2 Try.underlying22 Try.underlying3 (by kernel_rfl) (hval 0 22 v0 rfl rfl) g0
  clear hA0 hval0
  refine (walk z0  W hl0).mono fun e W' ⟨he, bel, hz⟩ => ?_
  subst he
  exact ⟨_, rfl, _, _, _, [], _, [], hW', trodAll_mk1 (shut_bool Try.underlying4 _), (trodAll_cons_mk (Below.trod laidOut (by kernel_rfl) (of_decide_eq_true (by kernel_rfl)) k0 bel lt0) trodAll_mk0), rfl, bel.frame _, fun h => by cases h⟩

theorem proved : Rows.FnExactValidSeriesSaid :=
  OpenClaim.holds_of_wide 3 Try.f3 rfl rfl rfl rfl rfl rfl rfl ⟨rfl, rfl, rfl, rfl, rfl⟩ rfl rfl rfl rfl rfl (by kernel_rfl) Try.func3 (by kernel_rfl)
    (of_decide_eq_true (by kernel_rfl)) (by unfold Func.isWrapper; first | (rw [if_pos (by decide +kernel)]; kernel_rfl) | (rw [if_neg (by decide +kernel)]; exact ⟨rfl, rfl⟩))
    (fun os started H enc _ => lifted os started H enc)
#print axioms proved

end Go.Proofs.Ytakhojmofpokiaa.EValidSeries

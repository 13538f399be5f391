/-
  For all arguments the law FnNamedPair returns true, and the arguments read as they did. No condition.
  How: the name that is drawn is one of seven: for each of them a machine over the model, proved right, runs the law.
-/
import Derived.Test.YthcecobiidgeoaaDNmpascal
import Derived.Test.YthcecobiidgeoaaDNmpartitions
import Derived.Test.YthcecobiidgeoaaDNmcycles
import Derived.Test.YthcecobiidgeoaaDNmlists
import Derived.Test.YthcecobiidgeoaaDNmEmpty
import Derived.Test.YthcecobiidgeoaaDNmsets
import Derived.Test.YthcecobiidgeoaaDNmBigPascal
import Derived.Test.YthcecobiidgeoaaDrawN
import Derived.WalkKit
import Derived.ProofKit
import Derived.OpenShut
namespace Go.Proofs.Ythcecobiidgeoaa.DNamedPair
open Go.ChangeShapes Go.WideShapes Go.ChangeAt Go.RowKit Go.Sx Go.Proofs.Ythcecobiidgeoaa.Ids
set_option linter.unusedVariables false
set_option linter.unusedSimpArgs false

theorem own : ownKnob Try.prog.godebug = none := by kernel_rfl
theorem laidOut : laidOutB Try.prog = true := by kernel_rfl

theorem walk {v0 : Value} (bs : List Int) (w : World) (h : IsBytes w bs v0 ∧ bs.length ≤ 9223372036854775807) : LawTrue Try.prog 10 #[v0] w := by
  obtain ⟨⟨_, S⟩, hr, v, x, hw, hx, hv⟩ := Draw.drawNamedPair bs h.1.1 0
  simp only at hw
  subst hw
  have hx2 : ∀ z, z ∈ [x] → IntKind.i64.wrap z = z := fun z hz => by
    simp at hz
    subst hz
    exact wrap_in (by omega) (by omega)
  rcases hv with rfl | rfl | rfl | rfl | rfl | rfl | rfl
  · exact LawD.okAt (l := DNmpascal.law) (D := ids) (t := Summs.tab) (N := 200) noCount mixed ids_ok Summs.tab_ok DNmpascal.huge DNmpascal.cases (by decide) ⟨_, Try.func41, rfl⟩ ⟨[], [x], ⟨Draw.K0, _, [], [], S, Draw.K0_ok, hr, rfl, rfl, List.nodup_nil, fun j hj => absurd hj (by simp)⟩, rfl, rfl, by simp, hx2⟩ h.1 h.2
  · exact LawD.okAt (l := DNmpartitions.law) (D := ids) (t := Summs.tab) (N := 200) noCount mixed ids_ok Summs.tab_ok DNmpartitions.huge DNmpartitions.cases (by decide) ⟨_, Try.func41, rfl⟩ ⟨[], [x], ⟨Draw.K0, _, [], [], S, Draw.K0_ok, hr, rfl, rfl, List.nodup_nil, fun j hj => absurd hj (by simp)⟩, rfl, rfl, by simp, hx2⟩ h.1 h.2
  · exact LawD.okAt (l := DNmcycles.law) (D := ids) (t := Summs.tab) (N := 200) noCount mixed ids_ok Summs.tab_ok DNmcycles.huge DNmcycles.cases (by decide) ⟨_, Try.func41, rfl⟩ ⟨[], [x], ⟨Draw.K0, _, [], [], S, Draw.K0_ok, hr, rfl, rfl, List.nodup_nil, fun j hj => absurd hj (by simp)⟩, rfl, rfl, by simp, hx2⟩ h.1 h.2
  · exact LawD.okAt (l := DNmlists.law) (D := ids) (t := Summs.tab) (N := 200) noCount mixed ids_ok Summs.tab_ok DNmlists.huge DNmlists.cases (by decide) ⟨_, Try.func41, rfl⟩ ⟨[], [x], ⟨Draw.K0, _, [], [], S, Draw.K0_ok, hr, rfl, rfl, List.nodup_nil, fun j hj => absurd hj (by simp)⟩, rfl, rfl, by simp, hx2⟩ h.1 h.2
  · exact LawD.okAt (l := DNmEmpty.law) (D := ids) (t := Summs.tab) (N := 200) noCount mixed ids_ok Summs.tab_ok DNmEmpty.huge DNmEmpty.cases (by decide) ⟨_, Try.func41, rfl⟩ ⟨[], [x], ⟨Draw.K0, _, [], [], S, Draw.K0_ok, hr, rfl, rfl, List.nodup_nil, fun j hj => absurd hj (by simp)⟩, rfl, rfl, by simp, hx2⟩ h.1 h.2
  · exact LawD.okAt (l := DNmsets.law) (D := ids) (t := Summs.tab) (N := 200) noCount mixed ids_ok Summs.tab_ok DNmsets.huge DNmsets.cases (by decide) ⟨_, Try.func41, rfl⟩ ⟨[], [x], ⟨Draw.K0, _, [], [], S, Draw.K0_ok, hr, rfl, rfl, List.nodup_nil, fun j hj => absurd hj (by simp)⟩, rfl, rfl, by simp, hx2⟩ h.1 h.2
  · exact LawD.okAt (l := DNmBigPascal.law) (D := ids) (t := Summs.tab) (N := 200) noCount mixed ids_ok Summs.tab_ok DNmBigPascal.huge DNmBigPascal.cases (by decide) ⟨_, Try.func41, rfl⟩ ⟨[], [x], ⟨Draw.K0, _, [], [], S, Draw.K0_ok, hr, rfl, rfl, List.nodup_nil, fun j hj => absurd hj (by simp)⟩, rfl, rfl, by simp, hx2⟩ h.1 h.2

set_option maxRecDepth 100000 in
theorem lifted (os : Os) (started : os.Started) (H : Type) (enc : TypeId × Value → H) :
    ReturnsInHanded {} Try.checked os 10 .any (Rows.fnNamedPairSpec.pre6 enc Try.prog Try.f10 Rows.fnNamedPairRow.domain false) (Rows.fnNamedPairSpec.post enc Try.prog Try.f10 false true false false) := by
  refine returnsInHanded_of_change (C := Try.checked) own started (by kernel_rfl) Try.func10
    (ChangeSpec.witness6 (enc := enc) (C := Try.checked) false ⟨#[], #[.slice none 0 0], []⟩ 8 (by kernel_rfl) (by kernel_rfl) (by kernel_rfl) (by kernel_rfl)) ?_
  intro W base args ds gs before hval0 hW hcnd _
  have hval : ∀ (j : Nat) t v, Try.f10.params[j]? = some t → args[j]? = some v → Value.okWide Try.prog W .any base t v := hval0
  have hW' := hW
  obtain ⟨p, q, hA0, hV, rfl, hfz, hnd⟩ := hW
  have hA : DataW.TrodAll enc Try.prog W 0 (fun _ => true) true Try.f10.params.toList args.toList ds p := hA0
  rw [Try.params10] at hA hval
  obtain ⟨v0, vs0, d0, ds0, p0, q0, hargs0, rfl, rfl, g0, r0⟩ := trodAll_cons hA
  obtain ⟨rfl, rfl, rfl⟩ := trodAll_nil r0
  obtain rfl : args = #[v0] := by cases args; simp_all
  obtain ⟨rfl, rfl⟩ := trodVars_none hV
  have k0 := g0
  have lt0 := trod_lt_block k0
  obtain ⟨z0, h_z0⟩ := open_bytes Try.underlying27 Try.underlying5 (by kernel_rfl) (hval 0 27 v0 rfl rfl) g0
  clear hA0 hval0
  refine (walk z0 W h_z0).mono fun e W' ⟨he, bel, hz⟩ => ?_
  subst he
  exact ⟨_, rfl, _, _, _, [], _, [], hW', trodAll_mk1 (shut_bool Try.underlying4 _), (trodAll_cons_mk (Below.trod laidOut (by kernel_rfl) (of_decide_eq_true (by kernel_rfl)) k0 bel lt0) trodAll_mk0), rfl, bel.frame _, fun h => by cases h⟩

theorem proved : Rows.FnNamedPairSaid :=
  OpenClaim.holds_of_wide 10 Try.f10 rfl rfl rfl rfl rfl rfl rfl ⟨rfl, rfl, rfl, rfl, rfl⟩ rfl rfl rfl rfl rfl (by kernel_rfl) Try.func10 (by kernel_rfl)
    (of_decide_eq_true (by kernel_rfl)) (by unfold Func.isWrapper; first | (rw [if_pos (by decide +kernel)]; kernel_rfl) | (rw [if_neg (by decide +kernel)]; exact ⟨rfl, rfl⟩))
    (fun os started H enc _ => lifted os started H enc)
#print axioms proved

end Go.Proofs.Ythcecobiidgeoaa.DNamedPair

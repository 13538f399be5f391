/-
  For every integer the law on FallingProducts returns true, and the argument reads as it did. No condition.
  How: a machine over the model, proved right (Mach, Sym), runs the law on 1 to 6, and on a symbol below 1 and above 6.
-/
import Derived.Test.YtcnpdjpimaaleabRows
import Derived.Test.YtcnpdjpimaaleabSym
import Derived.WalkKit
import Derived.ProofKit
import Derived.OpenShut
namespace Go.Proofs.Ytcnpdjpimaaleab.Falling
open Go.ChangeShapes Go.WideShapes Go.ChangeAt Go.RowKit Go.Sx
set_option linter.unusedVariables false

theorem own : ownKnob Try.prog.godebug = none := by kernel_rfl
theorem noCount : NoCount Try.prog := noCount_of (by kernel_rfl)
theorem mixed : Try.prog.follows .mixedOrders = true := by kernel_rfl

set_option maxRecDepth 100000 in
theorem r1 : saysTrue (symRun Try.prog noK [] 60 9 [.int .i64 (.c 1)] ⟨0, [], 0⟩) = true := by kernel_rfl
set_option maxRecDepth 100000 in
theorem r2 : saysTrue (symRun Try.prog noK [] 60 9 [.int .i64 (.c 2)] ⟨0, [], 0⟩) = true := by kernel_rfl
set_option maxRecDepth 100000 in
theorem r3 : saysTrue (symRun Try.prog noK [] 60 9 [.int .i64 (.c 3)] ⟨0, [], 0⟩) = true := by kernel_rfl
set_option maxRecDepth 100000 in
theorem r4 : saysTrue (symRun Try.prog noK [] 60 9 [.int .i64 (.c 4)] ⟨0, [], 0⟩) = true := by kernel_rfl
set_option maxRecDepth 100000 in
theorem r5 : saysTrue (symRun Try.prog noK [] 60 9 [.int .i64 (.c 5)] ⟨0, [], 0⟩) = true := by kernel_rfl
set_option maxRecDepth 100000 in
theorem r6 : saysTrue (symRun Try.prog noK [] 60 9 [.int .i64 (.c 6)] ⟨0, [], 0⟩) = true := by kernel_rfl
set_option maxRecDepth 100000 in
theorem low : saysTrue (symRun Try.prog noK [⟨true, vx 0, .c 1, true⟩] 60 9 [.int .i64 (vx 0)] ⟨0, [], 0⟩) = true := by kernel_rfl
set_option maxRecDepth 100000 in
theorem high : saysTrue (symRun Try.prog noK [⟨true, vx 0, .c 1, false⟩, ⟨true, .c 6, vx 0, true⟩] 60 9 [.int .i64 (vx 0)] ⟨0, [], 0⟩) = true := by kernel_rfl

theorem one {ρ : Nat → Int} {Γ : List Fact} (hΓ : ∀ f, f ∈ Γ → f.Ok ρ) {x : Sy} {a0 : Int} (hx : x.den ρ = a0) (hrun : saysTrue (symRun Try.prog noK Γ 60 9 [.int .i64 x] ⟨0, [], 0⟩) = true) (w : World) :
    Calls Try.prog 9 #[.int .i64 a0] w fun e w' => e = .returned (.bool true) ∧ Below w.heap.size w w' ∧ ∀ a, w'.frozen? a = w.frozen? a := by
  refine calls_true (Δ := ⟨Sy.den ρ, fun _ _ => ByteArray.empty⟩) (symRun_ok noCount mixed hΓ noK_ok 60) ?_ hrun
  have := VR.int (Δ := ⟨Sy.den ρ, fun _ _ => ByteArray.empty⟩) (B := w.heap.size) (c := ⟨w, fun _ => none⟩) .i64 x
  simp only [hx] at this
  exact .cons this .nil

theorem walk (a0 : Int) (w0 : (Lit.int .i64 a0).wf = true) (w : World) :
    Calls Try.prog 9 #[.int .i64 a0] w fun e w' => e = .returned (.bool true) ∧ Below w.heap.size w w' ∧ ∀ a, w'.frozen? a = w.frozen? a := by
  have hw : IntKind.i64.wrap a0 = a0 := wrap_of_wf w0
  have hv : (vx 0).den (fun _ => a0) = a0 := vx_den _ 0 (by decide) hw
  have no : ∀ f, f ∈ ([] : List Fact) → f.Ok (fun _ => a0) := by simp
  by_cases h1 : a0 < 1
  · refine one (ρ := fun _ => a0) (fun f hf => ?_) hv low w
    simp only [List.mem_cons, List.not_mem_nil, or_false] at hf
    subst hf
    exact Fact.lt_yes (by rw [hv]; exact h1)
  · by_cases h6 : 6 < a0
    · refine one (ρ := fun _ => a0) (fun f hf => ?_) hv high w
      simp only [List.mem_cons, List.not_mem_nil, or_false] at hf
      rcases hf with rfl | rfl
      · exact Fact.lt_no (by rw [hv]; exact h1)
      · exact Fact.lt_yes (by rw [hv]; exact h6)
    · have : a0 = 1 ∨ a0 = 2 ∨ a0 = 3 ∨ a0 = 4 ∨ a0 = 5 ∨ a0 = 6 := by omega
      rcases this with rfl | rfl | rfl | rfl | rfl | rfl
      · exact one no rfl r1 w
      · exact one no rfl r2 w
      · exact one no rfl r3 w
      · exact one no rfl r4 w
      · exact one no rfl r5 w
      · exact one no rfl r6 w

set_option maxRecDepth 100000 in
theorem lifted (os : Os) (started : os.Started) (H : Type) (enc : TypeId × Value → H) :
    ReturnsInHanded {} Try.checked os 9 .any (Rows.fnExactFallingProductsSpec.pre6 enc Try.prog Try.f9 Rows.fnExactFallingProductsRow.domain false) (Rows.fnExactFallingProductsSpec.post enc Try.prog Try.f9 false true false false) := by
  refine returnsInHanded_of_change (C := Try.checked) own started (by kernel_rfl) Try.func9
    (ChangeSpec.witness6 (enc := enc) (C := Try.checked) false ⟨#[], #[.int .i64 0], []⟩ 8 (by kernel_rfl) (by kernel_rfl) (by kernel_rfl) (by kernel_rfl)) ?_
  intro W base args ds gs before hval0 hW hcnd _
  have hval : ∀ (j : Nat) t v, Try.f9.params[j]? = some t → args[j]? = some v → Value.okWide Try.prog W .any base t v := hval0
  have hW' := hW
  obtain ⟨p, q, hA0, hV, rfl, hfz, hnd⟩ := hW
  have hA : DataW.TrodAll enc Try.prog W 0 (fun _ => true) true Try.f9.params.toList args.toList ds p := hA0
  rw [Try.params9] at hA hval
  obtain ⟨v0, vs0, d0, ds0, p0, q0, hargs, rfl, rfl, h0, r0⟩ := trodAll_cons hA
  obtain ⟨rfl, rfl, rfl⟩ := trodAll_nil r0
  obtain rfl : args = #[v0] := by cases args; simp_all
  obtain ⟨rfl, rfl⟩ := trodVars_none hV
  obtain ⟨a0, rfl, rfl, rfl, w0⟩ := open_int Try.underlying3 (hval 0 3 v0 rfl rfl) h0
  clear hA0 hval0
  simp only [List.append_nil] at hW'
  refine (walk a0 w0 W).mono fun e W' ⟨he, hb, hz⟩ => ?_
  subst he
  exact ⟨_, rfl, post_of_same (pa := []) (pv := []) hW' (fun _ _ _ => (trodAll_cons_mk (shut_bool Try.underlying4 _) trodAll_mk0)) (fun sp _ => (trodAll_cons_mk (shut_int Try.underlying3 w0) trodAll_mk0)) (fun _ _ => rfl) rfl
    (hb.frame _) hz (ok_one (by kernel_rfl) rfl (okWide_bool_mk Try.underlying4 _))⟩

theorem proved : Rows.FnExactFallingProductsSaid :=
  OpenClaim.holds_of_wide 9 Try.f9 rfl rfl rfl rfl rfl rfl rfl ⟨rfl, rfl, rfl, rfl, rfl⟩ rfl rfl rfl rfl rfl (by kernel_rfl) Try.func9 (by kernel_rfl)
    (of_decide_eq_true (by kernel_rfl)) (by unfold Func.isWrapper; first | (rw [if_pos (by decide +kernel)]; kernel_rfl) | (rw [if_neg (by decide +kernel)]; exact ⟨rfl, rfl⟩))
    (fun os started H enc _ => lifted os started H enc)
#print axioms proved

end Go.Proofs.Ytcnpdjpimaaleab.Falling

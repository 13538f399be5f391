/-
  For all arguments the law FnAllPartitions returns true, and the arguments read as they did. No condition.
  How: a machine over the model, proved right (Mach, Sym), runs the law on symbols, case by case.
-/
import Derived.Test.YthcecobiidgeoaaRows
import Derived.Test.YthcecobiidgeoaaSym
import Derived.Test.YthcecobiidgeoaaIds
import Derived.Test.YthcecobiidgeoaaSumm
import Derived.Test.YthcecobiidgeoaaDraw
import Derived.Test.YthcecobiidgeoaaDrawC
import Derived.WalkKit
import Derived.ProofKit
import Derived.OpenShut
namespace Go.Proofs.Ythcecobiidgeoaa.DAllParts
open Go.ChangeShapes Go.WideShapes Go.ChangeAt Go.RowKit Go.Sx Go.Proofs.Ythcecobiidgeoaa.Ids
set_option linter.unusedVariables false
set_option linter.unusedSimpArgs false

noncomputable def law : LawD := ⟨4, 17, [.c (.i 0)], [], 1, fun _ => .leaf (.rng 0 0 6 (fun _ => .leaf) .leaf)⟩
set_option maxRecDepth 1000000 in
theorem huge : law.huge Try.prog 200 = true := by kernel_rfl
set_option maxRecDepth 1000000 in
theorem b__0 : law.blk Try.prog ids Summs.tab 200 [] 0 1 = true := by kernel_rfl
set_option maxRecDepth 1000000 in
theorem b__1 : law.blk Try.prog ids Summs.tab 200 [] 1 1 = true := by kernel_rfl
set_option maxRecDepth 1000000 in
theorem b__2 : law.blk Try.prog ids Summs.tab 200 [] 2 1 = true := by kernel_rfl
set_option maxRecDepth 1000000 in
theorem b__3 : law.blk Try.prog ids Summs.tab 200 [] 3 1 = true := by kernel_rfl
set_option maxRecDepth 1000000 in
theorem b__4 : law.blk Try.prog ids Summs.tab 200 [] 4 1 = true := by kernel_rfl
set_option maxRecDepth 1000000 in
theorem b__5 : law.blk Try.prog ids Summs.tab 200 [] 5 1 = true := by kernel_rfl
set_option maxRecDepth 1000000 in
theorem b__6 : law.blk Try.prog ids Summs.tab 200 [] 6 1 = true := by kernel_rfl
set_option maxRecDepth 1000000 in
theorem b__7 : law.blk Try.prog ids Summs.tab 200 [] 7 1 = true := by kernel_rfl
theorem cnt_ : (law.tree []).count = 8 := by kernel_rfl
theorem at_ : law.at Try.prog ids Summs.tab 200 [] = true := by
  refine LawD.at_of (fun j hj => ?_)
  rw [cnt_] at hj
  by_cases h0 : j < 1
  · exact LawD.of_blk b__0 (by omega) (by omega)
  by_cases h1 : j < 2
  · exact LawD.of_blk b__1 (by omega) (by omega)
  by_cases h2 : j < 3
  · exact LawD.of_blk b__2 (by omega) (by omega)
  by_cases h3 : j < 4
  · exact LawD.of_blk b__3 (by omega) (by omega)
  by_cases h4 : j < 5
  · exact LawD.of_blk b__4 (by omega) (by omega)
  by_cases h5 : j < 6
  · exact LawD.of_blk b__5 (by omega) (by omega)
  by_cases h6 : j < 7
  · exact LawD.of_blk b__6 (by omega) (by omega)
  exact LawD.of_blk b__7 (by omega) (by omega)

theorem cases (es : List Nat) (hl : es.length = law.bds.length) (hx : ∀ x, x ∈ es → x ≤ 1) : law.at Try.prog ids Summs.tab 200 es = true := by
  have hl : es.length = 0 := hl
  obtain rfl := List.eq_nil_of_length_eq_zero hl
  exact at_
theorem own : ownKnob Try.prog.godebug = none := by kernel_rfl
theorem laidOut : laidOutB Try.prog = true := by kernel_rfl

theorem drawn (bs : List Int) (hbs : ∀ b, b ∈ bs → 0 ≤ b ∧ b < 256) : ∃ Ls I, Drawn Try.prog law.dk law.outs bs Ls I ∧ Ls.length = law.bds.length ∧ I.length = law.m ∧ (∀ ls, ls ∈ Ls → (∀ z, z ∈ ls → IntKind.i64.wrap z = z) ∧ ls.length ≤ 1048576) ∧ ∀ z, z ∈ I → IntKind.i64.wrap z = z := by
  exact drawn_i Draw.K0_ok (Draw.drawAllPartitions bs hbs 0)

theorem walk {v0 : Value} (bs : List Int) (w : World) (h : IsBytes w bs v0 ∧ bs.length ≤ 9223372036854775807) : LawTrue Try.prog 4 #[v0] w :=
  LawD.ok (l := law) (D := ids) (t := Summs.tab) (N := 200) noCount mixed ids_ok Summs.tab_ok huge cases (by decide) ⟨_, Try.func17, rfl⟩ drawn h.1 h.2

set_option maxRecDepth 100000 in
theorem lifted (os : Os) (started : os.Started) (H : Type) (enc : TypeId × Value → H) :
    ReturnsInHanded {} Try.checked os 4 .any (Rows.fnAllPartitionsSpec.pre6 enc Try.prog Try.f4 Rows.fnAllPartitionsRow.domain false) (Rows.fnAllPartitionsSpec.post enc Try.prog Try.f4 false true false false) := by
  refine returnsInHanded_of_change (C := Try.checked) own started (by kernel_rfl) Try.func4
    (ChangeSpec.witness6 (enc := enc) (C := Try.checked) false ⟨#[], #[.slice none 0 0], []⟩ 8 (by kernel_rfl) (by kernel_rfl) (by kernel_rfl) (by kernel_rfl)) ?_
  intro W base args ds gs before hval0 hW hcnd _
  have hval : ∀ (j : Nat) t v, Try.f4.params[j]? = some t → args[j]? = some v → Value.okWide Try.prog W .any base t v := hval0
  have hW' := hW
  obtain ⟨p, q, hA0, hV, rfl, hfz, hnd⟩ := hW
  have hA : DataW.TrodAll enc Try.prog W 0 (fun _ => true) true Try.f4.params.toList args.toList ds p := hA0
  rw [Try.params4] at hA hval
  obtain ⟨v0, vs0, d0, ds0, p0, q0, hargs0, rfl, rfl, g0, r0⟩ := trodAll_cons hA
  obtain ⟨rfl, rfl, rfl⟩ := trodAll_nil r0
  obtain rfl : args = #[v0] := by cases args; simp_all
  obtain ⟨rfl, rfl⟩ := trodVars_none hV
  have k0 := g0
  have lt0 := trod_lt_block k0
  obtain ⟨z0, h_z0⟩ := open_bytes Try.underlying27 Try.underlying5 (by kernel_rfl) (hval 0 27 v0 rfl rfl) g0
  clear hA0 hval0
  refine (walk z0 W h_z0).mono fun e W' ⟨he, bel, hz⟩ => ?_
  subst he
  exact ⟨_, rfl, _, _, _, [], _, [], hW', trodAll_mk1 (shut_bool Try.underlying4 _), (trodAll_cons_mk (Below.trod laidOut (by kernel_rfl) (of_decide_eq_true (by kernel_rfl)) k0 bel lt0) trodAll_mk0), rfl, bel.frame _, fun h => by cases h⟩

theorem proved : Rows.FnAllPartitionsSaid :=
  OpenClaim.holds_of_wide 4 Try.f4 rfl rfl rfl rfl rfl rfl rfl ⟨rfl, rfl, rfl, rfl, rfl⟩ rfl rfl rfl rfl rfl (by kernel_rfl) Try.func4 (by kernel_rfl)
    (of_decide_eq_true (by kernel_rfl)) (by unfold Func.isWrapper; first | (rw [if_pos (by decide +kernel)]; kernel_rfl) | (rw [if_neg (by decide +kernel)]; exact ⟨rfl, rfl⟩))
    (fun os started H enc _ => lifted os started H enc)
#print axioms proved

end Go.Proofs.Ythcecobiidgeoaa.DAllParts

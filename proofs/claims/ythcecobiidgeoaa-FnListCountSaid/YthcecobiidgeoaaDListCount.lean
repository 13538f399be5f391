/-
  For all arguments the law FnListCount returns true, and the arguments read as they did. No condition.
  How: a machine over the model, proved right (Mach, Sym), runs the law on symbols, case by case.
-/
import Derived.Test.YthcecobiidgeoaaRows
import Derived.Test.YthcecobiidgeoaaSym
import Derived.Test.YthcecobiidgeoaaIds
import Derived.Test.YthcecobiidgeoaaSumm
import Derived.Test.YthcecobiidgeoaaDraw
import Derived.Test.YthcecobiidgeoaaDrawC
import Derived.WalkKit
import Derived.ProofKit
import Derived.OpenShut
namespace Go.Proofs.Ythcecobiidgeoaa.DListCount
open Go.ChangeShapes Go.WideShapes Go.ChangeAt Go.RowKit Go.Sx Go.Proofs.Ythcecobiidgeoaa.Ids
set_option linter.unusedVariables false
set_option linter.unusedSimpArgs false

noncomputable def law : LawD := ⟨9, 38, [.c (.i 0), .c (.i 1)], [], 2, fun _ => .leaf (.cmp true (fun xs => xs.getD 0 (.c 0)) (fun _ => .c 0) (.cmp true (fun xs => xs.getD 1 (.c 0)) (fun _ => .c 0) .leaf .leaf) (.cmp true (fun _ => .c 5) (fun xs => xs.getD 0 (.c 0)) (.cmp true (fun xs => xs.getD 1 (.c 0)) (fun _ => .c 0) .leaf (.cmp true (fun xs => xs.getD 0 (.c 0)) (fun xs => xs.getD 1 (.c 0)) .leaf .leaf)) (.rng 0 0 6 (fun _ => .rng 1 0 6 (fun _ => .leaf) .leaf) .leaf)))⟩
set_option maxRecDepth 1000000 in
theorem huge : law.huge Try.prog 200 = true := by kernel_rfl
set_option maxRecDepth 1000000 in
theorem b__0 : law.blk Try.prog ids Summs.tab 200 [] 0 1 = true := by kernel_rfl
set_option maxRecDepth 1000000 in
theorem b__1 : law.blk Try.prog ids Summs.tab 200 [] 1 1 = true := by kernel_rfl
set_option maxRecDepth 1000000 in
theorem b__2 : law.blk Try.prog ids Summs.tab 200 [] 2 1 = true := by kernel_rfl
set_option maxRecDepth 1000000 in
theorem b__3 : law.blk Try.prog ids Summs.tab 200 [] 3 1 = true := by kernel_rfl
set_option maxRecDepth 1000000 in
theorem b__4 : law.blk Try.prog ids Summs.tab 200 [] 4 1 = true := by kernel_rfl
set_option maxRecDepth 1000000 in
theorem b__5 : law.blk Try.prog ids Summs.tab 200 [] 5 1 = true := by kernel_rfl
set_option maxRecDepth 1000000 in
theorem b__6 : law.blk Try.prog ids Summs.tab 200 [] 6 1 = true := by kernel_rfl
set_option maxRecDepth 1000000 in
theorem b__7 : law.blk Try.prog ids Summs.tab 200 [] 7 1 = true := by kernel_rfl
set_option maxRecDepth 1000000 in
theorem b__8 : law.blk Try.prog ids Summs.tab 200 [] 8 1 = true := by kernel_rfl
set_option maxRecDepth 1000000 in
theorem b__9 : law.blk Try.prog ids Summs.tab 200 [] 9 1 = true := by kernel_rfl
set_option maxRecDepth 1000000 in
theorem b__10 : law.blk Try.prog ids Summs.tab 200 [] 10 1 = true := by kernel_rfl
set_option maxRecDepth 1000000 in
theorem b__11 : law.blk Try.prog ids Summs.tab 200 [] 11 1 = true := by kernel_rfl
set_option maxRecDepth 1000000 in
theorem b__12 : law.blk Try.prog ids Summs.tab 200 [] 12 1 = true := by kernel_rfl
set_option maxRecDepth 1000000 in
theorem b__13 : law.blk Try.prog ids Summs.tab 200 [] 13 1 = true := by kernel_rfl
set_option maxRecDepth 1000000 in
theorem b__14 : law.blk Try.prog ids Summs.tab 200 [] 14 1 = true := by kernel_rfl
set_option maxRecDepth 1000000 in
theorem b__15 : law.blk Try.prog ids Summs.tab 200 [] 15 1 = true := by kernel_rfl
set_option maxRecDepth 1000000 in
theorem b__16 : law.blk Try.prog ids Summs.tab 200 [] 16 1 = true := by kernel_rfl
set_option maxRecDepth 1000000 in
theorem b__17 : law.blk Try.prog ids Summs.tab 200 [] 17 1 = true := by kernel_rfl
set_option maxRecDepth 1000000 in
theorem b__18 : law.blk Try.prog ids Summs.tab 200 [] 18 1 = true := by kernel_rfl
set_option maxRecDepth 1000000 in
theorem b__19 : law.blk Try.prog ids Summs.tab 200 [] 19 1 = true := by kernel_rfl
set_option maxRecDepth 1000000 in
theorem b__20 : law.blk Try.prog ids Summs.tab 200 [] 20 1 = true := by kernel_rfl
set_option maxRecDepth 1000000 in
theorem b__21 : law.blk Try.prog ids Summs.tab 200 [] 21 1 = true := by kernel_rfl
set_option maxRecDepth 1000000 in
theorem b__22 : law.blk Try.prog ids Summs.tab 200 [] 22 1 = true := by kernel_rfl
set_option maxRecDepth 1000000 in
theorem b__23 : law.blk Try.prog ids Summs.tab 200 [] 23 1 = true := by kernel_rfl
set_option maxRecDepth 1000000 in
theorem b__24 : law.blk Try.prog ids Summs.tab 200 [] 24 1 = true := by kernel_rfl
set_option maxRecDepth 1000000 in
theorem b__25 : law.blk Try.prog ids Summs.tab 200 [] 25 1 = true := by kernel_rfl
set_option maxRecDepth 1000000 in
theorem b__26 : law.blk Try.prog ids Summs.tab 200 [] 26 1 = true := by kernel_rfl
set_option maxRecDepth 1000000 in
theorem b__27 : law.blk Try.prog ids Summs.tab 200 [] 27 1 = true := by kernel_rfl
set_option maxRecDepth 1000000 in
theorem b__28 : law.blk Try.prog ids Summs.tab 200 [] 28 1 = true := by kernel_rfl
set_option maxRecDepth 1000000 in
theorem b__29 : law.blk Try.prog ids Summs.tab 200 [] 29 1 = true := by kernel_rfl
set_option maxRecDepth 1000000 in
theorem b__30 : law.blk Try.prog ids Summs.tab 200 [] 30 1 = true := by kernel_rfl
set_option maxRecDepth 1000000 in
theorem b__31 : law.blk Try.prog ids Summs.tab 200 [] 31 1 = true := by kernel_rfl
set_option maxRecDepth 1000000 in
theorem b__32 : law.blk Try.prog ids Summs.tab 200 [] 32 1 = true := by kernel_rfl
set_option maxRecDepth 1000000 in
theorem b__33 : law.blk Try.prog ids Summs.tab 200 [] 33 1 = true := by kernel_rfl
set_option maxRecDepth 1000000 in
theorem b__34 : law.blk Try.prog ids Summs.tab 200 [] 34 1 = true := by kernel_rfl
set_option maxRecDepth 1000000 in
theorem b__35 : law.blk Try.prog ids Summs.tab 200 [] 35 1 = true := by kernel_rfl
set_option maxRecDepth 1000000 in
theorem b__36 : law.blk Try.prog ids Summs.tab 200 [] 36 1 = true := by kernel_rfl
set_option maxRecDepth 1000000 in
theorem b__37 : law.blk Try.prog ids Summs.tab 200 [] 37 1 = true := by kernel_rfl
set_option maxRecDepth 1000000 in
theorem b__38 : law.blk Try.prog ids Summs.tab 200 [] 38 1 = true := by kernel_rfl
set_option maxRecDepth 1000000 in
theorem b__39 : law.blk Try.prog ids Summs.tab 200 [] 39 1 = true := by kernel_rfl
set_option maxRecDepth 1000000 in
theorem b__40 : law.blk Try.prog ids Summs.tab 200 [] 40 1 = true := by kernel_rfl
set_option maxRecDepth 1000000 in
theorem b__41 : law.blk Try.prog ids Summs.tab 200 [] 41 1 = true := by kernel_rfl
set_option maxRecDepth 1000000 in
theorem b__42 : law.blk Try.prog ids Summs.tab 200 [] 42 1 = true := by kernel_rfl
set_option maxRecDepth 1000000 in
theorem b__43 : law.blk Try.prog ids Summs.tab 200 [] 43 1 = true := by kernel_rfl
set_option maxRecDepth 1000000 in
theorem b__44 : law.blk Try.prog ids Summs.tab 200 [] 44 1 = true := by kernel_rfl
set_option maxRecDepth 1000000 in
theorem b__45 : law.blk Try.prog ids Summs.tab 200 [] 45 1 = true := by kernel_rfl
set_option maxRecDepth 1000000 in
theorem b__46 : law.blk Try.prog ids Summs.tab 200 [] 46 1 = true := by kernel_rfl
set_option maxRecDepth 1000000 in
theorem b__47 : law.blk Try.prog ids Summs.tab 200 [] 47 1 = true := by kernel_rfl
set_option maxRecDepth 1000000 in
theorem b__48 : law.blk Try.prog ids Summs.tab 200 [] 48 1 = true := by kernel_rfl
set_option maxRecDepth 1000000 in
theorem b__49 : law.blk Try.prog ids Summs.tab 200 [] 49 1 = true := by kernel_rfl
set_option maxRecDepth 1000000 in
theorem b__50 : law.blk Try.prog ids Summs.tab 200 [] 50 1 = true := by kernel_rfl
set_option maxRecDepth 1000000 in
theorem b__51 : law.blk Try.prog ids Summs.tab 200 [] 51 1 = true := by kernel_rfl
set_option maxRecDepth 1000000 in
theorem b__52 : law.blk Try.prog ids Summs.tab 200 [] 52 1 = true := by kernel_rfl
set_option maxRecDepth 1000000 in
theorem b__53 : law.blk Try.prog ids Summs.tab 200 [] 53 1 = true := by kernel_rfl
set_option maxRecDepth 1000000 in
theorem b__54 : law.blk Try.prog ids Summs.tab 200 [] 54 1 = true := by kernel_rfl
theorem cnt_ : (law.tree []).count = 55 := by kernel_rfl
theorem at_ : law.at Try.prog ids Summs.tab 200 [] = true := by
  refine LawD.at_of (fun j hj => ?_)
  rw [cnt_] at hj
  by_cases h0 : j < 1
  · exact LawD.of_blk b__0 (by omega) (by omega)
  by_cases h1 : j < 2
  · exact LawD.of_blk b__1 (by omega) (by omega)
  by_cases h2 : j < 3
  · exact LawD.of_blk b__2 (by omega) (by omega)
  by_cases h3 : j < 4
  · exact LawD.of_blk b__3 (by omega) (by omega)
  by_cases h4 : j < 5
  · exact LawD.of_blk b__4 (by omega) (by omega)
  by_cases h5 : j < 6
  · exact LawD.of_blk b__5 (by omega) (by omega)
  by_cases h6 : j < 7
  · exact LawD.of_blk b__6 (by omega) (by omega)
  by_cases h7 : j < 8
  · exact LawD.of_blk b__7 (by omega) (by omega)
  by_cases h8 : j < 9
  · exact LawD.of_blk b__8 (by omega) (by omega)
  by_cases h9 : j < 10
  · exact LawD.of_blk b__9 (by omega) (by omega)
  by_cases h10 : j < 11
  · exact LawD.of_blk b__10 (by omega) (by omega)
  by_cases h11 : j < 12
  · exact LawD.of_blk b__11 (by omega) (by omega)
  by_cases h12 : j < 13
  · exact LawD.of_blk b__12 (by omega) (by omega)
  by_cases h13 : j < 14
  · exact LawD.of_blk b__13 (by omega) (by omega)
  by_cases h14 : j < 15
  · exact LawD.of_blk b__14 (by omega) (by omega)
  by_cases h15 : j < 16
  · exact LawD.of_blk b__15 (by omega) (by omega)
  by_cases h16 : j < 17
  · exact LawD.of_blk b__16 (by omega) (by omega)
  by_cases h17 : j < 18
  · exact LawD.of_blk b__17 (by omega) (by omega)
  by_cases h18 : j < 19
  · exact LawD.of_blk b__18 (by omega) (by omega)
  by_cases h19 : j < 20
  · exact LawD.of_blk b__19 (by omega) (by omega)
  by_cases h20 : j < 21
  · exact LawD.of_blk b__20 (by omega) (by omega)
  by_cases h21 : j < 22
  · exact LawD.of_blk b__21 (by omega) (by omega)
  by_cases h22 : j < 23
  · exact LawD.of_blk b__22 (by omega) (by omega)
  by_cases h23 : j < 24
  · exact LawD.of_blk b__23 (by omega) (by omega)
  by_cases h24 : j < 25
  · exact LawD.of_blk b__24 (by omega) (by omega)
  by_cases h25 : j < 26
  · exact LawD.of_blk b__25 (by omega) (by omega)
  by_cases h26 : j < 27
  · exact LawD.of_blk b__26 (by omega) (by omega)
  by_cases h27 : j < 28
  · exact LawD.of_blk b__27 (by omega) (by omega)
  by_cases h28 : j < 29
  · exact LawD.of_blk b__28 (by omega) (by omega)
  by_cases h29 : j < 30
  · exact LawD.of_blk b__29 (by omega) (by omega)
  by_cases h30 : j < 31
  · exact LawD.of_blk b__30 (by omega) (by omega)
  by_cases h31 : j < 32
  · exact LawD.of_blk b__31 (by omega) (by omega)
  by_cases h32 : j < 33
  · exact LawD.of_blk b__32 (by omega) (by omega)
  by_cases h33 : j < 34
  · exact LawD.of_blk b__33 (by omega) (by omega)
  by_cases h34 : j < 35
  · exact LawD.of_blk b__34 (by omega) (by omega)
  by_cases h35 : j < 36
  · exact LawD.of_blk b__35 (by omega) (by omega)
  by_cases h36 : j < 37
  · exact LawD.of_blk b__36 (by omega) (by omega)
  by_cases h37 : j < 38
  · exact LawD.of_blk b__37 (by omega) (by omega)
  by_cases h38 : j < 39
  · exact LawD.of_blk b__38 (by omega) (by omega)
  by_cases h39 : j < 40
  · exact LawD.of_blk b__39 (by omega) (by omega)
  by_cases h40 : j < 41
  · exact LawD.of_blk b__40 (by omega) (by omega)
  by_cases h41 : j < 42
  · exact LawD.of_blk b__41 (by omega) (by omega)
  by_cases h42 : j < 43
  · exact LawD.of_blk b__42 (by omega) (by omega)
  by_cases h43 : j < 44
  · exact LawD.of_blk b__43 (by omega) (by omega)
  by_cases h44 : j < 45
  · exact LawD.of_blk b__44 (by omega) (by omega)
  by_cases h45 : j < 46
  · exact LawD.of_blk b__45 (by omega) (by omega)
  by_cases h46 : j < 47
  · exact LawD.of_blk b__46 (by omega) (by omega)
  by_cases h47 : j < 48
  · exact LawD.of_blk b__47 (by omega) (by omega)
  by_cases h48 : j < 49
  · exact LawD.of_blk b__48 (by omega) (by omega)
  by_cases h49 : j < 50
  · exact LawD.of_blk b__49 (by omega) (by omega)
  by_cases h50 : j < 51
  · exact LawD.of_blk b__50 (by omega) (by omega)
  by_cases h51 : j < 52
  · exact LawD.of_blk b__51 (by omega) (by omega)
  by_cases h52 : j < 53
  · exact LawD.of_blk b__52 (by omega) (by omega)
  by_cases h53 : j < 54
  · exact LawD.of_blk b__53 (by omega) (by omega)
  exact LawD.of_blk b__54 (by omega) (by omega)

theorem cases (es : List Nat) (hl : es.length = law.bds.length) (hx : ∀ x, x ∈ es → x ≤ 1) : law.at Try.prog ids Summs.tab 200 es = true := by
  have hl : es.length = 0 := hl
  obtain rfl := List.eq_nil_of_length_eq_zero hl
  exact at_
theorem own : ownKnob Try.prog.godebug = none := by kernel_rfl
theorem laidOut : laidOutB Try.prog = true := by kernel_rfl

theorem drawn (bs : List Int) (hbs : ∀ b, b ∈ bs → 0 ≤ b ∧ b < 256) : ∃ Ls I, Drawn Try.prog law.dk law.outs bs Ls I ∧ Ls.length = law.bds.length ∧ I.length = law.m ∧ (∀ ls, ls ∈ Ls → (∀ z, z ∈ ls → IntKind.i64.wrap z = z) ∧ ls.length ≤ 1048576) ∧ ∀ z, z ∈ I → IntKind.i64.wrap z = z := by
  exact drawn_ii Draw.K0_ok (Draw.drawListCount bs hbs 0)

theorem walk {v0 : Value} (bs : List Int) (w : World) (h : IsBytes w bs v0 ∧ bs.length ≤ 9223372036854775807) : LawTrue Try.prog 9 #[v0] w :=
  LawD.ok (l := law) (D := ids) (t := Summs.tab) (N := 200) noCount mixed ids_ok Summs.tab_ok huge cases (by decide) ⟨_, Try.func38, rfl⟩ drawn h.1 h.2

set_option maxRecDepth 100000 in
theorem lifted (os : Os) (started : os.Started) (H : Type) (enc : TypeId × Value → H) :
    ReturnsInHanded {} Try.checked os 9 .any (Rows.fnListCountSpec.pre6 enc Try.prog Try.f9 Rows.fnListCountRow.domain false) (Rows.fnListCountSpec.post enc Try.prog Try.f9 false true false false) := by
  refine returnsInHanded_of_change (C := Try.checked) own started (by kernel_rfl) Try.func9
    (ChangeSpec.witness6 (enc := enc) (C := Try.checked) false ⟨#[], #[.slice none 0 0], []⟩ 8 (by kernel_rfl) (by kernel_rfl) (by kernel_rfl) (by kernel_rfl)) ?_
  intro W base args ds gs before hval0 hW hcnd _
  have hval : ∀ (j : Nat) t v, Try.f9.params[j]? = some t → args[j]? = some v → Value.okWide Try.prog W .any base t v := hval0
  have hW' := hW
  obtain ⟨p, q, hA0, hV, rfl, hfz, hnd⟩ := hW
  have hA : DataW.TrodAll enc Try.prog W 0 (fun _ => true) true Try.f9.params.toList args.toList ds p := hA0
  rw [Try.params9] at hA hval
  obtain ⟨v0, vs0, d0, ds0, p0, q0, hargs0, rfl, rfl, g0, r0⟩ := trodAll_cons hA
  obtain ⟨rfl, rfl, rfl⟩ := trodAll_nil r0
  obtain rfl : args = #[v0] := by cases args; simp_all
  obtain ⟨rfl, rfl⟩ := trodVars_none hV
  have k0 := g0
  have lt0 := trod_lt_block k0
  obtain ⟨z0, h_z0⟩ := open_bytes Try.underlying27 Try.underlying5 (by kernel_rfl) (hval 0 27 v0 rfl rfl) g0
  clear hA0 hval0
  refine (walk z0 W h_z0).mono fun e W' ⟨he, bel, hz⟩ => ?_
  subst he
  exact ⟨_, rfl, _, _, _, [], _, [], hW', trodAll_mk1 (shut_bool Try.underlying4 _), (trodAll_cons_mk (Below.trod laidOut (by kernel_rfl) (of_decide_eq_true (by kernel_rfl)) k0 bel lt0) trodAll_mk0), rfl, bel.frame _, fun h => by cases h⟩

theorem proved : Rows.FnListCountSaid :=
  OpenClaim.holds_of_wide 9 Try.f9 rfl rfl rfl rfl rfl rfl rfl ⟨rfl, rfl, rfl, rfl, rfl⟩ rfl rfl rfl rfl rfl (by kernel_rfl) Try.func9 (by kernel_rfl)
    (of_decide_eq_true (by kernel_rfl)) (by unfold Func.isWrapper; first | (rw [if_pos (by decide +kernel)]; kernel_rfl) | (rw [if_neg (by decide +kernel)]; exact ⟨rfl, rfl⟩))
    (fun os started H enc _ => lifted os started H enc)
#print axioms proved

end Go.Proofs.Ythcecobiidgeoaa.DListCount

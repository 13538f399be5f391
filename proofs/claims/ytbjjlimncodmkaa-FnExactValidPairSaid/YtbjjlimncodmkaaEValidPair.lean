/-
  For all arguments the law FnExactValidPair returns true, and the arguments read as they did. No condition.
  How: a machine over the model, proved right (Mach, Sym), runs the law on symbols, case by case.
-/
import Derived.Test.YtbjjlimncodmkaaRows
import Derived.Test.YtbjjlimncodmkaaSym
import Derived.Test.YtbjjlimncodmkaaIds
import Derived.Test.YtbjjlimncodmkaaSumm
import Derived.WalkKit
import Derived.ProofKit
import Derived.OpenShut
namespace Go.Proofs.Ytbjjlimncodmkaa.EValidPair
open Go.ChangeShapes Go.WideShapes Go.ChangeAt Go.RowKit Go.Sx Go.Proofs.Ytbjjlimncodmkaa.Ids
set_option linter.unusedVariables false
set_option linter.unusedSimpArgs false

noncomputable def law : LawU := ⟨3, [600, 600], 0, fun ll ii => match ll with | [x0, x1] => [.agg [x0, x1]] ++ ii | _ => [], sizeT 0, fun es => pairL es 0 1 id (fun L => .leaf (unitSq 0 1 .leaf))⟩
set_option maxRecDepth 1000000 in
theorem huge : law.huge Try.prog 60 = true := by kernel_rfl
set_option maxRecDepth 1000000 in
theorem b_00_0 : law.blk Try.prog ids Summs.tab 60 [0, 0] 0 1 = true := by kernel_rfl
set_option maxRecDepth 1000000 in
theorem b_01_0 : law.blk Try.prog ids Summs.tab 60 [0, 1] 0 1 = true := by kernel_rfl
set_option maxRecDepth 1000000 in
theorem b_10_0 : law.blk Try.prog ids Summs.tab 60 [1, 0] 0 2 = true := by kernel_rfl
set_option maxRecDepth 1000000 in
theorem b_11_0 : law.blk Try.prog ids Summs.tab 60 [1, 1] 0 8 = true := by kernel_rfl
set_option maxRecDepth 1000000 in
theorem b_11_8 : law.blk Try.prog ids Summs.tab 60 [1, 1] 8 8 = true := by kernel_rfl
set_option maxRecDepth 1000000 in
theorem b_11_16 : law.blk Try.prog ids Summs.tab 60 [1, 1] 16 8 = true := by kernel_rfl
set_option maxRecDepth 1000000 in
theorem b_11_24 : law.blk Try.prog ids Summs.tab 60 [1, 1] 24 8 = true := by kernel_rfl
set_option maxRecDepth 1000000 in
theorem b_11_32 : law.blk Try.prog ids Summs.tab 60 [1, 1] 32 8 = true := by kernel_rfl
set_option maxRecDepth 1000000 in
theorem b_11_40 : law.blk Try.prog ids Summs.tab 60 [1, 1] 40 8 = true := by kernel_rfl
set_option maxRecDepth 1000000 in
theorem b_11_48 : law.blk Try.prog ids Summs.tab 60 [1, 1] 48 8 = true := by kernel_rfl
set_option maxRecDepth 1000000 in
theorem b_11_56 : law.blk Try.prog ids Summs.tab 60 [1, 1] 56 8 = true := by kernel_rfl
set_option maxRecDepth 1000000 in
theorem b_11_64 : law.blk Try.prog ids Summs.tab 60 [1, 1] 64 8 = true := by kernel_rfl
set_option maxRecDepth 1000000 in
theorem b_11_72 : law.blk Try.prog ids Summs.tab 60 [1, 1] 72 8 = true := by kernel_rfl
set_option maxRecDepth 1000000 in
theorem b_11_80 : law.blk Try.prog ids Summs.tab 60 [1, 1] 80 8 = true := by kernel_rfl
theorem cnt_00 : (law.tree [0, 0]).count = 1 := by kernel_rfl
theorem at_00 : law.at Try.prog ids Summs.tab 60 [0, 0] = true := by
  refine LawU.at_of (fun j hj => ?_)
  rw [cnt_00] at hj
  exact LawU.of_blk b_00_0 (by omega) (by omega)
theorem cnt_01 : (law.tree [0, 1]).count = 1 := by kernel_rfl
theorem at_01 : law.at Try.prog ids Summs.tab 60 [0, 1] = true := by
  refine LawU.at_of (fun j hj => ?_)
  rw [cnt_01] at hj
  exact LawU.of_blk b_01_0 (by omega) (by omega)
theorem cnt_10 : (law.tree [1, 0]).count = 2 := by kernel_rfl
theorem at_10 : law.at Try.prog ids Summs.tab 60 [1, 0] = true := by
  refine LawU.at_of (fun j hj => ?_)
  rw [cnt_10] at hj
  exact LawU.of_blk b_10_0 (by omega) (by omega)
theorem cnt_11 : (law.tree [1, 1]).count = 88 := by kernel_rfl
theorem at_11 : law.at Try.prog ids Summs.tab 60 [1, 1] = true := by
  refine LawU.at_of (fun j hj => ?_)
  rw [cnt_11] at hj
  by_cases h0 : j < 8
  · exact LawU.of_blk b_11_0 (by omega) (by omega)
  by_cases h8 : j < 16
  · exact LawU.of_blk b_11_8 (by omega) (by omega)
  by_cases h16 : j < 24
  · exact LawU.of_blk b_11_16 (by omega) (by omega)
  by_cases h24 : j < 32
  · exact LawU.of_blk b_11_24 (by omega) (by omega)
  by_cases h32 : j < 40
  · exact LawU.of_blk b_11_32 (by omega) (by omega)
  by_cases h40 : j < 48
  · exact LawU.of_blk b_11_40 (by omega) (by omega)
  by_cases h48 : j < 56
  · exact LawU.of_blk b_11_48 (by omega) (by omega)
  by_cases h56 : j < 64
  · exact LawU.of_blk b_11_56 (by omega) (by omega)
  by_cases h64 : j < 72
  · exact LawU.of_blk b_11_64 (by omega) (by omega)
  by_cases h72 : j < 80
  · exact LawU.of_blk b_11_72 (by omega) (by omega)
  exact LawU.of_blk b_11_80 (by omega) (by omega)

theorem cases (es : List Nat) (hl : es.length = law.bds.length) (hx : ∀ x, x ∈ es → x ≤ 1) : law.at Try.prog ids Summs.tab 60 es = true := by
  have hl : es.length = 2 := hl
  match es, hl, hx with
  | [e0, e1], _, hx =>
    have he0 : e0 = 0 ∨ e0 = 1 := by have := hx e0 (by simp); omega
    have he1 : e1 = 0 ∨ e1 = 1 := by have := hx e1 (by simp); omega
    clear hx
    rcases he0 with rfl | rfl
    · rcases he1 with rfl | rfl
      · exact at_00
      · exact at_01
    · rcases he1 with rfl | rfl
      · exact at_10
      · exact at_11
theorem own : ownKnob Try.prog.godebug = none := by kernel_rfl
theorem laidOut : laidOutB Try.prog = true := by kernel_rfl

theorem walk {v0g v0f : Value} (z0g z0f : List Int)  (w : World) (h_z0g : IsList w z0g v0g ∧ z0g.length ≤ 9223372036854775807) (h_z0f : IsList w z0f v0f ∧ z0f.length ≤ 9223372036854775807) :
    LawTrue Try.prog 3 #[.agg #[v0g, v0f]] w := by
  have hwf : ∀ ls, ls ∈ [z0g, z0f] → (∀ z, z ∈ ls → IntKind.i64.wrap z = z) ∧ ls.length ≤ 9223372036854775807 := by
    intro ls hls
    simp only [List.mem_cons, List.not_mem_nil, or_false] at hls
    rcases hls with rfl | rfl
    · exact ⟨h_z0g.1.1, h_z0g.2⟩
    · exact ⟨h_z0f.1.1, h_z0f.2⟩
  refine LawU.ok (l := law) (D := ids) (t := Summs.tab) (N := 60) (Ls := [z0g, z0f]) (lv := [v0g, v0f]) (I := []) noCount mixed ids_ok Summs.tab_ok huge cases (by decide) ?_ rfl hwf rfl ?_ ?_ ?_ ?_
  · exact ⟨h_z0g.1, h_z0f.1, trivial⟩
  · intro z hz; cases hz
  · intro ρ s ll xi h1 h2
    obtain ⟨x0, r0, rfl, q0, h1⟩ := h1.uncons
    obtain ⟨x1, r1, rfl, q1, h1⟩ := h1.uncons
    obtain rfl := h1.unnil
    simp only [law, List.cons_append, List.nil_append]
    exact (.cons (VRs.agg (.cons q0 (.cons q1 .nil))) h2)
  · intro ρ ys hx hp
    exact sizeT_ok (fun l hl => (hwf l hl).2) ρ ys hx hp
  · intro ρ ys zs h
    exact sizeT_cg ρ ys zs h

set_option maxRecDepth 100000 in
theorem lifted (os : Os) (started : os.Started) (H : Type) (enc : TypeId × Value → H) :
    ReturnsInHanded {} Try.checked os 3 .any (Rows.fnExactValidPairSpec.pre6 enc Try.prog Try.f3 Rows.fnExactValidPairRow.domain false) (Rows.fnExactValidPairSpec.post enc Try.prog Try.f3 false true false false) := by
  refine returnsInHanded_of_change (C := Try.checked) own started (by kernel_rfl) Try.func3
    (ChangeSpec.witness6 (enc := enc) (C := Try.checked) false ⟨#[], #[.agg #[.slice none 0 0, .slice none 0 0]], []⟩ 8 (by kernel_rfl) (by kernel_rfl) (by kernel_rfl) (by kernel_rfl)) ?_
  intro W base args ds gs before hval0 hW hcnd _
  have hval : ∀ (j : Nat) t v, Try.f3.params[j]? = some t → args[j]? = some v → Value.okWide Try.prog W .any base t v := hval0
  have hW' := hW
  obtain ⟨p, q, hA0, hV, rfl, hfz, hnd⟩ := hW
  have hA : DataW.TrodAll enc Try.prog W 0 (fun _ => true) true Try.f3.params.toList args.toList ds p := hA0
  rw [Try.params3] at hA hval
  obtain ⟨v0, vs0, d0, ds0, p0, q0, hargs0, rfl, rfl, g0, r0⟩ := trodAll_cons hA
  obtain ⟨rfl, rfl, rfl⟩ := trodAll_nil r0
  obtain rfl : args = #[v0] := by cases args; simp_all
  obtain ⟨rfl, rfl⟩ := trodVars_none hV
  have k0 := g0
  have lt0 := trod_lt_block k0
  obtain ⟨v0g, v0f, z0g, z0f, rfl, h_z0g, h_z0f⟩ := open_pair Try.underlying24 (by kernel_rfl) (by kernel_rfl) (by kernel_rfl) rfl rfl Try.underlying22 Try.underlying3 (by kernel_rfl) (hval 0 24 v0 rfl rfl) g0
  clear hA0 hval0
  refine (walk z0g z0f  W h_z0g h_z0f).mono fun e W' ⟨he, bel, hz⟩ => ?_
  subst he
  exact ⟨_, rfl, _, _, _, [], _, [], hW', trodAll_mk1 (shut_bool Try.underlying4 _), (trodAll_cons_mk (Below.trod laidOut (by kernel_rfl) (of_decide_eq_true (by kernel_rfl)) k0 bel lt0) trodAll_mk0), rfl, bel.frame _, fun h => by cases h⟩

theorem proved : Rows.FnExactValidPairSaid :=
  OpenClaim.holds_of_wide 3 Try.f3 rfl rfl rfl rfl rfl rfl rfl ⟨rfl, rfl, rfl, rfl, rfl⟩ rfl rfl rfl rfl rfl (by kernel_rfl) Try.func3 (by kernel_rfl)
    (of_decide_eq_true (by kernel_rfl)) (by unfold Func.isWrapper; first | (rw [if_pos (by decide +kernel)]; kernel_rfl) | (rw [if_neg (by decide +kernel)]; exact ⟨rfl, rfl⟩))
    (fun os started H enc _ => lifted os started H enc)
#print axioms proved

end Go.Proofs.Ytbjjlimncodmkaa.EValidPair

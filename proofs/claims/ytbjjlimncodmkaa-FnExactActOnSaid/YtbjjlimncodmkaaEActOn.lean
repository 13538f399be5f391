/-
  For all arguments the law FnExactActOn returns true, and the arguments read as they did. No condition.
  How: a machine over the model, proved right (Mach, Sym), runs the law on symbols, case by case.
-/
import Derived.Test.YtbjjlimncodmkaaRows
import Derived.Test.YtbjjlimncodmkaaSym
import Derived.Test.YtbjjlimncodmkaaIds
import Derived.Test.YtbjjlimncodmkaaSumm
import Derived.WalkKit
import Derived.ProofKit
import Derived.OpenShut
namespace Go.Proofs.Ytbjjlimncodmkaa.EActOn
open Go.ChangeShapes Go.WideShapes Go.ChangeAt Go.RowKit Go.Sx Go.Proofs.Ytbjjlimncodmkaa.Ids
set_option linter.unusedVariables false
set_option linter.unusedSimpArgs false

noncomputable def law : LawU := ⟨5, [600, 600, 600], 0, fun ll ii => match ll with | [x0, x1, x2] => [.agg [x1, x2], x0] ++ ii | _ => [], sizeT 1, fun es => pairL es 1 2 id (fun L => bite (Nat.beq (es.getD 0 0) 0) (.leaf (unitSq 1 2 .leaf))
  (.splitV 0 (.leaf (unitSq 1 2 (.cmp false (fun xs => lenS xs 0) (fun _ => .c (L : Nat)) .leaf .leaf))) (fun L' => bite (Nat.beq L L') (.leaf (unitSq 1 2 (.val 600 (fun xs => numsRun Try.prog Summs.tab 60 70 ([slS xs 0 L, slS xs 2 L])) (.val 600 (fun xs => (numsRun Try.prog Summs.tab 60 70 ([slS xs 0 L, slS xs 2 L])).bind (fun ps => numsRun Try.prog Summs.tab 60 85 ([slS xs 1 L, .slice (ints ps)]))) .leaf .leaf) .leaf))) (.leaf (unitSq 1 2 .leaf)))))⟩
set_option maxRecDepth 1000000 in
theorem huge : law.huge Try.prog 60 = true := by kernel_rfl
set_option maxRecDepth 1000000 in
theorem b_000_0 : law.blk Try.prog ids Summs.tab 60 [0, 0, 0] 0 1 = true := by kernel_rfl
set_option maxRecDepth 1000000 in
theorem b_001_0 : law.blk Try.prog ids Summs.tab 60 [0, 0, 1] 0 1 = true := by kernel_rfl
set_option maxRecDepth 1000000 in
theorem b_010_0 : law.blk Try.prog ids Summs.tab 60 [0, 1, 0] 0 2 = true := by kernel_rfl
set_option maxRecDepth 1000000 in
theorem b_011_0 : law.blk Try.prog ids Summs.tab 60 [0, 1, 1] 0 8 = true := by kernel_rfl
set_option maxRecDepth 1000000 in
theorem b_011_8 : law.blk Try.prog ids Summs.tab 60 [0, 1, 1] 8 8 = true := by kernel_rfl
set_option maxRecDepth 1000000 in
theorem b_011_16 : law.blk Try.prog ids Summs.tab 60 [0, 1, 1] 16 8 = true := by kernel_rfl
set_option maxRecDepth 1000000 in
theorem b_011_24 : law.blk Try.prog ids Summs.tab 60 [0, 1, 1] 24 8 = true := by kernel_rfl
set_option maxRecDepth 1000000 in
theorem b_011_32 : law.blk Try.prog ids Summs.tab 60 [0, 1, 1] 32 8 = true := by kernel_rfl
set_option maxRecDepth 1000000 in
theorem b_011_40 : law.blk Try.prog ids Summs.tab 60 [0, 1, 1] 40 8 = true := by kernel_rfl
set_option maxRecDepth 1000000 in
theorem b_011_48 : law.blk Try.prog ids Summs.tab 60 [0, 1, 1] 48 8 = true := by kernel_rfl
set_option maxRecDepth 1000000 in
theorem b_011_56 : law.blk Try.prog ids Summs.tab 60 [0, 1, 1] 56 8 = true := by kernel_rfl
set_option maxRecDepth 1000000 in
theorem b_011_64 : law.blk Try.prog ids Summs.tab 60 [0, 1, 1] 64 8 = true := by kernel_rfl
set_option maxRecDepth 1000000 in
theorem b_011_72 : law.blk Try.prog ids Summs.tab 60 [0, 1, 1] 72 8 = true := by kernel_rfl
set_option maxRecDepth 1000000 in
theorem b_011_80 : law.blk Try.prog ids Summs.tab 60 [0, 1, 1] 80 8 = true := by kernel_rfl
set_option maxRecDepth 1000000 in
theorem b_100_0 : law.blk Try.prog ids Summs.tab 60 [1, 0, 0] 0 1 = true := by kernel_rfl
set_option maxRecDepth 1000000 in
theorem b_101_0 : law.blk Try.prog ids Summs.tab 60 [1, 0, 1] 0 1 = true := by kernel_rfl
set_option maxRecDepth 1000000 in
theorem b_110_0 : law.blk Try.prog ids Summs.tab 60 [1, 1, 0] 0 2 = true := by kernel_rfl
set_option maxRecDepth 1000000 in
theorem b_111_0 : law.blk Try.prog ids Summs.tab 60 [1, 1, 1] 0 8 = true := by kernel_rfl
set_option maxRecDepth 1000000 in
theorem b_111_8 : law.blk Try.prog ids Summs.tab 60 [1, 1, 1] 8 8 = true := by kernel_rfl
set_option maxRecDepth 1000000 in
theorem b_111_16 : law.blk Try.prog ids Summs.tab 60 [1, 1, 1] 16 8 = true := by kernel_rfl
set_option maxRecDepth 1000000 in
theorem b_111_24 : law.blk Try.prog ids Summs.tab 60 [1, 1, 1] 24 8 = true := by kernel_rfl
set_option maxRecDepth 1000000 in
theorem b_111_32 : law.blk Try.prog ids Summs.tab 60 [1, 1, 1] 32 8 = true := by kernel_rfl
set_option maxRecDepth 1000000 in
theorem b_111_40 : law.blk Try.prog ids Summs.tab 60 [1, 1, 1] 40 8 = true := by kernel_rfl
set_option maxRecDepth 1000000 in
theorem b_111_48 : law.blk Try.prog ids Summs.tab 60 [1, 1, 1] 48 8 = true := by kernel_rfl
set_option maxRecDepth 1000000 in
theorem b_111_56 : law.blk Try.prog ids Summs.tab 60 [1, 1, 1] 56 8 = true := by kernel_rfl
set_option maxRecDepth 1000000 in
theorem b_111_64 : law.blk Try.prog ids Summs.tab 60 [1, 1, 1] 64 8 = true := by kernel_rfl
set_option maxRecDepth 1000000 in
theorem b_111_72 : law.blk Try.prog ids Summs.tab 60 [1, 1, 1] 72 8 = true := by kernel_rfl
set_option maxRecDepth 1000000 in
theorem b_111_80 : law.blk Try.prog ids Summs.tab 60 [1, 1, 1] 80 8 = true := by kernel_rfl
set_option maxRecDepth 1000000 in
theorem b_111_88 : law.blk Try.prog ids Summs.tab 60 [1, 1, 1] 88 8 = true := by kernel_rfl
set_option maxRecDepth 1000000 in
theorem b_111_96 : law.blk Try.prog ids Summs.tab 60 [1, 1, 1] 96 8 = true := by kernel_rfl
set_option maxRecDepth 1000000 in
theorem b_111_104 : law.blk Try.prog ids Summs.tab 60 [1, 1, 1] 104 8 = true := by kernel_rfl
set_option maxRecDepth 1000000 in
theorem b_111_112 : law.blk Try.prog ids Summs.tab 60 [1, 1, 1] 112 8 = true := by kernel_rfl
set_option maxRecDepth 1000000 in
theorem b_111_120 : law.blk Try.prog ids Summs.tab 60 [1, 1, 1] 120 8 = true := by kernel_rfl
set_option maxRecDepth 1000000 in
theorem b_111_128 : law.blk Try.prog ids Summs.tab 60 [1, 1, 1] 128 8 = true := by kernel_rfl
set_option maxRecDepth 1000000 in
theorem b_111_136 : law.blk Try.prog ids Summs.tab 60 [1, 1, 1] 136 8 = true := by kernel_rfl
set_option maxRecDepth 1000000 in
theorem b_111_144 : law.blk Try.prog ids Summs.tab 60 [1, 1, 1] 144 8 = true := by kernel_rfl
set_option maxRecDepth 1000000 in
theorem b_111_152 : law.blk Try.prog ids Summs.tab 60 [1, 1, 1] 152 8 = true := by kernel_rfl
set_option maxRecDepth 1000000 in
theorem b_111_160 : law.blk Try.prog ids Summs.tab 60 [1, 1, 1] 160 8 = true := by kernel_rfl
set_option maxRecDepth 1000000 in
theorem b_111_168 : law.blk Try.prog ids Summs.tab 60 [1, 1, 1] 168 8 = true := by kernel_rfl
set_option maxRecDepth 1000000 in
theorem b_111_176 : law.blk Try.prog ids Summs.tab 60 [1, 1, 1] 176 8 = true := by kernel_rfl
set_option maxRecDepth 1000000 in
theorem b_111_184 : law.blk Try.prog ids Summs.tab 60 [1, 1, 1] 184 8 = true := by kernel_rfl
set_option maxRecDepth 1000000 in
theorem b_111_192 : law.blk Try.prog ids Summs.tab 60 [1, 1, 1] 192 8 = true := by kernel_rfl
set_option maxRecDepth 1000000 in
theorem b_111_200 : law.blk Try.prog ids Summs.tab 60 [1, 1, 1] 200 8 = true := by kernel_rfl
set_option maxRecDepth 1000000 in
theorem b_111_208 : law.blk Try.prog ids Summs.tab 60 [1, 1, 1] 208 8 = true := by kernel_rfl
set_option maxRecDepth 1000000 in
theorem b_111_216 : law.blk Try.prog ids Summs.tab 60 [1, 1, 1] 216 8 = true := by kernel_rfl
set_option maxRecDepth 1000000 in
theorem b_111_224 : law.blk Try.prog ids Summs.tab 60 [1, 1, 1] 224 8 = true := by kernel_rfl
set_option maxRecDepth 1000000 in
theorem b_111_232 : law.blk Try.prog ids Summs.tab 60 [1, 1, 1] 232 8 = true := by kernel_rfl
set_option maxRecDepth 1000000 in
theorem b_111_240 : law.blk Try.prog ids Summs.tab 60 [1, 1, 1] 240 8 = true := by kernel_rfl
set_option maxRecDepth 1000000 in
theorem b_111_248 : law.blk Try.prog ids Summs.tab 60 [1, 1, 1] 248 8 = true := by kernel_rfl
set_option maxRecDepth 1000000 in
theorem b_111_256 : law.blk Try.prog ids Summs.tab 60 [1, 1, 1] 256 8 = true := by kernel_rfl
set_option maxRecDepth 1000000 in
theorem b_111_264 : law.blk Try.prog ids Summs.tab 60 [1, 1, 1] 264 8 = true := by kernel_rfl
set_option maxRecDepth 1000000 in
theorem b_111_272 : law.blk Try.prog ids Summs.tab 60 [1, 1, 1] 272 8 = true := by kernel_rfl
set_option maxRecDepth 1000000 in
theorem b_111_280 : law.blk Try.prog ids Summs.tab 60 [1, 1, 1] 280 3 = true := by kernel_rfl
theorem cnt_000 : (law.tree [0, 0, 0]).count = 1 := by kernel_rfl
theorem at_000 : law.at Try.prog ids Summs.tab 60 [0, 0, 0] = true := by
  refine LawU.at_of (fun j hj => ?_)
  rw [cnt_000] at hj
  exact LawU.of_blk b_000_0 (by omega) (by omega)
theorem cnt_001 : (law.tree [0, 0, 1]).count = 1 := by kernel_rfl
theorem at_001 : law.at Try.prog ids Summs.tab 60 [0, 0, 1] = true := by
  refine LawU.at_of (fun j hj => ?_)
  rw [cnt_001] at hj
  exact LawU.of_blk b_001_0 (by omega) (by omega)
theorem cnt_010 : (law.tree [0, 1, 0]).count = 2 := by kernel_rfl
theorem at_010 : law.at Try.prog ids Summs.tab 60 [0, 1, 0] = true := by
  refine LawU.at_of (fun j hj => ?_)
  rw [cnt_010] at hj
  exact LawU.of_blk b_010_0 (by omega) (by omega)
theorem cnt_011 : (law.tree [0, 1, 1]).count = 88 := by kernel_rfl
theorem at_011 : law.at Try.prog ids Summs.tab 60 [0, 1, 1] = true := by
  refine LawU.at_of (fun j hj => ?_)
  rw [cnt_011] at hj
  by_cases h0 : j < 8
  · exact LawU.of_blk b_011_0 (by omega) (by omega)
  by_cases h8 : j < 16
  · exact LawU.of_blk b_011_8 (by omega) (by omega)
  by_cases h16 : j < 24
  · exact LawU.of_blk b_011_16 (by omega) (by omega)
  by_cases h24 : j < 32
  · exact LawU.of_blk b_011_24 (by omega) (by omega)
  by_cases h32 : j < 40
  · exact LawU.of_blk b_011_32 (by omega) (by omega)
  by_cases h40 : j < 48
  · exact LawU.of_blk b_011_40 (by omega) (by omega)
  by_cases h48 : j < 56
  · exact LawU.of_blk b_011_48 (by omega) (by omega)
  by_cases h56 : j < 64
  · exact LawU.of_blk b_011_56 (by omega) (by omega)
  by_cases h64 : j < 72
  · exact LawU.of_blk b_011_64 (by omega) (by omega)
  by_cases h72 : j < 80
  · exact LawU.of_blk b_011_72 (by omega) (by omega)
  exact LawU.of_blk b_011_80 (by omega) (by omega)
theorem cnt_100 : (law.tree [1, 0, 0]).count = 1 := by kernel_rfl
theorem at_100 : law.at Try.prog ids Summs.tab 60 [1, 0, 0] = true := by
  refine LawU.at_of (fun j hj => ?_)
  rw [cnt_100] at hj
  exact LawU.of_blk b_100_0 (by omega) (by omega)
theorem cnt_101 : (law.tree [1, 0, 1]).count = 1 := by kernel_rfl
theorem at_101 : law.at Try.prog ids Summs.tab 60 [1, 0, 1] = true := by
  refine LawU.at_of (fun j hj => ?_)
  rw [cnt_101] at hj
  exact LawU.of_blk b_101_0 (by omega) (by omega)
theorem cnt_110 : (law.tree [1, 1, 0]).count = 2 := by kernel_rfl
theorem at_110 : law.at Try.prog ids Summs.tab 60 [1, 1, 0] = true := by
  refine LawU.at_of (fun j hj => ?_)
  rw [cnt_110] at hj
  exact LawU.of_blk b_110_0 (by omega) (by omega)
theorem cnt_111 : (law.tree [1, 1, 1]).count = 283 := by kernel_rfl
theorem at_111 : law.at Try.prog ids Summs.tab 60 [1, 1, 1] = true := by
  refine LawU.at_of (fun j hj => ?_)
  rw [cnt_111] at hj
  by_cases h0 : j < 8
  · exact LawU.of_blk b_111_0 (by omega) (by omega)
  by_cases h8 : j < 16
  · exact LawU.of_blk b_111_8 (by omega) (by omega)
  by_cases h16 : j < 24
  · exact LawU.of_blk b_111_16 (by omega) (by omega)
  by_cases h24 : j < 32
  · exact LawU.of_blk b_111_24 (by omega) (by omega)
  by_cases h32 : j < 40
  · exact LawU.of_blk b_111_32 (by omega) (by omega)
  by_cases h40 : j < 48
  · exact LawU.of_blk b_111_40 (by omega) (by omega)
  by_cases h48 : j < 56
  · exact LawU.of_blk b_111_48 (by omega) (by omega)
  by_cases h56 : j < 64
  · exact LawU.of_blk b_111_56 (by omega) (by omega)
  by_cases h64 : j < 72
  · exact LawU.of_blk b_111_64 (by omega) (by omega)
  by_cases h72 : j < 80
  · exact LawU.of_blk b_111_72 (by omega) (by omega)
  by_cases h80 : j < 88
  · exact LawU.of_blk b_111_80 (by omega) (by omega)
  by_cases h88 : j < 96
  · exact LawU.of_blk b_111_88 (by omega) (by omega)
  by_cases h96 : j < 104
  · exact LawU.of_blk b_111_96 (by omega) (by omega)
  by_cases h104 : j < 112
  · exact LawU.of_blk b_111_104 (by omega) (by omega)
  by_cases h112 : j < 120
  · exact LawU.of_blk b_111_112 (by omega) (by omega)
  by_cases h120 : j < 128
  · exact LawU.of_blk b_111_120 (by omega) (by omega)
  by_cases h128 : j < 136
  · exact LawU.of_blk b_111_128 (by omega) (by omega)
  by_cases h136 : j < 144
  · exact LawU.of_blk b_111_136 (by omega) (by omega)
  by_cases h144 : j < 152
  · exact LawU.of_blk b_111_144 (by omega) (by omega)
  by_cases h152 : j < 160
  · exact LawU.of_blk b_111_152 (by omega) (by omega)
  by_cases h160 : j < 168
  · exact LawU.of_blk b_111_160 (by omega) (by omega)
  by_cases h168 : j < 176
  · exact LawU.of_blk b_111_168 (by omega) (by omega)
  by_cases h176 : j < 184
  · exact LawU.of_blk b_111_176 (by omega) (by omega)
  by_cases h184 : j < 192
  · exact LawU.of_blk b_111_184 (by omega) (by omega)
  by_cases h192 : j < 200
  · exact LawU.of_blk b_111_192 (by omega) (by omega)
  by_cases h200 : j < 208
  · exact LawU.of_blk b_111_200 (by omega) (by omega)
  by_cases h208 : j < 216
  · exact LawU.of_blk b_111_208 (by omega) (by omega)
  by_cases h216 : j < 224
  · exact LawU.of_blk b_111_216 (by omega) (by omega)
  by_cases h224 : j < 232
  · exact LawU.of_blk b_111_224 (by omega) (by omega)
  by_cases h232 : j < 240
  · exact LawU.of_blk b_111_232 (by omega) (by omega)
  by_cases h240 : j < 248
  · exact LawU.of_blk b_111_240 (by omega) (by omega)
  by_cases h248 : j < 256
  · exact LawU.of_blk b_111_248 (by omega) (by omega)
  by_cases h256 : j < 264
  · exact LawU.of_blk b_111_256 (by omega) (by omega)
  by_cases h264 : j < 272
  · exact LawU.of_blk b_111_264 (by omega) (by omega)
  by_cases h272 : j < 280
  · exact LawU.of_blk b_111_272 (by omega) (by omega)
  exact LawU.of_blk b_111_280 (by omega) (by omega)

theorem cases (es : List Nat) (hl : es.length = law.bds.length) (hx : ∀ x, x ∈ es → x ≤ 1) : law.at Try.prog ids Summs.tab 60 es = true := by
  have hl : es.length = 3 := hl
  match es, hl, hx with
  | [e0, e1, e2], _, hx =>
    have he0 : e0 = 0 ∨ e0 = 1 := by have := hx e0 (by simp); omega
    have he1 : e1 = 0 ∨ e1 = 1 := by have := hx e1 (by simp); omega
    have he2 : e2 = 0 ∨ e2 = 1 := by have := hx e2 (by simp); omega
    clear hx
    rcases he0 with rfl | rfl
    · rcases he1 with rfl | rfl
      · rcases he2 with rfl | rfl
        · exact at_000
        · exact at_001
      · rcases he2 with rfl | rfl
        · exact at_010
        · exact at_011
    · rcases he1 with rfl | rfl
      · rcases he2 with rfl | rfl
        · exact at_100
        · exact at_101
      · rcases he2 with rfl | rfl
        · exact at_110
        · exact at_111
theorem own : ownKnob Try.prog.godebug = none := by kernel_rfl
theorem laidOut : laidOutB Try.prog = true := by kernel_rfl

theorem walk {v1 v0g v0f : Value} (z1 z0g z0f : List Int)  (w : World) (h_z1 : IsList w z1 v1 ∧ z1.length ≤ 9223372036854775807) (h_z0g : IsList w z0g v0g ∧ z0g.length ≤ 9223372036854775807) (h_z0f : IsList w z0f v0f ∧ z0f.length ≤ 9223372036854775807) :
    LawTrue Try.prog 5 #[.agg #[v0g, v0f], v1] w := by
  have hwf : ∀ ls, ls ∈ [z1, z0g, z0f] → (∀ z, z ∈ ls → IntKind.i64.wrap z = z) ∧ ls.length ≤ 9223372036854775807 := by
    intro ls hls
    simp only [List.mem_cons, List.not_mem_nil, or_false] at hls
    rcases hls with rfl | rfl | rfl
    · exact ⟨h_z1.1.1, h_z1.2⟩
    · exact ⟨h_z0g.1.1, h_z0g.2⟩
    · exact ⟨h_z0f.1.1, h_z0f.2⟩
  refine LawU.ok (l := law) (D := ids) (t := Summs.tab) (N := 60) (Ls := [z1, z0g, z0f]) (lv := [v1, v0g, v0f]) (I := []) noCount mixed ids_ok Summs.tab_ok huge cases (by decide) ?_ rfl hwf rfl ?_ ?_ ?_ ?_
  · exact ⟨h_z1.1, h_z0g.1, h_z0f.1, trivial⟩
  · intro z hz; cases hz
  · intro ρ s ll xi h1 h2
    obtain ⟨x0, r0, rfl, q0, h1⟩ := h1.uncons
    obtain ⟨x1, r1, rfl, q1, h1⟩ := h1.uncons
    obtain ⟨x2, r2, rfl, q2, h1⟩ := h1.uncons
    obtain rfl := h1.unnil
    simp only [law, List.cons_append, List.nil_append]
    exact (.cons (VRs.agg (.cons q1 (.cons q2 .nil))) (.cons q0 h2))
  · intro ρ ys hx hp
    exact sizeT_ok (fun l hl => (hwf l hl).2) ρ ys hx hp
  · intro ρ ys zs h
    exact sizeT_cg ρ ys zs h

set_option maxRecDepth 100000 in
theorem lifted (os : Os) (started : os.Started) (H : Type) (enc : TypeId × Value → H) :
    ReturnsInHanded {} Try.checked os 5 .any (Rows.fnExactActOnSpec.pre6 enc Try.prog Try.f5 Rows.fnExactActOnRow.domain false) (Rows.fnExactActOnSpec.post enc Try.prog Try.f5 false true false false) := by
  refine returnsInHanded_of_change (C := Try.checked) own started (by kernel_rfl) Try.func5
    (ChangeSpec.witness6 (enc := enc) (C := Try.checked) false ⟨#[], #[.agg #[.slice none 0 0, .slice none 0 0], .slice none 0 0], []⟩ 8 (by kernel_rfl) (by kernel_rfl) (by kernel_rfl) (by kernel_rfl)) ?_
  intro W base args ds gs before hval0 hW hcnd _
  have hval : ∀ (j : Nat) t v, Try.f5.params[j]? = some t → args[j]? = some v → Value.okWide Try.prog W .any base t v := hval0
  have hW' := hW
  obtain ⟨p, q, hA0, hV, rfl, hfz, hnd⟩ := hW
  have hA : DataW.TrodAll enc Try.prog W 0 (fun _ => true) true Try.f5.params.toList args.toList ds p := hA0
  rw [Try.params5] at hA hval
  obtain ⟨v0, vs0, d0, ds0, p0, q0, hargs0, rfl, rfl, g0, r0⟩ := trodAll_cons hA
  obtain ⟨v1, vs1, d1, ds1, p1, q1, hargs1, rfl, rfl, g1, r1⟩ := trodAll_cons r0
  obtain ⟨rfl, rfl, rfl⟩ := trodAll_nil r1
  obtain rfl : args = #[v0, v1] := by cases args; simp_all
  obtain ⟨rfl, rfl⟩ := trodVars_none hV
  have k0 := g0
  have lt0 := trod_lt_block k0
  obtain ⟨v0g, v0f, z0g, z0f, rfl, h_z0g, h_z0f⟩ := open_pair Try.underlying24 (by kernel_rfl) (by kernel_rfl) (by kernel_rfl) rfl rfl Try.underlying22 Try.underlying3 (by kernel_rfl) (hval 0 24 v0 rfl rfl) g0
  have k1 := g1
  have lt1 := trod_lt_block k1
  obtain ⟨z1, h_z1⟩ := open_list2 Try.underlying22 Try.underlying3 (by kernel_rfl) (hval 1 22 v1 rfl rfl) g1
  clear hA0 hval0
  refine (walk z1 z0g z0f  W h_z1 h_z0g h_z0f).mono fun e W' ⟨he, bel, hz⟩ => ?_
  subst he
  exact ⟨_, rfl, _, _, _, [], _, [], hW', trodAll_mk1 (shut_bool Try.underlying4 _), (trodAll_cons_mk (Below.trod laidOut (by kernel_rfl) (of_decide_eq_true (by kernel_rfl)) k0 bel lt0) (trodAll_cons_mk (Below.trod laidOut (by kernel_rfl) (of_decide_eq_true (by kernel_rfl)) k1 bel lt1) trodAll_mk0)), rfl, bel.frame _, fun h => by cases h⟩

theorem proved : Rows.FnExactActOnSaid :=
  OpenClaim.holds_of_wide 5 Try.f5 rfl rfl rfl rfl rfl rfl rfl ⟨rfl, rfl, rfl, rfl, rfl⟩ rfl rfl rfl rfl rfl (by kernel_rfl) Try.func5 (by kernel_rfl)
    (of_decide_eq_true (by kernel_rfl)) (by unfold Func.isWrapper; first | (rw [if_pos (by decide +kernel)]; kernel_rfl) | (rw [if_neg (by decide +kernel)]; exact ⟨rfl, rfl⟩))
    (fun os started H enc _ => lifted os started H enc)
#print axioms proved

end Go.Proofs.Ytbjjlimncodmkaa.EActOn

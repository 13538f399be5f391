/-
  A part of the proof of FnNamedPair: its law for one name. No condition.
  How: a machine over the model, proved right (Mach, Sym), runs the law on symbols, case by case.
-/
import Derived.Test.YthcecobiidgeoaaRows
import Derived.Test.YthcecobiidgeoaaSym
import Derived.Test.YthcecobiidgeoaaIds
import Derived.Test.YthcecobiidgeoaaSumm
import Derived.Test.YthcecobiidgeoaaDraw
import Derived.Test.YthcecobiidgeoaaDrawC
import Derived.WalkKit
import Derived.ProofKit
import Derived.OpenShut
namespace Go.Proofs.Ythcecobiidgeoaa.DNmpascal
open Go.ChangeShapes Go.WideShapes Go.ChangeAt Go.RowKit Go.Sx Go.Proofs.Ythcecobiidgeoaa.Ids
set_option linter.unusedVariables false
set_option linter.unusedSimpArgs false

noncomputable def law : LawD := ⟨10, 41, [.c (.s (ByteArray.mk #[112, 97, 115, 99, 97, 108])), .c (.i 0)], [], 1, fun _ => .leaf (.rng 0 2 5 (fun _ => .leaf) .leaf)⟩
set_option maxRecDepth 1000000 in
theorem huge : law.huge Try.prog 200 = true := by kernel_rfl
set_option maxRecDepth 1000000 in
theorem b__0 : law.blk Try.prog ids Summs.tab 200 [] 0 1 = true := by kernel_rfl
set_option maxRecDepth 1000000 in
theorem b__1 : law.blk Try.prog ids Summs.tab 200 [] 1 1 = true := by kernel_rfl
set_option maxRecDepth 1000000 in
theorem b__2 : law.blk Try.prog ids Summs.tab 200 [] 2 1 = true := by kernel_rfl
set_option maxRecDepth 1000000 in
theorem b__3 : law.blk Try.prog ids Summs.tab 200 [] 3 1 = true := by kernel_rfl
set_option maxRecDepth 1000000 in
theorem b__4 : law.blk Try.prog ids Summs.tab 200 [] 4 1 = true := by kernel_rfl
set_option maxRecDepth 1000000 in
theorem b__5 : law.blk Try.prog ids Summs.tab 200 [] 5 1 = true := by kernel_rfl
set_option maxRecDepth 1000000 in
theorem b__6 : law.blk Try.prog ids Summs.tab 200 [] 6 1 = true := by kernel_rfl
theorem cnt_ : (law.tree []).count = 7 := by kernel_rfl
theorem at_ : law.at Try.prog ids Summs.tab 200 [] = true := by
  refine LawD.at_of (fun j hj => ?_)
  rw [cnt_] at hj
  by_cases h0 : j < 1
  · exact LawD.of_blk b__0 (by omega) (by omega)
  by_cases h1 : j < 2
  · exact LawD.of_blk b__1 (by omega) (by omega)
  by_cases h2 : j < 3
  · exact LawD.of_blk b__2 (by omega) (by omega)
  by_cases h3 : j < 4
  · exact LawD.of_blk b__3 (by omega) (by omega)
  by_cases h4 : j < 5
  · exact LawD.of_blk b__4 (by omega) (by omega)
  by_cases h5 : j < 6
  · exact LawD.of_blk b__5 (by omega) (by omega)
  exact LawD.of_blk b__6 (by omega) (by omega)

theorem cases (es : List Nat) (hl : es.length = law.bds.length) (hx : ∀ x, x ∈ es → x ≤ 1) : law.at Try.prog ids Summs.tab 200 es = true := by
  have hl : es.length = 0 := hl
  obtain rfl := List.eq_nil_of_length_eq_zero hl
  exact at_

end Go.Proofs.Ythcecobiidgeoaa.DNmpascal

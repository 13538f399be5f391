/-
  Laws over lists that are drawn and known; regions of open order by hand.
-/
import Derived.Test.YtgaodlhdilhliaaDoorSym
import Derived.ProofKit
import Derived.OpenShut
import Derived.Lib.SmallJoins
set_option linter.unusedVariables false
set_option linter.unusedSimpArgs false
/-
  Regions of open order in which memory is read beside a call that reads bytes, by hand.
-/
namespace Go.Sx
open Go.RowKit

section
variable {I : Type} {N : Num I} {T : TypeId → Option Ti} {C : FuncId → List (V I) → Sto I → Option (V I × Sto I)} {nt : Nat}
variable {L : Code → St I → Option (AExit × St I)} {Qn : St I → Prop} {Qx : AExit → St I → Prop}
end

end Go.Sx

/-
  Lists that are drawn, as they stand.
-/
namespace Go.Sx
open Go.RowKit

end Go.Sx

/-
  Laws over lists that are drawn, with what is told besides; at lists that are known.
-/
namespace Go.Sx
open Go.RowKit

theorem numsOf_nums : ∀ zs : List Int, numsOf (ints (nums zs)) = some (nums zs)
  | [] => rfl
  | a :: r => by
    have := numsOf_nums r
    simp only [ints, nums, List.map_cons] at this ⊢
    simp only [numsOf, this]
theorem consts_of : ∀ zs : List Int, consts (nums zs) = some zs
  | [] => rfl
  | a :: r => by
    have := consts_of r
    simp only [nums, List.map_cons] at this ⊢
    simp only [consts, this]
theorem sameI_of (l : List Int) : sameI l l = true := by
  induction l with
  | nil => rfl
  | cons a r ih => simp [sameI, ieq_eq, ih]
end Go.Sx


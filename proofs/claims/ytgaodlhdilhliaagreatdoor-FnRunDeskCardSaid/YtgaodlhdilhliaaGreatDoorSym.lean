/-
  Ways to part things: laws over two lists, contracts of functions of lists that are known.
-/
import Derived.Test.YtgaodlhdilhliaaGreatDoorSymB
import Derived.ProofKit
import Derived.OpenShut
import Derived.Lib.SmallJoins
set_option linter.unusedVariables false
set_option linter.unusedSimpArgs false
/-
  Laws over two lists that may be ways to part things: ways of one length as they stand, all else by what is told of lists that are not looked into.
-/
namespace Go.Sx
open Go.RowKit

/-! ## Ways of a number of things -/
end Go.Sx

/-
  Contracts of functions that answer one list of numbers; of functions that copy, at lists that are known.
-/
namespace Go.Sx
open Go.RowKit

/-- The numbers, where they are known. -/
noncomputable def consts : List Sy → Option (List Int)
  | [] => some []
  | .c n :: r => match consts r with
    | some l => some (n :: l)
    | none => none
  | _ => none
theorem consts_nums : ∀ {ps : List Sy} {zs : List Int}, consts ps = some zs → ps = nums zs := by
  intro ps
  induction ps with
  | nil => intro zs h; cases h; rfl
  | cons p r ih =>
    intro zs h
    cases p with
    | c n =>
      simp only [consts] at h
      split at h
      · rename_i l hl; cases h; rw [ih hl]; rfl
      · cases h
    | p l => simp [consts] at h

/-- A list of a slice, its numbers known. -/
noncomputable def constsOf (sto : Sto Sy) (x : V Sy) : Option (List Int) := match sto.elems x with
  | some xs => match numsOf xs with
    | some ps => bite (capOk x) (consts ps) none
    | none => none
  | none => none
theorem constsOf_ok {sto : Sto Sy} {x : V Sy} {zs : List Int} (h : constsOf sto x = some zs) : sto.elems x = some (ints (nums zs)) ∧ capOk x = true := by
  unfold constsOf at h
  split at h
  · rename_i xs hxs
    split at h
    · rename_i ps hps
      have := numsOf_ints hps
      subst this
      rw [bite_eq] at h
      split at h
      · rename_i hc
        rw [consts_nums h] at hxs
        exact ⟨hxs, hc⟩
      · cases h
    · cases h
  · cases h
theorem constsOf_rel {ρ ρ' : Nat → Int} {s : Sms} {B : Nat} {c : Cx} {sto : Sto Sy} {x : V Sy} {v : Value} {zs : List Int} (h : constsOf sto x = some zs) (hne : zs ≠ []) (hl : zs.length ≤ 1048576) (hinv : SInv ⟨Sy.den ρ, s⟩ B c sto) (hx : VR ⟨Sy.den ρ, s⟩ B c x v) :
    VR ⟨Sy.den ρ', s⟩ c.w.heap.size ⟨c.w, fun _ => none⟩ (.slice (ints (nums zs))) v := by
  obtain ⟨h1, h2⟩ := constsOf_ok h
  have := (elems_data (ρ' := ρ') hinv hx h1 h2).2 (by cases zs with | nil => exact (hne rfl).elim | cons a r => simp [nums]) (by simpa using hl)
  have e : (nums zs).map (Sy.den ρ) = zs := by simp [nums, Sy.den, Function.comp_def]
  rwa [e] at this

end Go.Sx

/-
  Words for runs by hand without a reader: lists that grow; numbers in order of first coming.
-/
namespace Go.Sx
open Go.RowKit

section
variable {T : TypeId → Option Ti} {t e : TypeId} {za zb : Nat} {zv : Value} {ze ze2 : Bool} {S : Sto Sy} {q : Nat} {zs : List Int} {v : V Sy}
end

section
variable {I : Type} {N : Num I} {T : TypeId → Option Ti} {C : FuncId → List (V I) → Sto I → Option (V I × Sto I)} {nt : Nat} {D : List Oper → St I → Option (St I)} {kp : Code → Option (List Nat)} {fresh : Tr (V I)}
  {Qn : St I → Prop} {Qx : AExit → St I → Prop}
end

end Go.Sx

/-
  Lists that are known: copied, compared.
-/
namespace Go.Sx
open Go.RowKit

end Go.Sx

/-
  Maps from things to the numbers in which they came first.
-/
namespace Go.Sx
open Go.RowKit

def kI (a : Int) : V Sy := .int .i64 (.c a)
section
variable {α : Type} [DecidableEq α] {κ : α → V Sy} {T : TypeId → Option Ti} {t kt et : TypeId} {za zb za' : Nat} {zv zv' : Value} {ze ze' : Bool} {S : Sto Sy} {om : Nat} {ks : List α} {z : α}

omit [DecidableEq α] in
end

end Go.Sx

/-
  Answers of one list, by runs, one for each of some arguments; parts put together.
-/
namespace Go.Sx
open Go.RowKit

end Go.Sx

/-
  Pairs of ways, by blocks of runs; laws over two lists that may be ways.
-/
namespace Go.Sx
open Go.RowKit

end Go.Sx


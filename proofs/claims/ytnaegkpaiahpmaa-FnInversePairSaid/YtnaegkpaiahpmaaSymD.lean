/-
  Laws over lists that are drawn and known; regions of open order by hand.
-/
import Derived.Test.YtnaegkpaiahpmaaSym
import Derived.ProofKit
import Derived.OpenShut
import Derived.Lib.SmallJoins
set_option linter.unusedVariables false
set_option linter.unusedSimpArgs false
/-
  Regions of open order in which memory is read beside a call that reads bytes, by hand.
-/
namespace Go.Sx
open Go.RowKit

section
variable {I : Type} {N : Num I} {T : TypeId → Option Ti} {C : FuncId → List (V I) → Sto I → Option (V I × Sto I)} {nt : Nat}
variable {L : Code → St I → Option (AExit × St I)} {Qn : St I → Prop} {Qx : AExit → St I → Prop}
end

end Go.Sx

/-
  Lists that are drawn, as they stand.
-/
namespace Go.Sx
open Go.RowKit

end Go.Sx

/-
  Laws over lists that are drawn, with what is told besides; at lists that are known.
-/
namespace Go.Sx
open Go.RowKit

theorem numsOf_nums : ∀ zs : List Int, numsOf (ints (nums zs)) = some (nums zs)
  | [] => rfl
  | a :: r => by
    have := numsOf_nums r
    simp only [ints, nums, List.map_cons] at this ⊢
    simp only [numsOf, this]
theorem consts_of : ∀ zs : List Int, consts (nums zs) = some zs
  | [] => rfl
  | a :: r => by
    have := consts_of r
    simp only [nums, List.map_cons] at this ⊢
    simp only [consts, this]
theorem sameI_of (l : List Int) : sameI l l = true := by
  induction l with
  | nil => rfl
  | cons a r ih => simp [sameI, ieq_eq, ih]
theorem sameI_dec (l l' : List Int) : sameI l l' = decide (l = l') := by
  by_cases h : l = l'
  · subst h; simp [sameI_of]
  · rw [decide_eq_false h]
    cases hs : sameI l l' with
    | false => rfl
    | true => exact (h (sameI_eq hs)).elim
/-- Are two lists that are known equal? -/
noncomputable def eqbK (k0 : FuncId) : Ctr := fun k args sto =>
  bite (Nat.beq k k0) (match args with
  | [x, y] => match constsOf sto x, constsOf sto y with
    | some (z :: r), some (z' :: r') => bite (Nat.ble (z :: r).length 1000) (bite (Nat.ble (z' :: r').length 1000) (some (.bool (sameI (z :: r) (z' :: r')), sto)) none) none
    | _, _ => none
  | _ => none) none
theorem eqbK_ok {P : Program} (hG : NoCount P) (hm : P.follows .mixedOrders = true) {k0 : FuncId} (hb : ∃ fn, P.funcs[k0]? = some fn ∧ fn.body.isSome = true)
    (hF : ∀ zs us : List Int, zs.length ≤ 1000 → us.length ≤ 1000 → ∃ r, symRun P noK [] 3000 k0 [.slice (ints (nums zs)), .slice (ints (nums us))] ⟨0, [], 0⟩ = some r ∧ r.1 = .bool (decide (zs = us))) {ρ : Nat → Int} {s : Sms} {B : Nat} : COk P ⟨Sy.den ρ, s⟩ B (eqbK k0) := by
  intro k args sto r sto' h
  unfold eqbK at h
  rw [bite_eq] at h
  split at h
  case isFalse => cases h
  rename_i hk
  have hk := Nat.eq_of_beq_eq_true hk
  subst hk
  split at h
  · rename_i x y
    split at h
    · rename_i z rr z' rr' hz hz'
      rw [bite_eq] at h
      split at h
      · rename_i hl
        rw [Nat.ble_eq] at hl
        rw [bite_eq] at h
        split at h
        · rename_i hl'
          rw [Nat.ble_eq] at hl'
          cases h
          obtain ⟨⟨R, S⟩, hrun, hR⟩ := hF _ _ hl hl'
          simp only at hR
          subst hR
          rw [← sameI_dec] at hrun
          refine ⟨lift_plain (ρ' := ρ) (run_good hG hm ρ hrun) (fun c hinv vs hv => ?_) rfl (.bool _), hb⟩
          obtain ⟨v, u, rfl, hv, hu⟩ := hv.two
          exact .cons (constsOf_rel hz (by simp) (by omega) hinv hv) (.cons (constsOf_rel hz' (by simp) (by omega) hinv hu) .nil)
        · cases h
      · cases h
    · cases h
  · cases h

end Go.Sx


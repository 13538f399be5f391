/-
  Are two lists of symbols equal, as told.
-/
import Derived.Test.YtobdnpnohaonkaaSymF
import Derived.ProofKit
import Derived.OpenShut
set_option linter.unusedVariables false
set_option linter.unusedSimpArgs false
/-
  Are two lists of symbols equal, as told.
-/
namespace Go.Sx
open Go.RowKit

/-- Two lists, and whether they are equal. -/
structure QEnt where
  ps : List Sy
  qs : List Sy
  q : Bool
def QEnt.Ok (ρ : Nat → Int) (e : QEnt) : Prop := decide (e.ps.map (Sy.den ρ) = e.qs.map (Sy.den ρ)) = e.q
noncomputable def findQ (ps qs : List Sy) : List QEnt → Option Bool
  | [] => none
  | e :: r => bite (sames ps e.ps) (bite (sames qs e.qs) (some e.q) (findQ ps qs r)) (findQ ps qs r)
theorem findQ_ok {ρ : Nat → Int} {ps qs : List Sy} {q : Bool} : ∀ {l : List QEnt}, (∀ e, e ∈ l → e.Ok ρ) → findQ ps qs l = some q → decide (ps.map (Sy.den ρ) = qs.map (Sy.den ρ)) = q := by
  intro l
  induction l with
  | nil => intro _ h; cases h
  | cons e r ih =>
    intro hok h
    have ih' := ih (fun x hx => hok x (by simp [hx]))
    simp only [findQ, bite_eq] at h
    split at h
    · rename_i h1
      split at h
      · rename_i h2
        cases h
        have h0 := hok e (by simp)
        rw [sames_eq h1, sames_eq h2]
        exact h0
      · exact ih' h
    · exact ih' h
/-- A function that compares two lists, as told. -/
noncomputable def eqE (k0 : FuncId) (l : List QEnt) : Ctr := fun k args sto =>
  bite (Nat.beq k k0) (match args with
  | [x, y] => match sto.elems x with
    | some xs => match sto.elems y with
      | some ys => match numsOf xs with
        | some (p :: ps) => match numsOf ys with
          | some (r :: rs) => bite (capOk x) (bite (capOk y) (bite (Nat.ble (p :: ps).length 1000) (bite (Nat.ble (r :: rs).length 1000) (match findQ (p :: ps) (r :: rs) l with
            | some q => some (.bool q, sto)
            | none => none) none) none) none) none
          | _ => none
        | _ => none
      | none => none
    | none => none
  | _ => none) none
theorem eqE_ok {P : Program} (hG : NoCount P) (hm : P.follows .mixedOrders = true) {k0 : FuncId} (hb : ∃ fn, P.funcs[k0]? = some fn ∧ fn.body.isSome = true)
    (hF : ∀ zs us : List Int, zs.length ≤ 1000 → us.length ≤ 1000 → ∃ r, symRun P noK [] 3000 k0 [.slice (ints (nums zs)), .slice (ints (nums us))] ⟨0, [], 0⟩ = some r ∧ r.1 = .bool (decide (zs = us))) {l : List QEnt} {ρ : Nat → Int} {s : Sms} {B : Nat} (hl : ∀ e, e ∈ l → e.Ok ρ) : COk P ⟨Sy.den ρ, s⟩ B (eqE k0 l) := by
  intro k args sto r sto' h
  unfold eqE at h
  rw [bite_eq] at h
  split at h
  case isFalse => cases h
  rename_i hk
  have hk := Nat.eq_of_beq_eq_true hk
  subst hk
  split at h
  case h_2 => cases h
  rename_i x y
  split at h
  case h_2 => cases h
  rename_i xs hxs
  split at h
  case h_2 => cases h
  rename_i ys hys
  split at h
  case h_2 => cases h
  rename_i p ps hp
  split at h
  case h_2 => cases h
  rename_i r0 rs hr
  have hp := numsOf_ints hp
  have hr := numsOf_ints hr
  subst hp hr
  simp only [bite_eq] at h
  split at h
  case isFalse => cases h
  rename_i c1
  split at h
  case isFalse => cases h
  rename_i c2
  split at h
  case isFalse => cases h
  rename_i l1
  split at h
  case isFalse => cases h
  rename_i l2
  rw [Nat.ble_eq] at l1 l2
  split at h
  case h_2 => cases h
  rename_i q hq
  cases h
  have hq' := findQ_ok hl hq
  obtain ⟨⟨R, S⟩, hrun, hR⟩ := hF ((p :: ps).map (Sy.den ρ)) ((r0 :: rs).map (Sy.den ρ)) (by rw [List.length_map]; exact l1) (by rw [List.length_map]; exact l2)
  simp only at hR
  subst hR
  rw [hq'] at hrun
  refine ⟨lift_plain (ρ' := ρ) (run_good hG hm ρ hrun) (fun c hinv vs hv => ?_) rfl (.bool _), hb⟩
  obtain ⟨v, u, rfl, hv, hu⟩ := hv.two
  exact .cons ((elems_data hinv hv hxs c1).2 (by simp) (by omega)) (.cons ((elems_data hinv hu hys c2).2 (by simp) (by omega)) .nil)
end Go.Sx


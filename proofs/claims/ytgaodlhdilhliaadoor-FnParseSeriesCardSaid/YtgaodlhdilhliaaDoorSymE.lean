/-
  Laws over lists that are drawn, of which some may be nil.
-/
import Derived.Test.YtgaodlhdilhliaaDoorSymD
import Derived.ProofKit
import Derived.OpenShut
import Derived.Lib.SmallJoins
import Derived.Deep.Matrix
set_option linter.unusedVariables false
set_option linter.unusedSimpArgs false
/-
  Laws over what a function draws from bytes, where a list that is drawn may be nil.
-/
namespace Go.Sx.Nn
open Go.RowKit Go.Sx

/-- A list that a run has made, or nil. -/
def Made (S : Sto Sy) (zs : List Int) (o : Nat) (v : V Sy) : Prop := Go.Sx.Made S zs o v ∨ (zs = [] ∧ v = .nil)
theorem Made.some {S : Sto Sy} {zs : List Int} {o : Nat} {v : V Sy} (h : Made S zs o v) (hn : zs ≠ []) : Go.Sx.Made S zs o v := h.elim id (fun h => (hn h.1).elim)
end Go.Sx.Nn

/-
  Lists of lists of numbers that are known: contracts of functions that ask something of them.
-/
namespace Go.Sx
open Go.RowKit

/-- A list that is known, as an argument. -/
def patL : List Int → V Sy
  | [] => .emp
  | z :: r => .slice (ints (nums (z :: r)))
theorem patL_rel {ρ ρ' : Nat → Int} {s : Sms} {B : Nat} {c : Cx} {sto : Sto Sy} {x : V Sy} {v : Value} {zs : List Int} (h : constsOf sto x = some zs) (hl : zs.length ≤ 1048576) (hinv : SInv ⟨Sy.den ρ, s⟩ B c sto) (hx : VR ⟨Sy.den ρ, s⟩ B c x v) :
    VR ⟨Sy.den ρ', s⟩ c.w.heap.size ⟨c.w, fun _ => none⟩ (patL zs) v := by
  cases zs with
  | nil =>
    obtain ⟨h1, h2⟩ := constsOf_ok h
    exact (elems_data (ρ' := ρ') hinv hx h1 h2).1 rfl
  | cons z r => exact constsOf_rel h (by simp) hl hinv hx

/-- What a function asks of one list. -/
noncomputable def askK (k0 : FuncId) (F : List Int → Bool) : Ctr := fun k args sto =>
  bite (Nat.beq k k0) (match args with
  | [x] => match constsOf sto x with
    | some zs => bite (Nat.ble zs.length 1048576) (some (.bool (F zs), sto)) none
    | none => none
  | _ => none) none
theorem askK_ok {P : Program} (hG : NoCount P) (hm : P.follows .mixedOrders = true) {k0 : FuncId} {F : List Int → Bool} (hb : ∃ fn, P.funcs[k0]? = some fn ∧ fn.body.isSome = true)
    (hF : ∀ zs : List Int, zs.length ≤ 1048576 → ∃ (K : Ctr) (n : Nat) (S : Sto Sy), (∀ (ρ : Nat → Int) (s : Sms) (B : Nat), COk P ⟨Sy.den ρ, s⟩ B K) ∧ symRun P K [] n k0 [patL zs] ⟨0, [], 0⟩ = some (.bool (F zs), S)) {ρ : Nat → Int} {s : Sms} {B : Nat} : COk P ⟨Sy.den ρ, s⟩ B (askK k0 F) := by
  intro k args sto r sto' h
  unfold askK at h
  rw [bite_eq] at h
  split at h
  case isFalse => cases h
  rename_i hk
  have hk := Nat.eq_of_beq_eq_true hk
  subst hk
  split at h
  · rename_i x
    split at h
    · rename_i zs hz
      rw [bite_eq] at h
      split at h
      · rename_i hl
        rw [Nat.ble_eq] at hl
        cases h
        obtain ⟨K, n, S, hK, hrun⟩ := hF _ hl
        refine ⟨lift_plain (ρ' := ρ) (run_goodK hG hm hK ρ hrun) (fun c hinv vs hv => ?_) rfl (.bool _), hb⟩
        obtain ⟨v, rfl, hv2⟩ := hv.one
        exact .cons (patL_rel hz hl hinv hv2) .nil
      · cases h
    · cases h
  · cases h

/-- The contract of a function that copies one list. -/
noncomputable def copyK (k0 : FuncId) : Ctr := fun k args sto =>
  bite (Nat.beq k k0) (match args with
  | [x] => match constsOf sto x with
    | some zs => bite (Nat.ble zs.length 1048576) (some (.rsl sto.next 0 zs.length none, ⟨sto.next + 1, (sto.next, ints (nums zs)) :: sto.obs, sto.low⟩)) none
    | none => none
  | _ => none) none
theorem copyK_ok {P : Program} (hG : NoCount P) (hm : P.follows .mixedOrders = true) {k0 : FuncId} (hb : ∃ fn, P.funcs[k0]? = some fn ∧ fn.body.isSome = true)
    (hF : ∀ zs : List Int, zs.length ≤ 1048576 → OneOk P k0 [patL zs] zs) {ρ : Nat → Int} {s : Sms} {B : Nat} : COk P ⟨Sy.den ρ, s⟩ B (copyK k0) := by
  intro k args sto r sto' h
  unfold copyK at h
  rw [bite_eq] at h
  split at h
  case isFalse => cases h
  rename_i hk
  have hk := Nat.eq_of_beq_eq_true hk
  subst hk
  split at h
  · rename_i x
    split at h
    · rename_i zs hz
      rw [bite_eq] at h
      split at h
      · rename_i hl
        rw [Nat.ble_eq] at hl
        cases h
        obtain ⟨K, n, q, R, S, hK, hrun, hM⟩ := (hF _ hl).run
        refine ⟨lift_one (ρ' := ρ) (fun B' => run_goodK hG hm hK ρ hrun B') hM (fun c hinv vs hv => ?_), hb⟩
        obtain ⟨v, rfl, hv2⟩ := hv.one
        exact .cons (patL_rel hz hl hinv hv2) .nil
      · cases h
    · cases h
  · cases h

/-- Two lists that are known and equal. -/
noncomputable def sameK (k0 : FuncId) : Ctr := fun k args sto =>
  bite (Nat.beq k k0) (match args with
  | [x, y] => match constsOf sto x, constsOf sto y with
    | some l, some l' => bite (Nat.ble l.length 1048576) (bite (sameI l l') (some (.bool true, sto)) none) none
    | _, _ => none
  | _ => none) none
theorem sameK_ok {P : Program} (hG : NoCount P) (hm : P.follows .mixedOrders = true) {k0 : FuncId} (hb : ∃ fn, P.funcs[k0]? = some fn ∧ fn.body.isSome = true)
    (hF : ∀ zs : List Int, zs.length ≤ 1048576 → ∃ n S, symRun P noK [] n k0 [patL zs, patL zs] ⟨0, [], 0⟩ = some (.bool true, S)) {ρ : Nat → Int} {s : Sms} {B : Nat} : COk P ⟨Sy.den ρ, s⟩ B (sameK k0) := by
  intro k args sto r sto' h
  unfold sameK at h
  rw [bite_eq] at h
  split at h
  case isFalse => cases h
  rename_i hk
  have hk := Nat.eq_of_beq_eq_true hk
  subst hk
  split at h
  · rename_i x y
    split at h
    · rename_i l l' hz hz'
      rw [bite_eq] at h
      split at h
      · rename_i hl
        rw [Nat.ble_eq] at hl
        rw [bite_eq] at h
        split at h
        · rename_i he
          have he := sameI_eq he
          subst he
          cases h
          obtain ⟨n, S, hrun⟩ := hF _ hl
          refine ⟨lift_plain (ρ' := ρ) (run_good hG hm ρ hrun) (fun c hinv vs hv => ?_) rfl (.bool _), hb⟩
          obtain ⟨v, u, rfl, hv, hu⟩ := hv.two
          exact .cons (patL_rel hz hl hinv hv) (.cons (patL_rel hz' hl hinv hu) .nil)
        · cases h
      · cases h
    · cases h
  · cases h


end Go.Sx

/-
  Lists of lists among a row's arguments.
-/
namespace Go.Sx
open Go.ChangeShapes Go.WideShapes Go.ChangeAt Go.RowKit

end Go.Sx

/-
  Lists of lists whose numbers are symbols.
-/
namespace Go.Sx
open Go.RowKit

end Go.Sx


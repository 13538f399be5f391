/-
  Laws over lists that are drawn, of which some may be nil.
-/
import Derived.Test.YtgaodlhdilhliaaGreatDoorSymD
import Derived.ProofKit
import Derived.OpenShut
import Derived.Lib.SmallJoins
import Derived.Deep.Matrix
set_option linter.unusedVariables false
set_option linter.unusedSimpArgs false
/-
  Laws over what a function draws from bytes, where a list that is drawn may be nil.
-/
namespace Go.Sx.Nn
open Go.RowKit Go.Sx

/-- A list that a run has made, or nil. -/
def Made (S : Sto Sy) (zs : List Int) (o : Nat) (v : V Sy) : Prop := Go.Sx.Made S zs o v ∨ (zs = [] ∧ v = .nil)
theorem Made.some {S : Sto Sy} {zs : List Int} {o : Nat} {v : V Sy} (h : Made S zs o v) (hn : zs ≠ []) : Go.Sx.Made S zs o v := h.elim id (fun h => (hn h.1).elim)
end Go.Sx.Nn

/-
  Lists of lists of numbers that are known: contracts of functions that ask something of them.
-/
namespace Go.Sx
open Go.RowKit

/-- A list that is known, as an argument. -/
def patL : List Int → V Sy
  | [] => .emp
  | z :: r => .slice (ints (nums (z :: r)))
theorem patL_rel {ρ ρ' : Nat → Int} {s : Sms} {B : Nat} {c : Cx} {sto : Sto Sy} {x : V Sy} {v : Value} {zs : List Int} (h : constsOf sto x = some zs) (hl : zs.length ≤ 1048576) (hinv : SInv ⟨Sy.den ρ, s⟩ B c sto) (hx : VR ⟨Sy.den ρ, s⟩ B c x v) :
    VR ⟨Sy.den ρ', s⟩ c.w.heap.size ⟨c.w, fun _ => none⟩ (patL zs) v := by
  cases zs with
  | nil =>
    obtain ⟨h1, h2⟩ := constsOf_ok h
    exact (elems_data (ρ' := ρ') hinv hx h1 h2).1 rfl
  | cons z r => exact constsOf_rel h (by simp) hl hinv hx

/-- What a function asks of one list. -/
noncomputable def askK (k0 : FuncId) (F : List Int → Bool) : Ctr := fun k args sto =>
  bite (Nat.beq k k0) (match args with
  | [x] => match constsOf sto x with
    | some zs => bite (Nat.ble zs.length 1048576) (some (.bool (F zs), sto)) none
    | none => none
  | _ => none) none
theorem askK_ok {P : Program} (hG : NoCount P) (hm : P.follows .mixedOrders = true) {k0 : FuncId} {F : List Int → Bool} (hb : ∃ fn, P.funcs[k0]? = some fn ∧ fn.body.isSome = true)
    (hF : ∀ zs : List Int, zs.length ≤ 1048576 → ∃ (K : Ctr) (n : Nat) (S : Sto Sy), (∀ (ρ : Nat → Int) (s : Sms) (B : Nat), COk P ⟨Sy.den ρ, s⟩ B K) ∧ symRun P K [] n k0 [patL zs] ⟨0, [], 0⟩ = some (.bool (F zs), S)) {ρ : Nat → Int} {s : Sms} {B : Nat} : COk P ⟨Sy.den ρ, s⟩ B (askK k0 F) := by
  intro k args sto r sto' h
  unfold askK at h
  rw [bite_eq] at h
  split at h
  case isFalse => cases h
  rename_i hk
  have hk := Nat.eq_of_beq_eq_true hk
  subst hk
  split at h
  · rename_i x
    split at h
    · rename_i zs hz
      rw [bite_eq] at h
      split at h
      · rename_i hl
        rw [Nat.ble_eq] at hl
        cases h
        obtain ⟨K, n, S, hK, hrun⟩ := hF _ hl
        refine ⟨lift_plain (ρ' := ρ) (run_goodK hG hm hK ρ hrun) (fun c hinv vs hv => ?_) rfl (.bool _), hb⟩
        obtain ⟨v, rfl, hv2⟩ := hv.one
        exact .cons (patL_rel hz hl hinv hv2) .nil
      · cases h
    · cases h
  · cases h

end Go.Sx

/-
  Lists of lists among a row's arguments.
-/
namespace Go.Sx
open Go.ChangeShapes Go.WideShapes Go.ChangeAt Go.RowKit

end Go.Sx

/-
  Lists of lists whose numbers are symbols.
-/
namespace Go.Sx
open Go.RowKit

theorem ints_sym {ρ : Nat → Int} {s : Sms} {B : Nat} {c : Cx} {ps : List Sy} {zs : List Int} {v : Value} (hp : ps.map (Sy.den ρ) = zs) (hne : zs ≠ []) (h : VR ⟨Sy.den ρ, s⟩ B c (patL zs) v) : VR ⟨Sy.den ρ, s⟩ B c (.slice (ints ps)) v := by
  have hq : patL zs = .slice (ints (nums zs)) := by cases zs with
    | nil => exact (hne rfl).elim
    | cons a r => rfl
  rw [hq] at h
  have hl : (ints (nums zs)).length = (ints ps).length := by rw [← hp]; simp
  generalize hg : ints (nums zs) = xs at h hl
  cases h with
  | @slice _ b off cap us h1 h2 h3 h4 h5 =>
    rw [hl]
    refine .slice us (by omega) (by omega) h3 h4 (fun j x u hx hu => ?_)
    rw [ints_get] at hx
    obtain ⟨p, hpj, rfl⟩ := Option.map_eq_some_iff.1 hx
    have hz : zs[j]? = some (p.den ρ) := by rw [← hp, List.getElem?_map, hpj]; rfl
    have := h5 j (.int .i64 (.c (p.den ρ))) u (by rw [← hg, ints_get, nums_get, hz]; rfl) hu
    cases this
    exact VR_int' rfl
  | snil => cases zs with
    | nil => exact (hne rfl).elim
    | cons a r => simp [ints, nums] at hg

end Go.Sx


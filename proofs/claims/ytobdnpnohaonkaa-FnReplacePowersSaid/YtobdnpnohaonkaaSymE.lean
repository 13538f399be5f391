/-
  Laws over lists that are drawn, of which some may be nil.
-/
import Derived.Test.YtobdnpnohaonkaaSymD
import Derived.ProofKit
import Derived.OpenShut
import Derived.Lib.SmallJoins
import Derived.Deep.Matrix
set_option linter.unusedVariables false
set_option linter.unusedSimpArgs false
/-
  Laws over what a function draws from bytes, where a list that is drawn may be nil.
-/
namespace Go.Sx.Nn
open Go.RowKit Go.Sx

/-- A list that a run has made, or nil. -/
def Made (S : Sto Sy) (zs : List Int) (o : Nat) (v : V Sy) : Prop := Go.Sx.Made S zs o v ∨ (zs = [] ∧ v = .nil)
theorem Made.some {S : Sto Sy} {zs : List Int} {o : Nat} {v : V Sy} (h : Made S zs o v) (hn : zs ≠ []) : Go.Sx.Made S zs o v := h.elim id (fun h => (hn h.1).elim)
end Go.Sx.Nn

/-
  Lists of lists of numbers that are known: contracts of functions that ask something of them.
-/
namespace Go.Sx
open Go.RowKit

/-- A list that is known, as an argument. -/
def patL : List Int → V Sy
  | [] => .emp
  | z :: r => .slice (ints (nums (z :: r)))
/-- A list of lists, as an argument. -/
def patS : List (List Int) → V Sy
  | [] => .emp
  | z :: r => .slice ((z :: r).map patL)

theorem patL_rel {ρ ρ' : Nat → Int} {s : Sms} {B : Nat} {c : Cx} {sto : Sto Sy} {x : V Sy} {v : Value} {zs : List Int} (h : constsOf sto x = some zs) (hl : zs.length ≤ 1048576) (hinv : SInv ⟨Sy.den ρ, s⟩ B c sto) (hx : VR ⟨Sy.den ρ, s⟩ B c x v) :
    VR ⟨Sy.den ρ', s⟩ c.w.heap.size ⟨c.w, fun _ => none⟩ (patL zs) v := by
  cases zs with
  | nil =>
    obtain ⟨h1, h2⟩ := constsOf_ok h
    exact (elems_data (ρ' := ρ') hinv hx h1 h2).1 rfl
  | cons z r => exact constsOf_rel h (by simp) hl hinv hx

noncomputable def rowsFrom (sto : Sto Sy) : List (V Sy) → Option (List (List Int))
  | [] => some []
  | x :: r => match constsOf sto x with
    | some zs => match rowsFrom sto r with
      | some l => some (zs :: l)
      | none => none
    | none => none
/-- The lists of a slice of slices, their numbers known. -/
noncomputable def rowsOf (sto : Sto Sy) (x : V Sy) : Option (List (List Int)) := match sto.elems x with
  | some xs => bite (capOk x) (rowsFrom sto xs) none
  | none => none

theorem rowsFrom_at {sto : Sto Sy} : ∀ {xs : List (V Sy)} {zss : List (List Int)}, rowsFrom sto xs = some zss → xs.length = zss.length ∧ ∀ (i : Nat) (x : V Sy) (zs : List Int), xs[i]? = some x → zss[i]? = some zs → constsOf sto x = some zs := by
  intro xs
  induction xs with
  | nil => intro zss h; cases h; exact ⟨rfl, fun i x zs h => by simp at h⟩
  | cons x r ih =>
    intro zss h
    simp only [rowsFrom] at h
    split at h
    · rename_i zs hz
      split at h
      · rename_i l hl
        cases h
        obtain ⟨h1, h2⟩ := ih hl
        refine ⟨by simp [h1], fun i y ys hy hys => ?_⟩
        cases i with
        | zero => simp at hy hys; subst hy hys; exact hz
        | succ i => exact h2 i y ys (by simpa using hy) (by simpa using hys)
      · cases h
    · cases h
theorem rowsOf_ok {sto : Sto Sy} {x : V Sy} {zss : List (List Int)} (h : rowsOf sto x = some zss) : ∃ xs, sto.elems x = some xs ∧ capOk x = true ∧ rowsFrom sto xs = some zss := by
  unfold rowsOf at h
  split at h
  · rename_i xs hxs
    rw [bite_eq] at h
    split at h
    · rename_i hc; exact ⟨xs, hxs, hc, h⟩
    · cases h
  · cases h

theorem patS_rel {ρ ρ' : Nat → Int} {s : Sms} {B : Nat} {c : Cx} {sto : Sto Sy} {x : V Sy} {v : Value} {zss : List (List Int)} (h : rowsOf sto x = some zss) (hl : ∀ zs, zs ∈ zss → zs.length ≤ 1048576) (hinv : SInv ⟨Sy.den ρ, s⟩ B c sto) (hx : VR ⟨Sy.den ρ, s⟩ B c x v) :
    VR ⟨Sy.den ρ', s⟩ c.w.heap.size ⟨c.w, fun _ => none⟩ (patS zss) v := by
  obtain ⟨xs, he, hc, hf⟩ := rowsOf_ok h
  obtain ⟨hlen, hat⟩ := rowsFrom_at hf
  obtain ⟨ad, cap, us, rfl, hr, hor⟩ := hinv.elems hx he
  cases zss with
  | nil =>
    have : xs = [] := List.eq_nil_of_length_eq_zero (by simpa using hlen)
    subst this
    rcases hor with ⟨_, h2⟩ | ⟨b, off, rfl, _⟩
    · exact .emp _ _ h2
    · exact .emp _ _ (.inr fun b hb => by cases hb; rfl)
  | cons z r =>
    have hpos : 0 < xs.length := by rw [hlen]; simp
    rcases hor with ⟨h1, _⟩ | ⟨b, off, rfl, hcell⟩
    · rw [h1] at hpos; simp at hpos
    · have hus : us.length = xs.length := hr.1.symm
      have hcap : xs.length ≤ cap := by
        generalize hg : xs.length = n at hx
        rw [hg] at hpos
        cases x <;> simp [Sto.elems] at he
        case nil => cases hx
        case emp => cases hx; omega
        case slice => cases hx with
          | slice _ _ h2 _ _ _ => exact h2
        case rsl => cases hx with
          | rsl hk => simpa [capOk, Nat.ble_eq] using hc
          | rslo hk hlc hn => omega
      have hb : b < c.w.heap.size := by
        have hp : 0 < us.length := by omega
        have := hcell 0 us[0] (List.getElem?_eq_getElem hp)
        exact lt_of_cell this
      have hlm : ((z :: r).map patL).length = xs.length := by rw [List.length_map, hlen]
      rw [show patS (z :: r) = .slice ((z :: r).map patL) from rfl, ← hlm]
      refine .slice us (by omega) (by omega) hb hcell (fun j y u hy hu => ?_)
      rw [List.getElem?_map, Option.map_eq_some_iff] at hy
      obtain ⟨zs, hzs, rfl⟩ := hy
      have hj : j < xs.length := by rw [hlen]; exact (List.getElem?_eq_some_iff.1 hzs).1
      exact patL_rel (hat j xs[j] zs (List.getElem?_eq_getElem hj) hzs) (hl zs (List.mem_of_getElem? hzs)) hinv (hr.2 j xs[j] u (List.getElem?_eq_getElem hj) hu)

/-- What a function asks of one list. -/
noncomputable def askK (k0 : FuncId) (F : List Int → Bool) : Ctr := fun k args sto =>
  bite (Nat.beq k k0) (match args with
  | [x] => match constsOf sto x with
    | some zs => bite (Nat.ble zs.length 1048576) (some (.bool (F zs), sto)) none
    | none => none
  | _ => none) none
theorem askK_ok {P : Program} (hG : NoCount P) (hm : P.follows .mixedOrders = true) {k0 : FuncId} {F : List Int → Bool} (hb : ∃ fn, P.funcs[k0]? = some fn ∧ fn.body.isSome = true)
    (hF : ∀ zs : List Int, zs.length ≤ 1048576 → ∃ (K : Ctr) (n : Nat) (S : Sto Sy), (∀ (ρ : Nat → Int) (s : Sms) (B : Nat), COk P ⟨Sy.den ρ, s⟩ B K) ∧ symRun P K [] n k0 [patL zs] ⟨0, [], 0⟩ = some (.bool (F zs), S)) {ρ : Nat → Int} {s : Sms} {B : Nat} : COk P ⟨Sy.den ρ, s⟩ B (askK k0 F) := by
  intro k args sto r sto' h
  unfold askK at h
  rw [bite_eq] at h
  split at h
  case isFalse => cases h
  rename_i hk
  have hk := Nat.eq_of_beq_eq_true hk
  subst hk
  split at h
  · rename_i x
    split at h
    · rename_i zs hz
      rw [bite_eq] at h
      split at h
      · rename_i hl
        rw [Nat.ble_eq] at hl
        cases h
        obtain ⟨K, n, S, hK, hrun⟩ := hF _ hl
        refine ⟨lift_plain (ρ' := ρ) (run_goodK hG hm hK ρ hrun) (fun c hinv vs hv => ?_) rfl (.bool _), hb⟩
        obtain ⟨v, rfl, hv2⟩ := hv.one
        exact .cons (patL_rel hz hl hinv hv2) .nil
      · cases h
    · cases h
  · cases h

/-- What a function asks of one list and a number. -/
noncomputable def askIK (k0 : FuncId) (F : List Int → Int → Option Bool) : Ctr := fun k args sto =>
  bite (Nat.beq k k0) (match args with
  | [x, .int .i64 (.c n)] => match constsOf sto x with
    | some zs => bite (Nat.ble zs.length 1048576) (match F zs n with
      | some q => some (.bool q, sto)
      | none => none) none
    | none => none
  | _ => none) none
theorem askIK_ok {P : Program} (hG : NoCount P) (hm : P.follows .mixedOrders = true) {k0 : FuncId} {F : List Int → Int → Option Bool} (hb : ∃ fn, P.funcs[k0]? = some fn ∧ fn.body.isSome = true)
    (hF : ∀ (zs : List Int) (n : Int) (q : Bool), F zs n = some q → ∃ (K : Ctr) (m : Nat) (S : Sto Sy), (∀ (ρ : Nat → Int) (s : Sms) (B : Nat), COk P ⟨Sy.den ρ, s⟩ B K) ∧ symRun P K [] m k0 [patL zs, .int .i64 (.c n)] ⟨0, [], 0⟩ = some (.bool q, S)) {ρ : Nat → Int} {s : Sms} {B : Nat} : COk P ⟨Sy.den ρ, s⟩ B (askIK k0 F) := by
  intro k args sto r sto' h
  unfold askIK at h
  rw [bite_eq] at h
  split at h
  case isFalse => cases h
  rename_i hk
  have hk := Nat.eq_of_beq_eq_true hk
  subst hk
  split at h
  · rename_i x n
    split at h
    · rename_i zs hz
      rw [bite_eq] at h
      split at h
      · rename_i hl
        rw [Nat.ble_eq] at hl
        split at h
        · rename_i q hq
          cases h
          obtain ⟨K, m, S, hK, hrun⟩ := hF _ _ _ hq
          refine ⟨lift_plain (ρ' := ρ) (run_goodK hG hm hK ρ hrun) (fun c hinv vs hv => ?_) rfl (.bool _), hb⟩
          obtain ⟨v, u, rfl, hv, hu⟩ := hv.two
          refine .cons (patL_rel hz hl hinv hv) (.cons ?_ .nil)
          cases hu
          exact .int _ _
        · cases h
      · cases h
    · cases h
  · cases h

/-- What a function asks of a list of lists. -/
noncomputable def askSK (k0 : FuncId) (F : List (List Int) → Bool) : Ctr := fun k args sto =>
  bite (Nat.beq k k0) (match args with
  | [x] => match rowsOf sto x with
    | some zss => bite (Nat.ble zss.length 1048576) (bite (zss.all fun zs => Nat.ble zs.length 1048576) (some (.bool (F zss), sto)) none) none
    | none => none
  | _ => none) none
theorem askSK_ok {P : Program} (hG : NoCount P) (hm : P.follows .mixedOrders = true) {k0 : FuncId} {F : List (List Int) → Bool} (hb : ∃ fn, P.funcs[k0]? = some fn ∧ fn.body.isSome = true)
    (hF : ∀ zss : List (List Int), zss.length ≤ 1048576 → (∀ zs, zs ∈ zss → zs.length ≤ 1048576) → ∃ (K : Ctr) (n : Nat) (S : Sto Sy), (∀ (ρ : Nat → Int) (s : Sms) (B : Nat), COk P ⟨Sy.den ρ, s⟩ B K) ∧ symRun P K [] n k0 [patS zss] ⟨0, [], 0⟩ = some (.bool (F zss), S)) {ρ : Nat → Int} {s : Sms} {B : Nat} : COk P ⟨Sy.den ρ, s⟩ B (askSK k0 F) := by
  intro k args sto r sto' h
  unfold askSK at h
  rw [bite_eq] at h
  split at h
  case isFalse => cases h
  rename_i hk
  have hk := Nat.eq_of_beq_eq_true hk
  subst hk
  split at h
  · rename_i x
    split at h
    · rename_i zss hz
      rw [bite_eq] at h
      split at h
      · rename_i hl0
        rw [Nat.ble_eq] at hl0
        rw [bite_eq] at h
        split at h
        · rename_i hl
          have hl : ∀ zs, zs ∈ zss → zs.length ≤ 1048576 := fun zs hzs => by
            have := List.all_eq_true.1 hl zs hzs
            rwa [Nat.ble_eq] at this
          cases h
          obtain ⟨K, n, S, hK, hrun⟩ := hF _ hl0 hl
          refine ⟨lift_plain (ρ' := ρ) (run_goodK hG hm hK ρ hrun) (fun c hinv vs hv => ?_) rfl (.bool _), hb⟩
          obtain ⟨v, rfl, hv2⟩ := hv.one
          exact .cons (patS_rel hz hl hinv hv2) .nil
        · cases h
      · cases h
    · cases h
  · cases h

end Go.Sx

/-
  Lists of lists among a row's arguments.
-/
namespace Go.Sx
open Go.ChangeShapes Go.WideShapes Go.ChangeAt Go.RowKit

end Go.Sx

/-
  Lists of lists whose numbers are symbols.
-/
namespace Go.Sx
open Go.RowKit

theorem ints_sym {ρ : Nat → Int} {s : Sms} {B : Nat} {c : Cx} {ps : List Sy} {zs : List Int} {v : Value} (hp : ps.map (Sy.den ρ) = zs) (hne : zs ≠ []) (h : VR ⟨Sy.den ρ, s⟩ B c (patL zs) v) : VR ⟨Sy.den ρ, s⟩ B c (.slice (ints ps)) v := by
  have hq : patL zs = .slice (ints (nums zs)) := by cases zs with
    | nil => exact (hne rfl).elim
    | cons a r => rfl
  rw [hq] at h
  have hl : (ints (nums zs)).length = (ints ps).length := by rw [← hp]; simp
  generalize hg : ints (nums zs) = xs at h hl
  cases h with
  | @slice _ b off cap us h1 h2 h3 h4 h5 =>
    rw [hl]
    refine .slice us (by omega) (by omega) h3 h4 (fun j x u hx hu => ?_)
    rw [ints_get] at hx
    obtain ⟨p, hpj, rfl⟩ := Option.map_eq_some_iff.1 hx
    have hz : zs[j]? = some (p.den ρ) := by rw [← hp, List.getElem?_map, hpj]; rfl
    have := h5 j (.int .i64 (.c (p.den ρ))) u (by rw [← hg, ints_get, nums_get, hz]; rfl) hu
    cases this
    exact VR_int' rfl
  | snil => cases zs with
    | nil => exact (hne rfl).elim
    | cons a r => simp [ints, nums] at hg

theorem patS_sym {ρ : Nat → Int} {s : Sms} {B : Nat} {c : Cx} {pss : List (List Sy)} {zss : List (List Int)} {v : Value} (hp : pss.map (fun ps => ps.map (Sy.den ρ)) = zss) (hne : zss ≠ []) (hn : ∀ zs, zs ∈ zss → zs ≠ []) (h : VR ⟨Sy.den ρ, s⟩ B c (patS zss) v) :
    VR ⟨Sy.den ρ, s⟩ B c (.slice (pss.map fun ps => V.slice (ints ps))) v := by
  have hq : patS zss = .slice (zss.map patL) := by cases zss with
    | nil => exact (hne rfl).elim
    | cons a r => rfl
  rw [hq] at h
  have hl : (zss.map patL).length = (pss.map fun ps => V.slice (ints ps)).length := by rw [← hp]; simp
  generalize hg : zss.map patL = xs at h hl
  cases h with
  | @slice _ b off cap us h1 h2 h3 h4 h5 =>
    rw [hl]
    refine .slice us (by omega) (by omega) h3 h4 (fun j x u hx hu => ?_)
    rw [List.getElem?_map] at hx
    obtain ⟨ps, hpj, rfl⟩ := Option.map_eq_some_iff.1 hx
    have hz : zss[j]? = some (ps.map (Sy.den ρ)) := by rw [← hp, List.getElem?_map, hpj]; rfl
    exact ints_sym rfl (hn _ (List.mem_of_getElem? hz)) (h5 j (patL (ps.map (Sy.den ρ))) u (by rw [← hg, List.getElem?_map, hz]; rfl) hu)
  | snil => cases zss with
    | nil => exact (hne rfl).elim
    | cons a r => simp at hg

end Go.Sx


/-
  Ways to part things: laws over two lists, contracts of functions of lists that are known.
-/
import Derived.Test.YtnaegkpaiahpmaaSymB
import Derived.ProofKit
import Derived.OpenShut
import Derived.Lib.SmallJoins
set_option linter.unusedVariables false
set_option linter.unusedSimpArgs false
/-
  Laws over two lists that may be ways to part things: ways of one length as they stand, all else by what is told of lists that are not looked into.
-/
namespace Go.Sx
open Go.RowKit

/-! ## Ways of a number of things -/
end Go.Sx

/-
  Contracts of functions that answer one list of numbers; of functions that copy, at lists that are known.
-/
namespace Go.Sx
open Go.RowKit

/-- The numbers, where they are known. -/
noncomputable def consts : List Sy → Option (List Int)
  | [] => some []
  | .c n :: r => match consts r with
    | some l => some (n :: l)
    | none => none
  | _ => none
theorem consts_nums : ∀ {ps : List Sy} {zs : List Int}, consts ps = some zs → ps = nums zs := by
  intro ps
  induction ps with
  | nil => intro zs h; cases h; rfl
  | cons p r ih =>
    intro zs h
    cases p with
    | c n =>
      simp only [consts] at h
      split at h
      · rename_i l hl; cases h; rw [ih hl]; rfl
      · cases h
    | p l => simp [consts] at h

/-- A list of a slice, its numbers known. -/
noncomputable def constsOf (sto : Sto Sy) (x : V Sy) : Option (List Int) := match sto.elems x with
  | some xs => match numsOf xs with
    | some ps => bite (capOk x) (consts ps) none
    | none => none
  | none => none
theorem constsOf_ok {sto : Sto Sy} {x : V Sy} {zs : List Int} (h : constsOf sto x = some zs) : sto.elems x = some (ints (nums zs)) ∧ capOk x = true := by
  unfold constsOf at h
  split at h
  · rename_i xs hxs
    split at h
    · rename_i ps hps
      have := numsOf_ints hps
      subst this
      rw [bite_eq] at h
      split at h
      · rename_i hc
        rw [consts_nums h] at hxs
        exact ⟨hxs, hc⟩
      · cases h
    · cases h
  · cases h
theorem constsOf_rel {ρ ρ' : Nat → Int} {s : Sms} {B : Nat} {c : Cx} {sto : Sto Sy} {x : V Sy} {v : Value} {zs : List Int} (h : constsOf sto x = some zs) (hne : zs ≠ []) (hl : zs.length ≤ 1048576) (hinv : SInv ⟨Sy.den ρ, s⟩ B c sto) (hx : VR ⟨Sy.den ρ, s⟩ B c x v) :
    VR ⟨Sy.den ρ', s⟩ c.w.heap.size ⟨c.w, fun _ => none⟩ (.slice (ints (nums zs))) v := by
  obtain ⟨h1, h2⟩ := constsOf_ok h
  have := (elems_data (ρ' := ρ') hinv hx h1 h2).2 (by cases zs with | nil => exact (hne rfl).elim | cons a r => simp [nums]) (by simpa using hl)
  have e : (nums zs).map (Sy.den ρ) = zs := by simp [nums, Sy.den, Function.comp_def]
  rwa [e] at this

end Go.Sx

/-
  Words for runs by hand without a reader: lists that grow; numbers in order of first coming.
-/
namespace Go.Sx
open Go.RowKit

section
variable {T : TypeId → Option Ti} {t e : TypeId} {za zb : Nat} {zv : Value} {ze ze2 : Bool} {S : Sto Sy} {q : Nat} {zs : List Int} {v : V Sy}
end

section
variable {I : Type} {N : Num I} {T : TypeId → Option Ti} {C : FuncId → List (V I) → Sto I → Option (V I × Sto I)} {nt : Nat} {D : List Oper → St I → Option (St I)} {kp : Code → Option (List Nat)} {fresh : Tr (V I)}
  {Qn : St I → Prop} {Qx : AExit → St I → Prop}
/-- A loop whose rounds may hold loops of fewer than e rounds. -/
theorem Wp.loopF {B : Code} (hk : kp B = none) (his : isScope B = false) (Inv : Nat → St I → Prop) (n e : Nat) {m : Nat} (hn : n + e < m) {st : St I} (h0 : Inv 0 st)
    (hstep : ∀ f i st, e ≤ f → i < n → Inv i st → Wp N T C nt D (aloopN N T C nt D kp fresh f) B st (Inv (i + 1)) Qx)
    (hend : ∀ f st, e ≤ f → Inv n st → Wp N T C nt D (aloopN N T C nt D kp fresh f) B st (fun _ => False) Qx) :
    Wp N T C nt D (aloopN N T C nt D kp fresh m) (.loop B) st Qn Qx := by
  have hsc := scopeOf_none his
  have hro := rangeOf_none his
  have key : ∀ k i st, i + k = n → Inv i st → ∀ m, e ≤ m → ∃ e st', aloopN N T C nt D kp fresh (k + 1 + m) B st = some (e, st') ∧ e ≠ .normal ∧ Qx e st' := by
    intro k
    induction k with
    | zero =>
      intro i st hi h m hem
      have : i = n := by omega
      subst this
      obtain ⟨e, st', he, h2⟩ := (hend (0 + m) st (by omega) h).run
      rw [show 0 + 1 + m = (0 + m) + 1 by omega]
      cases e with
      | normal => exact h2.elim
      | exit id => exact ⟨.exit id, st', by simp only [aloopN, hsc, hro, hk, havoc, he], by simp, h2⟩
      | goto l => exact ⟨.goto l, st', by simp only [aloopN, hsc, hro, hk, havoc, he], by simp, h2⟩
      | ret => exact ⟨.ret, st', by simp only [aloopN, hsc, hro, hk, havoc, he], by simp, h2⟩
    | succ k ih =>
      intro i st hi h m hem
      obtain ⟨e1, st1, h1, h2⟩ := (hstep (k + 1 + m) i st (by omega) (by omega) h).run
      rw [show k + 1 + 1 + m = (k + 1 + m) + 1 by omega]
      cases e1 with
      | normal =>
        obtain ⟨e, st', h3, h4⟩ := ih (i + 1) st1 (by omega) h2 m hem
        exact ⟨e, st', by simp only [aloopN, hsc, hro, hk, havoc, h1]; exact h3, h4⟩
      | exit id => exact ⟨.exit id, st1, by simp only [aloopN, hsc, hro, hk, havoc, h1], by simp, h2⟩
      | goto l => exact ⟨.goto l, st1, by simp only [aloopN, hsc, hro, hk, havoc, h1], by simp, h2⟩
      | ret => exact ⟨.ret, st1, by simp only [aloopN, hsc, hro, hk, havoc, h1], by simp, h2⟩
  obtain ⟨e', st', h1, h2, h3⟩ := key n 0 st (by omega) h0 (m - n - 1) (by omega)
  rw [show n + 1 + (m - n - 1) = m by omega] at h1
  refine ⟨⟨e', st', by simp only [aexec, his, bite_false, h1], ?_⟩⟩
  cases e' with
  | normal => exact (h2 rfl).elim
  | exit id => exact h3
  | goto l => exact h3
  | ret => exact h3
end

end Go.Sx

/-
  Lists that are known: copied, compared.
-/
namespace Go.Sx
open Go.RowKit

noncomputable def sameI : List Int → List Int → Bool
  | [], [] => true
  | a :: r, b :: r' => bite (ieq a b) (sameI r r') false
  | _, _ => false
theorem sameI_eq : ∀ {l l' : List Int}, sameI l l' = true → l = l' := by
  intro l
  induction l with
  | nil => intro l' h; cases l' with
    | nil => rfl
    | cons b r => simp [sameI] at h
  | cons a r ih =>
    intro l' h
    cases l' with
    | nil => simp [sameI] at h
    | cons b r' =>
      simp only [sameI, bite_eq] at h
      split at h
      · rename_i h1
        rw [ieq_eq] at h1
        have : a = b := by simpa using h1
        rw [this, ih h]
      · cases h

end Go.Sx

/-
  Maps from things to the numbers in which they came first.
-/
namespace Go.Sx
open Go.RowKit

def kP (a : Int × Int) : V Sy := .agg [.int .i64 (.c a.1), .int .i64 (.c a.2)]
section
variable {α : Type} [DecidableEq α] {κ : α → V Sy} {T : TypeId → Option Ti} {t kt et : TypeId} {za zb za' : Nat} {zv zv' : Value} {ze ze' : Bool} {S : Sto Sy} {om : Nat} {ks : List α} {z : α}

omit [DecidableEq α] in
end

end Go.Sx

/-
  Answers of one list, by runs, one for each of some arguments; parts put together.
-/
namespace Go.Sx
open Go.RowKit

end Go.Sx

/-
  Pairs of ways, by blocks of runs; laws over two lists that may be ways.
-/
namespace Go.Sx
open Go.RowKit

end Go.Sx


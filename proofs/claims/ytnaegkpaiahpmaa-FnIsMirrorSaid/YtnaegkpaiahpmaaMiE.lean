/-
  Mirrors: series of series as polynomials. No condition.
-/
import Derived.Test.YtnaegkpaiahpmaaMi
namespace Go.Proofs.Ytnaegkpaiahpmaa.Mi
open Go.ChangeShapes Go.WideShapes Go.ChangeAt Go.RowKit Go.Sx Go.Proofs.Ytnaegkpaiahpmaa.Ids
open Go.Proofs.Ytnaegkpaiahpmaa.Iv
set_option linter.unusedVariables false
set_option linter.unusedSimpArgs false

/-! ## Series of series, over numbers or symbols -/
def chs : Nat → Nat → Nat
  | _, 0 => 1
  | 0, _ + 1 => 0
  | n + 1, k + 1 => chs n k + chs n (k + 1)
structure Rg (α : Type) where
  lit : Nat → α
  add : α → α → α
  mul : α → α → α
section
variable {α : Type} (R : Rg α)
def sumG : List α → α
  | [] => R.lit 0
  | a :: r => R.add a (sumG r)
/-- The power k of a series, divided by k!: the number n. -/
def dpG (f : Nat → α) : Nat → Nat → α
  | 0, 0 => R.lit 1
  | 0, _ + 1 => R.lit 0
  | _ + 1, 0 => R.lit 0
  | k + 1, n + 1 => sumG R ((List.range (n + 1)).map fun j => R.mul (R.lit (chs n j)) (R.mul (f (j + 1)) (dpG f k (n - j))))
def comG (f g : Nat → α) (n : Nat) : α := sumG R ((List.range (n + 1)).map fun k => R.mul (f k) (dpG R g k n))
def cnvG (f g : Nat → α) (n : Nat) : α := sumG R ((List.range (n + 1)).map fun k => R.mul (R.lit (chs n k)) (R.mul (f k) (g (n - k))))
end
noncomputable def addO : Option Sy → Option Sy → Option Sy
  | some x, some y => some (plusS x y)
  | _, _ => none
noncomputable def mulO : Option Sy → Option Sy → Option Sy
  | some x, some y => symArith .mul .i64 x y
  | _, _ => none
noncomputable def RS : Rg (Option Sy) := ⟨fun n => some (.c (n : Nat)), addO, mulO⟩
def RZ : Rg Int := ⟨fun n => n, (· + ·), (· * ·)⟩
noncomputable def fn (l : List Sy) (i : Nat) : Option Sy := some (l.getD i (.c 0))
noncomputable def sameP : Option Sy → Option Sy → Bool
  | some x, some y => eqP x.poly y.poly
  | _, _ => false
noncomputable def tS (i : Nat) : Option Sy := some (.c (dl i 1))
noncomputable def dS (i : Nat) : Option Sy := some (.c (dl i 0))
noncomputable def idN (L : Nat) (a b : Int) (n : Nat) : Bool := andB [
  sameP (comG RS (fn (fS L b)) (fn (fS L b)) n) (fn (sfS L b) n),
  sameP (comG RS (fn (gS L a)) (fn (fS L b)) n) (fn (inS L a b) n),
  sameP (cnvG RS (fn (gS L a)) (fn (inS L a b)) n) (fn (sgS L a b) n),
  sameP (comG RS (fn (ivS L a)) (fn (rvS L b)) n) (fn (cvS L a b) n),
  sameP (comG RS (fn (sfS L b)) (fn (rvS L b)) n) (fn (fS L b) n),
  sameP (comG RS (fn (fS L b)) (fn (rvS L b)) n) (tS n),
  sameP (cnvG RS (fn (ivS L a)) (fn (sgS L a b)) n) (fn (inS L a b) n),
  sameP (comG RS (fn (inS L a b)) (fn (fS L b)) n) (comG RS (fn (gS L a)) (fn (sfS L b)) n),
  sameP (cnvG RS (comG RS (fn (ivS L a)) (fn (rvS L b))) (comG RS (fn (gS L a)) (fn (rvS L b))) n) (dS n),
  sameP (comG RS tS (fn (rvS L b)) n) (fn (rvS L b) n),
  sameP (comG RS (fn (gS L a)) tS n) (fn (gS L a) n),
  sameP (cnvG RS (fn (ivS L a)) dS n) (fn (ivS L a) n)]
noncomputable def idAll (L : Nat) (a b : Int) : Bool := allTo (idN L a b) L
end Go.Proofs.Ytnaegkpaiahpmaa.Mi

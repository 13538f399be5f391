/-
  Mirrors, at symbols: what both sides do at a pair; series of series as polynomials. No condition.
-/
import Derived.Test.YtnaegkpaiahpmaaIv
namespace Go.Proofs.Ytnaegkpaiahpmaa.Mi
open Go.ChangeShapes Go.WideShapes Go.ChangeAt Go.RowKit Go.Sx Go.Proofs.Ytnaegkpaiahpmaa.Ids
open Go.Proofs.Ytnaegkpaiahpmaa.Iv
open Go.Proofs.Ytnaegkpaiahpmaa.Tel (booIs)
set_option linter.unusedVariables false
set_option linter.unusedSimpArgs false

noncomputable def inS (L : Nat) (a b : Int) : List Sy := mth2 48 (gS L a) (fS L b) L
noncomputable def sgS (L : Nat) (a b : Int) : List Sy := mth2 71 (gS L a) (inS L a b) L
noncomputable def sfS (L : Nat) (b : Int) : List Sy := mth2 48 (fS L b) (fS L b) L
noncomputable def mirR (k : FuncId) (L : Nat) (a b : Int) (Γ : List Fact) (Vt : List VEnt) : Option (V Sy × Sto Sy) :=
  symRun Try.prog (symK ids Summs.tab (Γ ++ facQ L a b) (Vt ++ vtQ L a b)) (Γ ++ facQ L a b) 60 k [pQ L a b] ⟨0, [], 0⟩
noncomputable def mA (k : FuncId) (L : Nat) (a b : Int) (q : Bool) : Bool := orB (known (vtQ L a b) (inS L a b)) (orB (bite q false (known (vtQ L a b) (sfS L b))) (booIs false (mirR k L a b [] [⟨600, inS L a b, false⟩, ⟨600, sfS L b, q⟩])))
noncomputable def mB (k : FuncId) (L : Nat) (a b : Int) (q : Bool) : Bool := orB (known (⟨600, inS L a b, true⟩ :: vtQ L a b) (sgS L a b)) (orB (bite q false (known (vtQ L a b) (sfS L b))) (booIs false (mirR k L a b [] [⟨600, inS L a b, true⟩, ⟨600, sgS L a b, false⟩, ⟨600, sfS L b, q⟩])))
noncomputable def mC (k : FuncId) (L : Nat) (a b : Int) : Bool := orB (known (⟨600, inS L a b, true⟩ :: ⟨600, sgS L a b, true⟩ :: vtQ L a b) (sfS L b)) (booIs false (mirR k L a b [] [⟨600, inS L a b, true⟩, ⟨600, sgS L a b, true⟩, ⟨600, sfS L b, false⟩]))
noncomputable def vtM (L : Nat) (a b : Int) : List VEnt := [⟨600, inS L a b, true⟩, ⟨600, sgS L a b, true⟩, ⟨600, sfS L b, true⟩]
/-- The numbers that aren't known. -/
noncomputable def open1 : List Sy → List Sy
  | [] => []
  | .c _ :: r => open1 r
  | .p l :: r => .p l :: open1 r
noncomputable def zeroC : List Sy → Bool
  | [] => true
  | .c z :: r => bite (ieq z 0) (zeroC r) false
  | .p _ :: r => zeroC r
/-- The numbers that are to be 0, as the code compares them, and as the document's model does. -/
noncomputable def xsI (L : Nat) (a b : Int) : List Sy := open1 ((sfS L b).drop 2 ++ (sgS L a b).drop 1)
noncomputable def xsS (L : Nat) (a b : Int) : List Sy := open1 ((sgS L a b).drop 1 ++ (sfS L b).drop 2)
noncomputable def eqs (xs : List Sy) : List Fact := xs.map fun x => eqF x 0
noncomputable def mD (k : FuncId) (L : Nat) (a b : Int) (xs : List Sy) : Bool := bite (booIs true (mirR k L a b (eqs xs) (vtM L a b))) (allTo (fun j => booIs false (mirR k L a b (neF (xs.getD j (.c 0)) 0 :: eqs (xs.take j)) (vtM L a b))) xs.length) false
noncomputable def headC (L : Nat) (a b : Int) : Bool := andB [sames ((sfS L b).take 2) [.c 0, .c 1], sames ((sgS L a b).take 1) [.c 1], zeroC ((sfS L b).drop 2), zeroC ((sgS L a b).drop 1), Nat.beq (inS L a b).length L, Nat.beq (sgS L a b).length L, Nat.beq (sfS L b).length L, fitsL (inS L a b), fitsL (sgS L a b), fitsL (sfS L b), fitsL (rvS L b), fitsL (ivS L a), fitsL (cvS L a b)]
noncomputable def mirAll (k : FuncId) (xs : Nat → Int → Int → List Sy) (L : Nat) (a b : Int) : Bool := andB [mA k L a b true, mA k L a b false, mB k L a b true, mB k L a b false, mC k L a b, mD k L a b (xs L a b)]
end Go.Proofs.Ytnaegkpaiahpmaa.Mi

/-
  Inverses of pairs, at symbols: what both sides do at a pair; its array, that of the inverse, columns. No condition.
-/
import Derived.Test.YtnaegkpaiahpmaaRows
import Derived.Test.YtnaegkpaiahpmaaSym
import Derived.Test.YtnaegkpaiahpmaaSymD
import Derived.Test.YtnaegkpaiahpmaaSymE
import Derived.Test.YtnaegkpaiahpmaaSymF
import Derived.Test.YtnaegkpaiahpmaaSymG
import Derived.Test.YtnaegkpaiahpmaaIds
import Derived.Test.YtnaegkpaiahpmaaSumm
import Derived.Test.YtnaegkpaiahpmaaTel
import Derived.WalkKit
import Derived.ProofKit
import Derived.OpenShut
namespace Go.Proofs.Ytnaegkpaiahpmaa.Iv
open Go.ChangeShapes Go.WideShapes Go.ChangeAt Go.RowKit Go.Sx Go.Proofs.Ytnaegkpaiahpmaa.Ids
open Go.Proofs.Ytnaegkpaiahpmaa.Tel (rowsIs heldAt booIs)
set_option linter.unusedVariables false
set_option linter.unusedSimpArgs false

noncomputable def gS (L : Nat) (a : Int) : List Sy := .c a :: (List.range (L - 1)).map fun i => vx (i + 1)
noncomputable def fS (L : Nat) (b : Int) : List Sy := .c 0 :: .c b :: (List.range (L - 2)).map fun i => vx (8 + i)
noncomputable def facQ (L : Nat) (a b : Int) : List Fact := rngF 600 (gS L a) ++ rngF 600 (fS L b)
noncomputable def vtQ (L : Nat) (a b : Int) : List VEnt := [⟨600, gS L a, true⟩, ⟨600, fS L b, true⟩]
noncomputable def pQ (L : Nat) (a b : Int) : V Sy := .agg [.slice (ints (gS L a)), .slice (ints (fS L b))]
noncomputable def padS (l : List Sy) : List Sy := l ++ List.replicate (6 - l.length) (.c 0)
noncomputable def cutS (L : Nat) (r : Option (V Sy × Sto Sy)) : List Sy := match r with
  | some (.agg xs, _) => match numsOf xs with
    | some ps => ps.take L
    | none => []
  | _ => []
/-- What a method of one series answers, and one of two. -/
noncomputable def mth1 (k : FuncId) (s : List Sy) (L : Nat) : List Sy := cutS L (symRun Try.prog (summK Summs.tab) [] 60 k [.agg (ints (padS s))] ⟨0, [], 0⟩)
noncomputable def mth2 (k : FuncId) (s t : List Sy) (L : Nat) : List Sy := cutS L (symRun Try.prog (summK Summs.tab) [] 60 k [.agg (ints (padS s)), .agg (ints (padS t))] ⟨0, [], 0⟩)
noncomputable def rvS (L : Nat) (b : Int) : List Sy := mth1 44 (fS L b) L
noncomputable def ivS (L : Nat) (a : Int) : List Sy := mth1 46 (gS L a) L
noncomputable def cvS (L : Nat) (a b : Int) : List Sy := mth2 48 (ivS L a) (rvS L b) L
noncomputable def noPr (r : Option (V Sy × Sto Sy)) : Bool := match r with
  | some (.tup [.agg [.nil, .nil], .bool false], _) => true
  | _ => false
noncomputable def isPr (ps qs : List Sy) (r : Option (V Sy × Sto Sy)) : Bool := match r with
  | some (.tup [.agg [x, y], .bool true], S) => match heldAt S ps x, heldAt S qs y with
    | some a, some b => bite (Nat.beq a b) false true
    | _, _ => false
  | _ => false
/-- Is a list valid, by what is known? -/
noncomputable def known (Vt : List VEnt) (ps : List Sy) : Bool := bite (fitsL ps) (match vdec Vt 600 ps with
  | some true => true
  | _ => false) false
noncomputable def orB (x y : Bool) : Bool := bite x true y
noncomputable def andB : List Bool → Bool
  | [] => true
  | x :: r => bite x (andB r) false
noncomputable def notB (x : Bool) : Bool := bite x false true
noncomputable def invR (k : FuncId) (L : Nat) (a b : Int) (Vt : List VEnt) : Option (V Sy × Sto Sy) :=
  symRun Try.prog (symK ids Summs.tab (facQ L a b) (Vt ++ vtQ L a b)) (facQ L a b) 60 k [pQ L a b] ⟨0, [], 0⟩
noncomputable def invA (k : FuncId) (L : Nat) (a b : Int) (q : Bool) : Bool := orB (known (vtQ L a b) (rvS L b)) (orB (bite q false (known (vtQ L a b) (ivS L a))) (noPr (invR k L a b [⟨600, rvS L b, false⟩, ⟨600, ivS L a, q⟩])))
noncomputable def invB (k : FuncId) (L : Nat) (a b : Int) : Bool := orB (known (vtQ L a b) (ivS L a)) (noPr (invR k L a b [⟨600, rvS L b, true⟩, ⟨600, ivS L a, false⟩]))
noncomputable def invC (k : FuncId) (L : Nat) (a b : Int) : Bool := orB (known (⟨600, rvS L b, true⟩ :: ⟨600, ivS L a, true⟩ :: vtQ L a b) (cvS L a b)) (noPr (invR k L a b [⟨600, rvS L b, true⟩, ⟨600, ivS L a, true⟩, ⟨600, cvS L a b, false⟩]))
noncomputable def invD (k : FuncId) (L : Nat) (a b : Int) : Bool := isPr (cvS L a b) (rvS L b) (invR k L a b [⟨600, rvS L b, true⟩, ⟨600, ivS L a, true⟩, ⟨600, cvS L a b, true⟩])
noncomputable def lenS (L : Nat) (a b : Int) : Bool := andB [Nat.beq (rvS L b).length L, Nat.beq (ivS L a).length L, Nat.beq (cvS L a b).length L]
noncomputable def invAll (k : FuncId) (L : Nat) (a b : Int) : Bool := andB [invA k L a b true, invA k L a b false, invB k L a b, invC k L a b, invD k L a b, lenS L a b]
noncomputable def all4 (f : Int → Int → Bool) : Bool := andB [f 1 1, f 1 (-1), f (-1) 1, f (-1) (-1)]
/-! ## Is a pair valid? -/
noncomputable def gP (L : Nat) : List Sy := (List.range L).map fun i => vx i
noncomputable def fP (L : Nat) : List Sy := (List.range L).map fun i => vx (6 + i)
noncomputable def pP (L : Nat) : V Sy := .agg [.slice (ints (gP L)), .slice (ints (fP L))]
noncomputable def vpR (k : FuncId) (L : Nat) (Γ : List Fact) (a b : Bool) : Option (V Sy × Sto Sy) := symRun Try.prog (symK ids Summs.tab Γ [⟨600, gP L, a⟩, ⟨600, fP L, b⟩]) Γ 60 k [pP L] ⟨0, [], 0⟩
noncomputable def neF (x : Sy) (a : Int) : Fact := ⟨false, x, .c a, false⟩
noncomputable def eqF (x : Sy) (a : Int) : Fact := ⟨false, x, .c a, true⟩
/-- A number is 1, or -1. -/
noncomputable def unF (x : Sy) : Bool → List Fact
  | true => [eqF x 1]
  | false => [neF x 1, eqF x (-1)]
noncomputable def vpS (k : FuncId) (L : Nat) (s : Bool) : Bool := andB [booIs false (vpR k L (neF (vx 6) 0 :: unF (vx 0) s) true true), booIs false (vpR k L (neF (vx 7) 1 :: neF (vx 7) (-1) :: eqF (vx 6) 0 :: unF (vx 0) s) true true), booIs true (vpR k L (unF (vx 7) true ++ (eqF (vx 6) 0 :: unF (vx 0) s)) true true), booIs true (vpR k L (unF (vx 7) false ++ (eqF (vx 6) 0 :: unF (vx 0) s)) true true)]
noncomputable def vpC (k : FuncId) (L : Nat) : Bool := andB [booIs false (vpR k L [] false true), booIs false (vpR k L [] false false), booIs false (vpR k L [neF (vx 0) 1, neF (vx 0) (-1)] true true), booIs false (vpR k L [neF (vx 0) 1, neF (vx 0) (-1)] true false), booIs false (vpR k L (unF (vx 0) true) true false), booIs false (vpR k L (unF (vx 0) false) true false), vpS k L true, vpS k L false]
/-! ## Rows -/
noncomputable def rowsAt (r : Option (V Sy × Sto Sy)) : List (List Sy) := match r with
  | some (x, S) => match S.elems x with
    | some xs => xs.map fun y => match S.elems y with
      | some ys => match numsOf ys with
        | some ps => ps
        | none => []
      | none => []
    | none => []
  | none => []
noncomputable def lensB (n : Nat) : List (List Sy) → Bool
  | [] => true
  | ps :: r => bite (Nat.beq ps.length n) (lensB n r) false
noncomputable def arR (L : Nat) (a b : Int) : Option (V Sy × Sto Sy) :=
  symRun Try.prog (symK ids Summs.tab (facQ L a b) (vtQ L a b)) (facQ L a b) 60 9 [pQ L a b] ⟨0, [], 0⟩
noncomputable def aR (L : Nat) (a b : Int) : List (List Sy) := rowsAt (arR L a b)
noncomputable def qQ (L : Nat) (a b : Int) : V Sy := .agg [.slice (ints (cvS L a b)), .slice (ints (rvS L b))]
noncomputable def vtI (L : Nat) (a b : Int) : List VEnt := ⟨600, rvS L b, true⟩ :: ⟨600, cvS L a b, true⟩ :: vtQ L a b
noncomputable def brR (L : Nat) (a b : Int) : Option (V Sy × Sto Sy) :=
  symRun Try.prog (symK ids Summs.tab (facQ L a b) (vtI L a b)) (facQ L a b) 60 9 [qQ L a b] ⟨0, [], 0⟩
noncomputable def bR (L : Nat) (a b : Int) : List (List Sy) := rowsAt (brR L a b)
noncomputable def arAll (L : Nat) (a b : Int) : Bool := andB [rowsIs (aR L a b) (arR L a b), Nat.beq (aR L a b).length L, lensB L (aR L a b), rowsIs (bR L a b) (brR L a b), Nat.beq (bR L a b).length L, lensB L (bR L a b),
  booIs true (symRun Try.prog (symK ids Summs.tab (facQ L a b) (vtI L a b)) (facQ L a b) 60 13 [qQ L a b] ⟨0, [], 0⟩)]
/-! ## Rows times rows -/
noncomputable def sumO : List (Option Sy) → Option Sy
  | [] => some (.c 0)
  | a :: r => match a, sumO r with
    | some x, some y => some (plusS x y)
    | _, _ => none
noncomputable def rO (Z : Nat → Sy) (E : Nat → Nat → Sy) (L k : Nat) : Option Sy := sumO ((List.range L).map fun i => symArith .mul .i64 (Z i) (E i k))
noncomputable def eqP : Poly → Poly → Bool
  | [], [] => true
  | (k, a) :: r, (l, b) :: s => bite (Nat.beq k l) (bite (Nat.beq a b) (eqP r s) false) false
  | _, _ => false
noncomputable def nrm : Sy → Bool
  | .p _ => true
  | .c z => Nat.ble z.natAbs 1000000
noncomputable def same1 (x : Option Sy) (y : Sy) : Bool := match x with
  | some x => bite (eqP x.poly y.poly) (nrm y) false
  | none => false
noncomputable def at2 (l : List (List Sy)) (n i : Nat) : Sy := (l.getD n []).getD i (.c 0)
noncomputable def dl (n k : Nat) : Int := bite (Nat.beq n k) 1 0
noncomputable def mtOk (L : Nat) (a b : Int) : Bool := allTo (fun n => allTo (fun k => same1 (rO (at2 (aR L a b) n) (at2 (bR L a b)) L k) (.c (dl n k))) L) L
/-! ## Columns -/
noncomputable def eS (L k : Nat) : List Sy := (List.range L).map fun n => .c (dl n k)
noncomputable def coS (L : Nat) (a b : Int) (k : Nat) : List Sy := (List.range L).map fun n => at2 (aR L a b) n k
noncomputable def isC : Sy → Bool
  | .c z => Nat.ble z.natAbs 600
  | .p _ => false
noncomputable def outF (x : Sy) : Bool → List Fact
  | false => [⟨true, x, .c (-600), true⟩]
  | true => [⟨true, .c 600, x, true⟩, ⟨true, x, .c (-600), false⟩]
noncomputable def tfR (L : Nat) (a b : Int) (k : Nat) (Γ : List Fact) : Option (V Sy × Sto Sy) :=
  symRun Try.prog (symK ids Summs.tab (Γ ++ facQ L a b) (vtQ L a b)) (Γ ++ facQ L a b) 60 10 [pQ L a b, .slice (ints (eS L k))] ⟨0, [], 0⟩
noncomputable def tfBad (L : Nat) (a b : Int) (k j : Nat) : Bool := orB (isC (at2 (aR L a b) j k)) (bite (ansIs none (tfR L a b k (outF (at2 (aR L a b) j k) false ++ rngF 600 ((coS L a b k).take j)))) (ansIs none (tfR L a b k (outF (at2 (aR L a b) j k) true ++ rngF 600 ((coS L a b k).take j)))) false)
noncomputable def tfOk (L : Nat) (a b : Int) (k : Nat) : Bool := bite (ansIs (some (coS L a b k)) (tfR L a b k (rngF 600 (coS L a b k)))) (allTo (tfBad L a b k) L) false
noncomputable def tbOk (L : Nat) (a b : Int) (k : Nat) : Bool := ansIs (some (eS L k)) (symRun Try.prog (symK ids Summs.tab (facQ L a b) (⟨600, coS L a b k, true⟩ :: vtI L a b)) (facQ L a b) 60 10 [qQ L a b, .slice (ints (coS L a b k))] ⟨0, [], 0⟩)
end Go.Proofs.Ytnaegkpaiahpmaa.Iv

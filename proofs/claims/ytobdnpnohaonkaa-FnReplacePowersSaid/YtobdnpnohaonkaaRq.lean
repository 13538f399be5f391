/-
  A sequence in its own place: its pair squared, at symbols; matrices multiplied, as polynomials. No condition.
-/
import Derived.Test.YtobdnpnohaonkaaRows
import Derived.Test.YtobdnpnohaonkaaSym
import Derived.Test.YtobdnpnohaonkaaSymD
import Derived.Test.YtobdnpnohaonkaaSymE
import Derived.Test.YtobdnpnohaonkaaSymF
import Derived.Test.YtobdnpnohaonkaaSymG
import Derived.Test.YtobdnpnohaonkaaIds
import Derived.Test.YtobdnpnohaonkaaSumm
import Derived.Test.YtobdnpnohaonkaaRep
import Derived.Test.YtobdnpnohaonkaaTel
import Derived.Test.YtobdnpnohaonkaaPr
import Derived.WalkKit
import Derived.ProofKit
import Derived.OpenShut
namespace Go.Proofs.Ytobdnpnohaonkaa.Rq
open Go.ChangeShapes Go.WideShapes Go.ChangeAt Go.RowKit Go.Sx Go.Proofs.Ytobdnpnohaonkaa.Ids
open Go.Proofs.Ytobdnpnohaonkaa.Rep (rowS rowsS repS)
open Go.Proofs.Ytobdnpnohaonkaa.Tel (rowsIs)
open Go.Proofs.Ytobdnpnohaonkaa.Pr (arrQ gS fS noPair isPair)
set_option linter.unusedVariables false
set_option linter.unusedSimpArgs false

noncomputable def facQ (L : Nat) (a b : Int) : List Fact := rngF 600 (gS L a) ++ rngF 600 (fS L 2 b)
noncomputable def vtQ (L : Nat) (a b : Int) : List VEnt := [⟨600, gS L a, true⟩, ⟨600, fS L 2 b, true⟩]
noncomputable def pQ (L : Nat) (a b : Int) : V Sy := .agg [.slice (ints (gS L a)), .slice (ints (fS L 2 b))]
noncomputable def padS (l : List Sy) : List Sy := l ++ List.replicate (6 - l.length) (.c 0)
/-- What a method of two series answers. -/
noncomputable def mthS (k : FuncId) (s t : List Sy) (L : Nat) : List Sy := match symRun Try.prog (summK Summs.tab) [] 60 k [.agg (ints (padS s)), .agg (ints (padS t))] ⟨0, [], 0⟩ with
  | some (.agg xs, _) => match numsOf xs with
    | some ps => ps.take L
    | none => []
  | _ => []
noncomputable def inS (L : Nat) (a b : Int) : List Sy := mthS 51 (gS L a) (fS L 2 b) L
noncomputable def sgS (L : Nat) (a b : Int) : List Sy := mthS 43 (gS L a) (inS L a b) L
noncomputable def sfS (L : Nat) (b : Int) : List Sy := mthS 51 (fS L 2 b) (fS L 2 b) L
noncomputable def mulR (L : Nat) (a b : Int) (Vt : List VEnt) : Option (V Sy × Sto Sy) :=
  symRun Try.prog (symK ids Summs.tab (facQ L a b) (Vt ++ vtQ L a b)) (facQ L a b) 60 9 [pQ L a b, pQ L a b] ⟨0, [], 0⟩
noncomputable def cst : List Sy → Bool
  | [] => true
  | .c z :: r => bite (Nat.ble z.natAbs 600) (cst r) false
  | .p _ :: r => false
noncomputable def noP (r : Option (V Sy × Sto Sy)) : Bool := match r with
  | some (.tup [.agg [.nil, .nil], .bool false], _) => true
  | _ => false
noncomputable def mulA (L : Nat) (a b : Int) (q : Bool) : Bool := bite (cst (inS L a b)) true (bite (bite q false (cst (sfS L b))) true (noP (mulR L a b [⟨600, inS L a b, false⟩, ⟨600, sfS L b, q⟩])))
noncomputable def mulB (L : Nat) (a b : Int) (q : Bool) : Bool := bite (cst (sgS L a b)) true (bite (bite q false (cst (sfS L b))) true (noP (mulR L a b [⟨600, inS L a b, true⟩, ⟨600, sgS L a b, false⟩, ⟨600, sfS L b, q⟩])))
noncomputable def mulC (L : Nat) (a b : Int) : Bool := bite (cst (sfS L b)) true (noP (mulR L a b [⟨600, inS L a b, true⟩, ⟨600, sgS L a b, true⟩, ⟨600, sfS L b, false⟩]))
noncomputable def mulD (L : Nat) (a b : Int) : Bool := isPair (sgS L a b) (sfS L b) (mulR L a b [⟨600, inS L a b, true⟩, ⟨600, sgS L a b, true⟩, ⟨600, sfS L b, true⟩])
noncomputable def lenS (L : Nat) (a b : Int) : Bool := bite (Nat.beq (inS L a b).length L) (bite (Nat.beq (sgS L a b).length L) (Nat.beq (sfS L b).length L) false) false
noncomputable def mulAll (L : Nat) (a b : Int) : Bool := bite (mulA L a b true) (bite (mulA L a b false) (bite (mulB L a b true) (bite (mulB L a b false) (bite (mulC L a b) (bite (mulD L a b) (lenS L a b) false) false) false) false) false) false
/-- The rows of the square. -/
noncomputable def arR (L : Nat) (a b : Int) : Option (V Sy × Sto Sy) :=
  symRun Try.prog (symK ids Summs.tab (facQ L a b) (⟨600, sgS L a b, true⟩ :: ⟨600, sfS L b, true⟩ :: vtQ L a b)) (facQ L a b) 60 10 [.agg [.slice (ints (sgS L a b)), .slice (ints (sfS L b))]] ⟨0, [], 0⟩
noncomputable def rowsAt (r : Option (V Sy × Sto Sy)) : List (List Sy) := match r with
  | some (x, S) => match S.elems x with
    | some xs => xs.map fun y => match S.elems y with
      | some ys => match numsOf ys with
        | some ps => ps
        | none => []
      | none => []
    | none => []
  | none => []
noncomputable def sqR (L : Nat) (a b : Int) : List (List Sy) := rowsAt (arR L a b)
noncomputable def lensB (n : Nat) : List (List Sy) → Bool
  | [] => true
  | ps :: r => bite (Nat.beq ps.length n) (lensB n r) false
noncomputable def arAll (L : Nat) (a b : Int) : Bool := bite (rowsIs (sqR L a b) (arR L a b)) (bite (Nat.beq (sqR L a b).length L) (lensB L (sqR L a b)) false) false
/-! ## Rows times rows -/
noncomputable def sumO : List (Option Sy) → Option Sy
  | [] => some (.c 0)
  | a :: r => match a, sumO r with
    | some x, some y => some (plusS x y)
    | _, _ => none
noncomputable def rO (Z : Nat → Sy) (E : Nat → Nat → Sy) (L k : Nat) : Option Sy := sumO ((List.range L).map fun i => symArith .mul .i64 (Z i) (E i k))
noncomputable def eqP : Poly → Poly → Bool
  | [], [] => true
  | (k, a) :: r, (l, b) :: s => bite (Nat.beq k l) (bite (Nat.beq a b) (eqP r s) false) false
  | _, _ => false
noncomputable def nrm : Sy → Bool
  | .p _ => true
  | .c z => Nat.ble z.natAbs 1000000
noncomputable def same1 (x : Option Sy) (y : Sy) : Bool := match x with
  | some x => bite (eqP x.poly y.poly) (nrm y) false
  | none => false
noncomputable def at2 (l : List (List Sy)) (n i : Nat) : Sy := (l.getD n []).getD i (.c 0)
noncomputable def repOk (L : Nat) : Bool := match repS L with
  | some ps => bite (Nat.beq ps.length L) (allTo (fun k => same1 (rO (fun i => vx i) (at2 (rowsS L L)) L k) (ps.getD k (.c 0))) L) false
  | none => false
noncomputable def idOk (L : Nat) (a b : Int) : Bool := match arrQ L a b with
  | some l => allTo (fun n => allTo (fun k => same1 (rO (at2 l n) (at2 l) L k) (at2 (sqR L a b) n k)) L) L
  | none => false
noncomputable def all4 (f : Int → Int → Bool) : Bool := bite (f 1 1) (bite (f 1 (-1)) (bite (f (-1) 1) (f (-1) (-1)) false) false) false
set_option maxRecDepth 1000000 in
theorem rep_all : allTo (fun i => repOk (i + 1)) 6 = true := by kernel_rfl
set_option maxRecDepth 1000000 in
theorem mul_2 : all4 (mulAll 2) = true := by kernel_rfl
set_option maxRecDepth 1000000 in
theorem mul_3 : all4 (mulAll 3) = true := by kernel_rfl
set_option maxRecDepth 1000000 in
theorem mul_4 : all4 (mulAll 4) = true := by kernel_rfl
set_option maxRecDepth 1000000 in
theorem mul_5 : all4 (mulAll 5) = true := by kernel_rfl
set_option maxRecDepth 1000000 in
theorem mul_6 : all4 (mulAll 6) = true := by kernel_rfl
set_option maxRecDepth 1000000 in
theorem ar_2 : all4 (arAll 2) = true := by kernel_rfl
set_option maxRecDepth 1000000 in
theorem ar_3 : all4 (arAll 3) = true := by kernel_rfl
set_option maxRecDepth 1000000 in
theorem ar_4 : all4 (arAll 4) = true := by kernel_rfl
set_option maxRecDepth 1000000 in
theorem ar_5 : all4 (arAll 5) = true := by kernel_rfl
set_option maxRecDepth 1000000 in
theorem ar_6 : all4 (arAll 6) = true := by kernel_rfl
set_option maxRecDepth 1000000 in
theorem id_2 : all4 (idOk 2) = true := by kernel_rfl
set_option maxRecDepth 1000000 in
theorem id_3 : all4 (idOk 3) = true := by kernel_rfl
set_option maxRecDepth 1000000 in
theorem id_4 : all4 (idOk 4) = true := by kernel_rfl
set_option maxRecDepth 1000000 in
theorem id_5 : all4 (idOk 5) = true := by kernel_rfl
set_option maxRecDepth 1000000 in
theorem id_6 : all4 (idOk 6) = true := by kernel_rfl
end Go.Proofs.Ytobdnpnohaonkaa.Rq

/-
  Pairs of arrays: what both sides do at rows of one length, at symbols. No condition.
-/
import Derived.Test.YtobdnpnohaonkaaRows
import Derived.Test.YtobdnpnohaonkaaSym
import Derived.Test.YtobdnpnohaonkaaSymD
import Derived.Test.YtobdnpnohaonkaaSymE
import Derived.Test.YtobdnpnohaonkaaSymF
import Derived.Test.YtobdnpnohaonkaaSymG
import Derived.Test.YtobdnpnohaonkaaIds
import Derived.Test.YtobdnpnohaonkaaSumm
import Derived.WalkKit
import Derived.ProofKit
import Derived.OpenShut
namespace Go.Proofs.Ytobdnpnohaonkaa.Pr
open Go.ChangeShapes Go.WideShapes Go.ChangeAt Go.RowKit Go.Sx Go.Proofs.Ytobdnpnohaonkaa.Ids
set_option linter.unusedVariables false
set_option linter.unusedSimpArgs false

def chs : Nat → Nat → Nat
  | _, 0 => 1
  | 0, _ + 1 => 0
  | n + 1, k + 1 => chs n k + chs n (k + 1)
noncomputable def mulO (a b : Sy) : Option Sy := symArith .mul .i64 a b
/-- The number n of the product of two series. -/
noncomputable def convO (g f : List Sy) (n : Nat) : Nat → Option Sy
  | 0 => some (.c 0)
  | k + 1 => match convO g f n k with
    | some s => match mulO (g.getD k (.c 0)) (f.getD (n - k) (.c 0)) with
      | some p => match mulO (.c (chs n k : Nat)) p with
        | some q => some (plusS s q)
        | none => none
      | none => none
    | none => none
noncomputable def conv (g f : List Sy) (n : Nat) : Sy := (convO g f n (n + 1)).getD (.c 0)
noncomputable def gS (L : Nat) (a : Int) : List Sy := .c a :: (List.range (L - 1)).map fun i => vx (i + 1)
/-- The second series: all its numbers unknown; 0 first; 0 and a number first. -/
noncomputable def fS (L : Nat) : Nat → Int → List Sy
  | 0, _ => (List.range L).map fun i => vx (6 + i)
  | 1, _ => .c 0 :: (List.range (L - 1)).map fun i => vx (7 + i)
  | _, b => .c 0 :: .c b :: (List.range (L - 2)).map fun i => vx (8 + i)
noncomputable def rowE (L n : Nat) : List Sy := (List.range (L - 2)).map fun k => vx (12 + 4 * n + k)
noncomputable def rowQ (L : Nat) (a : Int) (m : Nat) (b : Int) (n : Nat) : List Sy := (gS L a).getD n (.c 0) :: conv (gS L a) (fS L m b) n :: rowE L n
noncomputable def rowsQ (L : Nat) (a : Int) (m : Nat) (b : Int) : List (List Sy) := (List.range L).map (rowQ L a m b)
noncomputable def patQ (L : Nat) (a : Int) (m : Nat) (b : Int) : V Sy := .slice ((rowsQ L a m b).map fun ps => .slice (ints ps))
/-- The second numbers of the rows are within the limits. -/
noncomputable def bndQ (L : Nat) (a : Int) (m : Nat) (b : Int) : List Fact := (List.range L).flatMap fun n => [⟨true, conv (gS L a) (fS L m b) n, .c (-1000000000), false⟩, ⟨true, .c 1000000000, conv (gS L a) (fS L m b) n, false⟩]
noncomputable def rngN (ps : List Sy) (n : Nat) : List Fact := rngF 600 (ps.take n)
/-- A number beyond the limits, below or above. -/
noncomputable def outF (x : Sy) : Bool → List Fact
  | false => [⟨true, x, .c (-600), true⟩]
  | true => [⟨true, .c 600, x, true⟩, ⟨true, x, .c (-600), false⟩]
/-- Is the answer no pair? Is it this one? -/
noncomputable def noPair (r : Option (V Sy × Sto Sy)) : Bool := match r with
  | some (.tup [.agg [.nil, .nil], .bool false], _) => true
  | _ => false
noncomputable def heldAt (S : Sto Sy) (ps : List Sy) (x : V Sy) : Option Nat := match x with
  | .rsl q 0 len cap => bite (Nat.beq len ps.length) (match Go.Sx.look S.obs q with
    | some b => match numsOf b with
      | some qs => bite (sames (qs.take len) ps) (bite (Nat.ble len qs.length) (match cap with
        | some cp => bite (Nat.ble len cp) (bite (Nat.ble cp qs.length) (some q) none) none
        | none => some q) none) none
      | none => none
    | none => none) none
  | _ => none
noncomputable def isPair (ps qs : List Sy) (r : Option (V Sy × Sto Sy)) : Bool := match r with
  | some (.tup [.agg [x, y], .bool true], S) => match heldAt S ps x, heldAt S qs y with
    | some a, some b => bite (Nat.beq a b) false true
    | _, _ => false
  | _ => false
noncomputable def eqI : List QEnt → Ctr := eqE 47
noncomputable def runI (L : Nat) (a : Int) (m : Nat) (b : Int) (Γ : List Fact) (Vt : List VEnt) (E : List QEnt) : Option (V Sy × Sto Sy) :=
  symRun Try.prog (orK (eqI E) (symK ids Summs.tab (Γ ++ bndQ L a m b) Vt)) (Γ ++ bndQ L a m b) 60 8 [patQ L a m b] ⟨0, [], 0⟩
/-- The first numbers of the second series are valid, for each n up to m. -/
noncomputable def preV (ps : List Sy) (m : Nat) : List VEnt := (List.range m).map fun k => ⟨600, ps.take (k + 1), true⟩
/-- The array, by the document's model. -/
noncomputable def arrQ (L : Nat) (a b : Int) : Option (List (List Sy)) := match symRun Try.prog (summK Summs.tab) [] 60 57 [.agg [.slice (ints (gS L a)), .slice (ints (fS L 2 b))]] ⟨0, [], 0⟩ with
  | some (x, S) => match S.elems x with
    | some xs => xs.foldr (fun y acc => match acc, S.elems y with
      | some l, some ys => match numsOf ys with
        | some ps => some (ps :: l)
        | none => none
      | _, _ => none) (some [])
    | none => none
  | none => none
/-- The first j rows are the array's, the next one is not. -/
noncomputable def qRows : List (List Sy) → List (List Sy) → Nat → List QEnt
  | a :: r, b :: s, 0 => [⟨a, b, false⟩]
  | a :: r, b :: s, j + 1 => ⟨a, b, true⟩ :: qRows r s j
  | _, _, _ => []
/-! ## The cases -/
noncomputable def fAt (L n : Nat) : Sy := (fS L 0 0).getD n (.c 0)
noncomputable def cv (L : Nat) (a : Int) (n : Nat) : Sy := conv (gS L a) (fS L 0 0) n
noncomputable def iA (L : Nat) (a : Int) : Bool := noPair (runI L a 0 0 [] [⟨600, gS L a, false⟩] [])
noncomputable def iB (L : Nat) (a : Int) (n : Nat) (up : Bool) : Bool := noPair (runI L a 0 0 (outF (fAt L n) up ++ rngN (fS L 0 0) n) [⟨600, gS L a, true⟩] [])
noncomputable def iBs (L : Nat) (a : Int) : Bool := allTo (fun n => bite (iB L a n false) (iB L a n true) false) L
noncomputable def iC (L : Nat) (a : Int) : Bool := bite (noPair (runI L a 0 0 (⟨false, vx 6, .c 0, false⟩ :: rngN (fS L 0 0) L) [⟨600, gS L a, true⟩, ⟨600, fS L 0 0, true⟩] []))
  (noPair (runI L a 1 0 (⟨false, vx 7, .c 1, false⟩ :: ⟨false, vx 7, .c (-1), false⟩ :: rngN (fS L 1 0) L) [⟨600, gS L a, true⟩, ⟨600, fS L 1 0, true⟩] [])) false
noncomputable def iD (L : Nat) (a b : Int) (j : Nat) : Bool := match arrQ L a b with
  | some l => bite (Nat.beq j L) (isPair (gS L a) (fS L 2 b) (runI L a 2 b (rngN (fS L 2 b) L) [⟨600, gS L a, true⟩, ⟨600, fS L 2 b, true⟩] (qRows l (rowsQ L a 2 b) j)))
      (noPair (runI L a 2 b (rngN (fS L 2 b) L) [⟨600, gS L a, true⟩, ⟨600, fS L 2 b, true⟩] (qRows l (rowsQ L a 2 b) j)))
  | none => false
/-! ## Rows as they stand -/
noncomputable def rowZ (L n : Nat) : List Sy := (List.range L).map fun k => vx (6 * n + k)
noncomputable def rowsZ (L : Nat) : List (List Sy) := (List.range L).map (rowZ L)
noncomputable def patZ (L : Nat) : V Sy := .slice ((rowsZ L).map fun ps => .slice (ints ps))
noncomputable def bndZ (m : Nat) : List Fact := (List.range m).flatMap fun n => [⟨true, vx (6 * n + 1), .c (-1000000000), false⟩, ⟨true, .c 1000000000, vx (6 * n + 1), false⟩]
noncomputable def nuF : List Fact := [⟨false, vx 0, .c 1, false⟩, ⟨false, vx 0, .c (-1), false⟩]
noncomputable def iZ (L : Nat) (q : Bool) : Bool := noPair (symRun Try.prog (symK ids Summs.tab (nuF ++ bndZ L) [⟨600, (List.range L).map fun n => vx (6 * n), q⟩]) (nuF ++ bndZ L) 60 8 [patZ L] ⟨0, [], 0⟩)
end Go.Proofs.Ytobdnpnohaonkaa.Pr

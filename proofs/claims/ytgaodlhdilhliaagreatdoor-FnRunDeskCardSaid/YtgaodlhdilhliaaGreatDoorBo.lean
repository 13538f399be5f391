/-
  What the two sides make of a series: the same, by runs at symbols. No condition.
-/
import Derived.Test.YtgaodlhdilhliaaGreatDoorRows
import Derived.Test.YtgaodlhdilhliaaGreatDoorSym
import Derived.Test.YtgaodlhdilhliaaGreatDoorSymD
import Derived.Test.YtgaodlhdilhliaaGreatDoorSymE
import Derived.Test.YtgaodlhdilhliaaGreatDoorSymF
import Derived.Test.YtgaodlhdilhliaaGreatDoorIds
import Derived.Test.YtgaodlhdilhliaaGreatDoorSumm
import Derived.Test.YtgaodlhdilhliaaGreatDoorTel
import Derived.WalkKit
import Derived.ProofKit
import Derived.OpenShut
namespace Go.Proofs.YtgaodlhdilhliaaGreatDoor.Bo
open Go.ChangeShapes Go.WideShapes Go.ChangeAt Go.RowKit Go.Sx Go.Proofs.YtgaodlhdilhliaaGreatDoor.Ids Go.Proofs.YtgaodlhdilhliaaGreatDoor.Tel
set_option linter.unusedVariables false
set_option linter.unusedSimpArgs false

noncomputable def lstOf (r : Option (V Sy × Sto Sy)) : Option (Option (List Sy)) := match r with
  | some (.tup [.nil, .bool false], _) => some none
  | some (.tup [.rsl q off len cap, .bool true], S) => match Go.Sx.look S.obs q with
    | some b => match numsOf b with
      | some qs => some (some (qs.take len))
      | none => none
    | none => none
  | _ => none
def exV (ex : List Int) : List (V Sy) := ex.map fun z => .int .i64 (.c z)
noncomputable def btK (xs : List Sy) (Γ : List Fact) (Vt : List VEnt) : Ctr := symK ids Summs.tab (bndF 600 xs ++ Γ) (⟨600, xs, true⟩ :: Vt)
noncomputable def btR (k : FuncId) (ex : List Int) (xs : List Sy) (Γ : List Fact) (Vt : List VEnt) : Option (V Sy × Sto Sy) := symRun Tryz.prog (btK xs Γ Vt) (bndF 600 xs ++ Γ) 60 k (.slice (ints xs) :: exV ex) ⟨0, [], 0⟩
noncomputable def abvB (Γ : List Fact) : List Sy → Bool
  | [] => true
  | p :: r => match (symNum Γ).cmp .lss p (.c (-9223372036854775807)), (symNum Γ).cmp .lss (.c 9223372036854775807) p with
    | some a, some b => bite a false (bite b false (abvB Γ r))
    | _, _ => false
noncomputable def btAt (kS kI : FuncId) (ex : List Int) (n : Nat) (xs : List Sy) (Γ : List Fact) (Vt : List VEnt) : Bool := match lstOf (btR kS ex xs Γ Vt) with
  | some o => bite (ansIs o (btR kS ex xs Γ Vt)) (bite (ansIs o (btR kI ex xs Γ Vt)) (match o with
    | some ps => bite (Nat.beq ps.length n) (abvB (bndF 600 xs ++ Γ) ps) false
    | none => true) false) false
  | none => false
noncomputable def valT (k : FuncId) : Sp := .val 600 (fun xs => numsRun Tryz.prog Summs.tab 60 k [.slice (ints xs)]) .leaf .leaf
noncomputable def expT (n : Nat) : Sp := .sub 0 0 (valT 64) .leaf
noncomputable def logT (n : Nat) : Sp := .sub 0 1 (valT 65) .leaf
noncomputable def invT (n : Nat) : Sp := .sub 0 1 (valT 67) (.sub 0 (-1) (valT 67) .leaf)
noncomputable def revT (n : Nat) : Sp := bite (Nat.beq n 1) (.sub 0 0 .leaf .leaf) (.sub 0 0 (.sub 1 1 (valT 68) (.sub 1 (-1) (valT 68) .leaf)) .leaf)
def pasT : List (List Int) := [[1], [1, 1], [1, 2, 1], [1, 3, 3, 1], [1, 4, 6, 4, 1], [1, 5, 10, 10, 5, 1]]
noncomputable def pasS (ns : List Sy) : List Sy := (List.range ns.length).map fun k => linS (fun n => (pasT.getD k []).getD n 0) ns 0 (.c 0)
noncomputable def binT (n : Nat) : Sp := rngs 600 (fun xs => some (pasS xs)) .leaf .leaf 1 (n - 1)
noncomputable def zigT (n : Nat) : Sp := rngs 600 (fun xs => numsRun Tryz.prog Summs.tab 60 71 [.slice (ints xs)]) .leaf .leaf 1 (n - 1)
noncomputable def expC (n : Nat) : Bool := chk (btAt 36 45 [] n) (expT n) (vxs n) [] []
noncomputable def logC (n : Nat) : Bool := chk (btAt 37 46 [] n) (logT n) (vxs n) [] []
noncomputable def invC (n : Nat) : Bool := chk (btAt 38 47 [] n) (invT n) (vxs n) [] []
noncomputable def revC (n : Nat) : Bool := chk (btAt 39 48 [] n) (revT n) (vxs n) [] []
noncomputable def binC (n : Nat) : Bool := chk (btAt 40 50 [1] n) (binT n) (vxs n) [] []
noncomputable def zigC (n : Nat) : Bool := chk (btAt 41 51 [] n) (zigT n) (vxs n) [] []
noncomputable def lst1 (r : Option (V Sy × Sto Sy)) : Option (List Sy) := match r with
  | some (.rsl q off len cap, S) => match Go.Sx.look S.obs q with
    | some b => match numsOf b with
      | some qs => some (qs.take len)
      | none => none
    | none => none
  | _ => none
noncomputable def hanAt (n : Nat) (xs : List Sy) (Γ : List Fact) (Vt : List VEnt) : Bool := match lst1 (btR 42 [] xs Γ Vt) with
  | some ps => bite (lstIs ps (btR 42 [] xs Γ Vt)) (bite (lstIs ps (btR 53 [] xs Γ Vt)) (bite (Nat.ble ps.length 6) (bite (Nat.ble 1 ps.length) (abvB (bndF 600 xs ++ Γ) ps) false) false) false) false
  | none => false
noncomputable def hanC (n : Nat) : Bool := hanAt n (vxs n) [] []
end Go.Proofs.YtgaodlhdilhliaaGreatDoor.Bo

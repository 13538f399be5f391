import Derived.Test.YtobdnpnohaonkaaRows
import Derived.Test.YtobdnpnohaonkaaSym
import Derived.Test.YtobdnpnohaonkaaSymD
import Derived.Test.YtobdnpnohaonkaaSymE
import Derived.Test.YtobdnpnohaonkaaSymF
import Derived.Test.YtobdnpnohaonkaaIds
import Derived.Test.YtobdnpnohaonkaaSumm
import Derived.Test.YtobdnpnohaonkaaRep
import Derived.Test.YtobdnpnohaonkaaTel
import Derived.WalkKit
import Derived.ProofKit
import Derived.OpenShut
namespace Go.Proofs.Ytobdnpnohaonkaa.Tel
open Go.ChangeShapes Go.WideShapes Go.ChangeAt Go.RowKit Go.Sx Go.Proofs.Ytobdnpnohaonkaa.Ids Go.Proofs.Ytobdnpnohaonkaa.Rep
set_option linter.unusedVariables false
set_option linter.unusedSimpArgs false

noncomputable def gP (n : Nat) : List Sy := (List.range n).map fun i => vx i
noncomputable def fP (n : Nat) : List Sy := (List.range n).map fun i => vx (6 + i)
noncomputable def pP (n : Nat) : V Sy := .agg [.slice (ints (gP n)), .slice (ints (fP n))]
noncomputable def vpR (n : Nat) (Γ : List Fact) (a b : Bool) : Option (V Sy × Sto Sy) := symRun Try.prog (symK ids Summs.tab Γ [⟨600, gP n, a⟩, ⟨600, fP n, b⟩]) Γ 60 56 [pP n] ⟨0, [], 0⟩
noncomputable def neF (x : Sy) (a : Int) : Fact := ⟨false, x, .c a, false⟩
noncomputable def eqF (x : Sy) (a : Int) : Fact := ⟨false, x, .c a, true⟩
noncomputable def unF (x : Sy) : Bool → List Fact
  | true => [eqF x 1]
  | false => [neF x 1, eqF x (-1)]
noncomputable def vpS (n : Nat) (s : Bool) : Bool := bite (booIs false (vpR n (neF (vx 6) 0 :: unF (vx 0) s) true true)) (bite (booIs false (vpR n (neF (vx 7) 1 :: neF (vx 7) (-1) :: eqF (vx 6) 0 :: unF (vx 0) s) true true)) (bite (booIs true (vpR n (unF (vx 7) true ++ (eqF (vx 6) 0 :: unF (vx 0) s)) true true)) (booIs true (vpR n (unF (vx 7) false ++ (eqF (vx 6) 0 :: unF (vx 0) s)) true true)) false) false) false
noncomputable def vpC (n : Nat) : Bool := bite (booIs false (vpR n [] false true)) (bite (booIs false (vpR n [] false false)) (bite (booIs false (vpR n [] true false)) (bite (booIs false (vpR n [neF (vx 0) 1, neF (vx 0) (-1)] true true)) (bite (vpS n true) (vpS n false) false) false) false) false) false
set_option maxRecDepth 1000000 in
theorem vp_2 : vpC 2 = true := by kernel_rfl
set_option maxRecDepth 1000000 in
theorem vp_3 : vpC 3 = true := by kernel_rfl
set_option maxRecDepth 1000000 in
theorem vp_4 : vpC 4 = true := by kernel_rfl
set_option maxRecDepth 1000000 in
theorem vp_5 : vpC 5 = true := by kernel_rfl
set_option maxRecDepth 1000000 in
theorem vp_6 : vpC 6 = true := by kernel_rfl

noncomputable def arrR (n : Nat) : Option (V Sy × Sto Sy) := symRun Try.prog (summK Summs.tab) [] 60 57 [pP n] ⟨0, [], 0⟩
noncomputable def rowsAt (r : Option (V Sy × Sto Sy)) : List (List Sy) := match r with
  | some (x, S) => match S.elems x with
    | some xs => xs.map fun y => match S.elems y with
      | some ys => match numsOf ys with
        | some ps => ps
        | none => []
      | none => []
    | none => []
  | none => []
noncomputable def lensB (n : Nat) : List (List Sy) → Bool
  | [] => true
  | ps :: r => bite (Nat.beq ps.length n) (lensB n r) false
noncomputable def arrC (n : Nat) : Bool := bite (rowsIs (rowsAt (arrR n)) (arrR n)) (bite (Nat.beq (rowsAt (arrR n)).length n) (lensB n (rowsAt (arrR n))) false) false
set_option maxRecDepth 1000000 in
theorem arr_2 : arrC 2 = true := by kernel_rfl
set_option maxRecDepth 1000000 in
theorem arr_3 : arrC 3 = true := by kernel_rfl
set_option maxRecDepth 1000000 in
theorem arr_4 : arrC 4 = true := by kernel_rfl
set_option maxRecDepth 1000000 in
theorem arr_5 : arrC 5 = true := by kernel_rfl
set_option maxRecDepth 1000000 in
theorem arr_6 : arrC 6 = true := by kernel_rfl

noncomputable def facR (n : Nat) : Option (V Sy × Sto Sy) := symRun Try.prog noK [] 60 53 [.int .i64 (.c n)] ⟨0, [], 0⟩
noncomputable def facC (n : Nat) : Bool := bite (rowsIs (rowsAt (facR n)) (facR n)) (bite (Nat.beq (rowsAt (facR n)).length n) (lensB n (rowsAt (facR n))) false) false
set_option maxRecDepth 1000000 in
theorem fac_1 : facC 1 = true := by kernel_rfl
set_option maxRecDepth 1000000 in
theorem fac_2 : facC 2 = true := by kernel_rfl
set_option maxRecDepth 1000000 in
theorem fac_3 : facC 3 = true := by kernel_rfl
set_option maxRecDepth 1000000 in
theorem fac_4 : facC 4 = true := by kernel_rfl
set_option maxRecDepth 1000000 in
theorem fac_5 : facC 5 = true := by kernel_rfl
set_option maxRecDepth 1000000 in
theorem fac_6 : facC 6 = true := by kernel_rfl

noncomputable def e0S (n : Nat) : List Sy := .c 1 :: List.replicate (n - 1) (.c 0)
noncomputable def e1S (n : Nat) : List Sy := .c 0 :: .c 1 :: List.replicate (n - 2) (.c 0)
noncomputable def uniR (n : Nat) : Option (V Sy × Sto Sy) := symRun Try.prog (summK Summs.tab) [] 60 55 [.int .i64 (.c n)] ⟨0, [], 0⟩
noncomputable def uniC (n : Nat) : Bool := unIs (e0S n) (e1S n) (uniR n)
set_option maxRecDepth 1000000 in
theorem uni_2 : uniC 2 = true := by kernel_rfl
set_option maxRecDepth 1000000 in
theorem uni_3 : uniC 3 = true := by kernel_rfl
set_option maxRecDepth 1000000 in
theorem uni_4 : uniC 4 = true := by kernel_rfl
set_option maxRecDepth 1000000 in
theorem uni_5 : uniC 5 = true := by kernel_rfl
set_option maxRecDepth 1000000 in
theorem uni_6 : uniC 6 = true := by kernel_rfl


noncomputable def eqlC (n : Nat) : Bool := booIs true (symRun Try.prog noK [] 60 7 [.slice (ints (gP n)), .slice (ints (gP n))] ⟨0, [], 0⟩)
set_option maxRecDepth 1000000 in
theorem eql_1 : eqlC 1 = true := by kernel_rfl
set_option maxRecDepth 1000000 in
theorem eql_2 : eqlC 2 = true := by kernel_rfl
set_option maxRecDepth 1000000 in
theorem eql_3 : eqlC 3 = true := by kernel_rfl
set_option maxRecDepth 1000000 in
theorem eql_4 : eqlC 4 = true := by kernel_rfl
set_option maxRecDepth 1000000 in
theorem eql_5 : eqlC 5 = true := by kernel_rfl
set_option maxRecDepth 1000000 in
theorem eql_6 : eqlC 6 = true := by kernel_rfl

noncomputable def re0C (n : Nat) : Bool := ansIs (some (rowS n n 0)) (symRun Try.prog (symK ids Summs.tab (diagF n n) (⟨1000000, e0S n, true⟩ :: seqV n n)) (diagF n n) 60 5 [.slice (ints (e0S n)), rowsP n n] ⟨0, [], 0⟩)
set_option maxRecDepth 1000000 in
theorem re0_1 : re0C 1 = true := by kernel_rfl
set_option maxRecDepth 1000000 in
theorem re0_2 : re0C 2 = true := by kernel_rfl
set_option maxRecDepth 1000000 in
theorem re0_3 : re0C 3 = true := by kernel_rfl
set_option maxRecDepth 1000000 in
theorem re0_4 : re0C 4 = true := by kernel_rfl
set_option maxRecDepth 1000000 in
theorem re0_5 : re0C 5 = true := by kernel_rfl
set_option maxRecDepth 1000000 in
theorem re0_6 : re0C 6 = true := by kernel_rfl
end Go.Proofs.Ytobdnpnohaonkaa.Tel

import Derived.Test.YtpjenggjcpahaaaRows
import Derived.Test.YtpjenggjcpahaaaSym
import Derived.Test.YtpjenggjcpahaaaSymD
import Derived.Test.YtpjenggjcpahaaaSymE
import Derived.Test.YtpjenggjcpahaaaSymF
import Derived.Test.YtpjenggjcpahaaaIds
import Derived.Test.YtpjenggjcpahaaaSumm
import Derived.Test.YtpjenggjcpahaaaRep
import Derived.Test.YtpjenggjcpahaaaTel
import Derived.WalkKit
import Derived.ProofKit
import Derived.OpenShut
namespace Go.Proofs.Ytpjenggjcpahaaa.Tel
open Go.ChangeShapes Go.WideShapes Go.ChangeAt Go.RowKit Go.Sx Go.Proofs.Ytpjenggjcpahaaa.Ids Go.Proofs.Ytpjenggjcpahaaa.Rep
set_option linter.unusedVariables false
set_option linter.unusedSimpArgs false

noncomputable def gP (n : Nat) : List Sy := (List.range n).map fun i => vx i
noncomputable def fP (n : Nat) : List Sy := (List.range n).map fun i => vx (6 + i)
noncomputable def pP (n : Nat) : V Sy := .agg [.slice (ints (gP n)), .slice (ints (fP n))]
noncomputable def vpR (n : Nat) (Γ : List Fact) (a b : Bool) : Option (V Sy × Sto Sy) := symRun Try.prog (symK ids Summs.tab Γ [⟨600, gP n, a⟩, ⟨600, fP n, b⟩]) Γ 60 44 [pP n] ⟨0, [], 0⟩
noncomputable def neF (x : Sy) (a : Int) : Fact := ⟨false, x, .c a, false⟩
noncomputable def eqF (x : Sy) (a : Int) : Fact := ⟨false, x, .c a, true⟩
noncomputable def unF (x : Sy) : Bool → List Fact
  | true => [eqF x 1]
  | false => [neF x 1, eqF x (-1)]
noncomputable def vpS (n : Nat) (s : Bool) : Bool := bite (booIs false (vpR n (neF (vx 6) 0 :: unF (vx 0) s) true true)) (bite (booIs false (vpR n (neF (vx 7) 1 :: neF (vx 7) (-1) :: eqF (vx 6) 0 :: unF (vx 0) s) true true)) (bite (booIs true (vpR n (unF (vx 7) true ++ (eqF (vx 6) 0 :: unF (vx 0) s)) true true)) (booIs true (vpR n (unF (vx 7) false ++ (eqF (vx 6) 0 :: unF (vx 0) s)) true true)) false) false) false
noncomputable def vpC (n : Nat) : Bool := bite (booIs false (vpR n [] false true)) (bite (booIs false (vpR n [] false false)) (bite (booIs false (vpR n [] true false)) (bite (booIs false (vpR n [neF (vx 0) 1, neF (vx 0) (-1)] true true)) (bite (vpS n true) (vpS n false) false) false) false) false) false
set_option maxRecDepth 1000000 in
theorem vp_2 : vpC 2 = true := by kernel_rfl
set_option maxRecDepth 1000000 in
theorem vp_3 : vpC 3 = true := by kernel_rfl
set_option maxRecDepth 1000000 in
theorem vp_4 : vpC 4 = true := by kernel_rfl
set_option maxRecDepth 1000000 in
theorem vp_5 : vpC 5 = true := by kernel_rfl
set_option maxRecDepth 1000000 in
theorem vp_6 : vpC 6 = true := by kernel_rfl

noncomputable def arrR (n : Nat) : Option (V Sy × Sto Sy) := symRun Try.prog (summK Summs.tab) [] 60 45 [pP n] ⟨0, [], 0⟩
noncomputable def rowsAt (r : Option (V Sy × Sto Sy)) : List (List Sy) := match r with
  | some (x, S) => match S.elems x with
    | some xs => xs.map fun y => match S.elems y with
      | some ys => match numsOf ys with
        | some ps => ps
        | none => []
      | none => []
    | none => []
  | none => []
noncomputable def lensB (n : Nat) : List (List Sy) → Bool
  | [] => true
  | ps :: r => bite (Nat.beq ps.length n) (lensB n r) false
noncomputable def arrC (n : Nat) : Bool := bite (rowsIs (rowsAt (arrR n)) (arrR n)) (bite (Nat.beq (rowsAt (arrR n)).length n) (lensB n (rowsAt (arrR n))) false) false
set_option maxRecDepth 1000000 in
theorem arr_2 : arrC 2 = true := by kernel_rfl
set_option maxRecDepth 1000000 in
theorem arr_3 : arrC 3 = true := by kernel_rfl
set_option maxRecDepth 1000000 in
theorem arr_4 : arrC 4 = true := by kernel_rfl
set_option maxRecDepth 1000000 in
theorem arr_5 : arrC 5 = true := by kernel_rfl
set_option maxRecDepth 1000000 in
theorem arr_6 : arrC 6 = true := by kernel_rfl

noncomputable def facR (n : Nat) : Option (V Sy × Sto Sy) := symRun Try.prog noK [] 60 116 [.int .i64 (.c n)] ⟨0, [], 0⟩
noncomputable def facC (n : Nat) : Bool := bite (rowsIs (rowsAt (facR n)) (facR n)) (bite (Nat.beq (rowsAt (facR n)).length n) (lensB n (rowsAt (facR n))) false) false
set_option maxRecDepth 1000000 in
theorem fac_1 : facC 1 = true := by kernel_rfl
set_option maxRecDepth 1000000 in
theorem fac_2 : facC 2 = true := by kernel_rfl
set_option maxRecDepth 1000000 in
theorem fac_3 : facC 3 = true := by kernel_rfl
set_option maxRecDepth 1000000 in
theorem fac_4 : facC 4 = true := by kernel_rfl
set_option maxRecDepth 1000000 in
theorem fac_5 : facC 5 = true := by kernel_rfl
set_option maxRecDepth 1000000 in
theorem fac_6 : facC 6 = true := by kernel_rfl

noncomputable def e0S (n : Nat) : List Sy := .c 1 :: List.replicate (n - 1) (.c 0)
noncomputable def e1S (n : Nat) : List Sy := .c 0 :: .c 1 :: List.replicate (n - 2) (.c 0)
noncomputable def uniR (n : Nat) : Option (V Sy × Sto Sy) := symRun Try.prog (summK Summs.tab) [] 60 106 [.int .i64 (.c n)] ⟨0, [], 0⟩
noncomputable def uniC (n : Nat) : Bool := unIs (e0S n) (e1S n) (uniR n)
set_option maxRecDepth 1000000 in
theorem uni_2 : uniC 2 = true := by kernel_rfl
set_option maxRecDepth 1000000 in
theorem uni_3 : uniC 3 = true := by kernel_rfl
set_option maxRecDepth 1000000 in
theorem uni_4 : uniC 4 = true := by kernel_rfl
set_option maxRecDepth 1000000 in
theorem uni_5 : uniC 5 = true := by kernel_rfl
set_option maxRecDepth 1000000 in
theorem uni_6 : uniC 6 = true := by kernel_rfl

end Go.Proofs.Ytpjenggjcpahaaa.Tel

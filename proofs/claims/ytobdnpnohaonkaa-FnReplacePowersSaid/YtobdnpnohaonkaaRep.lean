/-
  Polynomials in the place of powers: both sides at symbols, a run for each length. No condition.
-/
import Derived.Test.YtobdnpnohaonkaaRows
import Derived.Test.YtobdnpnohaonkaaSym
import Derived.Test.YtobdnpnohaonkaaSymD
import Derived.Test.YtobdnpnohaonkaaSymE
import Derived.Test.YtobdnpnohaonkaaSymF
import Derived.Test.YtobdnpnohaonkaaIds
import Derived.Test.YtobdnpnohaonkaaSumm
import Derived.WalkKit
import Derived.ProofKit
import Derived.OpenShut
namespace Go.Proofs.Ytobdnpnohaonkaa.Rep
open Go.ChangeShapes Go.WideShapes Go.ChangeAt Go.RowKit Go.Sx Go.Proofs.Ytobdnpnohaonkaa.Ids
set_option linter.unusedVariables false
set_option linter.unusedSimpArgs false

/-- The rows of a sequence of L polynomials, at variables from o on. -/
noncomputable def rowS (L o n : Nat) : List Sy := (List.range L).map fun i => bite (Nat.ble i n) (vx (Nat.add (Nat.add o (Nat.div (Nat.mul n (Nat.add n 1)) 2)) i)) (.c 0)
noncomputable def rowsS (L o : Nat) : List (List Sy) := (List.range L).map (rowS L o)
noncomputable def rowsP (L o : Nat) : V Sy := .slice ((rowsS L o).map fun ps => .slice (ints ps))
noncomputable def diagF (L o : Nat) : List Fact := (List.range L).map fun n => ⟨false, vx (Nat.add (Nat.add o (Nat.div (Nat.mul n (Nat.add n 1)) 2)) n), .c 0, false⟩
noncomputable def seqV (L o : Nat) : List VEnt := (rowsS L o).map fun ps => ⟨1000000, ps, true⟩
noncomputable def repS (L : Nat) : Option (List Sy) := numsRun Try.prog Summs.tab 60 24 [.slice (ints (vxs L)), rowsP L L]
noncomputable def repR (k : FuncId) (L : Nat) (ps : List Sy) (q : Bool) : Option (V Sy × Sto Sy) :=
  symRun Try.prog (symK ids Summs.tab (diagF L L) (⟨1000000, ps, q⟩ :: ⟨1000000, vxs L, true⟩ :: seqV L L)) (diagF L L) 60 k [.slice (ints (vxs L)), rowsP L L] ⟨0, [], 0⟩
noncomputable def repAt (k : FuncId) (L : Nat) : Bool := match repS L with
  | some ps => bite (ansIs (some ps) (repR k L ps true)) (ansIs none (repR k L ps false)) false
  | none => false
set_option maxRecDepth 1000000 in
theorem spec_1 : repAt 6 1 = true := by kernel_rfl
set_option maxRecDepth 1000000 in
theorem impl_1 : repAt 5 1 = true := by kernel_rfl
set_option maxRecDepth 1000000 in
theorem spec_2 : repAt 6 2 = true := by kernel_rfl
set_option maxRecDepth 1000000 in
theorem impl_2 : repAt 5 2 = true := by kernel_rfl
set_option maxRecDepth 1000000 in
theorem spec_3 : repAt 6 3 = true := by kernel_rfl
set_option maxRecDepth 1000000 in
theorem impl_3 : repAt 5 3 = true := by kernel_rfl
set_option maxRecDepth 1000000 in
theorem spec_4 : repAt 6 4 = true := by kernel_rfl
set_option maxRecDepth 1000000 in
theorem impl_4 : repAt 5 4 = true := by kernel_rfl
set_option maxRecDepth 1000000 in
theorem spec_5 : repAt 6 5 = true := by kernel_rfl
set_option maxRecDepth 1000000 in
theorem impl_5 : repAt 5 5 = true := by kernel_rfl
set_option maxRecDepth 1000000 in
theorem spec_6 : repAt 6 6 = true := by kernel_rfl
set_option maxRecDepth 1000000 in
theorem impl_6 : repAt 5 6 = true := by kernel_rfl
end Go.Proofs.Ytobdnpnohaonkaa.Rep

import Derived.Test.YtpjenggjcpahaaaRows
import Derived.Test.YtpjenggjcpahaaaSym
import Derived.Test.YtpjenggjcpahaaaSymD
import Derived.Test.YtpjenggjcpahaaaSymE
import Derived.Test.YtpjenggjcpahaaaSymF
import Derived.Test.YtpjenggjcpahaaaIds
import Derived.Test.YtpjenggjcpahaaaSumm
import Derived.Test.YtpjenggjcpahaaaTel
import Derived.Test.YtpjenggjcpahaaaTelB
import Derived.Test.YtpjenggjcpahaaaPr
import Derived.WalkKit
import Derived.ProofKit
import Derived.OpenShut
namespace Go.Proofs.Ytpjenggjcpahaaa.Pl
open Go.ChangeShapes Go.WideShapes Go.ChangeAt Go.RowKit Go.Sx Go.Proofs.Ytpjenggjcpahaaa.Ids Go.Proofs.Ytpjenggjcpahaaa.Tel
open Go.Proofs.Ytpjenggjcpahaaa.Pr (arrQ gS fS patZ)
set_option linter.unusedVariables false
set_option maxRecDepth 1000000
set_option linter.unusedSimpArgs false

noncomputable def facQ (L : Nat) (a b : Int) : List Fact := rngF 600 (gS L a) ++ rngF 600 (fS L 2 b)
noncomputable def vtQ (L : Nat) (a b : Int) : List VEnt := [⟨600, gS L a, true⟩, ⟨600, fS L 2 b, true⟩]
noncomputable def pQ (L : Nat) (a b : Int) : V Sy := .agg [.slice (ints (gS L a)), .slice (ints (fS L 2 b))]
noncomputable def lowP : Poly → Bool
  | [] => true
  | t :: r => bite (Nat.blt t.1 (Nat.pow 256 12)) (lowP r) false
noncomputable def lowS : Sy → Bool
  | .c _ => true
  | .p l => lowP l
noncomputable def lowL (l : List (List Sy)) : Bool := l.all fun ps => ps.all lowS
noncomputable def arrI (L : Nat) (a b : Int) : Bool := match arrQ L a b with
  | some l => bite (rowsIs l (symRun Try.prog (symK ids Summs.tab (facQ L a b) (vtQ L a b)) (facQ L a b) 60 16 [pQ L a b] ⟨0, [], 0⟩)) (bite (lowL l) (booIs true (symRun Try.prog (symK ids Summs.tab (facQ L a b) (vtQ L a b)) (facQ L a b) 60 17 [pQ L a b] ⟨0, [], 0⟩)) false) false
  | none => false
noncomputable def arr4 (L : Nat) : Bool := bite (arrI L 1 1) (bite (arrI L 1 (-1)) (bite (arrI L (-1) 1) (arrI L (-1) (-1)) false) false) false
theorem arr4_2 : arr4 2 = true := by kernel_rfl
theorem arr4_3 : arr4 3 = true := by kernel_rfl
theorem arr4_4 : arr4 4 = true := by kernel_rfl
theorem arr4_5 : arr4 5 = true := by kernel_rfl
theorem arr4_6 : arr4 6 = true := by kernel_rfl
noncomputable def eqpR (L : Nat) : Bool := booIs true (symRun Try.prog noK [] 60 14 [pP L, pP L] ⟨0, [], 0⟩)
theorem eqp_0 : booIs true (symRun Try.prog noK [] 60 14 [.agg [.nil, .nil], .agg [.nil, .nil]] ⟨0, [], 0⟩) = true := by kernel_rfl
theorem eqp_2 : eqpR 2 = true := by kernel_rfl
theorem eqp_3 : eqpR 3 = true := by kernel_rfl
theorem eqp_4 : eqpR 4 = true := by kernel_rfl
theorem eqp_5 : eqpR 5 = true := by kernel_rfl
theorem eqp_6 : eqpR 6 = true := by kernel_rfl
noncomputable def eqlR (L : Nat) : Bool := booIs true (symRun Try.prog noK [] 60 15 [patZ L, patZ L] ⟨0, [], 0⟩)
theorem eqll_2 : eqlR 2 = true := by kernel_rfl
theorem eqll_3 : eqlR 3 = true := by kernel_rfl
theorem eqll_4 : eqlR 4 = true := by kernel_rfl
theorem eqll_5 : eqlR 5 = true := by kernel_rfl
theorem eqll_6 : eqlR 6 = true := by kernel_rfl
end Go.Proofs.Ytpjenggjcpahaaa.Pl

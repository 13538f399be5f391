/-
  The law FnExactMeetParts: what is known in its runs. No condition.
-/
import Derived.Test.YtcpnlgjkijcmhaaWayK
import Derived.KernelRfl
namespace Go.Proofs.Ytcpnlgjkijcmhaa.EMeetParts
open Go.ChangeShapes Go.WideShapes Go.ChangeAt Go.RowKit Go.Sx Go.Proofs.Ytcpnlgjkijcmhaa.Ids Go.Proofs.Ytcpnlgjkijcmhaa.Way
set_option linter.unusedVariables false
set_option linter.unusedSimpArgs false

noncomputable def KL : Ctr := orK K1 (uK ids [] [] [])
theorem KL_ok (B : Nat) : COk Try.prog ⟨Sy.den (fun _ => 0), s00⟩ B KL := orK_ok (K1_ok _ _ B) (uK_00 noCount mixed ids_ok _ B)
noncomputable def law : LawU := ⟨8, [4, 4], 0, fun ll ii => match ll with | [x0, x1] => [x0, x1] ++ ii | _ => [], sizeT 2, fun _ => .leaf .leaf⟩
noncomputable def atWays (p q : List Int) : Bool := saysTrue (symRun Try.prog KL [] 200 8 [.slice (ints (nums p)), .slice (ints (nums q))] ⟨0, [], 0⟩)
end Go.Proofs.Ytcpnlgjkijcmhaa.EMeetParts

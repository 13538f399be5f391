/-
  The law FnExactJoinParts: what is known in its runs. No condition.
-/
import Derived.Test.YtcpnlgjkijcmhaaWayJ
import Derived.KernelRfl
namespace Go.Proofs.Ytcpnlgjkijcmhaa.EJoinParts
open Go.ChangeShapes Go.WideShapes Go.ChangeAt Go.RowKit Go.Sx Go.Proofs.Ytcpnlgjkijcmhaa.Ids Go.Proofs.Ytcpnlgjkijcmhaa.Way
set_option linter.unusedVariables false
set_option linter.unusedSimpArgs false

open Go.Proofs.Ytcpnlgjkijcmhaa.WayJ
noncomputable def KL : Ctr := orK KJ (uK ids [] [] [])
theorem KL_ok (B : Nat) : COk Try.prog ⟨Sy.den (fun _ => 0), s00⟩ B KL := orK_ok (KJ_ok _ _ B) (uK_00 noCount mixed ids_ok _ B)
noncomputable def law : LawU := ⟨9, [4, 4], 0, fun ll ii => match ll with | [x0, x1] => [x0, x1] ++ ii | _ => [], sizeT 2, fun _ => .leaf .leaf⟩
noncomputable def atWays (p q : List Int) : Bool := saysTrue (symRun Try.prog KL [] 200 9 [.slice (ints (nums p)), .slice (ints (nums q))] ⟨0, [], 0⟩)
end Go.Proofs.Ytcpnlgjkijcmhaa.EJoinParts

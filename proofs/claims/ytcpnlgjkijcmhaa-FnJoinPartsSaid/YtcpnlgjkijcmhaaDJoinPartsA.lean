/-
  The law FnJoinParts: what is known in its runs. No condition.
-/
import Derived.Test.YtcpnlgjkijcmhaaWayJ
import Derived.Test.YtcpnlgjkijcmhaaWayE
import Derived.Test.YtcpnlgjkijcmhaaSymD
import Derived.KernelRfl
namespace Go.Proofs.Ytcpnlgjkijcmhaa.DJoinParts
open Go.ChangeShapes Go.WideShapes Go.ChangeAt Go.RowKit Go.Sx Go.Proofs.Ytcpnlgjkijcmhaa.Ids Go.Proofs.Ytcpnlgjkijcmhaa.Way
set_option linter.unusedVariables false
set_option linter.unusedSimpArgs false

open Go.Proofs.Ytcpnlgjkijcmhaa.WayJ
noncomputable def KL : Ctr := orK KJ (orK KQ (uK ids [] [] []))
theorem KL_ok (ρ : Nat → Int) (s : Sms) (B : Nat) (hs : SmOk s) : COk Try.prog ⟨Sy.den ρ, s⟩ B KL := orK_ok (KJ_ok _ _ B) (orK_ok (KQ_ok _ _ B) (uK_ok noCount mixed ids_ok ids_ok.pok (by simp) (by simp) (by simp) hs.1 hs.2))
noncomputable def law : LawD := ⟨5, 18, [.c (.l 0), .c (.l 1)], [4, 4], 0, fun _ => .leaf .leaf⟩
noncomputable def atWays (p q : List Int) : Bool := law.runC Try.prog 200 KL [p, q] []
end Go.Proofs.Ytcpnlgjkijcmhaa.DJoinParts

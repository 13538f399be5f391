/-
  The law FnWeightOfParts: what is known in its runs. No condition.
-/
import Derived.Test.YtcpnlgjkijcmhaaWayE
import Derived.Test.YtcpnlgjkijcmhaaSymD
import Derived.Test.YtcpnlgjkijcmhaaSumm
import Derived.KernelRfl
namespace Go.Proofs.Ytcpnlgjkijcmhaa.DWeight
open Go.ChangeShapes Go.WideShapes Go.ChangeAt Go.RowKit Go.Sx Go.Proofs.Ytcpnlgjkijcmhaa.Ids Go.Proofs.Ytcpnlgjkijcmhaa.Way
set_option linter.unusedVariables false
set_option linter.unusedSimpArgs false

noncomputable def KL : Ctr := orK Way.KE0 (orK (uK ids [] [] []) (summK Summs.tab))
theorem KL_ok (ρ : Nat → Int) (s : Sms) (B : Nat) (hs : SmOk s) : COk Try.prog ⟨Sy.den ρ, s⟩ B KL := orK_ok (Way.KE0_ok _ _ B) (orK_ok (uK_ok noCount mixed ids_ok ids_ok.pok (by simp) (by simp) (by simp) hs.1 hs.2) (summK_ok Summs.tab_ok))
noncomputable def law : LawD := ⟨6, 21, [.c (.l 0)], [4], 0, fun _ => .leaf .leaf⟩
noncomputable def atWay (p : List Int) : Bool := law.runC Try.prog 200 KL [p] []
end Go.Proofs.Ytcpnlgjkijcmhaa.DWeight

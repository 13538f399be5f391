/-
  The law FnIsFiner: what is known in its runs. No condition.
-/
import Derived.Test.YtcpnlgjkijcmhaaWayJ
import Derived.Test.YtcpnlgjkijcmhaaWayE
import Derived.Test.YtcpnlgjkijcmhaaSymD
import Derived.KernelRfl
namespace Go.Proofs.Ytcpnlgjkijcmhaa.DIsFiner
open Go.ChangeShapes Go.WideShapes Go.ChangeAt Go.RowKit Go.Sx Go.Proofs.Ytcpnlgjkijcmhaa.Ids Go.Proofs.Ytcpnlgjkijcmhaa.Way
set_option linter.unusedVariables false
set_option linter.unusedSimpArgs false

open Go.Proofs.Ytcpnlgjkijcmhaa.WayJ
noncomputable def KL : Ctr := orK KJ (orK KQ (uK ids [] [] []))
theorem KL_ok (ρ : Nat → Int) (s : Sms) (B : Nat) (hs : SmOk s) : COk Try.prog ⟨Sy.den ρ, s⟩ B KL := orK_ok (KJ_ok _ _ B) (orK_ok (KQ_ok _ _ B) (uK_ok noCount mixed ids_ok ids_ok.pok (by simp) (by simp) (by simp) hs.1 hs.2))
noncomputable def law : LawD := ⟨3, 10, [.c (.l 0), .c (.l 1)], [4, 4], 0, fun _ => .leaf .leaf⟩
noncomputable def atWays (p q : List Int) : Bool := law.runC Try.prog 200 KL [p, q] []
set_option maxRecDepth 1000000 in
theorem fin_1 : allL (fun z => isB true (symRun Try.prog KL [] 200 11 [.slice (ints (nums z)), .slice (ints (nums z))] ⟨0, [], 0⟩)) (waysOf 1) = true := by kernel_rfl
set_option maxRecDepth 1000000 in
theorem fin_2 : allL (fun z => isB true (symRun Try.prog KL [] 200 11 [.slice (ints (nums z)), .slice (ints (nums z))] ⟨0, [], 0⟩)) (waysOf 2) = true := by kernel_rfl
set_option maxRecDepth 1000000 in
theorem fin_3 : allL (fun z => isB true (symRun Try.prog KL [] 200 11 [.slice (ints (nums z)), .slice (ints (nums z))] ⟨0, [], 0⟩)) (waysOf 3) = true := by kernel_rfl
set_option maxRecDepth 1000000 in
theorem fin_4 : allL (fun z => isB true (symRun Try.prog KL [] 200 11 [.slice (ints (nums z)), .slice (ints (nums z))] ⟨0, [], 0⟩)) (waysOf 4) = true := by kernel_rfl
set_option maxRecDepth 1000000 in
theorem fin_5 : allL (fun z => isB true (symRun Try.prog KL [] 200 11 [.slice (ints (nums z)), .slice (ints (nums z))] ⟨0, [], 0⟩)) (waysOf 5) = true := by kernel_rfl
theorem fins {ρ : Nat → Int} {s : Sms} {B : Nat} {Vp : List (Nat × Bool)} (hV : ∀ e, e ∈ Vp → isPart (s.l e.1) = e.2) (hs : SmOk s) : COk Try.prog ⟨Sy.den ρ, s⟩ B (finB 11 Vp) := by
  refine finB_ok (body_of Try.func11 rfl) hV hs (fun zs hp hne => ?_)
  have h := ways_each (f := fun z => isB true (symRun Try.prog KL [] 200 11 [.slice (ints (nums z)), .slice (ints (nums z))] ⟨0, [], 0⟩)) (fun n h1 h5 => ?_) hp hne
  · obtain ⟨S, hS⟩ := isB_iff h
    exact ⟨S, fun B' => (symRun_ok (ρ := ρ) (s := s) (B := B') noCount mixed (Γ := []) (by simp) (KL_ok ρ s B' hs) 200 _ _ _ _ _ hS).1⟩
  · match n, h1, h5 with
    | 1, _, _ => exact fin_1
    | 2, _, _ => exact fin_2
    | 3, _, _ => exact fin_3
    | 4, _, _ => exact fin_4
    | 5, _, _ => exact fin_5
    | k + 6, _, h => omega
end Go.Proofs.Ytcpnlgjkijcmhaa.DIsFiner

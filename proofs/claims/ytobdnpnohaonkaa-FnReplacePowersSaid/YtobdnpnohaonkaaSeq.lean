import Derived.Test.YtobdnpnohaonkaaRows
import Derived.Test.YtobdnpnohaonkaaSym
import Derived.Test.YtobdnpnohaonkaaSymD
import Derived.Test.YtobdnpnohaonkaaSymE
import Derived.Test.YtobdnpnohaonkaaIds
import Derived.WalkKit
import Derived.ProofKit
import Derived.OpenShut
namespace Go.Proofs.Ytobdnpnohaonkaa.Seq
open Go.ChangeShapes Go.WideShapes Go.ChangeAt Go.RowKit Go.Sx Go.Proofs.Ytobdnpnohaonkaa.Ids
set_option linter.unusedVariables false
set_option linter.unusedSimpArgs false

theorem specValidPoly_nil : symRun Try.prog noK [] 60 21 [.emp] ⟨0, [], 0⟩ = some (.bool false, ⟨0, [], 0⟩) := by kernel_rfl
theorem implValidPoly_nil : symRun Try.prog noK [] 60 16 [.emp] ⟨0, [], 0⟩ = some (.bool false, ⟨0, [], 0⟩) := by kernel_rfl
theorem sv_ok (zs : List Int) (hl : zs.length ≤ 1048576) : ∃ (K : Ctr) (n : Nat) (S : Sto Sy), (∀ (ρ : Nat → Int) (s : Sms) (B : Nat), COk Try.prog ⟨Sy.den ρ, s⟩ B K) ∧ symRun Try.prog K [] n 21 [patL zs] ⟨0, [], 0⟩ = some (.bool (decide (validP 1000000 zs)), S) := by
  cases zs with
  | nil => exact ⟨noK, _, _, fun _ _ _ => noK_ok, specValidPoly_nil⟩
  | cons z r => exact ⟨noK, _, _, fun _ _ _ => noK_ok, Ids.specValidPoly (z :: r) hl ((z :: r).length + 1) (by simp)⟩
theorem iv_ok (zs : List Int) (hl : zs.length ≤ 1048576) : ∃ (K : Ctr) (n : Nat) (S : Sto Sy), (∀ (ρ : Nat → Int) (s : Sms) (B : Nat), COk Try.prog ⟨Sy.den ρ, s⟩ B K) ∧ symRun Try.prog K [] n 16 [patL zs] ⟨0, [], 0⟩ = some (.bool (decide (validP 1000000 zs)), S) := by
  cases zs with
  | nil => exact ⟨noK, _, _, fun _ _ _ => noK_ok, implValidPoly_nil⟩
  | cons z r => exact ⟨noK, _, _, fun _ _ _ => noK_ok, Ids.implValidPoly (z :: r) hl ⟨0, [], 0⟩ trivial (Nat.le_refl _) ((z :: r).length + 1) (by simp)⟩

noncomputable def ends : List Int → Nat → Bool
  | [], _ => false
  | z :: r, 0 => bite (ieq z 0) false (r.all fun x => ieq x 0)
  | _ :: r, n + 1 => ends r n
set_option maxRecDepth 100000 in
theorem ends_1_0 (a0 : Int) : (symRun Try.prog noK [] 60 39 [.slice (ints (nums [a0])), .int .i64 (.c 0)] ⟨0, [], 0⟩).map (·.1) = some (.bool (ends [a0] 0)) := by
  rcases a0 with (_ | k0) | k0
  · (show _ = _; kernel_rfl)
  · (show _ = _; kernel_rfl)
  · (show _ = _; kernel_rfl)
set_option maxRecDepth 100000 in
theorem ends_2_0 (a0 a1 : Int) : (symRun Try.prog noK [] 60 39 [.slice (ints (nums [a0, a1])), .int .i64 (.c 0)] ⟨0, [], 0⟩).map (·.1) = some (.bool (ends [a0, a1] 0)) := by
  rcases a0 with (_ | k0) | k0
  · (show _ = _; kernel_rfl)
  · rcases a1 with (_ | k1) | k1
    · (show _ = _; kernel_rfl)
    · (show _ = _; kernel_rfl)
    · (show _ = _; kernel_rfl)
  · rcases a1 with (_ | k1) | k1
    · (show _ = _; kernel_rfl)
    · (show _ = _; kernel_rfl)
    · (show _ = _; kernel_rfl)
set_option maxRecDepth 100000 in
theorem ends_2_1 (a0 a1 : Int) : (symRun Try.prog noK [] 60 39 [.slice (ints (nums [a0, a1])), .int .i64 (.c 1)] ⟨0, [], 0⟩).map (·.1) = some (.bool (ends [a0, a1] 1)) := by
  rcases a1 with (_ | k1) | k1
  · (show _ = _; kernel_rfl)
  · (show _ = _; kernel_rfl)
  · (show _ = _; kernel_rfl)
set_option maxRecDepth 100000 in
theorem ends_3_0 (a0 a1 a2 : Int) : (symRun Try.prog noK [] 60 39 [.slice (ints (nums [a0, a1, a2])), .int .i64 (.c 0)] ⟨0, [], 0⟩).map (·.1) = some (.bool (ends [a0, a1, a2] 0)) := by
  rcases a0 with (_ | k0) | k0
  · (show _ = _; kernel_rfl)
  · rcases a1 with (_ | k1) | k1
    · rcases a2 with (_ | k2) | k2
      · (show _ = _; kernel_rfl)
      · (show _ = _; kernel_rfl)
      · (show _ = _; kernel_rfl)
    · (show _ = _; kernel_rfl)
    · (show _ = _; kernel_rfl)
  · rcases a1 with (_ | k1) | k1
    · rcases a2 with (_ | k2) | k2
      · (show _ = _; kernel_rfl)
      · (show _ = _; kernel_rfl)
      · (show _ = _; kernel_rfl)
    · (show _ = _; kernel_rfl)
    · (show _ = _; kernel_rfl)
set_option maxRecDepth 100000 in
theorem ends_3_1 (a0 a1 a2 : Int) : (symRun Try.prog noK [] 60 39 [.slice (ints (nums [a0, a1, a2])), .int .i64 (.c 1)] ⟨0, [], 0⟩).map (·.1) = some (.bool (ends [a0, a1, a2] 1)) := by
  rcases a1 with (_ | k1) | k1
  · (show _ = _; kernel_rfl)
  · rcases a2 with (_ | k2) | k2
    · (show _ = _; kernel_rfl)
    · (show _ = _; kernel_rfl)
    · (show _ = _; kernel_rfl)
  · rcases a2 with (_ | k2) | k2
    · (show _ = _; kernel_rfl)
    · (show _ = _; kernel_rfl)
    · (show _ = _; kernel_rfl)
set_option maxRecDepth 100000 in
theorem ends_3_2 (a0 a1 a2 : Int) : (symRun Try.prog noK [] 60 39 [.slice (ints (nums [a0, a1, a2])), .int .i64 (.c 2)] ⟨0, [], 0⟩).map (·.1) = some (.bool (ends [a0, a1, a2] 2)) := by
  rcases a2 with (_ | k2) | k2
  · (show _ = _; kernel_rfl)
  · (show _ = _; kernel_rfl)
  · (show _ = _; kernel_rfl)
set_option maxRecDepth 100000 in
theorem ends_4_0 (a0 a1 a2 a3 : Int) : (symRun Try.prog noK [] 60 39 [.slice (ints (nums [a0, a1, a2, a3])), .int .i64 (.c 0)] ⟨0, [], 0⟩).map (·.1) = some (.bool (ends [a0, a1, a2, a3] 0)) := by
  rcases a0 with (_ | k0) | k0
  · (show _ = _; kernel_rfl)
  · rcases a1 with (_ | k1) | k1
    · rcases a2 with (_ | k2) | k2
      · rcases a3 with (_ | k3) | k3
        · (show _ = _; kernel_rfl)
        · (show _ = _; kernel_rfl)
        · (show _ = _; kernel_rfl)
      · (show _ = _; kernel_rfl)
      · (show _ = _; kernel_rfl)
    · (show _ = _; kernel_rfl)
    · (show _ = _; kernel_rfl)
  · rcases a1 with (_ | k1) | k1
    · rcases a2 with (_ | k2) | k2
      · rcases a3 with (_ | k3) | k3
        · (show _ = _; kernel_rfl)
        · (show _ = _; kernel_rfl)
        · (show _ = _; kernel_rfl)
      · (show _ = _; kernel_rfl)
      · (show _ = _; kernel_rfl)
    · (show _ = _; kernel_rfl)
    · (show _ = _; kernel_rfl)
set_option maxRecDepth 100000 in
theorem ends_4_1 (a0 a1 a2 a3 : Int) : (symRun Try.prog noK [] 60 39 [.slice (ints (nums [a0, a1, a2, a3])), .int .i64 (.c 1)] ⟨0, [], 0⟩).map (·.1) = some (.bool (ends [a0, a1, a2, a3] 1)) := by
  rcases a1 with (_ | k1) | k1
  · (show _ = _; kernel_rfl)
  · rcases a2 with (_ | k2) | k2
    · rcases a3 with (_ | k3) | k3
      · (show _ = _; kernel_rfl)
      · (show _ = _; kernel_rfl)
      · (show _ = _; kernel_rfl)
    · (show _ = _; kernel_rfl)
    · (show _ = _; kernel_rfl)
  · rcases a2 with (_ | k2) | k2
    · rcases a3 with (_ | k3) | k3
      · (show _ = _; kernel_rfl)
      · (show _ = _; kernel_rfl)
      · (show _ = _; kernel_rfl)
    · (show _ = _; kernel_rfl)
    · (show _ = _; kernel_rfl)
set_option maxRecDepth 100000 in
theorem ends_4_2 (a0 a1 a2 a3 : Int) : (symRun Try.prog noK [] 60 39 [.slice (ints (nums [a0, a1, a2, a3])), .int .i64 (.c 2)] ⟨0, [], 0⟩).map (·.1) = some (.bool (ends [a0, a1, a2, a3] 2)) := by
  rcases a2 with (_ | k2) | k2
  · (show _ = _; kernel_rfl)
  · rcases a3 with (_ | k3) | k3
    · (show _ = _; kernel_rfl)
    · (show _ = _; kernel_rfl)
    · (show _ = _; kernel_rfl)
  · rcases a3 with (_ | k3) | k3
    · (show _ = _; kernel_rfl)
    · (show _ = _; kernel_rfl)
    · (show _ = _; kernel_rfl)
set_option maxRecDepth 100000 in
theorem ends_4_3 (a0 a1 a2 a3 : Int) : (symRun Try.prog noK [] 60 39 [.slice (ints (nums [a0, a1, a2, a3])), .int .i64 (.c 3)] ⟨0, [], 0⟩).map (·.1) = some (.bool (ends [a0, a1, a2, a3] 3)) := by
  rcases a3 with (_ | k3) | k3
  · (show _ = _; kernel_rfl)
  · (show _ = _; kernel_rfl)
  · (show _ = _; kernel_rfl)
set_option maxRecDepth 100000 in
theorem ends_5_0 (a0 a1 a2 a3 a4 : Int) : (symRun Try.prog noK [] 60 39 [.slice (ints (nums [a0, a1, a2, a3, a4])), .int .i64 (.c 0)] ⟨0, [], 0⟩).map (·.1) = some (.bool (ends [a0, a1, a2, a3, a4] 0)) := by
  rcases a0 with (_ | k0) | k0
  · (show _ = _; kernel_rfl)
  · rcases a1 with (_ | k1) | k1
    · rcases a2 with (_ | k2) | k2
      · rcases a3 with (_ | k3) | k3
        · rcases a4 with (_ | k4) | k4
          · (show _ = _; kernel_rfl)
          · (show _ = _; kernel_rfl)
          · (show _ = _; kernel_rfl)
        · (show _ = _; kernel_rfl)
        · (show _ = _; kernel_rfl)
      · (show _ = _; kernel_rfl)
      · (show _ = _; kernel_rfl)
    · (show _ = _; kernel_rfl)
    · (show _ = _; kernel_rfl)
  · rcases a1 with (_ | k1) | k1
    · rcases a2 with (_ | k2) | k2
      · rcases a3 with (_ | k3) | k3
        · rcases a4 with (_ | k4) | k4
          · (show _ = _; kernel_rfl)
          · (show _ = _; kernel_rfl)
          · (show _ = _; kernel_rfl)
        · (show _ = _; kernel_rfl)
        · (show _ = _; kernel_rfl)
      · (show _ = _; kernel_rfl)
      · (show _ = _; kernel_rfl)
    · (show _ = _; kernel_rfl)
    · (show _ = _; kernel_rfl)
set_option maxRecDepth 100000 in
theorem ends_5_1 (a0 a1 a2 a3 a4 : Int) : (symRun Try.prog noK [] 60 39 [.slice (ints (nums [a0, a1, a2, a3, a4])), .int .i64 (.c 1)] ⟨0, [], 0⟩).map (·.1) = some (.bool (ends [a0, a1, a2, a3, a4] 1)) := by
  rcases a1 with (_ | k1) | k1
  · (show _ = _; kernel_rfl)
  · rcases a2 with (_ | k2) | k2
    · rcases a3 with (_ | k3) | k3
      · rcases a4 with (_ | k4) | k4
        · (show _ = _; kernel_rfl)
        · (show _ = _; kernel_rfl)
        · (show _ = _; kernel_rfl)
      · (show _ = _; kernel_rfl)
      · (show _ = _; kernel_rfl)
    · (show _ = _; kernel_rfl)
    · (show _ = _; kernel_rfl)
  · rcases a2 with (_ | k2) | k2
    · rcases a3 with (_ | k3) | k3
      · rcases a4 with (_ | k4) | k4
        · (show _ = _; kernel_rfl)
        · (show _ = _; kernel_rfl)
        · (show _ = _; kernel_rfl)
      · (show _ = _; kernel_rfl)
      · (show _ = _; kernel_rfl)
    · (show _ = _; kernel_rfl)
    · (show _ = _; kernel_rfl)
set_option maxRecDepth 100000 in
theorem ends_5_2 (a0 a1 a2 a3 a4 : Int) : (symRun Try.prog noK [] 60 39 [.slice (ints (nums [a0, a1, a2, a3, a4])), .int .i64 (.c 2)] ⟨0, [], 0⟩).map (·.1) = some (.bool (ends [a0, a1, a2, a3, a4] 2)) := by
  rcases a2 with (_ | k2) | k2
  · (show _ = _; kernel_rfl)
  · rcases a3 with (_ | k3) | k3
    · rcases a4 with (_ | k4) | k4
      · (show _ = _; kernel_rfl)
      · (show _ = _; kernel_rfl)
      · (show _ = _; kernel_rfl)
    · (show _ = _; kernel_rfl)
    · (show _ = _; kernel_rfl)
  · rcases a3 with (_ | k3) | k3
    · rcases a4 with (_ | k4) | k4
      · (show _ = _; kernel_rfl)
      · (show _ = _; kernel_rfl)
      · (show _ = _; kernel_rfl)
    · (show _ = _; kernel_rfl)
    · (show _ = _; kernel_rfl)
set_option maxRecDepth 100000 in
theorem ends_5_3 (a0 a1 a2 a3 a4 : Int) : (symRun Try.prog noK [] 60 39 [.slice (ints (nums [a0, a1, a2, a3, a4])), .int .i64 (.c 3)] ⟨0, [], 0⟩).map (·.1) = some (.bool (ends [a0, a1, a2, a3, a4] 3)) := by
  rcases a3 with (_ | k3) | k3
  · (show _ = _; kernel_rfl)
  · rcases a4 with (_ | k4) | k4
    · (show _ = _; kernel_rfl)
    · (show _ = _; kernel_rfl)
    · (show _ = _; kernel_rfl)
  · rcases a4 with (_ | k4) | k4
    · (show _ = _; kernel_rfl)
    · (show _ = _; kernel_rfl)
    · (show _ = _; kernel_rfl)
set_option maxRecDepth 100000 in
theorem ends_5_4 (a0 a1 a2 a3 a4 : Int) : (symRun Try.prog noK [] 60 39 [.slice (ints (nums [a0, a1, a2, a3, a4])), .int .i64 (.c 4)] ⟨0, [], 0⟩).map (·.1) = some (.bool (ends [a0, a1, a2, a3, a4] 4)) := by
  rcases a4 with (_ | k4) | k4
  · (show _ = _; kernel_rfl)
  · (show _ = _; kernel_rfl)
  · (show _ = _; kernel_rfl)
set_option maxRecDepth 100000 in
theorem ends_6_0 (a0 a1 a2 a3 a4 a5 : Int) : (symRun Try.prog noK [] 60 39 [.slice (ints (nums [a0, a1, a2, a3, a4, a5])), .int .i64 (.c 0)] ⟨0, [], 0⟩).map (·.1) = some (.bool (ends [a0, a1, a2, a3, a4, a5] 0)) := by
  rcases a0 with (_ | k0) | k0
  · (show _ = _; kernel_rfl)
  · rcases a1 with (_ | k1) | k1
    · rcases a2 with (_ | k2) | k2
      · rcases a3 with (_ | k3) | k3
        · rcases a4 with (_ | k4) | k4
          · rcases a5 with (_ | k5) | k5
            · (show _ = _; kernel_rfl)
            · (show _ = _; kernel_rfl)
            · (show _ = _; kernel_rfl)
          · (show _ = _; kernel_rfl)
          · (show _ = _; kernel_rfl)
        · (show _ = _; kernel_rfl)
        · (show _ = _; kernel_rfl)
      · (show _ = _; kernel_rfl)
      · (show _ = _; kernel_rfl)
    · (show _ = _; kernel_rfl)
    · (show _ = _; kernel_rfl)
  · rcases a1 with (_ | k1) | k1
    · rcases a2 with (_ | k2) | k2
      · rcases a3 with (_ | k3) | k3
        · rcases a4 with (_ | k4) | k4
          · rcases a5 with (_ | k5) | k5
            · (show _ = _; kernel_rfl)
            · (show _ = _; kernel_rfl)
            · (show _ = _; kernel_rfl)
          · (show _ = _; kernel_rfl)
          · (show _ = _; kernel_rfl)
        · (show _ = _; kernel_rfl)
        · (show _ = _; kernel_rfl)
      · (show _ = _; kernel_rfl)
      · (show _ = _; kernel_rfl)
    · (show _ = _; kernel_rfl)
    · (show _ = _; kernel_rfl)
set_option maxRecDepth 100000 in
theorem ends_6_1 (a0 a1 a2 a3 a4 a5 : Int) : (symRun Try.prog noK [] 60 39 [.slice (ints (nums [a0, a1, a2, a3, a4, a5])), .int .i64 (.c 1)] ⟨0, [], 0⟩).map (·.1) = some (.bool (ends [a0, a1, a2, a3, a4, a5] 1)) := by
  rcases a1 with (_ | k1) | k1
  · (show _ = _; kernel_rfl)
  · rcases a2 with (_ | k2) | k2
    · rcases a3 with (_ | k3) | k3
      · rcases a4 with (_ | k4) | k4
        · rcases a5 with (_ | k5) | k5
          · (show _ = _; kernel_rfl)
          · (show _ = _; kernel_rfl)
          · (show _ = _; kernel_rfl)
        · (show _ = _; kernel_rfl)
        · (show _ = _; kernel_rfl)
      · (show _ = _; kernel_rfl)
      · (show _ = _; kernel_rfl)
    · (show _ = _; kernel_rfl)
    · (show _ = _; kernel_rfl)
  · rcases a2 with (_ | k2) | k2
    · rcases a3 with (_ | k3) | k3
      · rcases a4 with (_ | k4) | k4
        · rcases a5 with (_ | k5) | k5
          · (show _ = _; kernel_rfl)
          · (show _ = _; kernel_rfl)
          · (show _ = _; kernel_rfl)
        · (show _ = _; kernel_rfl)
        · (show _ = _; kernel_rfl)
      · (show _ = _; kernel_rfl)
      · (show _ = _; kernel_rfl)
    · (show _ = _; kernel_rfl)
    · (show _ = _; kernel_rfl)
set_option maxRecDepth 100000 in
theorem ends_6_2 (a0 a1 a2 a3 a4 a5 : Int) : (symRun Try.prog noK [] 60 39 [.slice (ints (nums [a0, a1, a2, a3, a4, a5])), .int .i64 (.c 2)] ⟨0, [], 0⟩).map (·.1) = some (.bool (ends [a0, a1, a2, a3, a4, a5] 2)) := by
  rcases a2 with (_ | k2) | k2
  · (show _ = _; kernel_rfl)
  · rcases a3 with (_ | k3) | k3
    · rcases a4 with (_ | k4) | k4
      · rcases a5 with (_ | k5) | k5
        · (show _ = _; kernel_rfl)
        · (show _ = _; kernel_rfl)
        · (show _ = _; kernel_rfl)
      · (show _ = _; kernel_rfl)
      · (show _ = _; kernel_rfl)
    · (show _ = _; kernel_rfl)
    · (show _ = _; kernel_rfl)
  · rcases a3 with (_ | k3) | k3
    · rcases a4 with (_ | k4) | k4
      · rcases a5 with (_ | k5) | k5
        · (show _ = _; kernel_rfl)
        · (show _ = _; kernel_rfl)
        · (show _ = _; kernel_rfl)
      · (show _ = _; kernel_rfl)
      · (show _ = _; kernel_rfl)
    · (show _ = _; kernel_rfl)
    · (show _ = _; kernel_rfl)
set_option maxRecDepth 100000 in
theorem ends_6_3 (a0 a1 a2 a3 a4 a5 : Int) : (symRun Try.prog noK [] 60 39 [.slice (ints (nums [a0, a1, a2, a3, a4, a5])), .int .i64 (.c 3)] ⟨0, [], 0⟩).map (·.1) = some (.bool (ends [a0, a1, a2, a3, a4, a5] 3)) := by
  rcases a3 with (_ | k3) | k3
  · (show _ = _; kernel_rfl)
  · rcases a4 with (_ | k4) | k4
    · rcases a5 with (_ | k5) | k5
      · (show _ = _; kernel_rfl)
      · (show _ = _; kernel_rfl)
      · (show _ = _; kernel_rfl)
    · (show _ = _; kernel_rfl)
    · (show _ = _; kernel_rfl)
  · rcases a4 with (_ | k4) | k4
    · rcases a5 with (_ | k5) | k5
      · (show _ = _; kernel_rfl)
      · (show _ = _; kernel_rfl)
      · (show _ = _; kernel_rfl)
    · (show _ = _; kernel_rfl)
    · (show _ = _; kernel_rfl)
set_option maxRecDepth 100000 in
theorem ends_6_4 (a0 a1 a2 a3 a4 a5 : Int) : (symRun Try.prog noK [] 60 39 [.slice (ints (nums [a0, a1, a2, a3, a4, a5])), .int .i64 (.c 4)] ⟨0, [], 0⟩).map (·.1) = some (.bool (ends [a0, a1, a2, a3, a4, a5] 4)) := by
  rcases a4 with (_ | k4) | k4
  · (show _ = _; kernel_rfl)
  · rcases a5 with (_ | k5) | k5
    · (show _ = _; kernel_rfl)
    · (show _ = _; kernel_rfl)
    · (show _ = _; kernel_rfl)
  · rcases a5 with (_ | k5) | k5
    · (show _ = _; kernel_rfl)
    · (show _ = _; kernel_rfl)
    · (show _ = _; kernel_rfl)
set_option maxRecDepth 100000 in
theorem ends_6_5 (a0 a1 a2 a3 a4 a5 : Int) : (symRun Try.prog noK [] 60 39 [.slice (ints (nums [a0, a1, a2, a3, a4, a5])), .int .i64 (.c 5)] ⟨0, [], 0⟩).map (·.1) = some (.bool (ends [a0, a1, a2, a3, a4, a5] 5)) := by
  rcases a5 with (_ | k5) | k5
  · (show _ = _; kernel_rfl)
  · (show _ = _; kernel_rfl)
  · (show _ = _; kernel_rfl)
theorem ends_run (zs : List Int) (n : Nat) (h : n < zs.length) (h6 : zs.length ≤ 6) : (symRun Try.prog noK [] 60 39 [patL zs, .int .i64 (.c n)] ⟨0, [], 0⟩).map (·.1) = some (.bool (ends zs n)) := by
  rcases zs with _ | ⟨a0, t⟩
  · simp at h
  rcases t with _ | ⟨a1, t⟩
  · have hn : n = 0 := by simp at h; omega
    rcases hn with rfl
    · exact ends_1_0 a0
  rcases t with _ | ⟨a2, t⟩
  · have hn : n = 0 ∨ n = 1 := by simp at h; omega
    rcases hn with rfl | rfl
    · exact ends_2_0 a0 a1
    · exact ends_2_1 a0 a1
  rcases t with _ | ⟨a3, t⟩
  · have hn : n = 0 ∨ n = 1 ∨ n = 2 := by simp at h; omega
    rcases hn with rfl | rfl | rfl
    · exact ends_3_0 a0 a1 a2
    · exact ends_3_1 a0 a1 a2
    · exact ends_3_2 a0 a1 a2
  rcases t with _ | ⟨a4, t⟩
  · have hn : n = 0 ∨ n = 1 ∨ n = 2 ∨ n = 3 := by simp at h; omega
    rcases hn with rfl | rfl | rfl | rfl
    · exact ends_4_0 a0 a1 a2 a3
    · exact ends_4_1 a0 a1 a2 a3
    · exact ends_4_2 a0 a1 a2 a3
    · exact ends_4_3 a0 a1 a2 a3
  rcases t with _ | ⟨a5, t⟩
  · have hn : n = 0 ∨ n = 1 ∨ n = 2 ∨ n = 3 ∨ n = 4 := by simp at h; omega
    rcases hn with rfl | rfl | rfl | rfl | rfl
    · exact ends_5_0 a0 a1 a2 a3 a4
    · exact ends_5_1 a0 a1 a2 a3 a4
    · exact ends_5_2 a0 a1 a2 a3 a4
    · exact ends_5_3 a0 a1 a2 a3 a4
    · exact ends_5_4 a0 a1 a2 a3 a4
  rcases t with _ | ⟨a6, t⟩
  · have hn : n = 0 ∨ n = 1 ∨ n = 2 ∨ n = 3 ∨ n = 4 ∨ n = 5 := by simp at h; omega
    rcases hn with rfl | rfl | rfl | rfl | rfl | rfl
    · exact ends_6_0 a0 a1 a2 a3 a4 a5
    · exact ends_6_1 a0 a1 a2 a3 a4 a5
    · exact ends_6_2 a0 a1 a2 a3 a4 a5
    · exact ends_6_3 a0 a1 a2 a3 a4 a5
    · exact ends_6_4 a0 a1 a2 a3 a4 a5
    · exact ends_6_5 a0 a1 a2 a3 a4 a5
  · simp at h6

theorem ends_iff : ∀ (zs : List Int) (n : Nat), ends zs n = true ↔ n < zs.length ∧ zs.getD n 0 ≠ 0 ∧ ∀ k, n < k → zs.getD k 0 = 0 := by
  intro zs
  induction zs with
  | nil => intro n; simp [ends]
  | cons z r ih =>
    intro n
    cases n with
    | zero =>
      have hall : (r.all fun x => ieq x 0) = true ↔ ∀ k, 0 < k → (z :: r).getD k 0 = 0 := by
        rw [List.all_eq_true]
        constructor
        · intro h k hk
          cases k with
          | zero => omega
          | succ k =>
            rw [getD_cons_succ']
            rcases Nat.lt_or_ge k r.length with hl | hl
            · have := h r[k] (List.getElem_mem hl)
              rw [ieq_eq] at this
              have := eq_of_beq this
              simp [List.getD, hl, this]
            · simp [List.getD, List.getElem?_eq_none hl]
        · intro h x hx
          obtain ⟨k, hk, rfl⟩ := List.mem_iff_getElem.1 hx
          have := h (k + 1) (by omega)
          rw [getD_cons_succ'] at this
          rw [ieq_eq]
          simp [List.getD, hk] at this
          simp [this]
      simp only [ends, bite_eq]
      by_cases hz : z = 0
      · subst hz
        simp [ieq]
      · have : ieq z 0 = false := by rw [ieq_eq]; simp [hz]
        rw [this]
        simp only [Bool.false_eq_true, if_false]
        rw [hall]
        simp [hz]
    | succ n =>
      simp only [ends]
      rw [ih n]
      simp only [List.length_cons, Nat.succ_lt_succ_iff, getD_cons_succ']
      constructor
      · rintro ⟨h1, h2, h3⟩
        refine ⟨h1, h2, fun k hk => ?_⟩
        cases k with
        | zero => omega
        | succ k => rw [getD_cons_succ']; exact h3 k (by omega)
      · rintro ⟨h1, h2, h3⟩
        exact ⟨h1, h2, fun k hk => by have := h3 (k + 1) (by omega); rwa [getD_cons_succ'] at this⟩

noncomputable def endF (zs : List Int) (n : Int) : Option Bool := bite (decide (0 ≤ n ∧ n < (zs.length : Int) ∧ zs.length ≤ 6)) (some (ends zs n.toNat)) none
def SeqP (zss : List (List Int)) : Prop := 1 ≤ zss.length ∧ zss.length ≤ 6 ∧ ∀ n, n < zss.length → (zss.getD n []).length = zss.length ∧ validP 1000000 (zss.getD n []) ∧ ends (zss.getD n []) n = true
open Classical in
noncomputable def seqB (zss : List (List Int)) : Bool := decide (SeqP zss)
noncomputable def KI : Ctr := orK (askK 16 fun zs => decide (validP 1000000 zs)) (askIK 39 endF)
noncomputable def KSp : Ctr := askK 21 fun zs => decide (validP 1000000 zs)
theorem KI_ok (ρ : Nat → Int) (s : Sms) (B : Nat) : COk Try.prog ⟨Sy.den ρ, s⟩ B KI := by
  refine orK_ok (askK_ok noCount mixed (body_of Try.func16 rfl) (fun zs hl => iv_ok zs hl)) (askIK_ok noCount mixed (body_of Try.func39 rfl) (fun zs n q h => ?_))
  unfold endF at h
  rw [bite_eq] at h
  split at h
  · rename_i hc
    have hc := of_decide_eq_true hc
    cases h
    have := ends_run zs n.toNat (by omega) hc.2.2
    rw [Int.toNat_of_nonneg hc.1] at this
    obtain ⟨⟨v, S⟩, h1, h2⟩ := Option.map_eq_some_iff.1 this
    cases h2
    exact ⟨noK, 60, S, fun _ _ _ => noK_ok, h1⟩
  · cases h
theorem KSp_ok (ρ : Nat → Int) (s : Sms) (B : Nat) : COk Try.prog ⟨Sy.den ρ, s⟩ B KSp := askK_ok noCount mixed (body_of Try.func21 rfl) (fun zs hl => sv_ok zs hl)
end Go.Proofs.Ytobdnpnohaonkaa.Seq

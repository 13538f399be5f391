/-
  Texts of small numbers: what spec.number answers, by runs. No condition.
-/
import Derived.Test.YtgaodlhdilhliaaDoorRows
import Derived.Test.YtgaodlhdilhliaaDoorSym
import Derived.Test.YtgaodlhdilhliaaDoorSymE
import Derived.Test.YtgaodlhdilhliaaDoorSymF
import Derived.Test.YtgaodlhdilhliaaDoorIds
import Derived.Test.YtgaodlhdilhliaaDoorSh
import Derived.Test.YtgaodlhdilhliaaDoorSt
import Derived.WalkKit
import Derived.ProofKit
import Derived.OpenShut
namespace Go.Proofs.YtgaodlhdilhliaaDoor.St
open Go.ChangeShapes Go.WideShapes Go.ChangeAt Go.RowKit Go.Sx Go.Proofs.YtgaodlhdilhliaaDoor.Ids
set_option linter.unusedVariables false
set_option linter.unusedSimpArgs false

noncomputable def natsB : List UInt8 → List Nat → Bool
  | [], [] => true
  | a :: r, b :: t => bite (Nat.beq a.toNat b) (natsB r t) false
  | _, _ => false
theorem natsB_eq : ∀ {l : List UInt8} {r : List Nat}, natsB l r = true → l = r.map UInt8.ofNat
  | [], [], _ => rfl
  | [], _ :: _, h => by cases h
  | _ :: _, [], h => by cases h
  | a :: l, b :: r, h => by
    simp only [natsB, bite_eq] at h
    split at h
    · rename_i e
      have e := Nat.eq_of_beq_eq_true e
      rw [List.map_cons, ← e, ← natsB_eq h, UInt8.ofNat_toNat]
    · cases h
noncomputable def digN (u : Nat) : List Nat := bite (Nat.blt u 10) [48 + u] (bite (Nat.blt u 100) [48 + u / 10, 48 + u % 10] [48 + u / 10 / 10, 48 + u / 10 % 10, 48 + u % 10])
theorem digN_eq {u : Nat} (h : u < 1000) : Lib.decDigits u = (digN u).map UInt8.ofNat := by
  unfold digN
  rw [bite_eq, bite_eq]
  by_cases h1 : u < 10
  · rw [if_pos (by rw [Nat.blt_eq]; exact h1), Lib.decDigits, dif_pos h1]; rfl
  · rw [if_neg (by rw [Nat.blt_eq]; exact h1), Lib.decDigits, dif_neg h1]
    by_cases h2 : u < 100
    · rw [if_pos (by rw [Nat.blt_eq]; exact h2), Lib.decDigits, dif_pos (by omega)]; rfl
    · rw [if_neg (by rw [Nat.blt_eq]; exact h2), Lib.decDigits, dif_neg (by omega), Lib.decDigits, dif_pos (by omega)]; rfl
noncomputable def strIs (l : List Nat) : Option (V Sy × Sto Sy) → Bool
  | some (.str s, ⟨0, [], 0⟩) => natsB s.data.toList l
  | _ => false
theorem strIs_eq {l : List Nat} {r : Option (V Sy × Sto Sy)} (h : strIs l r = true) : r = some (.str ⟨(l.map UInt8.ofNat).toArray⟩, ⟨0, [], 0⟩) := by
  unfold strIs at h
  split at h
  · rename_i s
    have h2 := natsB_eq h
    have : s = ⟨(l.map UInt8.ofNat).toArray⟩ := by rw [← h2]
    rw [this]
  · cases h
noncomputable def posAt (i : Nat) : Bool := strIs (digN i) (symRun Tryd.prog noK [] 60 36 [.int .i64 (.c (Int.ofNat i))] ⟨0, [], 0⟩)
noncomputable def negAt (i : Nat) : Bool := strIs (45 :: digN (i + 1)) (symRun Tryd.prog noK [] 60 36 [.int .i64 (.c (Int.negSucc i))] ⟨0, [], 0⟩)
set_option maxRecDepth 1000000 in
theorem pos_runs0 : allTo (fun i => posAt (i + 0)) 200 = true := by kernel_rfl
set_option maxRecDepth 1000000 in
theorem pos_runs1 : allTo (fun i => posAt (i + 200)) 200 = true := by kernel_rfl
set_option maxRecDepth 1000000 in
theorem pos_runs2 : allTo (fun i => posAt (i + 400)) 201 = true := by kernel_rfl
theorem pos_at {i : Nat} (h : i < 601) : posAt i = true := by
  rcases Nat.lt_or_ge i 200 with h1 | h1
  · exact allTo_ok pos_runs0 i h1
  · rcases Nat.lt_or_ge i 400 with h2 | h2
    · have := allTo_ok pos_runs1 (i - 200) (by omega)
      rwa [show i - 200 + 200 = i by omega] at this
    · have := allTo_ok pos_runs2 (i - 400) (by omega)
      rwa [show i - 400 + 400 = i by omega] at this
set_option maxRecDepth 1000000 in
theorem neg_runs0 : allTo (fun i => negAt (i + 0)) 200 = true := by kernel_rfl
set_option maxRecDepth 1000000 in
theorem neg_runs1 : allTo (fun i => negAt (i + 200)) 200 = true := by kernel_rfl
set_option maxRecDepth 1000000 in
theorem neg_runs2 : allTo (fun i => negAt (i + 400)) 200 = true := by kernel_rfl
theorem neg_at {i : Nat} (h : i < 600) : negAt i = true := by
  rcases Nat.lt_or_ge i 200 with h1 | h1
  · exact allTo_ok neg_runs0 i h1
  · rcases Nat.lt_or_ge i 400 with h2 | h2
    · have := allTo_ok neg_runs1 (i - 200) (by omega)
      rwa [show i - 200 + 200 = i by omega] at this
    · have := allTo_ok neg_runs2 (i - 400) (by omega)
      rwa [show i - 400 + 400 = i by omega] at this
theorem num_run {z : Int} (h : -600 ≤ z ∧ z ≤ 600) : symRun Tryd.prog noK [] 60 36 [.int .i64 (.c z)] ⟨0, [], 0⟩ = some (.str (textZ z), ⟨0, [], 0⟩) := by
  unfold textZ Lib.itoa
  cases z with
  | ofNat i =>
    have hi : i ≤ 600 := by have h2 : (i : Int) ≤ 600 := h.2; omega
    rw [strIs_eq (pos_at (i := i) (by omega)), if_neg (by show ¬ (i : Int) < 0; omega), ← digN_eq (by omega)]
    rfl
  | negSucc i =>
    have hi : i < 600 := by omega
    rw [strIs_eq (neg_at (i := i) (by omega)), if_pos (by omega), List.map_cons, ← digN_eq (by omega)]
    rfl
end Go.Proofs.YtgaodlhdilhliaaDoor.St

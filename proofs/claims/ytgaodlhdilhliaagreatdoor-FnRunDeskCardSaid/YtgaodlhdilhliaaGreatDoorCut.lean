/-
  Texts that are cut at a byte, and the digits of a number: lists alone. No condition.
-/
import Derived.Test.YtgaodlhdilhliaaGreatDoorRows
import Derived.Lib.Join
namespace Go.Proofs.YtgaodlhdilhliaaGreatDoor.St
open Go
set_option linter.unusedVariables false
set_option linter.unusedSimpArgs false

/-- The parts of a text between the bytes of a kind. -/
def cutL (c : UInt8) : List UInt8 → List (List UInt8)
  | [] => [[]]
  | a :: r => if a = c then [] :: cutL c r else match cutL c r with
    | [] => [[a]]
    | x :: t => (a :: x) :: t
theorem cutL_cons (c a : UInt8) (r : List UInt8) : cutL c (a :: r) = if a = c then [] :: cutL c r else match cutL c r with
    | [] => [[a]]
    | x :: t => (a :: x) :: t := rfl
theorem cutL_ne (c : UInt8) : ∀ l, cutL c l ≠ []
  | [] => by simp [cutL]
  | a :: r => by
    unfold cutL
    split
    · simp
    · split <;> simp
theorem cutL_none {c : UInt8} : ∀ {l : List UInt8}, c ∉ l → cutL c l = [l]
  | [], _ => rfl
  | a :: r, h => by
    have ih := cutL_none (c := c) (l := r) (fun h' => h (List.mem_cons_of_mem _ h'))
    unfold cutL
    rw [if_neg (fun e => h (by simp [e])), ih]
theorem cutL_hit {c : UInt8} : ∀ {l : List UInt8} (r : List UInt8), c ∉ l → cutL c (l ++ c :: r) = l :: cutL c r
  | [], r, _ => by simp [cutL]
  | a :: l, r, h => by
    have ih := cutL_hit (c := c) (l := l) r (fun h' => h (List.mem_cons_of_mem _ h'))
    rw [List.cons_append, cutL_cons, if_neg (fun e => h (by simp [e])), ih]
theorem join_cons2 (x y : List UInt8) (r : List (List UInt8)) (c : UInt8) : Lib.join (x :: y :: r) [c] = x ++ c :: Lib.join (y :: r) [c] := by
  simp [Lib.join_cons, Lib.joinTail]
theorem cutL_join (c : UInt8) : ∀ l, Lib.join (cutL c l) [c] = l
  | [] => by simp [cutL, Lib.join_one]
  | a :: r => by
    have ih := cutL_join c r
    have hn := cutL_ne c r
    unfold cutL
    cases h : cutL c r with
    | nil => exact (hn h).elim
    | cons x t =>
      rw [h] at ih
      split
      · rename_i e
        rw [join_cons2, ih, e]; rfl
      · simp only
        cases t with
        | nil => rw [Lib.join_one] at ih ⊢; rw [ih]
        | cons y t => rw [join_cons2] at ih ⊢; rw [List.cons_append, ih]
theorem join_cutL {c : UInt8} : ∀ {xs : List (List UInt8)}, xs ≠ [] → (∀ x, x ∈ xs → c ∉ x) → cutL c (Lib.join xs [c]) = xs
  | [], h, _ => (h rfl).elim
  | [x], _, h => by rw [Lib.join_one]; exact cutL_none (h x (by simp))
  | x :: y :: r, _, h => by
    rw [join_cons2, cutL_hit _ (h x (by simp)), join_cutL (xs := y :: r) (by simp) (fun z hz => h z (by simp [hz]))]
/-- Parts that are not empty are no more than half the bytes. -/
theorem join_half (c : UInt8) : ∀ (xs : List (List UInt8)) (i : Nat), i ≤ xs.length → (∀ x, x ∈ xs.take i → x ≠ []) → 2 * i ≤ (Lib.join xs [c]).length + 1
  | [], i, hi, _ => by simp at hi; omega
  | [x], i, hi, h => by
    rw [Lib.join_one]
    rcases Nat.eq_zero_or_pos i with rfl | hp
    · omega
    · have h1 : i = 1 := by simp at hi; omega
      subst h1
      have := h x (by simp)
      have := List.length_pos_iff.2 this
      omega
  | x :: y :: r, 0, hi, h => by omega
  | x :: y :: r, i + 1, hi, h => by
    have ih := join_half c (y :: r) i (by simp at hi ⊢; omega) (fun z hz => h z (by rw [List.take_succ_cons]; simp [hz]))
    have hx := List.length_pos_iff.2 (h x (by simp))
    rw [join_cons2, List.length_append, List.length_cons]
    omega
theorem cutL_len (c : UInt8) : ∀ l, (cutL c l).length ≤ l.length + 1
  | [] => by simp [cutL]
  | a :: r => by
    have ih := cutL_len c r
    unfold cutL
    split
    · simp; omega
    · split
      · simp
      · rename_i x t h
        rw [h] at ih
        simp at ih ⊢
        omega
theorem cutL_short {c : UInt8} : ∀ {l x}, x ∈ cutL c l → x.length ≤ l.length ∧ c ∉ x
  | [], x, h => by simp [cutL] at h; simp [h]
  | a :: r, x, h => by
    unfold cutL at h
    split at h
    · rcases List.mem_cons.1 h with rfl | h
      · simp
      · have := cutL_short h; exact ⟨by simp; omega, this.2⟩
    · rename_i hac
      split at h
      · rename_i h0
        exact ((cutL_ne c r) h0).elim
      · rename_i y t h0
        rcases List.mem_cons.1 h with rfl | h
        · have := cutL_short (l := r) (c := c) (x := y) (by rw [h0]; simp)
          refine ⟨by simp; omega, ?_⟩
          rw [List.mem_cons]
          rintro (e | e)
          · exact hac e.symm
          · exact this.2 e
        · have := cutL_short (l := r) (c := c) (x := x) (by rw [h0]; simp [h])
          exact ⟨by simp; omega, this.2⟩
/-- The digits of a number, as long as it is small. -/
def rdN : Nat → List UInt8 → Option Nat
  | n, [] => some n
  | n, a :: r => if a.toNat < 48 ∨ 57 < a.toNat ∨ 1000 < n then none else rdN (10 * n + (a.toNat - 48)) r
theorem rdN_bound : ∀ {l : List UInt8} {n u : Nat}, n ≤ 10009 → rdN n l = some u → u ≤ 10009
  | [], n, u, hn, h => by simp only [rdN] at h; cases h; exact hn
  | a :: r, n, u, hn, h => by
    simp only [rdN] at h
    split at h
    · cases h
    · exact rdN_bound (l := r) (by omega) h
end Go.Proofs.YtgaodlhdilhliaaGreatDoor.St

/-
  Sequences: copies of lists of lists, by runs by hand. No condition.
-/
import Derived.Test.YtpjenggjcpahaaaRows
import Derived.Test.YtpjenggjcpahaaaSym
import Derived.Test.YtpjenggjcpahaaaSymD
import Derived.Test.YtpjenggjcpahaaaSymE
import Derived.Test.YtpjenggjcpahaaaIds
import Derived.Test.YtpjenggjcpahaaaSeq
import Derived.Test.YtpjenggjcpahaaaSeqB
import Derived.Test.YtpjenggjcpahaaaSeqC
import Derived.Test.YtpjenggjcpahaaaSeqE
import Derived.Test.YtpjenggjcpahaaaSeqF
import Derived.WalkKit
import Derived.ProofKit
import Derived.OpenShut
namespace Go.Proofs.Ytpjenggjcpahaaa.Seq
open Go.ChangeShapes Go.WideShapes Go.ChangeAt Go.RowKit Go.Sx Go.Proofs.Ytpjenggjcpahaaa.Ids
set_option linter.unusedVariables false
set_option linter.unusedSimpArgs false

theorem trim_look2 {n0 q : Nat} {r : V Sy} {sto : Sto Sy} (hq : q ∈ deeper sto.obs r.refs) : Go.Sx.look (Sto.trim n0 r sto).obs q = Go.Sx.look sto.obs q := by
  unfold Sto.trim
  split
  · rfl
  · split
    · rename_i h; rw [h] at hq; cases hq
    · split
      · rename_i h; rw [h] at hq; cases hq
      · exact look_kept (List.contains_iff_mem.2 (List.mem_append.2 (.inl (List.mem_append.2 (.inr hq))))) _
/-- Rows, one object behind the other. -/
def rowsV : Nat → List (List Int) → List (V Sy)
  | _, [] => []
  | o, z :: r => .rsl o 0 z.length none :: rowsV (o + 1) r
theorem rowsV_len : ∀ (o : Nat) (l : List (List Int)), (rowsV o l).length = l.length
  | _, [] => rfl
  | o, z :: r => by simp [rowsV, rowsV_len (o + 1) r]
theorem rowsV_get : ∀ (o : Nat) (l : List (List Int)) (i : Nat), (rowsV o l)[i]? = l[i]?.map fun z => V.rsl (o + i) 0 z.length none
  | _, [], i => by simp [rowsV]
  | o, z :: r, 0 => by simp [rowsV]
  | o, z :: r, i + 1 => by
    simp only [rowsV, List.getElem?_cons_succ]
    rw [rowsV_get (o + 1) r i, show o + 1 + i = o + (i + 1) by omega]
theorem rowsV_refs : ∀ (o : Nat) (l : List (List Int)) (i : Nat), i < l.length → o + i ∈ refsL (rowsV o l)
  | _, [], i, h => by simp at h
  | o, z :: r, 0, h => by simp [rowsV, refsL, V.refs]
  | o, z :: r, i + 1, h => by
    simp only [rowsV, refsL, V.refs]
    refine List.mem_append.2 (.inr ?_)
    have := rowsV_refs (o + 1) r i (by simpa using h)
    rwa [show o + 1 + i = o + (i + 1) by omega] at this
theorem rowsV_one : ∀ (o : Nat) (l : List (List Int)), (rowsV o l).all V.oneCell = true
  | _, [] => rfl
  | o, z :: r => by simp [rowsV, V.oneCell, rowsV_one (o + 1) r]
/-- What has been copied so far. -/
def halfR (o : Nat) (zss : List (List Int)) (i : Nat) : List (V Sy) := rowsV o (zss.take i) ++ List.replicate (zss.length - i) V.nil
theorem halfR_len (o : Nat) (zss : List (List Int)) (i : Nat) (h : i ≤ zss.length) : (halfR o zss i).length = zss.length := by
  simp [halfR, rowsV_len, Nat.min_eq_left h]; omega
theorem halfR_set (o : Nat) (zss : List (List Int)) (i : Nat) (h : i < zss.length) : (halfR o zss i).set i (.rsl (o + i) 0 (zss.getD i []).length none) = halfR o zss (i + 1) := by
  apply List.ext_getElem?
  intro k
  have hl := halfR_len o zss i (by omega)
  rw [List.getElem?_set]
  have key : ∀ i, i ≤ zss.length → (halfR o zss i)[k]? = if k < i then zss[k]?.map (fun z => V.rsl (o + k) 0 z.length none) else if k < zss.length then some V.nil else none := by
    intro i hi
    unfold halfR
    by_cases hk : k < i
    · rw [if_pos hk, List.getElem?_append_left (by rw [rowsV_len]; simp; omega), rowsV_get, List.getElem?_take, if_pos hk]
    · rw [if_neg hk, List.getElem?_append_right (by rw [rowsV_len]; simp; omega), rowsV_len, List.getElem?_replicate, List.length_take, Nat.min_eq_left hi]
      by_cases h2 : k < zss.length
      · rw [if_pos (by omega), if_pos h2]
      · rw [if_neg (by omega), if_neg h2]
  rw [key i (by omega), key (i + 1) (by omega)]
  by_cases hk : i = k
  · subst hk
    rw [if_pos rfl, if_pos (by omega), if_pos (by omega)]
    simp [List.getD, h]
  · rw [if_neg hk]
    by_cases h1 : k < i
    · rw [if_pos h1, if_pos (by omega)]
    · rw [if_neg h1, if_neg (show ¬ k < i + 1 by omega)]
theorem halfR_nm (o : Nat) (zss : List (List Int)) (i : Nat) (h : i ≤ zss.length) : isMp (halfR o zss i) = false ∧ noBc (halfR o zss i) = halfR o zss i := by
  have key : ∀ x, x ∈ halfR o zss i → (∃ q l, x = V.rsl q 0 l none) ∨ x = V.nil := by
    intro x hx
    rcases List.mem_append.1 hx with hx | hx
    · obtain ⟨k, hk, rfl⟩ := List.mem_iff_getElem.1 hx
      have := rowsV_get o (zss.take i) k
      rw [List.getElem?_eq_getElem hk] at this
      obtain ⟨z, _, hz⟩ := Option.map_eq_some_iff.1 this.symm
      exact .inl ⟨_, _, hz.symm⟩
    · exact .inr (List.eq_of_mem_replicate hx)
  cases hh : halfR o zss i with
  | nil => exact ⟨rfl, rfl⟩
  | cons x r =>
    rw [hh] at key
    have hx := key x (by simp)
    cases r with
    | nil => rcases hx with ⟨q, l, rfl⟩ | rfl <;> exact ⟨rfl, rfl⟩
    | cons y r => rcases hx with ⟨q, l, rfl⟩ | rfl <;> exact ⟨rfl, rfl⟩
theorem halfR_one (o : Nat) (zss : List (List Int)) (i : Nat) : (halfR o zss i).all V.oneCell = true := by
  unfold halfR
  rw [List.all_append, rowsV_one, Bool.true_and, List.all_eq_true]
  intro x hx
  rw [List.eq_of_mem_replicate hx]; rfl
theorem halfR_all (o : Nat) (zss : List (List Int)) : halfR o zss zss.length = rowsV o zss := by simp [halfR]
theorem halfR_zero (o : Nat) (zss : List (List Int)) : halfR o zss 0 = List.replicate zss.length V.nil := by simp [halfR, rowsV]

/-- A list of lists that a run has made. -/
structure IsS (obs : List (Nat × Ob Sy)) (q : Nat) (zss : List (List Int)) (v : V Sy) : Prop where
  val : v = .rsl q 0 zss.length (some zss.length)
  obj : Go.Sx.look obs q = some (rowsV (q + 1) zss)
  row : ∀ j z, zss[j]? = some z → Go.Sx.look obs (q + 1 + j) = some (ints (nums z))
theorem IsS.rows {S : Sto Sy} {q : Nat} {zss : List (List Int)} {v : V Sy} (h : IsS S.obs q zss v) : rowsOf S v = some zss := by
  obtain ⟨rfl, ho, hr⟩ := h
  have hm : isMp (rowsV (q + 1) zss) = false := by rw [← halfR_all]; exact (halfR_nm _ _ _ (Nat.le_refl _)).1
  have he : S.elems (.rsl q 0 zss.length (some zss.length)) = some (rowsV (q + 1) zss) := by
    simp only [Sto.elems, Sto.cells, lookC, ho, hm]
    simp [rowsV_len, List.take_of_length_le]
  unfold rowsOf
  rw [he]
  have hc : capOk (.rsl q 0 zss.length (some zss.length) : V Sy) = true := by simp [capOk]
  simp only [hc, bite_true]
  have key : ∀ (l : List (List Int)) (o : Nat), (∀ j z, l[j]? = some z → Go.Sx.look S.obs (o + j) = some (ints (nums z))) → rowsFrom S (rowsV o l) = some l := by
    intro l
    induction l with
    | nil => intro o _; rfl
    | cons z r ih =>
      intro o h
      have h0 := h 0 z rfl
      rw [Nat.add_zero] at h0
      have e1 : constsOf S (.rsl o 0 z.length none) = some z := by
        have hl : S.elems (.rsl o 0 z.length none) = some (ints (nums z)) := by
          simp only [Sto.elems, Sto.cells, lookC_ints h0]
          simp [List.take_of_length_le]
        simp only [constsOf, hl, numsOf_nums, capOk, bite_true, consts_of]
      simp only [rowsV, rowsFrom, e1]
      rw [ih (o + 1) (fun j y hj => by have := h (j + 1) y (by simpa using hj); rwa [show o + (j + 1) = o + 1 + j by omega] at this)]
  exact key zss (q + 1) hr
theorem IsS.keep {a b : List (Nat × Ob Sy)} {q : Nat} {zss : List (List Int)} {v : V Sy} (h : IsS a q zss v) (hk : ∀ k x, Go.Sx.look a k = some x → Go.Sx.look b k = some x) : IsS b q zss v := ⟨h.val, hk _ _ h.obj, fun j z hz => hk _ _ (h.row j z hz)⟩
end Go.Proofs.Ytpjenggjcpahaaa.Seq

/-
  Laws over lists that are drawn and known; regions of open order by hand.
-/
import Derived.Test.YtgaodlhdilhliaaGreatDoorSym
import Derived.ProofKit
import Derived.OpenShut
import Derived.Lib.SmallJoins
set_option linter.unusedVariables false
set_option linter.unusedSimpArgs false
/-
  Regions of open order in which memory is read beside a call that reads bytes, by hand.
-/
namespace Go.Sx
open Go.RowKit

theorem takeNew_descL {I : Type} {n : Nat} : ∀ {m : Nat} {l : List (Nat × Ob I)}, Desc m l → Desc m (takeNew n l)
  | _, [], _ => trivial
  | m, (o, b) :: r, ⟨h1, h2⟩ => by
    simp only [takeNew, bite_eq]
    split
    · exact ⟨h1, takeNew_descL h2⟩
    · trivial
theorem desc_append {I : Type} {n : Nat} : ∀ {m : Nat} {l r : List (Nat × Ob I)}, Desc m l → (∀ q, q ∈ l → n ≤ q.1) → n ≤ m → Desc n r → Desc m (l ++ r)
  | m, [], r, _, _, hm, hr => by
    cases r with
    | nil => trivial
    | cons p r => obtain ⟨o, b⟩ := p; exact ⟨Nat.lt_of_lt_of_le hr.1 hm, hr.2⟩
  | m, (o, b) :: l, r, ⟨h1, h2⟩, hk, hm, hr => ⟨h1, desc_append h2 (fun q hq => hk q (by simp [hq])) (hk (o, b) (by simp)) hr⟩
section
variable {I : Type} {N : Num I} {T : TypeId → Option Ti} {C : FuncId → List (V I) → Sto I → Option (V I × Sto I)} {nt : Nat}
variable {L : Code → St I → Option (AExit × St I)} {Qn : St I → Prop} {Qx : AExit → St I → Prop}
end

theorem joined {bs : List Int} {o : Nat} {P Q : Int} {S s : Sto Sy} (h : Rdy bs o P S) (hn : Nw bs o Q [] ⟨S.next, onlyObs [o] S.obs, S.next⟩ s) :
    Nw bs o Q [] S ⟨s.next, takeNew S.next s.obs ++ over [o] s.obs S.obs, if Nat.blt s.low S.low then s.low else S.low⟩ ∧ ∀ k x, S.next ≤ k → look s.obs k = some x → look (takeNew S.next s.obs ++ over [o] s.obs S.obs) k = some x := by
  have hd := h.desc
  have hlt := h.lt
  obtain ⟨p, p1, p2⟩ := hn.rd
  have hs := p2.desc
  have hold : ∀ k, k < S.next → look (takeNew S.next s.obs) k = none := by
    intro k hk
    cases e : look (takeNew S.next s.obs) k with
    | none => rfl
    | some x =>
      exfalso
      obtain ⟨q, hq, hqk⟩ : ∃ q, q ∈ takeNew S.next s.obs ∧ q.1 = k := by
        generalize takeNew S.next s.obs = l at e
        induction l with
        | nil => cases e
        | cons a r ih =>
          obtain ⟨k', b⟩ := a
          rw [look_cons] at e
          by_cases hk' : k' = k
          · exact ⟨(k', b), by simp, hk'⟩
          · rw [if_neg (by first | exact hk' | exact fun h => hk' h.symm)] at e
            obtain ⟨q, h1, h2⟩ := ih e
            exact ⟨q, by simp [h1], h2⟩
      have := takeNew_key hq
      omega
  have hobj : look (takeNew S.next s.obs ++ over [o] s.obs S.obs) o = look s.obs o := by
    rw [look_append, hold o hlt]
    simp only
    rw [over_look, if_pos (by simp)]
    obtain ⟨p', _, h3⟩ := h
    rw [h3.obj]; rfl
  refine ⟨⟨⟨p, p1, by rw [show (Sto.obs ⟨s.next, takeNew S.next s.obs ++ over [o] s.obs S.obs, if Nat.blt s.low S.low then s.low else S.low⟩ : List (Nat × Ob Sy)) = takeNew S.next s.obs ++ over [o] s.obs S.obs from rfl, hobj]; exact p2.obj,
    desc_append (takeNew_descL hs) (fun q hq => takeNew_key hq) hn.next (over_desc hd), p2.p0⟩, hn.next, ?_, fun k x hk _ hl => ?_⟩, fun k x hk hl => ?_⟩
  · have := hn.low
    show (if Nat.blt s.low S.low then s.low else S.low) ≤ o
    by_cases h1 : s.low < S.low
    · rw [if_pos (by rw [Nat.blt_eq]; exact h1)]; exact this
    · rw [if_neg (by rw [Nat.blt_eq]; exact h1)]; omega
  · show look (takeNew S.next s.obs ++ over [o] s.obs S.obs) k = some x
    rw [look_append, hold k (hd.look_lt hl)]
    simp only
    rw [over_look, if_neg (by simp; exact hk)]
    exact hl
  · rw [look_append, look_takeNew hk hs, hl]

end Go.Sx

/-
  Lists that are drawn, as they stand.
-/
namespace Go.Sx
open Go.RowKit

end Go.Sx

/-
  Laws over lists that are drawn, with what is told besides; at lists that are known.
-/
namespace Go.Sx
open Go.RowKit

theorem numsOf_nums : ∀ zs : List Int, numsOf (ints (nums zs)) = some (nums zs)
  | [] => rfl
  | a :: r => by
    have := numsOf_nums r
    simp only [ints, nums, List.map_cons] at this ⊢
    simp only [numsOf, this]
theorem consts_of : ∀ zs : List Int, consts (nums zs) = some zs
  | [] => rfl
  | a :: r => by
    have := consts_of r
    simp only [nums, List.map_cons] at this ⊢
    simp only [consts, this]
end Go.Sx


/-
  Laws over lists that are drawn and known; regions of open order by hand.
-/
import Derived.Test.YtgaodlhdilhliaaGreatDoorSym
import Derived.ProofKit
import Derived.OpenShut
import Derived.Lib.SmallJoins
set_option linter.unusedVariables false
set_option linter.unusedSimpArgs false
/-
  Regions of open order in which memory is read beside a call that reads bytes, by hand.
-/
namespace Go.Sx
open Go.RowKit

theorem descB_of {I : Type} : ∀ {n : Nat} {l : List (Nat × Ob I)}, Desc n l → descB n l = true
  | _, [], _ => rfl
  | n, (o, b) :: r, ⟨h1, h2⟩ => by
    simp only [descB, Bool.and_eq_true]
    exact ⟨by rw [Nat.blt_eq]; exact h1, descB_of h2⟩
theorem takeNew_descL {I : Type} {n : Nat} : ∀ {m : Nat} {l : List (Nat × Ob I)}, Desc m l → Desc m (takeNew n l)
  | _, [], _ => trivial
  | m, (o, b) :: r, ⟨h1, h2⟩ => by
    simp only [takeNew, bite_eq]
    split
    · exact ⟨h1, takeNew_descL h2⟩
    · trivial
theorem desc_append {I : Type} {n : Nat} : ∀ {m : Nat} {l r : List (Nat × Ob I)}, Desc m l → (∀ q, q ∈ l → n ≤ q.1) → n ≤ m → Desc n r → Desc m (l ++ r)
  | m, [], r, _, _, hm, hr => by
    cases r with
    | nil => trivial
    | cons p r => obtain ⟨o, b⟩ := p; exact ⟨Nat.lt_of_lt_of_le hr.1 hm, hr.2⟩
  | m, (o, b) :: l, r, ⟨h1, h2⟩, hk, hm, hr => ⟨h1, desc_append h2 (fun q hq => hk q (by simp [hq])) (hk (o, b) (by simp)) hr⟩
theorem obsIn_of {I : Type} {ok : Nat → Bool} {R : List Nat} : ∀ {n : Nat} {l : List (Nat × Ob I)}, Desc n l → (∀ k, R.contains k = true → ∀ b, look l k = some b → inNs ok b = true) → obsIn ok (onlyObs R l) = true
  | _, [], _, _ => rfl
  | n, (o, b) :: r, ⟨h1, h2⟩, h => by
    have ht : ∀ k, R.contains k = true → ∀ b', look r k = some b' → inNs ok b' = true := fun k hk b' hb' => h k hk b' (by
      have := h2.look_lt hb'
      rw [look_cons, if_neg (by omega)]; exact hb')
    simp only [onlyObs]
    split
    · rename_i hc
      simp only [obsIn, Bool.and_eq_true]
      exact ⟨h o hc b (by rw [look_cons, if_pos rfl]), obsIn_of h2 ht⟩
    · exact obsIn_of h2 ht

section
variable {I : Type} {N : Num I} {T : TypeId → Option Ti} {C : FuncId → List (V I) → Sto I → Option (V I × Sto I)} {nt : Nat}
variable {L : Code → St I → Option (AExit × St I)} {Qn : St I → Prop} {Qx : AExit → St I → Prop}
/-- A region of open order, the second way. -/
theorem drawX {id : Nat} {ops : Array Oper} {st st' : St I} {tm2 : Tr (V I)} {s2 : Sto I} (p : Nat) (h0 : (okDraw2 ops.toList).map (·.2) = some p) (hm : mixes ops.toList = true) (h1 : dstsOk2 nt (ops.toList.take p) = true)
    (hn : ∀ F, dhead N T C nt ops.toList F st.sto 0 st.sto.next (ops.toList.take p) st.tm [] = none) (h2 : ∀ F, xhead N T C nt ops.toList F 0 st.sto.next st.sto.low (ops.toList.take p) st.tm st.sto.obs [] = some (tm2, s2))
    (h3 : aops N T C nt ops.toList (ops.toList.drop p) ⟨tm2, s2⟩ = some st') (h : Qn st') : Wp N T C nt (adraw N T C nt) L (.region id ops true) st Qn Qx := by
  have hp : lead ops.toList (befs ops.toList []) = p := by
    cases he : okDraw2 ops.toList with
    | none => rw [he] at h0; cases h0
    | some Fp =>
      rw [he] at h0
      simp only [okDraw2] at he
      split at he
      · cases he; cases h0; rfl
      · cases he
  have ha0 : adraw0 N T C nt ops.toList st = none := by
    simp only [adraw0]
    cases he : okDraw ops.toList with
    | none => rfl
    | some Fp =>
      simp only [okDraw] at he
      split at he
      · cases he
        simp only [hp, hn, bite_eq]
        split <;> rfl
      · cases he
  refine Wp.drawn ?_ h
  simp only [adraw, ha0, hm, bite_true, xdraw]
  cases he : okDraw2 ops.toList with
  | none => rw [he] at h0; cases h0
  | some Fp =>
    obtain ⟨F, q⟩ := Fp
    rw [he] at h0
    cases h0
    simp only [h1, bite_true, h2, h3]
end

theorem joined {bs : List Int} {o : Nat} {P Q : Int} {S s : Sto Sy} (h : Rdy bs o P S) (hn : Nw bs o Q [] ⟨S.next, onlyObs [o] S.obs, S.next⟩ s) :
    Nw bs o Q [] S ⟨s.next, takeNew S.next s.obs ++ over [o] s.obs S.obs, if Nat.blt s.low S.low then s.low else S.low⟩ ∧ ∀ k x, S.next ≤ k → look s.obs k = some x → look (takeNew S.next s.obs ++ over [o] s.obs S.obs) k = some x := by
  have hd := h.desc
  have hlt := h.lt
  obtain ⟨p, p1, p2⟩ := hn.rd
  have hs := p2.desc
  have hold : ∀ k, k < S.next → look (takeNew S.next s.obs) k = none := by
    intro k hk
    cases e : look (takeNew S.next s.obs) k with
    | none => rfl
    | some x =>
      exfalso
      obtain ⟨q, hq, hqk⟩ : ∃ q, q ∈ takeNew S.next s.obs ∧ q.1 = k := by
        generalize takeNew S.next s.obs = l at e
        induction l with
        | nil => cases e
        | cons a r ih =>
          obtain ⟨k', b⟩ := a
          rw [look_cons] at e
          by_cases hk' : k' = k
          · exact ⟨(k', b), by simp, hk'⟩
          · rw [if_neg (by first | exact hk' | exact fun h => hk' h.symm)] at e
            obtain ⟨q, h1, h2⟩ := ih e
            exact ⟨q, by simp [h1], h2⟩
      have := takeNew_key hq
      omega
  have hobj : look (takeNew S.next s.obs ++ over [o] s.obs S.obs) o = look s.obs o := by
    rw [look_append, hold o hlt]
    simp only
    rw [over_look, if_pos (by simp)]
    obtain ⟨p', _, h3⟩ := h
    rw [h3.obj]; rfl
  refine ⟨⟨⟨p, p1, by rw [show (Sto.obs ⟨s.next, takeNew S.next s.obs ++ over [o] s.obs S.obs, if Nat.blt s.low S.low then s.low else S.low⟩ : List (Nat × Ob Sy)) = takeNew S.next s.obs ++ over [o] s.obs S.obs from rfl, hobj]; exact p2.obj,
    desc_append (takeNew_descL hs) (fun q hq => takeNew_key hq) hn.next (over_desc hd), p2.p0⟩, hn.next, ?_, fun k x hk _ hl => ?_⟩, fun k x hk hl => ?_⟩
  · have := hn.low
    show (if Nat.blt s.low S.low then s.low else S.low) ≤ o
    by_cases h1 : s.low < S.low
    · rw [if_pos (by rw [Nat.blt_eq]; exact h1)]; exact this
    · rw [if_neg (by rw [Nat.blt_eq]; exact h1)]; omega
  · show look (takeNew S.next s.obs ++ over [o] s.obs S.obs) k = some x
    rw [look_append, hold k (hd.look_lt hl)]
    simp only
    rw [over_look, if_neg (by simp; exact hk)]
    exact hl
  · rw [look_append, look_takeNew hk hs, hl]

theorem rdyOnly {bs : List Int} {o : Nat} {P : Int} {S : Sto Sy} (h : Rdy bs o P S) : Rdy bs o P ⟨S.next, onlyObs [o] S.obs, S.next⟩ := by
  obtain ⟨p, p1, p2⟩ := h
  exact ⟨p, p1, by show look (onlyObs [o] S.obs) o = _; rw [onlyObs_look, if_pos (by simp)]; exact p2.obj, onlyObs_desc p2.desc, p2.p0⟩
theorem onlyObs_nil {I : Type} : ∀ l : List (Nat × Ob I), onlyObs [] l = []
  | [] => rfl
  | (o, b) :: r => by simp [onlyObs, onlyObs_nil r]
theorem inNs_u8s {ok : Nat → Bool} (bs : List Int) : inNs ok (u8s bs) = true := by
  induction bs with
  | nil => rfl
  | cons b r ih => simpa [u8s, inNs, V.inN] using ih
theorem inNs_nums {ok : Nat → Bool} (zs : List Int) : inNs ok (ints (nums zs)) = true := by
  induction zs with
  | nil => rfl
  | cons b r ih => simpa [ints, nums, inNs, V.inN] using ih
theorem refs_nums (zs : List Int) : refsL (ints (nums zs)) = [] := by
  induction zs with
  | nil => rfl
  | cons b r ih => simpa [ints, nums, refsL, V.refs] using ih

end Go.Sx

/-
  Lists that are drawn, as they stand.
-/
namespace Go.Sx
open Go.RowKit

end Go.Sx

/-
  Laws over lists that are drawn, with what is told besides; at lists that are known.
-/
namespace Go.Sx
open Go.RowKit

theorem numsOf_nums : ∀ zs : List Int, numsOf (ints (nums zs)) = some (nums zs)
  | [] => rfl
  | a :: r => by
    have := numsOf_nums r
    simp only [ints, nums, List.map_cons] at this ⊢
    simp only [numsOf, this]
theorem consts_of : ∀ zs : List Int, consts (nums zs) = some zs
  | [] => rfl
  | a :: r => by
    have := consts_of r
    simp only [nums, List.map_cons] at this ⊢
    simp only [consts, this]
end Go.Sx


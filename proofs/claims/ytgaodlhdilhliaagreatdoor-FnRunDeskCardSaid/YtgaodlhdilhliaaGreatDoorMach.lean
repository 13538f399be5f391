/-
  A machine over the model, proved right, third part: statements, functions, regions of open order, panics.
-/
import Derived.Test.YtgaodlhdilhliaaGreatDoorMachB
set_option linter.unusedVariables false
set_option linter.unusedSimpArgs false
/-
  Whatever the order: the head's operations write nothing that is older, the tail's are forced.
-/
namespace Go.Sx
open Go.RowKit

section
variable {I : Type} {N : Num I} {Δ : Den I} {P : Program} {T : TypeId → Option Ti} {C : FuncId → List (V I) → Sto I → Option (V I × Sto I)} {B : Nat} {c : Cx} {st : St I} {sto : Sto I} {a : Act}

/-! ### Lists of objects -/
theorem Desc.lower {α : Type} {n m : Nat} : ∀ {l : List (Nat × α)}, Desc n l → (∀ q, q ∈ l → q.1 < m) → Desc m l
  | [], _, _ => trivial
  | (o, b) :: r, ⟨_, h2⟩, h => ⟨h (o, b) (by simp), h2⟩

theorem Desc.append {α : Type} {n m : Nat} (hnm : n ≤ m) : ∀ {l r : List (Nat × α)}, Desc m l → (∀ q, q ∈ l → n ≤ q.1) → Desc n r → Desc m (l ++ r)
  | [], r, _, _, hr => hr.mono hnm
  | (o, b) :: l, r, ⟨h1, h2⟩, hk, hr => ⟨h1, Desc.append (hk (o, b) (by simp)) h2 (fun q hq => hk q (by simp [hq])) hr⟩

theorem look_append {α : Type} {l r : List (Nat × α)} {o : Nat} : look (l ++ r) o = match look l o with
    | some x => some x
    | none => look r o := by
  induction l with
  | nil => simp [look]
  | cons p l ih =>
    obtain ⟨k, x⟩ := p
    rw [List.cons_append, look_cons, look_cons]
    by_cases h : k = o
    · simp [h]
    · simp [h, ih]

theorem look_mem {α : Type} {l : List (Nat × α)} {o : Nat} {x : α} (h : look l o = some x) : (o, x) ∈ l := by
  induction l with
  | nil => simp [look] at h
  | cons p l ih =>
    obtain ⟨k, y⟩ := p
    rw [look_cons] at h
    split at h
    · rename_i e; cases h; subst e; simp
    · simp [ih h]

theorem takeNew_sub {n0 : Nat} : ∀ {n : Nat} {l : List (Nat × Ob I)}, Desc n l → Desc n (takeNew n0 l) ∧ (∀ q, q ∈ takeNew n0 l → n0 ≤ q.1) ∧ ∀ o x, look (takeNew n0 l) o = some x → look l o = some x
  | n, [], _ => ⟨trivial, by simp [takeNew], by simp [takeNew, look]⟩
  | n, (o, b) :: r, ⟨h1, h2⟩ => by
    obtain ⟨e1, e2, e3⟩ := takeNew_sub (n0 := n0) h2
    simp only [takeNew, bite_eq]
    split
    · rename_i hle
      have hle : n0 ≤ o := by simpa [Nat.ble_eq] using hle
      refine ⟨⟨h1, e1⟩, fun q hq => ?_, fun o' x hx => ?_⟩
      · rcases List.mem_cons.1 hq with rfl | hq
        · exact hle
        · exact e2 q hq
      · rw [look_cons] at hx ⊢
        split at hx
        · rename_i e; rw [if_pos e]; exact hx
        · rename_i e; rw [if_neg e]; exact e3 o' x hx
    · exact ⟨trivial, by simp, by simp [look]⟩

/-- The objects of the operations in L, of the first k. -/
def NL (nw : Nat → List (Nat × Ob I)) (L : Nat → Bool) : Nat → List (Nat × Ob I)
  | 0 => []
  | k + 1 => if L k then nw k ++ NL nw L k else NL nw L k

theorem NL_ext (nw : Nat → List (Nat × Ob I)) {L L' : Nat → Bool} : ∀ k, (∀ j, j < k → L j = L' j) → NL nw L k = NL nw L' k := by
  intro k
  induction k with
  | zero => intro _; rfl
  | succ k ih => intro h; simp only [NL, ih (fun j hj => h j (by omega)), h k (by omega)]

theorem look_NL {nw : Nat → List (Nat × Ob I)} {L : Nat → Bool} {R : List (Nat × Ob I)} {o : Nat} {x : Ob I} : ∀ k, look (NL nw L k ++ R) o = some x →
    (∃ j, j < k ∧ L j = true ∧ look (nw j) o = some x) ∨ look R o = some x := by
  intro k
  induction k with
  | zero => intro h; exact .inr (by simpa [NL] using h)
  | succ k ih =>
    intro h
    simp only [NL] at h
    split at h
    · rename_i hL
      rw [List.append_assoc, look_append] at h
      split at h
      · rename_i y hy; cases h; exact .inl ⟨k, by omega, hL, hy⟩
      · rcases ih h with ⟨j, h1, h2, h3⟩ | h4
        · exact .inl ⟨j, by omega, h2, h3⟩
        · exact .inr h4
    · rcases ih h with ⟨j, h1, h2, h3⟩ | h4
      · exact .inl ⟨j, by omega, h2, h3⟩
      · exact .inr h4

/-- One operation's objects more turn nothing that is none of them. -/
theorem look_NL_skip {nw : Nat → List (Nat × Ob I)} {L L' : Nat → Bool} {R : List (Nat × Ob I)} {o i : Nat} (hi : look (nw i) o = none) (hL : ∀ j, j ≠ i → L' j = L j) : ∀ k,
    look (NL nw L' k ++ R) o = look (NL nw L k ++ R) o := by
  intro k
  induction k with
  | zero => rfl
  | succ k ih =>
    simp only [NL]
    by_cases hk : k = i
    · subst hk
      cases L' k <;> cases L k <;> simp [List.append_assoc, look_append (l := nw k), hi, ih]
    · rw [hL k hk]
      split
      · rw [List.append_assoc, List.append_assoc, look_append (l := nw k), look_append (l := nw k), ih]
      · exact ih

theorem desc_NL {nw : Nat → List (Nat × Ob I)} {L : Nat → Bool} {R : List (Nat × Ob I)} {base : Nat → Nat} (hbm : ∀ i j, i ≤ j → base i ≤ base j) (hR : Desc (base 0) R) : ∀ k, (∀ j, j < k → L j = true → Desc (base (j + 1)) (nw j) ∧ ∀ q, q ∈ nw j → base j ≤ q.1) →
    Desc (base k) (NL nw L k ++ R) := by
  intro k
  induction k with
  | zero => intro _; simpa [NL] using hR
  | succ k ih =>
    intro h
    have ih' := ih (fun j hj => h j (by omega))
    have hle : base k ≤ base (k + 1) := hbm _ _ (by omega)
    simp only [NL]
    split
    · rename_i hL
      rw [List.append_assoc]
      exact Desc.append hle (h k (by omega) hL).1 (h k (by omega) hL).2 ih'
    · exact ih'.mono hle

/-! ### The run of the head -/
section
variable (nt : Nat) (ops : List Oper)

/-- The temporaries in the order of the text. -/
noncomputable def tmT (v : Nat → V I) (tm : Tr (V I)) : Nat → Tr (V I)
  | 0 => tm
  | k + 1 => setTm nt (tmT v tm k) ((ops[k]?).bind (·.dst)) (v k)

noncomputable def accOf (nw : Nat → List (Nat × Ob I)) : Nat → List (Nat × List (Nat × Ob I))
  | 0 => []
  | k + 1 => addN k (nw k) (accOf nw k)
end

theorem tmT_ext {nt : Nat} {ops : List Oper} {v v' : Nat → V I} {tm : Tr (V I)} : ∀ k, (∀ j, j < k → v j = v' j) → tmT nt ops v tm k = tmT nt ops v' tm k := by
  intro k
  induction k with
  | zero => intro _; rfl
  | succ k ih => intro h; simp only [tmT, ih (fun j hj => h j (by omega)), h k (by omega)]

theorem accOf_ext {nw nw' : Nat → List (Nat × Ob I)} : ∀ k, (∀ j, j < k → nw j = nw' j) → accOf nw k = accOf nw' k := by
  intro k
  induction k with
  | zero => intro _; rfl
  | succ k ih => intro h; simp only [accOf, ih (fun j hj => h j (by omega)), h k (by omega)]

theorem joinN_acc (nw : Nat → List (Nat × Ob I)) (deps : List Nat) : ∀ k, joinN deps (accOf nw k) = NL nw (fun j => deps.contains j) k := by
  intro k
  induction k with
  | zero => rfl
  | succ k ih =>
    simp only [accOf, NL]
    cases hn : nw k with
    | nil => simp only [addN, ih]; split <;> simp
    | cons p r => simp only [addN, joinN, ih]

theorem allN_acc (nw : Nat → List (Nat × Ob I)) : ∀ k, allN (accOf nw k) = NL nw (fun _ => true) k := by
  intro k
  induction k with
  | zero => rfl
  | succ k ih =>
    simp only [accOf, NL, if_true]
    cases hn : nw k with
    | nil => simp [addN, ih]
    | cons p r => simp [addN, allN, ih]

/-- What is known of the head's operation i. -/
def HeadAt (N : Num I) (T : TypeId → Option Ti) (C : FuncId → List (V I) → Sto I → Option (V I × Sto I)) (nt : Nat) (ops : List Oper) (F : List (List Nat)) (S : Sto I) (tm : Tr (V I)) (base : Nat → Nat)
    (v : Nat → V I) (nw : Nat → List (Nat × Ob I)) (wt : Nat → Bool) (i : Nat) : Prop :=
  base i ≤ base (i + 1) ∧ ∃ o, ops[i]? = some o ∧ wants ops (seenBy nt ops F S (base i) i o (tmT nt ops v tm i) (accOf nw i)) o = some (wt i) ∧
    (wt i = true → ∃ s, aop N T C (seenBy nt ops F S (base i) i o (tmT nt ops v tm i) (accOf nw i)) o = some (v i, s) ∧ base i ≤ s.low ∧ s.next ≤ base (i + 1) ∧ nw i = takeNew (base i) s.obs) ∧
    (wt i = false → v i = .any ∧ nw i = [])

theorem dhead_run {nt : Nat} {ops : List Oper} {F : List (List Nat)} {S : Sto I} {tm tm' : Tr (V I)} {acc' : List (Nat × List (Nat × Ob I))} {nx' p : Nat} (hp : p ≤ ops.length)
    (hs : dhead N T C nt ops F S 0 S.next (ops.take p) tm [] = some (tm', acc', nx')) :
    ∃ (base : Nat → Nat) (v : Nat → V I) (nw : Nat → List (Nat × Ob I)) (wt : Nat → Bool), base 0 = S.next ∧ (∀ i, p ≤ i → base i = base p) ∧ (∀ i, i < p → HeadAt N T C nt ops F S tm base v nw wt i) ∧ tm' = tmT nt ops v tm p ∧ acc' = accOf nw p ∧ nx' = base p := by
  have key : ∀ k, k ≤ p → ∃ (base : Nat → Nat) (v : Nat → V I) (nw : Nat → List (Nat × Ob I)) (wt : Nat → Bool), base 0 = S.next ∧ (∀ i, k ≤ i → base i = base k) ∧ (∀ i, i < k → HeadAt N T C nt ops F S tm base v nw wt i) ∧
      dhead N T C nt ops F S k (base k) ((ops.take p).drop k) (tmT nt ops v tm k) (accOf nw k) = some (tm', acc', nx') := by
    intro k
    induction k with
    | zero => intro _; exact ⟨fun _ => S.next, fun _ => .any, fun _ => [], fun _ => true, rfl, fun _ _ => rfl, by simp, by simpa [tmT, accOf] using hs⟩
    | succ k ih =>
      intro hk
      obtain ⟨base, v, nw, wt, hb0, hbc, h1, h2⟩ := ih (by omega)
      have hlt : k < (ops.take p).length := by rw [List.length_take]; omega
      have hlt2 : k < ops.length := by omega
      rw [List.drop_eq_getElem_cons hlt] at h2
      have hok : ops[k]? = some ((ops.take p)[k]) := by rw [List.getElem_take]; exact List.getElem?_eq_getElem hlt2
      generalize (ops.take p)[k] = o at h2 hok
      simp only [dhead] at h2
      have hstep : ∀ (nx : Nat) (x : V I) (l : List (Nat × Ob I)) (b : Bool), base k ≤ nx →
          (wants ops (seenBy nt ops F S (base k) k o (tmT nt ops v tm k) (accOf nw k)) o = some b ∧
            (b = true → ∃ s, aop N T C (seenBy nt ops F S (base k) k o (tmT nt ops v tm k) (accOf nw k)) o = some (x, s) ∧ base k ≤ s.low ∧ s.next ≤ nx ∧ l = takeNew (base k) s.obs) ∧
            (b = false → x = .any ∧ l = [])) →
          dhead N T C nt ops F S (k + 1) nx ((ops.take p).drop (k + 1)) (setTm nt (tmT nt ops v tm k) o.dst x) (addN k l (accOf nw k)) = some (tm', acc', nx') →
          ∃ (base : Nat → Nat) (v : Nat → V I) (nw : Nat → List (Nat × Ob I)) (wt : Nat → Bool), base 0 = S.next ∧ (∀ i, k + 1 ≤ i → base i = base (k + 1)) ∧ (∀ i, i < k + 1 → HeadAt N T C nt ops F S tm base v nw wt i) ∧
            dhead N T C nt ops F S (k + 1) (base (k + 1)) ((ops.take p).drop (k + 1)) (tmT nt ops v tm (k + 1)) (accOf nw (k + 1)) = some (tm', acc', nx') := by
        intro nx x l b hnx g1 g2
        have e0 : ∀ i, i ≤ k → (if i ≤ k then base i else nx) = base i := fun i hi => if_pos hi
        have e1 : ∀ i, i ≤ k → tmT nt ops (fun j => if j = k then x else v j) tm i = tmT nt ops v tm i := fun i hi => tmT_ext i (fun j hj => by rw [if_neg (by omega)])
        have e2 : ∀ i, i ≤ k → accOf (fun j => if j = k then l else nw j) i = accOf nw i := fun i hi => accOf_ext i (fun j hj => by rw [if_neg (by omega)])
        refine ⟨fun i => if i ≤ k then base i else nx, fun j => if j = k then x else v j, fun j => if j = k then l else nw j, fun j => if j = k then b else wt j, ?_, fun i hi => ?_, fun i hi => ?_, ?_⟩
        · simp only [Nat.zero_le, if_true]; exact hb0
        · show (if i ≤ k then base i else nx) = (if k + 1 ≤ k then base (k + 1) else nx)
          rw [if_neg (by omega), if_neg (by omega)]
        · by_cases hik : i = k
          · subst hik
            refine ⟨by show (if i ≤ i then base i else nx) ≤ (if i + 1 ≤ i then base (i + 1) else nx); rw [if_pos (Nat.le_refl _), if_neg (by omega)]; exact hnx, o, hok, ?_⟩
            rw [e1 i (Nat.le_refl _), e2 i (Nat.le_refl _)]
            have hne : ¬ (i + 1 ≤ i) := by omega
            simpa [hne] using g1
          · obtain ⟨k0, o', k1, k2⟩ := h1 i (by omega)
            have hi1 : i ≤ k := by omega
            have hi2 : i + 1 ≤ k := by omega
            refine ⟨by simp only [hi1, hi2, if_true]; exact k0, o', k1, ?_⟩
            rw [e1 i (by omega), e2 i (by omega)]
            simpa [hik, hi1, hi2] using k2
        · have hne : ¬ (k + 1 ≤ k) := by omega
          simp only [tmT, accOf, e1 k (Nat.le_refl _), e2 k (Nat.le_refl _), hok, Option.bind_some, if_true, hne, if_false]
          exact g2
      split at h2
      · rename_i hw
        split at h2
        · rename_i x s hx
          rw [bite_eq] at h2
          split at h2
          · rename_i hc
            rw [Bool.and_eq_true, Nat.ble_eq, Nat.ble_eq] at hc
            exact hstep s.next x _ true hc.2 ⟨hw, fun _ => ⟨s, hx, hc.1, Nat.le_refl _, rfl⟩, by simp⟩ h2
          · cases h2
        · cases h2
      · rename_i hw
        exact hstep (base k) .any [] false (Nat.le_refl _) ⟨hw, by simp, fun _ => ⟨rfl, rfl⟩⟩ h2
      · cases h2
  obtain ⟨base, v, nw, wt, hb0, hbc, h1, h2⟩ := key p (Nat.le_refl _)
  have : (ops.take p).drop p = [] := List.drop_eq_nil_of_le (by rw [List.length_take]; omega)
  rw [this] at h2
  simp only [dhead, Option.some.injEq, Prod.mk.injEq] at h2
  exact ⟨base, v, nw, wt, hb0, hbc, h1, h2.1.symm, h2.2.1.symm, h2.2.2.symm⟩

theorem base_mono {base : Nat → Nat} {p : Nat} (h : ∀ i, i < p → base i ≤ base (i + 1)) (hc : ∀ i, p ≤ i → base i = base p) : ∀ i j, i ≤ j → base i ≤ base j := by
  intro i j hij
  induction j with
  | zero => have : i = 0 := by omega
            subst this; exact Nat.le_refl _
  | succ j ih =>
    by_cases he : i = j + 1
    · subst he; exact Nat.le_refl _
    · refine Nat.le_trans (ih (by omega)) ?_
      by_cases hj : j < p
      · exact h j hj
      · rw [hc j (by omega), hc (j + 1) (by omega)]; exact Nat.le_refl _

/-- What a temporary is in the order of the text: the last one's value, or what it was. -/
theorem tmT_get {nt : Nat} {ops : List Oper} {v : Nat → V I} {tm : Tr (V I)} : ∀ k t, (tmT nt ops v tm k).get .any t = .any ∨
    (∃ j, j < k ∧ (ops[j]?).bind (·.dst) = some t ∧ (tmT nt ops v tm k).get .any t = v j) ∨ ((∀ j, j < k → (ops[j]?).bind (·.dst) ≠ some t) ∧ (tmT nt ops v tm k).get .any t = tm.get .any t) := by
  intro k
  induction k with
  | zero => intro t; exact .inr (.inr ⟨by simp, rfl⟩)
  | succ k ih =>
    intro t
    simp only [tmT]
    have lift : ∀ x : V I, (ops[k]?).bind (·.dst) ≠ some t → (x = .any ∨ (∃ j, j < k ∧ (ops[j]?).bind (·.dst) = some t ∧ x = v j) ∨ ((∀ j, j < k → (ops[j]?).bind (·.dst) ≠ some t) ∧ x = tm.get .any t)) →
        (x = .any ∨ (∃ j, j < k + 1 ∧ (ops[j]?).bind (·.dst) = some t ∧ x = v j) ∨ ((∀ j, j < k + 1 → (ops[j]?).bind (·.dst) ≠ some t) ∧ x = tm.get .any t)) := by
      intro x hk h
      rcases h with h | ⟨j, h1, h2, h3⟩ | ⟨h1, h2⟩
      · exact .inl h
      · exact .inr (.inl ⟨j, by omega, h2, h3⟩)
      · refine .inr (.inr ⟨fun j hj => ?_, h2⟩)
        by_cases hjk : j = k
        · subst hjk; exact hk
        · exact h1 j (by omega)
    cases hd : (ops[k]?).bind (·.dst) with
    | none => exact lift _ (by rw [hd]; simp) (ih t)
    | some d =>
      simp only [setTm, bite_eq]
      split
      · exact .inl rfl
      · refine Tr.set_all (d := V.any) (tmT nt ops v tm k) d (fun m x => x = .any ∨ (∃ j, j < k + 1 ∧ (ops[j]?).bind (·.dst) = some m ∧ x = v j) ∨ ((∀ j, j < k + 1 → (ops[j]?).bind (·.dst) ≠ some m) ∧ x = tm.get .any m))
          (fun m => .inl rfl) (.inr (.inl ⟨k, by omega, hd, rfl⟩)) (fun m hm => ?_) t
        have ih' := ih m
        rcases ih' with h | ⟨j, h1, h2, h3⟩ | ⟨h1, h2⟩
        · exact .inl h
        · exact .inr (.inl ⟨j, by omega, h2, h3⟩)
        · refine .inr (.inr ⟨fun j hj => ?_, h2⟩)
          by_cases hjk : j = k
          · subst hjk; rw [hd]; intro e; exact hm (Option.some.inj e).symm
          · exact h1 j (by omega)

theorem keepOnly_get (ks : List Nat) (st : St I) : ∀ (tm : Tr (V I)) (t : Nat), (keepOnly ks st tm).get .any t = .any ∨ (t ∈ ks ∧ (keepOnly ks st tm).get .any t = st.tm.get .any t) ∨ (keepOnly ks st tm).get .any t = tm.get .any t := by
  induction ks with
  | nil => intro tm t; exact .inr (.inr rfl)
  | cons k r ih =>
    intro tm t
    simp only [keepOnly]
    rcases ih (tm.set .any (st.tm.get .any k) k) t with h | ⟨h1, h2⟩ | h
    · exact .inl h
    · exact .inr (.inl ⟨by simp [h1], h2⟩)
    · rw [h]
      exact Tr.set_all (d := V.any) tm k (fun m x => x = .any ∨ (m ∈ k :: r ∧ x = st.tm.get .any m) ∨ x = tm.get .any m) (fun m => .inl rfl) (.inr (.inl ⟨by simp, rfl⟩)) (fun m hm => .inr (.inr rfl)) t

end
end Go.Sx

namespace Go.Sx
open Go.RowKit

section
variable {I : Type} {N : Num I} {Δ : Den I} {P : Program} {T : TypeId → Option Ti} {C : FuncId → List (V I) → Sto I → Option (V I × Sto I)} {B : Nat} {c : Cx} {st : St I} {sto : Sto I} {a : Act}

/-- The tail: one operation after the other. -/
theorem tail_sound (hN : N.Ok Δ) (hG : NoCount P) (hT : TOk P T) (hC : COkY P Δ B C) {nt : Nat} {ops : Array Oper} {ro : Option Nat} {n : Nat} {Q : Exit → Act → World → Prop} {F : List (List Nat)} {p : Nat}
    (hb : befOk ops.toList F = true) (hch : chain ops.toList F p = true) {c0 : Cx} {sto0 : Sto I} {st' : St I} {dl : List Deferred} (hQ : After Δ B c0 sto0 nt st' dl (Q .normal)) :
    ∀ (fuel q : Nat) (listed : Array Bool) (s : St I) (c : Cx) (a : Act), listed.size = ops.size → p ≤ q → q + fuel = ops.size → (∀ i, listed.getD i false = decide (i < q)) →
      aops N T C nt ops.toList (ops.toList.drop q) s = some st' → Step Δ B c0 sto0 c s.sto → TmR Δ B c s.tm a.tmps → a.tmps.size = nt → a.defers = dl → wpAnyIn (Fw ro) n P .any ops Q fuel listed a c.w := by
  intro fuel
  induction fuel with
  | zero =>
    intro q listed s c a hsz hpq hq hl hs hst htm hnt hd
    have hdrop : ops.toList.drop q = [] := List.drop_eq_nil_of_le (by simp; omega)
    rw [hdrop] at hs
    simp [aops] at hs
    subst hs
    refine ⟨?_, hQ c a hst htm hnt (.of_eq hd)⟩
    rw [List.eq_nil_iff_forall_not_mem]
    intro i hi
    obtain ⟨h1, h2, _⟩ := (mem_ready hsz).1 hi
    rw [hl] at h2
    simp at h2; omega
  | succ fuel ih =>
    intro q listed s c a hsz hpq hq hl hs hst htm hnt hd
    have hlt : q < ops.size := by omega
    have hlt' : q < ops.toList.length := by simpa using hlt
    have hq0 : ops.toList[q]? = some ops[q] := by simp [hlt]
    have hbefq := befOk_lt hb
    have hmemq : q ∈ Region.ready .any ops listed := (mem_ready hsz).2 ⟨hlt, by rw [hl]; simp, ops[q], by simp [hlt], fun k hk => by rw [hl]; simpa using hbefq q _ hq0 k hk⟩
    refine ⟨fun hr => absurd (hr ▸ hmemq) (by simp), fun i hi => ?_⟩
    obtain ⟨h1, h2, o, ho, h3⟩ := (mem_ready hsz).1 hi
    rw [hl] at h2
    have hiq : i = q := by
      have hge : q ≤ i := by simpa using h2
      rcases Nat.lt_or_ge q i with hlt2 | hge2
      · exfalso
        have ho' : ops.toList[i]? = some o := by simpa using ho
        have hF : q ∈ F.getD i [] := by
          have hc' := hch
          unfold chain at hc'
          rw [List.all_eq_true] at hc'
          have := hc' i (List.mem_range.2 (by simpa using h1))
          rw [Bool.or_eq_true] at this
          rcases this with this | this
          · have : i < p := by simpa using this
            omega
          · rw [List.all_eq_true] at this
            simpa using this q (List.mem_range.2 hlt2)
        have := bef_sub hb (L := fun j => listed.getD j false) (fun i o ho hLi k hk => by
          have hki := hbefq i o ho k hk
          simp only [hl] at hLi ⊢
          simp at hLi ⊢; omega) i o ho' h3 q hF
        simp [hl] at this
      · omega
    subst hiq
    have hoi : o = ops[i] := by rw [Array.getElem?_eq_getElem h1] at ho; exact (Option.some.inj ho).symm
    subst hoi
    rw [List.drop_eq_getElem_cons hlt'] at hs
    simp only [aops, Array.getElem_toList] at hs
    have hnext : ∀ j, (listed.setIfInBounds i true).getD j false = decide (j < i + 1) := by
      intro j
      rw [getD_set (by omega) j, hl]
      rw [Bool.eq_iff_iff]; simp; omega
    simp only [wpOpIn, ho]
    split at hs
    · rename_i hw
      split at hs
      · rename_i v s1 hop
        have hok := aop_sound hN hG hT hC hst.inv htm hop
        rw [if_pos (by rw [wants_sound htm hw])]
        refine hok _ _ _ _ (fun u c' hout => ?_)
        obtain ⟨g1, g2⟩ := hout
        have htm' := (htm.mono g1.le).set g2 ops[i].dst
        rw [hnt] at htm'
        exact ih (i + 1) (listed.setIfInBounds i true) _ c' (a.put ops[i].dst u) (by simpa using hsz) (by omega) (by omega) hnext hs (hst.trans g1) htm' (by rw [put_size, hnt]) (by rw [put_defers]; exact hd)
      · cases hs
    · rename_i hw
      rw [if_neg (by rw [wants_sound htm hw]; simp)]
      have hun : VR Δ B c (.tup ([] : List (V I))) undef := .tup rfl (fun i x v hx _ => by simp at hx)
      have htm' := htm.set hun ops[i].dst
      rw [hnt] at htm'
      exact ⟨fun _ _ => trivial, ih (i + 1) (listed.setIfInBounds i true) ⟨setTm nt s.tm ops[i].dst (.tup []), s.sto⟩ c (a.put ops[i].dst undef) (by simpa using hsz) (by omega) (by omega) hnext hs hst htm' (by rw [put_size, hnt]) (by rw [put_defers]; exact hd)⟩
    · cases hs

/-- A context that knows the objects below a number alone. -/
def Cx.cut (c : Cx) (m : Nat) : Cx := ⟨c.w, fun o => if o < m then c.κ o else none⟩

theorem Cx.cut_le {m : Nat} : Cx.le B (c.cut m) c := ⟨fun _ _ => rfl, fun o x h => (by simp only [Cx.cut] at h; split at h; exact h; cases h), .refl _⟩
theorem Cx.cut_mono {m m' : Nat} (h : m ≤ m') : Cx.le B (c.cut m) (c.cut m') :=
  ⟨fun _ _ => rfl, fun o x hx => (by
    simp only [Cx.cut] at hx ⊢
    split at hx
    · rename_i ho; rw [if_pos (by omega)]; exact hx
    · cases hx), .refl _⟩

/-- What holds while the operations in L of the head have run. -/
structure HInv (Δ : Den I) (B : Nat) (base : Nat → Nat) (ops : List Oper) (p : Nat) (S : Sto I) (c0 : Cx) (f0 : Nat → V I) (v : Nat → V I) (nw : Nat → List (Nat × Ob I)) (L : Nat → Bool) (c : Cx) (tmps : Array Value) : Prop where
  step : Step Δ B c0 S c ⟨base p, NL nw L p ++ S.obs, S.low⟩
  below : Below c0.w.heap.size c0.w c.w
  val : ∀ t j, j < p → (ops[j]?).bind (·.dst) = some t → L j = true → VR Δ B (c.cut (base (j + 1))) (v j) (tmps.getD t undef)
  ini : ∀ t, (∀ j, j < p → (ops[j]?).bind (·.dst) = some t → L j = false) → VR Δ B c0 (f0 t) (tmps.getD t undef)
  obs : ∀ j, j < p → L j = true → Desc (base (j + 1)) (nw j) ∧ (∀ q, q ∈ nw j → base j ≤ q.1) ∧
    ∀ o x, look (nw j) o = some x → ∃ b cur e, c.κ o = some (b, e) ∧ c.w.heap[b]? = some cur ∧ ObR Δ B (c.cut (base (j + 1))) x cur e
  free : ∀ j, j < p → L j = false → ∀ o, base j ≤ o → o < base (j + 1) → c.κ o = none

/-- What the head's operation sees holds of the context cut at its numbers. -/
theorem HInv.sees {S : Sto I} {base : Nat → Nat} (hb0 : base 0 = S.next) (hbm : ∀ i j, i ≤ j → base i ≤ base j) {ops : List Oper} {F : List (List Nat)} {p : Nat} {c0 : Cx} {f0 : Nat → V I} {v : Nat → V I} {nw : Nat → List (Nat × Ob I)} {L : Nat → Bool} {tmps : Array Value} (h : HInv Δ B base ops p S c0 f0 v nw L c tmps)
    (h0 : SInv Δ B c0 S) {i : Nat} (hip : i < p) (hdeps : ∀ j, j ∈ F.getD i [] → j < i ∧ L j = true) :
    SInv Δ B (c.cut (base i)) ⟨base i, NL nw (fun j => (F.getD i []).contains j) i ++ S.obs, base i⟩ ∧ Cx.le B c0 (c.cut (base i)) := by
  have hle0 : Cx.le B c0 (c.cut (base i)) := by
    refine ⟨fun b hb => h.step.below.block b hb, fun o x hx => ?_, h.step.oth⟩
    have ho : o < S.next := by
      rcases Nat.lt_or_ge o S.next with h1 | h1
      · exact h1
      · rw [h0.fresh o h1] at hx; cases hx
    simp only [Cx.cut]
    rw [if_pos (by have := hbm 0 i (Nat.zero_le i); rw [hb0] at this; omega)]
    exact h.step.κ o x hx
  refine ⟨⟨h.step.inv.base, fun o ho => by simp only [Cx.cut]; rw [if_neg (by simp only at ho; omega)], fun o b n hk => ?_, fun o x hx => ?_, fun o o' x x' b n n' hx hx' hk hk' => ?_, ?_, h.step.inv.g⟩, hle0⟩
  · simp only [Cx.cut] at hk
    split at hk
    · exact h.step.inv.blk o b n hk
    · cases hk
  · rcases look_NL i hx with ⟨j, hj, hd, hl⟩ | hl
    · have hd' := hdeps j (by simpa using hd)
      obtain ⟨k1, k2, k3⟩ := h.obs j (by omega) hd'.2
      obtain ⟨b, cur, e, e1, e2, e4⟩ := k3 o x hl
      have hlt : o < base i := Nat.lt_of_lt_of_le (k1.look_lt hl) (hbm _ _ (by omega))
      exact ⟨b, cur, e, by simp only [Cx.cut]; rw [if_pos hlt]; exact e1, e2, e4.mono (Cx.cut_mono (hbm _ _ (by omega)))⟩
    · obtain ⟨b, cur, e, e1, e2, e4⟩ := h0.ob o x hl
      refine ⟨b, cur, e, hle0.κ _ _ e1, ?_, e4.mono hle0⟩
      show c.w.heap[b]? = _
      rw [h.below.block b (h0.blk _ _ _ e1).2]; exact e2
  · -- what is seen is there
    have hsee : ∀ {o x}, look (NL nw (fun j => (F.getD i []).contains j) i ++ S.obs) o = some x → ∃ x', look (NL nw L p ++ S.obs) o = some x' := by
      intro o x hx
      have hsome : ∀ k, (look S.obs o ≠ none ∨ ∃ j, j < k ∧ L j = true ∧ look (nw j) o ≠ none) → look (NL nw L k ++ S.obs) o ≠ none := by
        intro k
        induction k with
        | zero =>
          rintro (h | ⟨j, h, _⟩)
          · simpa [NL] using h
          · omega
        | succ k ih =>
          intro hh
          simp only [NL]
          have hrec : (look S.obs o ≠ none ∨ ∃ j, j < k ∧ L j = true ∧ look (nw j) o ≠ none) ∨ (L k = true ∧ look (nw k) o ≠ none) := by
            rcases hh with hh | ⟨j, h1, h2, h3⟩
            · exact .inl (.inl hh)
            · by_cases hjk : j = k
              · subst hjk; exact .inr ⟨h2, h3⟩
              · exact .inl (.inr ⟨j, by omega, h2, h3⟩)
          split
          · rw [List.append_assoc, look_append]
            cases hk : look (nw k) o with
            | some y => simp
            | none =>
              rcases hrec with hr | ⟨_, hr⟩
              · exact ih hr
              · exact absurd hk hr
          · rename_i hLk
            rcases hrec with hr | ⟨hr, _⟩
            · exact ih hr
            · exact absurd hr hLk
      cases hl : look (NL nw L p ++ S.obs) o with
      | some y => exact ⟨y, rfl⟩
      | none =>
        refine absurd hl (hsome p ?_)
        rcases look_NL i hx with ⟨j, hj, hd, hl⟩ | hl
        · exact .inr ⟨j, by omega, (hdeps j (by simpa using hd)).2, by rw [hl]; simp⟩
        · exact .inl (by rw [hl]; simp)
    obtain ⟨y, hy⟩ := hsee hx
    obtain ⟨y', hy'⟩ := hsee hx'
    have hcut : ∀ {o x}, (c.cut (base i)).κ o = some x → c.κ o = some x := fun hk => Cx.cut_le (B := B).κ _ _ hk
    exact h.step.inv.inj o o' y y' b n n' hy hy' (hcut hk) (hcut hk')
  · exact desc_NL hbm (by rw [hb0]; exact h0.desc) i (fun j hj hd => by
      have hd' := hdeps j (by simpa using hd)
      exact ⟨(h.obs j (by omega) hd'.2).1, (h.obs j (by omega) hd'.2).2.1⟩)

/-- One operation of the head more has run. -/
theorem HInv.next {S : Sto I} {base : Nat → Nat} (hb0 : base 0 = S.next) (hbm : ∀ i j, i ≤ j → base i ≤ base j) {ops : List Oper} {p : Nat} {c0 : Cx} {f0 : Nat → V I} {v : Nat → V I} {nw : Nat → List (Nat × Ob I)} {L L' : Nat → Bool} (h : HInv Δ B base ops p S c0 f0 v nw L c a.tmps)
    (h0 : SInv Δ B c0 S) {i : Nat} (hip : i < p) (hLi : L i = false) (hL' : ∀ j, L' j = (L j || j == i)) {SI : Sto I} (hSI : SI.next = base i) (hSIl : SI.low = base i)
    (hsee : SInv Δ B (c.cut (base i)) SI) {c' : Cx} {s : Sto I} (hst : Step Δ B (c.cut (base i)) SI c' s) (hlow : base i ≤ s.low) (hnx : s.next ≤ base (i + 1))
    (hnw : nw i = takeNew (base i) s.obs) {u : Value} (hv : VR Δ B c' (v i) u) {t : Nat} (hdst : (ops[i]?).bind (·.dst) = some t) (ht : t < a.tmps.size)
    (huniq : ∀ j, j < p → j ≠ i → (ops[j]?).bind (·.dst) ≠ some t) :
    ∃ c'', c''.w = c'.w ∧ HInv Δ B base ops p S c0 f0 v nw L' c'' (a.put (some t) u).tmps := by
  have hbe : Below c.w.heap.size c.w c'.w := hst.pure hsee (by rw [hSI]; exact hlow)
  -- what the operation has named
  have hnew : ∀ o x, c'.κ o = some x → (o < base i ∧ c.κ o = some x) ∨ (base i ≤ o ∧ o < base (i + 1) ∧ c.w.heap.size ≤ x.1) := by
    intro o x hx
    cases hk : (c.cut (base i)).κ o with
    | some y =>
      have := hst.κ o y hk
      rw [hx] at this; cases this
      simp only [Cx.cut] at hk
      split at hk
      · rename_i ho; exact .inl ⟨ho, hk⟩
      · cases hk
    | none =>
      have h1 := hst.new o x hx hk
      rw [hSI] at h1
      refine .inr ⟨h1, ?_, ?_⟩
      · rcases Nat.lt_or_ge o s.next with h2 | h2
        · omega
        · rw [hst.inv.fresh o h2] at hx; cases hx
      · rcases Nat.lt_or_ge x.1 c.w.heap.size with h2 | h2
        · obtain ⟨o', n', k1, k2⟩ := hst.old o x.1 x.2 hx hk h2
          have : o' < base i := by
            simp only [Cx.cut] at k1
            split at k1
            · assumption
            · cases k1
          omega
        · exact h2
  let c'' : Cx := ⟨c'.w, fun o => if base i ≤ o ∧ o < base (i + 1) then c'.κ o else c.κ o⟩
  have hle1 : Cx.le B c' (c''.cut (base (i + 1))) := by
    refine ⟨fun _ _ => rfl, fun o x hx => ?_, .refl _⟩
    simp only [Cx.cut, c'']
    rcases hnew o x hx with ⟨h1, h2⟩ | ⟨h1, h2, _⟩
    · rw [if_pos (by have := hbm i (i + 1) (by omega); omega), if_neg (by omega)]; exact h2
    · rw [if_pos h2, if_pos ⟨h1, h2⟩]; exact hx
  have hκ : ∀ o x, c.κ o = some x → c''.κ o = some x := by
    intro o x hx
    simp only [c'']
    by_cases ho : base i ≤ o ∧ o < base (i + 1)
    · rw [h.free i hip hLi o ho.1 ho.2] at hx; cases hx
    · rw [if_neg ho]; exact hx
  have hheap : ∀ b, b < c.w.heap.size → c'.w.heap[b]? = c.w.heap[b]? := hbe.block
  have hleB : ∀ b, b < B → c'.w.heap[b]? = c.w.heap[b]? := fun b hb => hheap b (Nat.lt_of_lt_of_le hb h.step.inv.base)
  have hle2 : Cx.le B c c'' := ⟨hleB, hκ, .of_lt hheap⟩
  have hle3 : ∀ m, Cx.le B (c.cut m) (c''.cut m) := by
    intro m
    refine ⟨hleB, fun o x hx => ?_, .of_lt hheap⟩
    simp only [Cx.cut] at hx ⊢
    split at hx
    · rename_i ho; rw [if_pos ho]; exact hκ o x hx
    · cases hx
  have hsd : Desc s.next s.obs := hst.inv.desc
  obtain ⟨td, tk, tl⟩ := takeNew_sub (n0 := base i) hsd
  rw [← hnw] at td tk tl
  have hdi : Desc (base (i + 1)) (nw i) := td.mono hnx
  have hobi : ∀ o x, look (nw i) o = some x → ∃ b cur e, c''.κ o = some (b, e) ∧ c'.w.heap[b]? = some cur ∧ ObR Δ B (c''.cut (base (i + 1))) x cur e := by
    intro o x hx
    obtain ⟨b, cur, e, e1, e2, e4⟩ := hst.inv.ob o x (tl o x hx)
    have h1 : base i ≤ o := tk _ (look_mem hx)
    have h2 : o < base (i + 1) := hdi.look_lt hx
    exact ⟨b, cur, e, by simp only [c'']; rw [if_pos ⟨h1, h2⟩]; exact e1, e2, e4.mono hle1⟩
  have hLj : ∀ j, j ≠ i → L' j = L j := by intro j hj; rw [hL']; simp [hj]
  have hLi' : L' i = true := by rw [hL']; simp
  -- the objects of the others
  have hobj : ∀ j, j < p → L j = true → ∀ o x, look (nw j) o = some x → ∃ b cur e, c''.κ o = some (b, e) ∧ b < c.w.heap.size ∧ c'.w.heap[b]? = some cur ∧ ObR Δ B (c''.cut (base (j + 1))) x cur e := by
    intro j hj hL o x hx
    obtain ⟨b, cur, e, e1, e2, e4⟩ := (h.obs j hj hL).2.2 o x hx
    have hbl := (h.step.inv.blk o b _ e1).2
    exact ⟨b, cur, e, hκ _ _ e1, hbl, by rw [hheap b hbl]; exact e2, e4.mono (hle3 _)⟩
  have hobS : ∀ o x, look S.obs o = some x → ∃ b cur e, c''.κ o = some (b, e) ∧ b < c.w.heap.size ∧ c'.w.heap[b]? = some cur ∧ ObR Δ B c'' x cur e := by
    intro o x hx
    obtain ⟨b, cur, e, e1, e2, e4⟩ := h0.ob o x hx
    have hbl := (h0.blk o b _ e1).2
    have hbl2 : b < c.w.heap.size := Nat.lt_of_lt_of_le hbl h.below.size
    exact ⟨b, cur, e, hκ _ _ (h.step.κ _ _ e1), hbl2, by rw [hheap b hbl2, h.below.block b hbl]; exact e2, e4.mono (h.step.le.trans hle2)⟩
  refine ⟨c'', rfl, ⟨⟨⟨?_, ?_, ?_, ?_, ?_, ?_, fun w hb => h.step.inv.g w ((hbe.mono h.step.inv.base).keepC.trans hb)⟩, fun o x hx => hκ _ _ (h.step.κ o x hx), h.step.below.trans (hbe.mono h.step.inv.base), h.step.next, Nat.le_refl _, ?_, ?_, ?_, fun a ha => (by rw [hst.frz a (Nat.lt_of_lt_of_le ha h.step.below.size)]; exact h.step.frz a ha), h.step.oth.trans (.of_lt hheap)⟩, ?_, ?_, ?_, ?_, ?_⟩⟩
  · exact Nat.le_trans h.step.inv.base hbe.size
  · intro o ho
    simp only at ho
    have : base (i + 1) ≤ base p := hbm _ _ hip
    simp only [c'']
    rw [if_neg (by omega)]
    exact h.step.inv.fresh o ho
  · intro o b n hk
    simp only [c''] at hk
    split at hk
    · exact hst.inv.blk o b n hk
    · have := h.step.inv.blk o b n hk
      exact ⟨this.1, Nat.lt_of_lt_of_le this.2 hbe.size⟩
  · intro o x hx
    rcases look_NL p hx with ⟨j, hj, hLj', hl⟩ | hl
    · by_cases hji : j = i
      · subst hji
        obtain ⟨b, cur, e, e1, e2, e4⟩ := hobi o x hl
        exact ⟨b, cur, e, e1, e2, e4.mono Cx.cut_le⟩
      · rw [hLj j hji] at hLj'
        obtain ⟨b, cur, e, e1, _, e2, e4⟩ := hobj j hj hLj' o x hl
        exact ⟨b, cur, e, e1, e2, e4.mono Cx.cut_le⟩
    · obtain ⟨b, cur, e, e1, _, e2, e4⟩ := hobS o x hl
      exact ⟨b, cur, e, e1, e2, e4⟩
  · -- two objects, one block
    have key : ∀ {o x}, look (NL nw L' p ++ S.obs) o = some x → (look (nw i) o = some x ∧ ∀ b n, c''.κ o = some (b, n) → c.w.heap.size ≤ b) ∨
        ((∃ x', look (NL nw L p ++ S.obs) o = some x') ∧ ∀ b n, c''.κ o = some (b, n) → b < c.w.heap.size ∧ c.κ o = some (b, n)) := by
      intro o x hx
      cases hi : look (nw i) o with
      | some y =>
        left
        have h1 : base i ≤ o := tk _ (look_mem hi)
        have h2 : o < base (i + 1) := hdi.look_lt hi
        have hxy : x = y := by
          rcases look_NL p hx with ⟨j, hj, hLj', hl⟩ | hl
          · by_cases hji : j = i
            · subst hji; rw [hi] at hl; exact (Option.some.inj hl).symm
            · rw [hLj j hji] at hLj'
              obtain ⟨k1, k2, _⟩ := h.obs j hj hLj'
              have h3 := k1.look_lt hl
              have h4 := k2 _ (look_mem hl)
              simp only at h4
              rcases Nat.lt_or_ge j i with h5 | h5
              · have := hbm (j + 1) i (by omega); omega
              · have := hbm (i + 1) j (by omega); omega
          · have h3 := h0.desc.look_lt hl
            have := hbm 0 i (Nat.zero_le i)
            rw [hb0] at this; omega
        subst hxy
        refine ⟨rfl, fun b n hk => ?_⟩
        simp only [c''] at hk
        rw [if_pos ⟨h1, h2⟩] at hk
        rcases hnew o _ hk with ⟨h3, _⟩ | ⟨_, _, h3⟩
        · omega
        · exact h3
      | none =>
        right
        have hskip := look_NL_skip (R := S.obs) hi hLj p
        refine ⟨⟨x, by rw [← hskip]; exact hx⟩, fun b n hk => ?_⟩
        rcases look_NL p hx with ⟨j, hj, hLj', hl⟩ | hl
        · by_cases hji : j = i
          · subst hji; rw [hi] at hl; cases hl
          · rw [hLj j hji] at hLj'
            obtain ⟨b', cur, e, e1, e2, _⟩ := (h.obs j hj hLj').2.2 o x hl
            have := hκ _ _ e1
            rw [hk] at this; cases this
            exact ⟨(h.step.inv.blk _ _ _ e1).2, e1⟩
        · obtain ⟨b', cur, e, e1, _⟩ := h0.ob o x hl
          have e1' := h.step.κ _ _ e1
          have := hκ _ _ e1'
          rw [hk] at this; cases this
          exact ⟨(h.step.inv.blk _ _ _ e1').2, e1'⟩
    intro o o' x x' b n n' hx hx' hk hk'
    rcases key hx with ⟨g1, g2⟩ | ⟨⟨y, g1⟩, g2⟩ <;> rcases key hx' with ⟨g1', g2'⟩ | ⟨⟨y', g1'⟩, g2'⟩
    · have hc1 : c'.κ o = some (b, n) := by
        have h1 : base i ≤ o := tk _ (look_mem g1)
        have h2 : o < base (i + 1) := hdi.look_lt g1
        simp only [c''] at hk; rwa [if_pos ⟨h1, h2⟩] at hk
      have hc2 : c'.κ o' = some (b, n') := by
        have h1 : base i ≤ o' := tk _ (look_mem g1')
        have h2 : o' < base (i + 1) := hdi.look_lt g1'
        simp only [c''] at hk'; rwa [if_pos ⟨h1, h2⟩] at hk'
      exact hst.inv.inj o o' x x' b n n' (tl _ _ g1) (tl _ _ g1') hc1 hc2
    · have h1 := g2 b n hk; have h2 := (g2' b n' hk').1; omega
    · have h1 := (g2 b n hk).1; have h2 := g2' b n' hk'; omega
    · exact h.step.inv.inj o o' y y' b n n' g1 g1' (g2 b n hk).2 (g2' b n' hk').2
  · refine desc_NL hbm (by rw [hb0]; exact h0.desc) p (fun j hj hLj' => ?_)
    by_cases hji : j = i
    · subst hji; exact ⟨hdi, tk⟩
    · rw [hLj j hji] at hLj'; exact ⟨(h.obs j hj hLj').1, (h.obs j hj hLj').2.1⟩
  · intro b hb _
    show c'.w.heap[b]? = _
    rw [hheap b (Nat.lt_of_lt_of_le hb h.below.size), h.below.block b hb]
  · intro o b n hk hn hb
    simp only [c''] at hk
    split at hk
    · rcases hnew o _ hk with ⟨_, h2⟩ | ⟨_, _, h3⟩
      · exact h.step.old o b n h2 hn hb
      · have := h.below.size; simp only at h3; omega
    · exact h.step.old o b n hk hn hb
  · intro o x hk hn
    simp only [c''] at hk
    split at hk
    · rename_i ho
      have := hbm 0 i (Nat.zero_le i)
      rw [hb0] at this; omega
    · exact h.step.new o x hk hn
  · exact h.below.trans (hbe.mono h.below.size)
  · intro t' j hj hd' hLj'
    by_cases hji : j = i
    · subst hji
      rw [hdst] at hd'; cases hd'
      have : (a.put (some t) u).tmps.getD t undef = u := by simp [Act.put, Array.getD_eq_getD_getElem?, ht]
      rw [this]
      exact hv.mono hle1
    · rw [hLj j hji] at hLj'
      have hne : t ≠ t' := fun e => huniq j hj hji (e ▸ hd')
      have : (a.put (some t) u).tmps.getD t' undef = a.tmps.getD t' undef := by simp [Act.put, Array.getD_eq_getD_getElem?, Array.getElem?_setIfInBounds, hne]
      rw [this]
      exact (h.val t' j hj hd' hLj').mono (hle3 _)
  · intro t' hno
    have hne : t ≠ t' := by
      intro e
      subst e
      have := hno i hip hdst
      rw [hLi'] at this; cases this
    have : (a.put (some t) u).tmps.getD t' undef = a.tmps.getD t' undef := by simp [Act.put, Array.getD_eq_getD_getElem?, Array.getElem?_setIfInBounds, hne]
    rw [this]
    refine h.ini t' (fun j hj hd' => ?_)
    by_cases hji : j = i
    · subst hji; exact hLi
    · rw [← hLj j hji]; exact hno j hj hd'
  · intro j hj hLj'
    by_cases hji : j = i
    · subst hji; exact ⟨hdi, tk, hobi⟩
    · rw [hLj j hji] at hLj'
      refine ⟨(h.obs j hj hLj').1, (h.obs j hj hLj').2.1, fun o x hx => ?_⟩
      obtain ⟨b, cur, e, e1, _, e2, e4⟩ := hobj j hj hLj' o x hx
      exact ⟨b, cur, e, e1, e2, e4⟩
  · intro j hj hLj' o h1 h2
    have hji : j ≠ i := fun e => by subst e; rw [hLi'] at hLj'; cases hLj'
    rw [hLj j hji] at hLj'
    simp only [c'']
    rw [if_neg]
    · exact h.free j hj hLj' o h1 h2
    · rintro ⟨h3, h4⟩
      rcases Nat.lt_or_ge j i with h5 | h5
      · have := hbm (j + 1) i (by omega); omega
      · have := hbm (i + 1) j (by omega); omega

end
end Go.Sx

namespace Go.Sx
open Go.RowKit

section
variable {I : Type} {N : Num I} {Δ : Den I} {P : Program} {T : TypeId → Option Ti} {C : FuncId → List (V I) → Sto I → Option (V I × Sto I)} {B : Nat} {c : Cx} {st : St I} {sto : Sto I} {a : Act}

/-- What headOk says: two operations of the head that write or look at one temporary are ordered. -/
theorem headOk_dst {ops : List Oper} {F : List (List Nat)} {p : Nat} (h : headOk ops F p = true) {i : Nat} (hi : i < p) : ∃ o t, ops[i]? = some o ∧ o.dst = some t ∧
    ∀ j, j < p → ∃ q, ops[j]? = some q ∧ (q.dst ≠ some t ∨ j = i) ∧ (t ∈ looks ops q → (i < j ∧ i ∈ F.getD j []) ∨ (j < i ∧ j ∈ F.getD i [])) := by
  unfold headOk at h
  rw [List.all_eq_true] at h
  have h1 := h i (List.mem_range.2 hi)
  split at h1
  · rename_i o ho
    split at h1
    · rename_i t ht
      refine ⟨o, t, ho, ht, fun j hj => ?_⟩
      rw [List.all_eq_true] at h1
      have h2 := h1 j (List.mem_range.2 hj)
      split at h2
      · rename_i q hq
        refine ⟨q, hq, ?_, fun hl => ?_⟩
        · simp only [Bool.and_eq_true, Bool.or_eq_true] at h2
          rcases h2.1 with h3 | h3
          · exact .inl (by simpa using h3)
          · exact .inr (by simpa using h3)
        · simp only [Bool.and_eq_true, Bool.or_eq_true] at h2
          have h3 := h2.2
          have hc : (looks ops q).contains t = true := by simpa using hl
          rw [hc] at h3
          simp only [Bool.not_true, Bool.false_eq_true, decide_eq_true_eq, or_false, false_or] at h3
          rcases h3 with ⟨a1, a2⟩ | ⟨a1, a2⟩
          · exact .inl ⟨a1, by simpa using a2⟩
          · exact .inr ⟨a1, by simpa using a2⟩
      · cases h2
    · cases h1
  · cases h1

theorem chain_F {ops : List Oper} {F : List (List Nat)} {p : Nat} (h : chain ops F p = true) {i : Nat} (hi : i < ops.length) (hp : p ≤ i) {j : Nat} (hj : j < i) : j ∈ F.getD i [] := by
  unfold chain at h
  rw [List.all_eq_true] at h
  have := h i (List.mem_range.2 hi)
  rw [Bool.or_eq_true] at this
  rcases this with this | this
  · have : i < p := by simpa using this
    omega
  · rw [List.all_eq_true] at this
    simpa using this j (List.mem_range.2 hj)

theorem head_sound (hN : N.Ok Δ) (hG : NoCount P) (hT : TOk P T) (hC : COkY P Δ B C) {nt : Nat} {ops : Array Oper} {ro : Option Nat} {n : Nat} {Q : Exit → Act → World → Prop} {F : List (List Nat)} {p : Nat} (hp : p ≤ ops.size)
    (hb : befOk ops.toList F = true) (hch : chain ops.toList F p = true) (hho : headOk ops.toList F p = true) (hds : dstsOk nt (ops.toList.take p) = true)
    {c0 : Cx} {S : Sto I} {tm0 : Tr (V I)} (h0 : SInv Δ B c0 S) {dl : List Deferred}
    {v : Nat → V I} {nw : Nat → List (Nat × Ob I)} {wt : Nat → Bool} {base : Nat → Nat} (hv : ∀ i, i < p → HeadAt N T C nt ops.toList F S tm0 base v nw wt i)
    (HT : ∀ (fuel : Nat) (listed : Array Bool) (c : Cx) (a : Act), listed.size = ops.size → p + fuel = ops.size → (∀ i, listed.getD i false = decide (i < p)) → Step Δ B c0 S c ⟨base p, NL nw (fun _ => true) p ++ S.obs, S.low⟩ →
      TmR Δ B c (tmT nt ops.toList v tm0 p) a.tmps → a.tmps.size = nt → a.defers = dl → wpAnyIn (Fw ro) n P .any ops Q fuel listed a c.w)
    (hb0 : base 0 = S.next) (hbm : ∀ i j, i ≤ j → base i ≤ base j) :
    ∀ (fuel : Nat) (listed : Array Bool) (c : Cx) (a : Act), listed.size = ops.size → unl (fun i => listed.getD i false) ops.size = fuel →
      (∀ (i : Nat) (o : Oper), ops.toList[i]? = some o → listed.getD i false = true → ∀ k, k ∈ bindsOn o → listed.getD k false = true) → (∀ i, p ≤ i → listed.getD i false = false) →
      HInv Δ B base ops.toList p S c0 (fun t => tm0.get .any t) v nw (fun i => listed.getD i false) c a.tmps → a.tmps.size = nt → a.defers = dl → wpAnyIn (Fw ro) n P .any ops Q fuel listed a c.w := by
  -- behind the head
  have htail : ∀ (fuel : Nat) (listed : Array Bool) (c : Cx) (a : Act), listed.size = ops.size → p + fuel = ops.size → (∀ i, listed.getD i false = decide (i < p)) →
      HInv Δ B base ops.toList p S c0 (fun t => tm0.get .any t) v nw (fun i => listed.getD i false) c a.tmps → a.tmps.size = nt → a.defers = dl → wpAnyIn (Fw ro) n P .any ops Q fuel listed a c.w := by
    intro fuel listed c a hsz hpf hl h hnt hd
    have hst := h.step
    rw [NL_ext nw p (L := fun i => listed.getD i false) (L' := fun _ => true) (fun j hj => by simp only [hl]; simp [hj])] at hst
    refine HT fuel listed c a hsz hpf hl hst (fun t => ?_) hnt hd
    rcases tmT_get (nt := nt) (ops := ops.toList) (v := v) (tm := tm0) p t with h1 | ⟨j, h1, h2, h3⟩ | ⟨h1, h2⟩
    · rw [h1]; exact .any _
    · rw [h3]; exact (h.val t j h1 h2 (by simp only [hl]; simp [h1])).mono Cx.cut_le
    · rw [h2]; exact (h.ini t (fun j hj hd => absurd hd (h1 j hj))).mono h.step.le
  intro fuel
  induction fuel with
  | zero =>
    intro listed c a hsz hu hdc hge h hnt hd
    have hall := unl_zero _ hu
    have hpn : p = ops.size := by
      rcases Nat.lt_or_ge p ops.size with hlt | hge'
      · have h1 := hall p hlt
        rw [hge p (Nat.le_refl _)] at h1; cases h1
      · omega
    refine htail 0 listed c a hsz (by omega) (fun i => ?_) h hnt hd
    by_cases hi : i < ops.size
    · rw [hall i hi]; simp; omega
    · rw [hge i (by omega)]; simp; omega
  | succ fuel ih =>
    intro listed c a hsz hu hdc hge h hnt hd
    by_cases hheads : ∀ i, i < p → listed.getD i false = true
    · have hlp : ∀ i, listed.getD i false = decide (i < p) := by
        intro i
        by_cases hi : i < p
        · rw [hheads i hi]; simp [hi]
        · rw [hge i (by omega)]; simp; omega
      have hcount : ∀ k, unl (fun i => decide (i < p)) k = k - p := by
        intro k
        induction k with
        | zero => simp [unl]
        | succ k ihk =>
          simp only [unl, ihk]
          by_cases hk : k < p
          · simp [hk]; omega
          · simp [hk]; omega
      have hfu : fuel + 1 = ops.size - p := by
        rw [← hu, unl_ext (L' := fun i => decide (i < p)) ops.size (fun j _ => hlp j), hcount]
      exact htail (fuel + 1) listed c a hsz (by omega) hlp h hnt hd
    · have hex : ∃ i, i < p ∧ listed.getD i false = false := by
        apply Classical.byContradiction
        intro hno
        exact hheads fun i hi => by
          cases hL : listed.getD i false with
          | true => rfl
          | false => exact absurd ⟨i, hi, hL⟩ hno
      have hbefq := befOk_lt hb
      obtain ⟨i0, l1, l2, l3⟩ := least (L := fun i => listed.getD i false) p hex
      have hi0 : i0 ∈ Region.ready .any ops listed :=
        (mem_ready hsz).2 ⟨by omega, l2, ops[i0]'(by omega), Array.getElem?_eq_getElem _, fun k hk => l3 k (hbefq i0 _ (by simp [show i0 < ops.size by omega]) k hk)⟩
      refine ⟨fun hr => absurd (hr ▸ hi0) (by simp), fun i hi => ?_⟩
      obtain ⟨h1, h2, o, ho, h3⟩ := (mem_ready hsz).1 hi
      have ho' : ops.toList[i]? = some o := by simpa using ho
      have hbefs := bef_sub hb (L := fun j => listed.getD j false) hdc i o ho' h3
      by_cases hip : i < p
      · obtain ⟨_, o', e1, e2, e3, e4⟩ := hv i hip
        rw [ho'] at e1
        cases e1
        obtain ⟨o', t, k1, k2, k3⟩ := headOk_dst hho hip
        rw [ho'] at k1
        cases k1
        have hlen : i < ops.toList.length := by simpa using h1
        have hdeps : ∀ j, j ∈ F.getD i [] → j < i ∧ listed.getD j false = true := fun j hj => ⟨befOk_F hb i hlen j hj, hbefs j hj⟩
        obtain ⟨hsee, hle0⟩ := h.sees hb0 hbm (F := F) h0 hip hdeps
        -- the temporaries that it sees
        have htm : TmR Δ B (c.cut (base i)) (seenBy nt ops.toList F S (base i) i o (tmT nt ops.toList v tm0 i) (accOf nw i)).tm a.tmps := by
          intro u
          simp only [seenBy]
          rcases keepOnly_get (looks ops.toList o) ⟨tmT nt ops.toList v tm0 i, S⟩ (Tr.full .any (depthFor nt)) u with g | ⟨g1, g2⟩ | g
          · rw [g]; exact .any _
          · rw [g2]
            -- whoever writes u is ordered against i
            have hord : ∀ j, j < p → (ops.toList[j]?).bind (·.dst) = some u → (j < i ∧ listed.getD j false = true) ∨ (i < j ∧ listed.getD j false = false) := by
              intro j hj hju
              obtain ⟨q, t', m1, m2, m3⟩ := headOk_dst hho hj
              rw [m1] at hju
              simp only [Option.bind_some] at hju
              rw [m2] at hju
              cases hju
              obtain ⟨o2, n1, _, n3⟩ := m3 i hip
              rw [ho'] at n1
              cases n1
              rcases n3 g1 with ⟨r1, r2⟩ | ⟨r1, r2⟩
              · exact .inl ⟨r1, hbefs j r2⟩
              · refine .inr ⟨r1, ?_⟩
                cases hL : listed.getD j false with
                | false => rfl
                | true =>
                  have h9 : listed.getD i false = true := bef_sub hb (L := fun j => listed.getD j false) hdc j _ m1 (fun k hk => hdc j _ m1 hL k hk) i r2
                  rw [h2] at h9; cases h9
            rcases tmT_get (nt := nt) (ops := ops.toList) (v := v) (tm := tm0) i u with g | ⟨j, q1, q2, q3⟩ | ⟨q1, q2⟩
            · rw [g]; exact .any _
            · rw [q3]
              rcases hord j (by omega) q2 with ⟨_, r2⟩ | ⟨r1, _⟩
              · exact (h.val u j (by omega) q2 r2).mono (Cx.cut_mono (hbm _ _ (by omega)))
              · omega
            · rw [q2]
              refine (h.ini u (fun j hj hju => ?_)).mono hle0
              rcases hord j hj hju with ⟨r1, _⟩ | ⟨_, r2⟩
              · exact absurd hju (q1 j r1)
              · exact r2
          · rw [g, Tr.get_full]; exact .any _
        have hwant := wants_sound htm e2
        have hdi : (ops.toList[i]?).bind (·.dst) = some t := by rw [ho']; exact k2
        have huniq : ∀ j, j < p → j ≠ i → (ops.toList[j]?).bind (·.dst) ≠ some t := by
          intro j hj hji hjt
          obtain ⟨q, m1, m2, _⟩ := k3 j hj
          rw [m1] at hjt
          simp only [Option.bind_some] at hjt
          rcases m2 with m2 | m2
          · exact m2 hjt
          · exact hji m2
        have htn : t < a.tmps.size := by
          rw [hnt]
          unfold dstsOk at hds
          rw [List.all_eq_true] at hds
          have := hds o (List.mem_of_getElem? (i := i) (by rw [List.getElem?_take, if_pos hip]; exact ho'))
          rw [k2] at this
          simpa [Nat.blt_eq] using this
        have hL' : ∀ j, (listed.setIfInBounds i true).getD j false = (listed.getD j false || j == i) := getD_set (by omega)
        have hSI : (seenBy nt ops.toList F S (base i) i o (tmT nt ops.toList v tm0 i) (accOf nw i)).sto = ⟨base i, NL nw (fun j => (F.getD i []).contains j) i ++ S.obs, base i⟩ := by
          simp only [seenBy, joinN_acc]
        have hnext : ∀ (c'' : Cx) (u : Value), HInv Δ B base ops.toList p S c0 (fun t => tm0.get .any t) v nw (fun j => (listed.setIfInBounds i true).getD j false) c'' (a.put o.dst u).tmps →
            wpAnyIn (Fw ro) n P .any ops Q fuel (listed.setIfInBounds i true) (a.put o.dst u) c''.w := by
          intro c'' u g1
          refine ih (listed.setIfInBounds i true) c'' (a.put o.dst u) (by simpa using hsz) ?_ ?_ ?_ g1 (by rw [put_size, hnt]) (by rw [put_defers]; exact hd)
          · have := unl_set (L := fun i => listed.getD i false) (L' := fun j => (listed.setIfInBounds i true).getD j false) h2 hL' ops.size h1
            omega
          · intro j q hq hLj k hk
            rw [hL'] at hLj ⊢
            rw [Bool.or_eq_true] at hLj ⊢
            rcases hLj with hLj | hLj
            · exact .inl (hdc j q hq hLj k hk)
            · have : j = i := by simpa using hLj
              subst this
              rw [ho'] at hq; cases hq
              exact .inl (h3 k hk)
          · intro j hj
            rw [hL', hge j hj]
            simp; omega
        simp only [wpOpIn, ho]
        cases hwi : wt i with
        | true =>
          rw [hwi] at hwant
          rw [if_pos hwant]
          obtain ⟨s, f1, f2, f3, f4⟩ := e3 hwi
          have hsee' : SInv Δ B (c.cut (base i)) (seenBy nt ops.toList F S (base i) i o (tmT nt ops.toList v tm0 i) (accOf nw i)).sto := by rw [hSI]; exact hsee
          refine aop_sound hN hG hT hC hsee' htm f1 _ _ _ _ (fun u c' hout => ?_)
          obtain ⟨g1, g2⟩ := hout
          rw [hSI] at g1
          obtain ⟨c'', r1, r2⟩ := h.next hb0 hbm h0 hip h2 hL' (SI := ⟨base i, NL nw (fun j => (F.getD i []).contains j) i ++ S.obs, base i⟩) rfl rfl hsee g1 f2 f3 f4 g2 hdi htn huniq
          have := hnext c'' u (by rw [k2]; exact r2)
          rwa [r1] at this
        | false =>
          rw [hwi] at hwant
          rw [if_neg (by rw [hwant]; simp)]
          refine ⟨fun _ _ => trivial, ?_⟩
          obtain ⟨f1, f2⟩ := e4 hwi
          have hg1 : Step Δ B (c.cut (base i)) ⟨base i, NL nw (fun j => (F.getD i []).contains j) i ++ S.obs, base i⟩ (c.cut (base i)) ⟨base i, NL nw (fun j => (F.getD i []).contains j) i ++ S.obs, base i⟩ := Step.refl hsee
          have htk : nw i = takeNew (base i) (NL nw (fun j => (F.getD i []).contains j) i ++ S.obs) := by
            rw [f2]
            have hd' := hsee.desc
            simp only at hd'
            cases hl : NL nw (fun j => (F.getD i []).contains j) i ++ S.obs with
            | nil => rfl
            | cons q r =>
              obtain ⟨o', b⟩ := q
              rw [hl] at hd'
              have : Nat.ble (base i) o' = false := by
                cases hbb : Nat.ble (base i) o' with
                | false => rfl
                | true => have := Nat.le_of_ble_eq_true hbb; have := hd'.1; omega
              simp [takeNew, this]
          obtain ⟨c'', r1, r2⟩ := h.next hb0 hbm h0 hip h2 hL' (SI := ⟨base i, NL nw (fun j => (F.getD i []).contains j) i ++ S.obs, base i⟩) rfl rfl hsee hg1 (Nat.le_refl _) (hbm _ _ (by omega)) htk (u := undef) (by rw [f1]; exact .any _) hdi htn huniq
          have := hnext c'' undef (by rw [k2]; exact r2)
          rwa [r1] at this
      · -- the tail is not ready while the head stands
        exfalso
        have hF : i0 ∈ F.getD i [] := chain_F hch (by simpa using h1) (by omega) (by omega)
        have h9 : listed.getD i0 false = true := hbefs i0 hF
        have l2' : listed.getD i0 false = false := l2
        rw [l2'] at h9; cases h9

theorem adraw0_sound (hN : N.Ok Δ) (hG : NoCount P) (hT : TOk P T) (hm : P.follows .mixedOrders = true) (hC : COkY P Δ B C) (nt : Nat) : DOk P Δ B nt (adraw0 N T C nt) := by
  intro ops st st' hs c a id ro n Q h htm hnt hQ
  unfold adraw0 at hs
  split at hs
  · rename_i F p hok
    unfold okDraw at hok
    split at hok
    · rename_i hcond
      obtain ⟨h1, h2, h3, h4⟩ := hcond
      cases hok
      generalize lead ops.toList (befs ops.toList []) = p at *
      generalize befs ops.toList [] = F at *
      rw [bite_eq] at hs
      split at hs
      · rename_i hds
        split at hs
        · rename_i tm acc nx hd
          obtain ⟨base, v, nw, wt, hb0, hbc, hv, rfl, rfl, rfl⟩ := dhead_run h1 hd
          rw [allN_acc] at hs
          refine wpIn_region_any hm ?_
          have hfalse : ∀ i, (Array.replicate ops.size false).getD i false = false := by
            intro i
            simp only [Array.getD_eq_getD_getElem?, Array.getElem?_replicate]
            split <;> rfl
          have hbm : ∀ i j, i ≤ j → base i ≤ base j := base_mono (fun i hi => (hv i hi).1) hbc
          have hle : Cx.le B c ⟨{ c.w with drawn := c.w.drawn + 1 }, c.κ⟩ := ⟨fun _ _ => rfl, fun _ _ h => h, fun _ _ h _ => h⟩
          refine head_sound (c0 := c) (S := st.sto) (tm0 := st.tm) hN hG hT hC (by simpa using h1) h2 h3 h4 hds h hv (fun fuel listed c a e1 e2 e3 e4 e5 e6 e7 => tail_sound hN hG hT hC h2 h3 hQ fuel p listed _ c a e1 (Nat.le_refl _) e2 e3 hs e4 e5 e6 e7) hb0 hbm ops.size (Array.replicate ops.size false) ⟨{ c.w with drawn := c.w.drawn + 1 }, c.κ⟩ a (by simp) ?_ ?_ ?_ ?_ hnt rfl
          · rw [unl_ext (L' := fun _ => false) ops.size (fun j _ => hfalse j)]
            generalize ops.size = n
            induction n with
            | zero => rfl
            | succ n ihn => simp [unl, ihn]
          · intro i o _ hL; rw [hfalse] at hL; cases hL
          · intro i _; exact hfalse i
          · have hnl : ∀ k, NL nw (fun i => (Array.replicate ops.size false).getD i false) k = [] := by
              intro k
              induction k with
              | zero => rfl
              | succ k ihk => simp only [NL, ihk]; rw [hfalse k]; simp
            have hnx : st.sto.next ≤ base p := by have := hbm 0 p (Nat.zero_le _); rw [hb0] at this; exact this
            refine ⟨⟨⟨h.base, fun o ho => h.fresh o (by simp only at ho; omega), h.blk, fun o x hx => ?_, fun o o' x x' b n n' hx hx' => ?_, ?_, h.g⟩, fun _ _ h => h, ⟨rfl, rfl, rfl, Nat.le_refl _, fun _ _ => rfl⟩, hnx, Nat.le_refl _, fun _ _ _ => rfl,
                fun o b n k1 k2 => (by simp only at k1; rw [k2] at k1; cases k1), fun o x k1 k2 => (by simp only at k1; rw [k2] at k1; cases k1), fun _ _ => rfl, fun _ _ h _ => h⟩, ⟨rfl, rfl, rfl, Nat.le_refl _, fun _ _ => rfl⟩, fun t j _ _ hL => ?_, fun t _ => htm t, fun j _ hL => ?_, fun j _ _ o k1 _ => ?_⟩
            · simp only [hnl, List.nil_append] at hx
              obtain ⟨b, cur, e, e1, e2, e4⟩ := h.ob o x hx
              exact ⟨b, cur, e, e1, e2, e4.mono hle⟩
            · simp only [hnl, List.nil_append] at hx hx'
              exact h.inj o o' x x' b n n' hx hx'
            · simp only [hnl, List.nil_append]
              exact h.desc.mono hnx
            · simp only [hfalse] at hL; cases hL
            · simp only [hfalse] at hL; cases hL
            · exact h.fresh o (by have := hbm 0 j (Nat.zero_le _); rw [hb0] at this; omega)
        · cases hs
      · cases hs
    · cases hok
  · cases hs

end
end Go.Sx

/-
  Regions of open order, second way: operations of the head may write older memory, and stores stand in it, where nothing that is unordered with them looks at what they write.
-/
namespace Go.Sx
open Go.RowKit

section
variable {I : Type}

mutual
/-- All objects that a value names are told by 'ok'. -/
def V.inN (ok : Nat → Bool) : V I → Bool
  | .slice xs => inNs ok xs
  | .brs o _ _ => ok o
  | .rsl o _ _ _ => ok o
  | .ptr o _ => ok o
  | .cel x => x.inN ok
  | .func _ a b => inNs ok a && inNs ok b
  | .iface _ v => v.inN ok
  | .agg cs => inNs ok cs
  | .tup cs => inNs ok cs
  | .yld _ _ _ _ vals => inNs ok vals
  | .mp o => ok o
  | .mpc ks vs => inNs ok ks && inNs ok vs
  | _ => true
def inNs (ok : Nat → Bool) : List (V I) → Bool
  | [] => true
  | x :: r => x.inN ok && inNs ok r
end

theorem inNs_get {ok : Nat → Bool} : ∀ {xs : List (V I)}, inNs ok xs = true → ∀ (i : Nat) (x : V I), xs[i]? = some x → x.inN ok = true
  | [], _, i, x, h => by simp at h
  | y :: r, hs, i, x, h => by
    simp only [inNs, Bool.and_eq_true] at hs
    cases i with
    | zero => simp at h; subst h; exact hs.1
    | succ i => simp at h; exact inNs_get hs.2 i x h

/-- How much an operation is shown: nothing, what it refers to, all that it can reach. -/
def sightOf (o : Oper) : Nat := match o.op with
  | .load _ _ => 1
  | .lookup _ _ _ _ => 1
  | .store _ _ _ => 2
  | .mapUpdate _ _ _ _ => 2
  | .call _ => 2
  | _ => 0

/-- What the temporaries that an operation looks at refer to. -/
noncomputable def rootsOf (tm : Tr (V I)) : List Nat → List Nat
  | [] => []
  | t :: r => (tm.get .any t).refs ++ rootsOf tm r

/-- What can be reached, at most so many objects deep. -/
def reach (obs : List (Nat × Ob I)) : Nat → List Nat → List Nat
  | 0, _ => []
  | n + 1, l => match l with
    | [] => []
    | a :: r => (a :: r) ++ reach obs n (deeper obs (a :: r))

/-- The objects that an operation is shown, and those that it may name. -/
noncomputable def shown (tm : Tr (V I)) (obs : List (Nat × Ob I)) (ops : List Oper) (o : Oper) : List Nat × List Nat :=
  match sightOf o with
  | 0 => ([], rootsOf tm (looks ops o))
  | 1 => (rootsOf tm (looks ops o), rootsOf tm (looks ops o) ++ deeper obs (rootsOf tm (looks ops o)))
  | _ => (reach obs 5 (rootsOf tm (looks ops o)), reach obs 5 (rootsOf tm (looks ops o)))

def onlyObs (R : List Nat) : List (Nat × Ob I) → List (Nat × Ob I)
  | [] => []
  | (o, b) :: r => if R.contains o then (o, b) :: onlyObs R r else onlyObs R r

/-- New contents for some objects. -/
def over (W : List Nat) (l : List (Nat × Ob I)) : List (Nat × Ob I) → List (Nat × Ob I)
  | [] => []
  | (o, b) :: r => if W.contains o then (match look l o with
      | some b' => (o, b') :: over W l r
      | none => over W l r) else (o, b) :: over W l r

def obsIn (ok : Nat → Bool) : List (Nat × Ob I) → Bool
  | [] => true
  | (_, b) :: r => inNs ok b && obsIn ok r

noncomputable def temsIn (ok : Nat → Bool) (tm : Tr (V I)) : List Nat → Bool
  | [] => true
  | t :: r => (tm.get .any t).inN ok && temsIn ok tm r

/-- What is known of an operation that has run: its place, what it was shown, what it wrote, its numbers. -/
abbrev Rec := Nat × List Nat × List Nat × Nat × Nat

/-- No two that are unordered meet. -/
def apart (deps R W : List Nat) : List Rec → Bool
  | [] => true
  | (j, R', W', b0, b1) :: rs => (deps.contains j || (R.all (fun o => !W'.contains o && (Nat.blt o b0 || Nat.ble b1 o)) && W.all fun o => !R'.contains o)) && apart deps R W rs

def dstsOk2 (nt : Nat) (l : List Oper) : Bool := l.all fun o => match o.dst with
  | some d => Nat.blt d nt
  | none => true

def headOk2 (ops : List Oper) (F : List (List Nat)) (p : Nat) : Bool :=
  (List.range p).all fun i => match ops[i]? with
    | some o => match o.dst with
      | some t => (List.range p).all fun j => match ops[j]? with
        | some q => (q.dst != some t || j == i) && (!(looks ops q).contains t || (decide (i < j) && (F.getD j []).contains i) || (decide (j < i) && (F.getD i []).contains j))
        | none => false
      | none => true
    | none => false

def okDraw2 (ops : List Oper) : Option (List (List Nat) × Nat) :=
  if lead ops (befs ops []) ≤ ops.length ∧ befOk ops (befs ops []) = true ∧ chain ops (befs ops []) (lead ops (befs ops [])) = true ∧ headOk2 ops (befs ops []) (lead ops (befs ops [])) = true then
    some (befs ops [], lead ops (befs ops [])) else none

variable (N : Num I) (T : TypeId → Option Ti) (C : FuncId → List (V I) → Sto I → Option (V I × Sto I)) (nt : Nat)

/-- What an operation sees that is shown the objects R. -/
noncomputable def seenX (ops : List Oper) (nx : Nat) (o : Oper) (tm : Tr (V I)) (obs : List (Nat × Ob I)) (R : List Nat) : St I :=
  ⟨keepOnly (looks ops o) ⟨tm, ⟨nx, obs, nx⟩⟩ (Tr.full .any (depthFor nt)), ⟨nx, onlyObs R obs, nx⟩⟩

/-- What was written of what may be named. -/
def wroteOf (Nn : List Nat) (lo : Nat) : List Nat := Nn.filter fun o => Nat.ble lo o

/-- The newest first, as a test. -/
def descB : Nat → List (Nat × Ob I) → Bool
  | _, [] => true
  | n, (o, _) :: r => Nat.blt o n && descB o r

/-- Is all that it is shown and told in order? -/
noncomputable def fitX (ops : List Oper) (deps : List Nat) (nx : Nat) (o : Oper) (tm : Tr (V I)) (obs : List (Nat × Ob I)) (R Nn : List Nat) (rs : List Rec) : Bool :=
  temsIn (fun o => Nn.contains o) tm (looks ops o) && obsIn (fun o => Nn.contains o) (onlyObs R obs) && Nn.all (fun o => Nat.blt o nx) && R.all (fun o => Nn.contains o)

noncomputable def xhead (ops : List Oper) (F : List (List Nat)) : Nat → Nat → Nat → List Oper → Tr (V I) → List (Nat × Ob I) → List Rec → Option (Tr (V I) × Sto I)
  | _, nx, lo, [], tm, obs, rs => some (tm, ⟨nx, obs, lo⟩)
  | i, nx, lo, o :: r, tm, obs, rs => match shown tm obs ops o with
    | (R, Nn) => bite (fitX ops (F.getD i []) nx o tm obs R Nn rs)
      (match wants ops (seenX nt ops nx o tm obs R) o with
      | some true => match aop N T C (seenX nt ops nx o tm obs R) o with
        | some (v, s) => bite (Nat.ble nx s.next && descB s.next (takeNew nx s.obs) && (wroteOf Nn s.low).all (fun q => (look (onlyObs R obs) q).isSome) && apart (F.getD i []) R (wroteOf Nn s.low) rs)
            (xhead ops F (i + 1) s.next (if Nat.blt s.low lo then s.low else lo) r (setTm nt tm o.dst v) (takeNew nx s.obs ++ over (wroteOf Nn s.low) s.obs obs) ((i, R, wroteOf Nn s.low, nx, s.next) :: rs)) none
        | none => none
      | some false => bite (apart (F.getD i []) R [] rs) (xhead ops F (i + 1) nx lo r (setTm nt tm o.dst (.tup [])) obs ((i, R, [], nx, nx) :: rs)) none
      | none => none) none

noncomputable def xdraw (ops : List Oper) (st : St I) : Option (St I) :=
  match okDraw2 ops with
  | some (F, p) => bite (dstsOk2 nt (ops.take p)) (match xhead N T C nt ops F 0 st.sto.next st.sto.low (ops.take p) st.tm st.sto.obs [] with
    | some (tm, s) => aops N T C nt ops (ops.drop p) ⟨tm, s⟩
    | none => none) none
  | none => none

end
end Go.Sx

/-
  Regions of open order, second way: it holds.
-/
namespace Go.Sx
open Go.RowKit

section
variable {I : Type} {N : Num I} {Δ : Den I} {P : Program} {T : TypeId → Option Ti} {C : FuncId → List (V I) → Sto I → Option (V I × Sto I)} {B : Nat} {c : Cx} {st : St I} {sto : Sto I} {a : Act}

/-! ### Contexts that know some names alone -/
def Cx.only (c : Cx) (Nn : List Nat) : Cx := ⟨c.w, fun o => if Nn.contains o = true then c.κ o else none⟩

theorem only_κ {c : Cx} {Nn : List Nat} {o : Nat} {x : Nat × Nat} (h : (c.only Nn).κ o = some x) : o ∈ Nn ∧ c.κ o = some x := by
  simp only [Cx.only] at h
  split at h
  · rename_i hc; exact ⟨by simpa using hc, h⟩
  · cases h
theorem only_of {c : Cx} {Nn : List Nat} {o : Nat} {x : Nat × Nat} (h : c.κ o = some x) (hm : Nn.contains o = true) : (c.only Nn).κ o = some x := by
  simp only [Cx.only, hm, if_true]; exact h

theorem VR_only {Nn : List Nat} {x : V I} {v : Value} (h : VR Δ B c x v) : x.inN (fun o => Nn.contains o) = true → VR Δ B (c.only Nn) x v := by
  induction h with
  | any v => intro _; exact .any v
  | bool b => intro _; exact .bool b
  | int k n => intro _; exact .int k n
  | str s => intro _; exact .str s
  | sst j xs => intro _; exact .sst j xs
  | nilIface => intro _; exact .nilIface
  | nilPtr => intro _; exact .nilPtr
  | nilFunc => intro _; exact .nilFunc
  | nil => intro _; exact .nil
  | emp ad cap h => intro _; exact .emp ad cap h
  | slice us h1 h2 h3 h4 _ ih => intro hi; simp only [V.inN] at hi; exact .slice us h1 h2 h3 h4 (fun j x u hx hu => ih j x u hx hu (inNs_get hi j x hx))
  | snil => intro _; exact .snil
  | aint k n => intro _; exact .aint k n
  | bc j v => intro _; exact .bc j v
  | bsl h0 h1 h2 h3 => intro _; exact .bsl h0 h1 h2 h3
  | bsl0 h0 h => intro _; exact .bsl0 h0 h
  | bys h0 h1 h2 h3 => intro _; exact .bys h0 h1 h2 h3
  | bys0 h0 h => intro _; exact .bys0 h0 h
  | brs h0 h1 h => intro hi; simp only [V.inN] at hi; exact .brs h0 h1 (only_of h hi)
  | rsl h => intro hi; simp only [V.inN] at hi; exact .rsl (only_of h hi)
  | rslo h h' h2 => intro hi; simp only [V.inN] at hi; exact .rslo (only_of h hi) h' h2
  | ptr h => intro hi; simp only [V.inN] at hi; exact .ptr (only_of h hi)
  | cel h1 h2 _ ih => intro hi; simp only [V.inN] at hi; exact .cel h1 h2 (ih hi)
  | func h1 _ h2 _ ih1 ih2 =>
    intro hi
    simp only [V.inN, Bool.and_eq_true] at hi
    exact .func h1 (fun i x v hx hv => ih1 i x v hx hv (inNs_get hi.1 i x hx)) h2 (fun i x v hx hv => ih2 i x v hx hv (inNs_get hi.2 i x hx))
  | iface t _ ih => intro hi; simp only [V.inN] at hi; exact .iface t (ih hi)
  | agg h1 _ ih => intro hi; simp only [V.inN] at hi; exact .agg h1 (fun i x v hx hv => ih i x v hx hv (inNs_get hi i x hx))
  | tup h1 _ ih => intro hi; simp only [V.inN] at hi; exact .tup h1 (fun i x v hx hv => ih i x v hx hv (inNs_get hi i x hx))
  | yld h1 h2 h3 h4 h5 h6 h7 _ ih => intro hi; simp only [V.inN] at hi; exact .yld h1 h2 h3 h4 h5 h6 h7 (fun i x v hx hv => ih i x v hx hv (inNs_get hi i x hx))
  | mp h => intro hi; simp only [V.inN] at hi; exact .mp (only_of h hi)
  | mpc ks vs v => intro _; exact .mpc ks vs v

theorem Blk2.only {Nn : List Nat} {x : Ob I} {cur : Array Value} (h : Blk2 Δ B c x cur) (hi : inNs (fun o => Nn.contains o) x = true) : Blk2 Δ B (c.only Nn) x cur :=
  ⟨⟨h.vrs.1, fun i y v hy hv => VR_only (h.vrs.2 i y v hy hv) (inNs_get hi i y hy)⟩, h.big⟩

theorem ObR.only {Nn : List Nat} {x : Ob I} {O : Obj} {n : Nat} (h : ObR Δ B c x O n) (hi : inNs (fun o => Nn.contains o) x = true) : ObR Δ B (c.only Nn) x O n := by
  cases h with
  | cells e h1 h2 h3 => exact .cells e h1 (h2.only hi) h3
  | map cl n h1 h2 =>
    simp only [inNs, V.inN, Bool.and_true, Bool.and_eq_true] at hi
    exact .map cl n ⟨h1.1, fun i y v hy hv => VR_only (h1.2 i y v hy hv) (inNs_get hi.1 i y hy)⟩ ⟨h2.1, fun i y v hy hv => VR_only (h2.2 i y v hy hv) (inNs_get hi.2 i y hy)⟩

/-! ### Lists of objects -/
theorem onlyObs_look {R : List Nat} {o : Nat} : ∀ (l : List (Nat × Ob I)), look (onlyObs R l) o = if R.contains o = true then look l o else none
  | [] => by simp [onlyObs, look]
  | (k, b) :: r => by
    simp only [onlyObs]
    by_cases hk : R.contains k = true
    · rw [if_pos hk, look_cons, look_cons, onlyObs_look r]
      by_cases e : k = o
      · subst e; rw [if_pos rfl, if_pos rfl, if_pos hk]
      · rw [if_neg e, if_neg e]
    · rw [if_neg hk, look_cons, onlyObs_look r]
      by_cases e : k = o
      · subst e; rw [if_neg hk, if_neg hk]
      · rw [if_neg e]

theorem onlyObs_desc {R : List Nat} : ∀ {n : Nat} {l : List (Nat × Ob I)}, Desc n l → Desc n (onlyObs R l)
  | _, [], _ => trivial
  | n, (k, b) :: r, ⟨h1, h2⟩ => by
    simp only [onlyObs]
    split
    · exact ⟨h1, onlyObs_desc h2⟩
    · exact (onlyObs_desc h2).mono (Nat.le_of_lt h1)

theorem over_look {W : List Nat} {so : List (Nat × Ob I)} {o : Nat} : ∀ (l : List (Nat × Ob I)), look (over W so l) o = if W.contains o = true then (if (look l o).isSome = true then look so o else none) else look l o
  | [] => by simp [over, look]
  | (k, b) :: r => by
    simp only [over]
    by_cases hk : W.contains k = true
    · rw [if_pos hk]
      by_cases e : k = o
      · subst e
        rw [look_cons, if_pos rfl, if_pos hk]
        cases hs : look so k with
        | some b' => simp [look_cons]
        | none => simp only; rw [over_look r, if_pos hk, hs]; simp
      · rw [look_cons, if_neg e]
        cases hs : look so k with
        | some b' => simp only [look_cons, e, if_false]; exact over_look r
        | none => exact over_look r
    · rw [if_neg hk, look_cons, look_cons]
      by_cases e : k = o
      · subst e; rw [if_pos rfl, if_pos rfl, if_neg hk]
      · rw [if_neg e, if_neg e]; exact over_look r

theorem over_desc {W : List Nat} {so : List (Nat × Ob I)} : ∀ {n : Nat} {l : List (Nat × Ob I)}, Desc n l → Desc n (over W so l)
  | _, [], _ => trivial
  | n, (k, b) :: r, ⟨h1, h2⟩ => by
    simp only [over]
    split
    · split
      · exact ⟨h1, over_desc h2⟩
      · exact (over_desc h2).mono (Nat.le_of_lt h1)
    · exact ⟨h1, over_desc h2⟩

theorem over_nil {so : List (Nat × Ob I)} : ∀ (l : List (Nat × Ob I)), over [] so l = l
  | [] => rfl
  | (k, b) :: r => by simp [over, over_nil r]

theorem takeNew_key {n : Nat} : ∀ {l : List (Nat × Ob I)} {q : Nat × Ob I}, q ∈ takeNew n l → n ≤ q.1
  | [], q, h => by simp [takeNew] at h
  | (o, b) :: r, q, h => by
    simp only [takeNew, bite_eq] at h
    split at h
    · rename_i hle
      rcases List.mem_cons.1 h with rfl | h
      · simpa [Nat.ble_eq] using hle
      · exact takeNew_key h
    · simp at h

theorem look_takeNew {n : Nat} {o : Nat} (ho : n ≤ o) : ∀ {m : Nat} {l : List (Nat × Ob I)}, Desc m l → look (takeNew n l) o = look l o
  | _, [], _ => rfl
  | m, (k, b) :: r, ⟨h1, h2⟩ => by
    simp only [takeNew, bite_eq]
    split
    · rw [look_cons, look_cons, look_takeNew ho h2]
    · rename_i hk
      have hk : k < n := by simpa [Nat.ble_eq] using hk
      rw [look_cons, if_neg (by omega)]
      cases hr : look r o with
      | none => rfl
      | some x => have := h2.look_lt hr; omega

theorem descB_iff : ∀ {n : Nat} {l : List (Nat × Ob I)}, descB n l = true → Desc n l
  | _, [], _ => trivial
  | n, (k, b) :: r, h => by
    simp only [descB, Bool.and_eq_true, Nat.blt_eq] at h
    exact ⟨h.1, descB_iff h.2⟩

/-! ### What the operations of the head have done -/
structure Dat (I : Type) where
  v : V I
  wt : Bool
  R : List Nat
  Nn : List Nat
  W : List Nat
  nw : List (Nat × Ob I)
  so : List (Nat × Ob I)
  b0 : Nat
  b1 : Nat

def nxt (d : Dat I) (X : List (Nat × Ob I)) : List (Nat × Ob I) := d.nw ++ over d.W d.so X

/-- The objects, where the operations in L have run. -/
def XD (X0 : List (Nat × Ob I)) (D : Nat → Dat I) (L : Nat → Bool) : Nat → List (Nat × Ob I)
  | 0 => X0
  | k + 1 => if L k then nxt (D k) (XD X0 D L k) else XD X0 D L k

def touch (d : Dat I) (o : Nat) : Prop := (d.b0 ≤ o ∧ o < d.b1) ∨ o ∈ d.W

structure Dat.Fine (d : Dat I) : Prop where
  key : ∀ q, q ∈ d.nw → d.b0 ≤ q.1
  desc : Desc d.b1 d.nw

theorem Dat.Fine.none {d : Dat I} (h : d.Fine) {o : Nat} (ho : ¬ (d.b0 ≤ o ∧ o < d.b1)) : look d.nw o = none := by
  cases hl : look d.nw o with
  | none => rfl
  | some x => exact absurd ⟨h.key _ (look_mem hl), h.desc.look_lt hl⟩ ho

theorem nxt_look {d : Dat I} {X : List (Nat × Ob I)} {o : Nat} : look (nxt d X) o = match look d.nw o with
    | some x => some x
    | none => if d.W.contains o = true then (if (look X o).isSome = true then look d.so o else none) else look X o := by
  rw [nxt, look_append, over_look]
  cases look d.nw o <;> rfl

theorem nxt_congr {d : Dat I} {X X' : List (Nat × Ob I)} {o : Nat} (h : look X o = look X' o) : look (nxt d X) o = look (nxt d X') o := by
  rw [nxt_look, nxt_look, h]

theorem nxt_skip {d : Dat I} (hf : d.Fine) {X : List (Nat × Ob I)} {o : Nat} (h : ¬ touch d o) : look (nxt d X) o = look X o := by
  rw [nxt_look, hf.none (fun e => h (.inl e))]
  have : ¬ d.W.contains o = true := fun e => h (.inr (by simpa using e))
  simp only
  rw [if_neg this]

theorem XD_agree {X0 : List (Nat × Ob I)} {D : Nat → Dat I} {L L' : Nat → Bool} {o : Nat} : ∀ m, (∀ k, k < m → (D k).Fine) → (∀ k, k < m → touch (D k) o → L k = L' k) → look (XD X0 D L m) o = look (XD X0 D L' m) o := by
  intro m
  induction m with
  | zero => intro _ _; rfl
  | succ m ih =>
    intro hf h
    have ih' := ih (fun k hk => hf k (by omega)) (fun k hk => h k (by omega))
    simp only [XD]
    by_cases ht : touch (D m) o
    · rw [h m (by omega) ht]
      split
      · exact nxt_congr ih'
      · exact ih'
    · have e1 : ∀ X, look (nxt (D m) X) o = look X o := fun X => nxt_skip (hf m (by omega)) ht
      split <;> split <;> (try simp only [e1]) <;> exact ih'

theorem XD_ext {X0 : List (Nat × Ob I)} {D : Nat → Dat I} {L L' : Nat → Bool} : ∀ m, (∀ k, k < m → L k = L' k) → XD X0 D L m = XD X0 D L' m := by
  intro m
  induction m with
  | zero => intro _; rfl
  | succ m ih => intro h; simp only [XD, ih (fun k hk => h k (by omega)), h m (by omega)]

theorem XD_skip {X0 : List (Nat × Ob I)} {D : Nat → Dat I} {L : Nat → Bool} {o m : Nat} : ∀ p, m ≤ p → (∀ k, k < p → (D k).Fine) → (∀ k, m ≤ k → k < p → touch (D k) o → L k = false) → look (XD X0 D L p) o = look (XD X0 D L m) o := by
  intro p
  induction p with
  | zero => intro h _ _; have : m = 0 := by omega
            subst this; rfl
  | succ p ih =>
    intro hm hf h
    by_cases he : m = p + 1
    · subst he; rfl
    · have ih' := ih (by omega) (fun k hk => hf k (by omega)) (fun k h1 h2 => h k h1 (by omega))
      simp only [XD]
      split
      · rename_i hL
        have ht : ¬ touch (D p) o := fun ht => by have := h p (by omega) (by omega) ht; rw [this] at hL; cases hL
        rw [nxt_skip (hf p (by omega)) ht]; exact ih'
      · exact ih'

theorem XD_desc {X0 : List (Nat × Ob I)} {D : Nat → Dat I} {L : Nat → Bool} {n : Nat} (h0 : Desc n X0) : ∀ k, (∀ j, j < k → (D j).Fine ∧ n ≤ (D j).b0 ∧ (D j).b0 ≤ (D j).b1 ∧ ∀ i, i < j → (D i).b1 ≤ (D j).b0) →
    ∀ m, n ≤ m → (∀ j, j < k → (D j).b1 ≤ m) → Desc m (XD X0 D L k) := by
  intro k
  induction k with
  | zero => intro _ m hm _; exact h0.mono hm
  | succ k ih =>
    intro h m hm hb
    have ih' := ih (fun j hj => h j (by omega))
    obtain ⟨f1, f2, f3, f4⟩ := h k (by omega)
    simp only [XD]
    split
    · have hd := ih' (D k).b0 f2 (fun j hj => f4 j hj)
      exact (Desc.append f3 f1.desc f1.key (over_desc hd)).mono (hb k (by omega))
    · exact ih' m hm (fun j hj => hb j (by omega))

/-- One operation more. -/
theorem XD_add {X0 : List (Nat × Ob I)} {D : Nat → Dat I} {L L' : Nat → Bool} {o i p : Nat} (hip : i < p) (hf : ∀ k, k < p → (D k).Fine) (hLi : L i = false) (hL' : ∀ j, L' j = (L j || j == i))
    (h : ∀ k, i < k → k < p → touch (D k) o → L k = false) : look (XD X0 D L' p) o = look (nxt (D i) (XD X0 D L p)) o := by
  have e1 : look (XD X0 D L p) o = look (XD X0 D L i) o := XD_skip p (by omega) hf (fun k h1 h2 h3 => by
    by_cases hk : k = i
    · subst hk; exact hLi
    · exact h k (by omega) h2 h3)
  rw [nxt_congr e1]
  have e2 : look (XD X0 D L' p) o = look (XD X0 D L' (i + 1)) o := XD_skip p (by omega) hf (fun k h1 h2 h3 => by
    rw [hL', h k (by omega) h2 h3]; simp; omega)
  rw [e2]
  have e3 : XD X0 D L' (i + 1) = nxt (D i) (XD X0 D L' i) := by simp [XD, hL']
  rw [e3, XD_ext (L := L') (L' := L) i (fun k hk => by rw [hL']; simp; omega)]

/-- What is known of the head's operation i. -/
structure HX (N : Num I) (T : TypeId → Option Ti) (C : FuncId → List (V I) → Sto I → Option (V I × Sto I)) (nt : Nat) (ops : List Oper) (F : List (List Nat)) (S : Sto I) (tm : Tr (V I)) (lo : Nat) (D : Nat → Dat I) (i : Nat) : Prop where
  fine : (D i).Fine
  b0 : S.next ≤ (D i).b0
  b1 : (D i).b0 ≤ (D i).b1
  bs : ∀ j, j < i → (D j).b1 ≤ (D i).b0
  nb : ∀ q, q ∈ (D i).Nn → q < (D i).b0
  rn : ∀ q, q ∈ (D i).R → q ∈ (D i).Nn
  tin : ∀ o, ops[i]? = some o → temsIn (fun o => (D i).Nn.contains o) (tmT nt ops (fun j => (D j).v) tm i) (looks ops o) = true
  oin : obsIn (fun o => (D i).Nn.contains o) (onlyObs (D i).R (XD S.obs D (fun _ => true) i)) = true
  apt : ∀ j, j < i → j ∈ F.getD i [] ∨ ((∀ q, q ∈ (D i).R → q ∉ (D j).W ∧ (q < (D j).b0 ∨ (D j).b1 ≤ q)) ∧ ∀ q, q ∈ (D i).W → q ∉ (D j).R)
  vis : ∀ q, q ∈ (D i).W → (look (onlyObs (D i).R (XD S.obs D (fun _ => true) i)) q).isSome = true
  op : ∃ o, ops[i]? = some o ∧ wants ops (seenX nt ops (D i).b0 o (tmT nt ops (fun j => (D j).v) tm i) (XD S.obs D (fun _ => true) i) (D i).R) o = some (D i).wt ∧
    ((D i).wt = true → ∃ s, aop N T C (seenX nt ops (D i).b0 o (tmT nt ops (fun j => (D j).v) tm i) (XD S.obs D (fun _ => true) i) (D i).R) o = some ((D i).v, s) ∧ s.next = (D i).b1 ∧ s.obs = (D i).so ∧
      (D i).nw = takeNew (D i).b0 s.obs ∧ (D i).W = wroteOf (D i).Nn s.low ∧ lo ≤ s.low) ∧
    ((D i).wt = false → (D i).v = .tup [] ∧ (D i).nw = [] ∧ (D i).W = [])

theorem XD_dat {X0 : List (Nat × Ob I)} {D D' : Nat → Dat I} {L : Nat → Bool} : ∀ m, (∀ k, k < m → D k = D' k) → XD X0 D L m = XD X0 D' L m := by
  intro m
  induction m with
  | zero => intro _; rfl
  | succ m ih => intro h; simp only [XD, ih (fun k hk => h k (by omega)), h m (by omega)]

theorem HX.ext {nt : Nat} {ops : List Oper} {F : List (List Nat)} {S : Sto I} {tm : Tr (V I)} {lo lo' : Nat} {D D' : Nat → Dat I} {i : Nat} (h : HX N T C nt ops F S tm lo D i) (he : ∀ j, j ≤ i → D j = D' j) (hl : lo' ≤ lo) : HX N T C nt ops F S tm lo' D' i := by
  have e0 := he i (Nat.le_refl _)
  have e1 : tmT nt ops (fun j => (D j).v) tm i = tmT nt ops (fun j => (D' j).v) tm i := tmT_ext i (fun j hj => by rw [he j (by omega)])
  have e2 : XD S.obs D (fun _ => true) i = XD S.obs D' (fun _ => true) i := XD_dat i (fun j hj => he j (by omega))
  have ej : ∀ j, j < i → D j = D' j := fun j hj => he j (by omega)
  refine ⟨e0 ▸ h.fine, e0 ▸ h.b0, e0 ▸ h.b1, fun j hj => by rw [← e0, ← ej j hj]; exact h.bs j hj, by rw [← e0]; exact h.nb, by rw [← e0]; exact h.rn, by rw [← e0, ← e1]; exact h.tin, by rw [← e0, ← e2]; exact h.oin,
    fun j hj => by rw [← e0, ← ej j hj]; exact h.apt j hj, by rw [← e0, ← e2]; exact h.vis, ?_⟩
  obtain ⟨o, h1, h2, h3, h4⟩ := h.op
  rw [← e0, ← e1, ← e2]
  exact ⟨o, h1, h2, fun hw => by obtain ⟨s, a1, a2, a3, a4, a5, a6⟩ := h3 hw; exact ⟨s, a1, a2, a3, a4, a5, Nat.le_trans hl a6⟩, h4⟩

def recsOf (D : Nat → Dat I) : Nat → List Rec
  | 0 => []
  | k + 1 => (k, (D k).R, (D k).W, (D k).b0, (D k).b1) :: recsOf D k

theorem recsOf_ext {D D' : Nat → Dat I} : ∀ k, (∀ j, j < k → D j = D' j) → recsOf D k = recsOf D' k := by
  intro k
  induction k with
  | zero => intro _; rfl
  | succ k ih => intro h; simp only [recsOf, ih (fun j hj => h j (by omega)), h k (by omega)]

theorem apart_get {deps R W : List Nat} {D : Nat → Dat I} : ∀ {k : Nat}, apart deps R W (recsOf D k) = true → ∀ j, j < k →
    j ∈ deps ∨ ((∀ q, q ∈ R → q ∉ (D j).W ∧ (q < (D j).b0 ∨ (D j).b1 ≤ q)) ∧ ∀ q, q ∈ W → q ∉ (D j).R)
  | 0, _, j, hj => by omega
  | k + 1, h, j, hj => by
    simp only [recsOf, apart, Bool.and_eq_true] at h
    by_cases hjk : j = k
    · subst hjk
      have h1 := h.1
      rw [Bool.or_eq_true] at h1
      rcases h1 with h1 | h1
      · exact .inl (by simpa using h1)
      · right
        rw [Bool.and_eq_true, List.all_eq_true, List.all_eq_true] at h1
        refine ⟨fun q hq => ?_, fun q hq => ?_⟩
        · have := h1.1 q hq
          simp only [Bool.and_eq_true, Bool.or_eq_true, Nat.blt_eq, Nat.ble_eq] at this
          exact ⟨by simpa using this.1, this.2⟩
        · simpa using h1.2 q hq
    · exact apart_get h.2 j (by omega)

theorem xhead_run {nt : Nat} {ops : List Oper} {F : List (List Nat)} {S : Sto I} {tm tm' : Tr (V I)} {s' : Sto I} {p : Nat} (hp : p ≤ ops.length)
    (hs : xhead N T C nt ops F 0 S.next S.low (ops.take p) tm S.obs [] = some (tm', s')) :
    ∃ D : Nat → Dat I, (∀ i, i < p → HX N T C nt ops F S tm s'.low D i) ∧ tm' = tmT nt ops (fun j => (D j).v) tm p ∧ s'.obs = XD S.obs D (fun _ => true) p ∧ S.next ≤ s'.next ∧ (∀ j, j < p → (D j).b1 ≤ s'.next) ∧ s'.low ≤ S.low := by
  have key : ∀ k, k ≤ p → ∃ (D : Nat → Dat I) (nx lo : Nat), (∀ i, i < k → HX N T C nt ops F S tm lo D i) ∧ S.next ≤ nx ∧ (∀ j, j < k → (D j).b1 ≤ nx) ∧ lo ≤ S.low ∧
      xhead N T C nt ops F k nx lo ((ops.take p).drop k) (tmT nt ops (fun j => (D j).v) tm k) (XD S.obs D (fun _ => true) k) (recsOf D k) = some (tm', s') := by
    intro k
    induction k with
    | zero => intro _; exact ⟨fun _ => ⟨.any, true, [], [], [], [], [], 0, 0⟩, S.next, S.low, by simp, Nat.le_refl _, by simp, Nat.le_refl _, by simpa [tmT, XD, recsOf] using hs⟩
    | succ k ih =>
      intro hk
      obtain ⟨D, nx, lo, h1, h2, h3, h4, h5⟩ := ih (by omega)
      have hlt : k < (ops.take p).length := by rw [List.length_take]; omega
      have hlt2 : k < ops.length := by omega
      rw [List.drop_eq_getElem_cons hlt] at h5
      have hok : ops[k]? = some ((ops.take p)[k]) := by rw [List.getElem_take]; exact List.getElem?_eq_getElem hlt2
      generalize (ops.take p)[k] = o at h5 hok
      simp only [xhead] at h5
      generalize shown (tmT nt ops (fun j => (D j).v) tm k) (XD S.obs D (fun _ => true) k) ops o = RN at h5
      obtain ⟨R, Nn⟩ := RN
      simp only [bite_eq] at h5
      split at h5
      · rename_i hfit
        unfold fitX at hfit
        rw [Bool.and_eq_true, Bool.and_eq_true, Bool.and_eq_true, List.all_eq_true, List.all_eq_true] at hfit
        obtain ⟨⟨⟨g1, g2⟩, g3⟩, g4⟩ := hfit
        have hstep : ∀ (d : Dat I) (lo' : Nat), d.R = R → d.Nn = Nn → d.b0 = nx → nx ≤ d.b1 → d.Fine → lo' ≤ lo → apart (F.getD k []) R d.W (recsOf D k) = true →
            (∀ q, q ∈ d.W → (look (onlyObs R (XD S.obs D (fun _ => true) k)) q).isSome = true) →
            (wants ops (seenX nt ops nx o (tmT nt ops (fun j => (D j).v) tm k) (XD S.obs D (fun _ => true) k) R) o = some d.wt ∧
              (d.wt = true → ∃ s, aop N T C (seenX nt ops nx o (tmT nt ops (fun j => (D j).v) tm k) (XD S.obs D (fun _ => true) k) R) o = some (d.v, s) ∧ s.next = d.b1 ∧ s.obs = d.so ∧ d.nw = takeNew nx s.obs ∧ d.W = wroteOf Nn s.low ∧ lo' ≤ s.low) ∧
              (d.wt = false → d.v = .tup [] ∧ d.nw = [] ∧ d.W = [])) →
            xhead N T C nt ops F (k + 1) d.b1 lo' ((ops.take p).drop (k + 1)) (setTm nt (tmT nt ops (fun j => (D j).v) tm k) o.dst d.v) (nxt d (XD S.obs D (fun _ => true) k)) ((k, R, d.W, nx, d.b1) :: recsOf D k) = some (tm', s') →
            ∃ (D : Nat → Dat I) (nx lo : Nat), (∀ i, i < k + 1 → HX N T C nt ops F S tm lo D i) ∧ S.next ≤ nx ∧ (∀ j, j < k + 1 → (D j).b1 ≤ nx) ∧ lo ≤ S.low ∧
              xhead N T C nt ops F (k + 1) nx lo ((ops.take p).drop (k + 1)) (tmT nt ops (fun j => (D j).v) tm (k + 1)) (XD S.obs D (fun _ => true) (k + 1)) (recsOf D (k + 1)) = some (tm', s') := by
          intro d lo' q1 q2 q3 q4 q5 q6 q7 q8 q9 q10
          obtain ⟨D', hD, hDk⟩ : ∃ D' : Nat → Dat I, (∀ j, j < k → D j = D' j) ∧ D' k = d := ⟨fun j => if j = k then d else D j, fun j hj => by simp only; rw [if_neg (by omega)], by simp⟩
          have e1 : tmT nt ops (fun j => (D' j).v) tm k = tmT nt ops (fun j => (D j).v) tm k := tmT_ext k (fun j hj => by rw [hD j hj])
          have e2 : XD S.obs D' (fun _ => true) k = XD S.obs D (fun _ => true) k := (XD_dat k hD).symm
          have e3 : recsOf D' k = recsOf D k := (recsOf_ext k hD).symm
          refine ⟨D', d.b1, lo', fun i hi => ?_, by omega, fun j hj => ?_, by omega, ?_⟩
          · by_cases hik : i = k
            · subst hik
              refine ⟨by rw [hDk]; exact q5, by rw [hDk, q3]; exact h2, by rw [hDk, q3]; exact q4, fun j hj => by rw [hDk, q3, ← hD j hj]; exact h3 j hj, by rw [hDk, q2, q3]; intro q hq; simpa [Nat.blt_eq] using g3 q hq,
                by rw [hDk, q1, q2]; intro q hq; simpa using g4 q hq, fun o' ho' => by rw [hok] at ho'; cases ho'; rw [hDk, q2, e1]; exact g1, by rw [hDk, q1, q2, e2]; exact g2,
                fun j hj => by rw [hDk, q1, ← hD j hj]; exact apart_get q7 j hj, by rw [hDk, q1, e2]; exact q8, ?_⟩
              rw [hDk, e1, e2, q1, q2, q3]
              exact ⟨o, hok, q9⟩
            · exact (h1 i (by omega)).ext (fun j hj => hD j (by omega)) q6
          · by_cases hjk : j = k
            · subst hjk; rw [hDk]; exact Nat.le_refl _
            · rw [← hD j (by omega)]; have := h3 j (by omega); omega
          · simp only [tmT, XD, recsOf, hok, Option.bind_some, if_true]
            rw [e1, e2, e3, hDk, q1, q3]
            exact q10
        split at h5
        · rename_i hw
          split at h5
          · rename_i x s hx
            split at h5
            · rename_i hc
              rw [Bool.and_eq_true, Bool.and_eq_true, Bool.and_eq_true, List.all_eq_true, Nat.ble_eq] at hc
              obtain ⟨⟨⟨c1, c2⟩, c3⟩, c4⟩ := hc
              refine hstep ⟨x, true, R, Nn, wroteOf Nn s.low, takeNew nx s.obs, s.obs, nx, s.next⟩ (if Nat.blt s.low lo then s.low else lo) rfl rfl rfl c1 ⟨fun q hq => takeNew_key hq, descB_iff c2⟩ ?_ c4 c3 ⟨hw, fun _ => ⟨s, hx, rfl, rfl, rfl, rfl, ?_⟩, by simp⟩ h5
              · split
                · rename_i hb; simp only [Nat.blt_eq] at hb; omega
                · exact Nat.le_refl _
              · split
                · exact Nat.le_refl _
                · rename_i hb; simp only [Nat.blt_eq] at hb; omega
            · cases h5
          · cases h5
        · rename_i hw
          split at h5
          · rename_i hc
            refine hstep ⟨.tup [], false, R, Nn, [], [], [], nx, nx⟩ lo rfl rfl rfl (Nat.le_refl _) ⟨by simp, trivial⟩ (Nat.le_refl _) hc (by simp) ⟨hw, by simp, fun _ => ⟨rfl, rfl, rfl⟩⟩ ?_
            simp only [nxt, over_nil, List.nil_append]
            exact h5
          · cases h5
        · cases h5
      · cases h5
  obtain ⟨D, nx, lo, h1, h2, h3, h4, h5⟩ := key p (Nat.le_refl _)
  have : (ops.take p).drop p = [] := List.drop_eq_nil_of_le (by rw [List.length_take]; omega)
  rw [this] at h5
  simp only [xhead, Option.some.injEq, Prod.mk.injEq] at h5
  obtain ⟨rfl, rfl⟩ := h5
  exact ⟨D, h1, rfl, rfl, h2, h3, h4⟩

end
end Go.Sx

/-
  Regions of open order, second way: whatever the order.
-/
namespace Go.Sx
open Go.RowKit

section
variable {I : Type} {N : Num I} {Δ : Den I} {P : Program} {T : TypeId → Option Ti} {C : FuncId → List (V I) → Sto I → Option (V I × Sto I)} {B : Nat} {c : Cx} {st : St I} {sto : Sto I} {a : Act}

/-- What holds while the operations in L of the head have run. -/
structure XInv (Δ : Den I) (B : Nat) (ops : List Oper) (p nx lo : Nat) (S : Sto I) (c0 : Cx) (f0 : Nat → V I) (D : Nat → Dat I) (L : Nat → Bool) (c : Cx) (tmps : Array Value) : Prop where
  step : Step Δ B c0 S c ⟨nx, XD S.obs D L p, lo⟩
  val : ∀ t j, j < p → (ops[j]?).bind (·.dst) = some t → L j = true → VR Δ B c (D j).v (tmps.getD t undef)
  ini : ∀ t, (∀ j, j < p → (ops[j]?).bind (·.dst) = some t → L j = false) → VR Δ B c0 (f0 t) (tmps.getD t undef)
  free : ∀ j, j < p → L j = false → ∀ o, (D j).b0 ≤ o → o < (D j).b1 → c.κ o = none

/-- Who touches what the operation sees is ordered against it. -/
theorem HX.ordered {nt : Nat} {ops : List Oper} {F : List (List Nat)} {S : Sto I} {tm : Tr (V I)} {lo p : Nat} {D : Nat → Dat I} (hD : ∀ i, i < p → HX N T C nt ops F S tm lo D i) {i k o : Nat} (hi : i < p) (hk : k < p) (hki : k ≠ i)
    (ho : o ∈ (D i).R) (ht : touch (D k) o) : (k < i ∧ k ∈ F.getD i []) ∨ (i < k ∧ i ∈ F.getD k []) := by
  rcases Nat.lt_or_ge k i with h1 | h1
  · left
    refine ⟨h1, ?_⟩
    rcases (hD i hi).apt k h1 with h2 | ⟨h2, _⟩
    · exact h2
    · obtain ⟨h3, h4⟩ := h2 o ho
      rcases ht with ⟨t1, t2⟩ | t1
      · omega
      · exact absurd t1 h3
  · right
    have h1 : i < k := by omega
    refine ⟨h1, ?_⟩
    rcases (hD k hk).apt i h1 with h2 | ⟨_, h2⟩
    · exact h2
    · rcases ht with ⟨t1, t2⟩ | t1
      · have := (hD i hi).nb o ((hD i hi).rn o ho)
        have := (hD k hk).bs i h1
        have := (hD i hi).b1
        omega
      · exact absurd ho (h2 o t1)

section
variable {nt : Nat} {ops : List Oper} {F : List (List Nat)} {S : Sto I} {tm : Tr (V I)} {lo p nx : Nat} {D : Nat → Dat I} {c0 : Cx} {f0 : Nat → V I} {L L' : Nat → Bool} {tmps : Array Value} {i : Nat}

theorem HX.same (hD : ∀ i, i < p → HX N T C nt ops F S tm lo D i) (hi : i < p) (hLi : L i = false) (hF : ∀ j, j ∈ F.getD i [] → L j = true) (hDn : ∀ j, j < p → L j = true → i ∉ F.getD j []) {o : Nat} (ho : o ∈ (D i).R) :
    look (XD S.obs D (fun _ => true) i) o = look (XD S.obs D L p) o := by
  have e1 : look (XD S.obs D (fun k => decide (k < i)) p) o = look (XD S.obs D (fun k => decide (k < i)) i) o := XD_skip p (by omega) (fun k hk => (hD k hk).fine) (fun k h1 h2 _ => by simp; omega)
  have e2 : XD S.obs D (fun k => decide (k < i)) i = XD S.obs D (fun _ => true) i := XD_ext i (fun k hk => by simp [hk])
  rw [← e2, ← e1]
  refine XD_agree p (fun k hk => (hD k hk).fine) (fun k hk ht => ?_)
  by_cases hki : k = i
  · subst hki; rw [hLi]; simp
  · rcases HX.ordered hD hi hk hki ho ht with ⟨h1, h2⟩ | ⟨h1, h2⟩
    · rw [hF k h2]; simp [h1]
    · have : L k = false := by
        cases hL : L k with
        | false => rfl
        | true => exact absurd h2 (hDn k hk hL)
      rw [this]; simp; omega

theorem obsIn_look {ok : Nat → Bool} : ∀ {l : List (Nat × Ob I)} {o : Nat} {x : Ob I}, obsIn ok l = true → look l o = some x → inNs ok x = true
  | [], o, x, _, h => by simp [look] at h
  | (k, b) :: r, o, x, hs, h => by
    simp only [obsIn, Bool.and_eq_true] at hs
    rw [look_cons] at h
    split at h
    · cases h; exact hs.1
    · exact obsIn_look hs.2 h

theorem temsIn_get {ok : Nat → Bool} {tm : Tr (V I)} : ∀ {ts : List Nat}, temsIn ok tm ts = true → ∀ t, t ∈ ts → (tm.get .any t).inN ok = true
  | [], _, t, h => by simp at h
  | u :: r, hs, t, h => by
    simp only [temsIn, Bool.and_eq_true] at hs
    rcases List.mem_cons.1 h with rfl | h
    · exact hs.1
    · exact temsIn_get hs.2 t h

theorem XInv.sees (h : XInv Δ B ops p nx lo S c0 f0 D L c tmps) (h0 : SInv Δ B c0 S) (hD : ∀ i, i < p → HX N T C nt ops F S tm lo D i) (hi : i < p) (hLi : L i = false) (hF : ∀ j, j ∈ F.getD i [] → L j = true) (hDn : ∀ j, j < p → L j = true → i ∉ F.getD j []) :
    SInv Δ B (c.only (D i).Nn) ⟨(D i).b0, onlyObs (D i).R (XD S.obs D (fun _ => true) i), (D i).b0⟩ := by
  have hsame : ∀ {o}, o ∈ (D i).R → look (XD S.obs D (fun _ => true) i) o = look (XD S.obs D L p) o := fun ho => HX.same hD hi hLi hF hDn ho
  have hl : ∀ {o x}, look (onlyObs (D i).R (XD S.obs D (fun _ => true) i)) o = some x → o ∈ (D i).R ∧ look (XD S.obs D L p) o = some x := by
    intro o x hx
    rw [onlyObs_look] at hx
    split at hx
    · rename_i hc
      have ho : o ∈ (D i).R := by simpa using hc
      exact ⟨ho, by rw [← hsame ho]; exact hx⟩
    · cases hx
  have hi' := hD i hi
  refine ⟨h.step.inv.base, fun o ho => ?_, fun o b n hk => h.step.inv.blk o b n (only_κ hk).2, fun o x hx => ?_, fun o o' x x' b n n' hx hx' hk hk' => ?_, ?_, h.step.inv.g⟩
  · simp only [Cx.only]
    split
    · rename_i hc
      have := hi'.nb o (by simpa using hc)
      simp only at ho; omega
    · rfl
  · obtain ⟨ho, hx2⟩ := hl hx
    obtain ⟨b, cur, e, e1, e2, e4⟩ := h.step.inv.ob o x hx2
    exact ⟨b, cur, e, only_of e1 (by simpa using hi'.rn o ho), e2, e4.only (obsIn_look hi'.oin hx)⟩
  · exact h.step.inv.inj o o' x x' b n n' (hl hx).2 (hl hx').2 (only_κ hk).2 (only_κ hk').2
  · refine onlyObs_desc (XD_desc h0.desc i (fun j hj => ?_) _ hi'.b0 (fun j hj => hi'.bs j hj))
    have := hD j (by omega)
    exact ⟨this.fine, this.b0, this.b1, this.bs⟩

/-- One operation of the head more has run. -/
theorem XInv.next (h : XInv Δ B ops p nx lo S c0 f0 D L c a.tmps) (h0 : SInv Δ B c0 S) (hD : ∀ i, i < p → HX N T C nt ops F S tm lo D i) (hnx : S.next ≤ nx) (hnx2 : ∀ j, j < p → (D j).b1 ≤ nx) (hlo : lo ≤ S.low)
    (hi : i < p) (hLi : L i = false) (hF : ∀ j, j ∈ F.getD i [] → L j = true) (hDn : ∀ j, j < p → L j = true → i ∉ F.getD j []) (hL' : ∀ j, L' j = (L j || j == i))
    {c' : Cx} {s : Sto I} (hst : Step Δ B (c.only (D i).Nn) ⟨(D i).b0, onlyObs (D i).R (XD S.obs D (fun _ => true) i), (D i).b0⟩ c' s)
    (hs1 : s.next = (D i).b1) (hs2 : s.obs = (D i).so) (hs3 : (D i).nw = takeNew (D i).b0 s.obs) (hs4 : (D i).W = wroteOf (D i).Nn s.low) (hs5 : lo ≤ s.low)
    {u : Value} (hv : VR Δ B c' (D i).v u) {d : Option Tmp} (hdst : (ops[i]?).bind (·.dst) = d) (ht : ∀ t, d = some t → t < a.tmps.size)
    (huniq : ∀ t, d = some t → ∀ j, j < p → j ≠ i → (ops[j]?).bind (·.dst) ≠ some t) :
    ∃ c'', c''.w = c'.w ∧ XInv Δ B ops p nx lo S c0 f0 D L' c'' (a.put d u).tmps := by
  have hi' := hD i hi
  have hsame : ∀ {o}, o ∈ (D i).R → look (XD S.obs D (fun _ => true) i) o = look (XD S.obs D L p) o := fun ho => HX.same hD hi hLi hF hDn ho
  -- what has been written was seen
  have hW : ∀ o, o ∈ (D i).W ↔ o ∈ (D i).Nn ∧ s.low ≤ o := by
    intro o; rw [hs4]; simp [wroteOf, List.mem_filter, Nat.ble_eq]
  have hWR : ∀ o, o ∈ (D i).W → o ∈ (D i).R ∧ ∃ x, look (XD S.obs D L p) o = some x := by
    intro o ho
    have h1 := hi'.vis o ho
    rw [onlyObs_look] at h1
    split at h1
    · rename_i hc
      have hR : o ∈ (D i).R := by simpa using hc
      rw [hsame hR] at h1
      exact ⟨hR, Option.isSome_iff_exists.1 h1⟩
    · simp at h1
  -- what the operation has named
  have hnew : ∀ o x, c'.κ o = some x → (o ∈ (D i).Nn ∧ c.κ o = some x) ∨ ((D i).b0 ≤ o ∧ o < (D i).b1 ∧ (c.w.heap.size ≤ x.1 ∨ ∃ o' n', o' ∈ (D i).Nn ∧ c.κ o' = some (x.1, n') ∧ s.low ≤ o')) := by
    intro o x hx
    cases hk : (c.only (D i).Nn).κ o with
    | some y =>
      have := hst.κ o y hk
      rw [hx] at this; cases this
      exact .inl (only_κ hk)
    | none =>
      have h1 := hst.new o x hx hk
      refine .inr ⟨h1, ?_, ?_⟩
      · rcases Nat.lt_or_ge o s.next with h2 | h2
        · omega
        · rw [hst.inv.fresh o h2] at hx; cases hx
      · rcases Nat.lt_or_ge x.1 c.w.heap.size with h2 | h2
        · right
          obtain ⟨o', n', k1, k2⟩ := hst.old o x.1 x.2 hx hk h2
          exact ⟨o', n', (only_κ k1).1, (only_κ k1).2, k2⟩
        · exact .inl h2
  have hnb : ∀ o, o ∈ (D i).Nn → ¬ ((D i).b0 ≤ o ∧ o < (D i).b1) := fun o ho hc => by have := hi'.nb o ho; omega
  let c'' : Cx := ⟨c'.w, fun o => if (D i).b0 ≤ o ∧ o < (D i).b1 then c'.κ o else c.κ o⟩
  have hle1 : Cx.le B c' c'' := by
    refine ⟨fun _ _ => rfl, fun o x hx => ?_, .refl _⟩
    simp only [c'']
    rcases hnew o x hx with ⟨h1, h2⟩ | ⟨h1, h2, _⟩
    · rw [if_neg (hnb o h1)]; exact h2
    · rw [if_pos ⟨h1, h2⟩]; exact hx
  have hκ : ∀ o x, c.κ o = some x → c''.κ o = some x := by
    intro o x hx
    simp only [c'']
    by_cases ho : (D i).b0 ≤ o ∧ o < (D i).b1
    · rw [h.free i hi hLi o ho.1 ho.2] at hx; cases hx
    · rw [if_neg ho]; exact hx
  have hleB : ∀ b, b < B → c'.w.heap[b]? = c.w.heap[b]? := fun b hb => hst.below.block b hb
  have hle2 : Cx.le B c c'' := ⟨hleB, hκ, hst.oth⟩
  have hsz : c.w.heap.size ≤ c'.w.heap.size := hst.below.size
  have hkeep : ∀ b, b < c.w.heap.size → (∀ o n, o ∈ (D i).Nn → c.κ o = some (b, n) → o < s.low) → c'.w.heap[b]? = c.w.heap[b]? :=
    fun b hb hc => hst.keep b hb (fun o n hk => hc o n (only_κ hk).1 (only_κ hk).2)
  have hLj : ∀ j, j ≠ i → L' j = L j := by intro j hj; rw [hL']; simp [hj]
  have hLi' : L' i = true := by rw [hL']; simp
  have hfine : ∀ k, k < p → (D k).Fine := fun k hk => (hD k hk).fine
  have hsd : Desc s.next s.obs := hst.inv.desc
  -- what an object is now
  have hcase : ∀ {o x}, look (XD S.obs D L' p) o = some x →
      (look s.obs o = some x ∧ (((D i).b0 ≤ o ∧ o < (D i).b1) ∨ o ∈ (D i).W)) ∨ (look (XD S.obs D L p) o = some x ∧ ¬ ((D i).b0 ≤ o ∧ o < (D i).b1) ∧ o ∉ (D i).W) := by
    intro o x hx
    by_cases ht : touch (D i) o
    · left
      have hlater : ∀ k, i < k → k < p → touch (D k) o → L k = false := by
        intro k h1 h2 h3
        cases hL : L k with
        | false => rfl
        | true =>
          exfalso
          have hnF := hDn k h2 hL
          rcases (hD k h2).apt i h1 with h4 | ⟨h4, h5⟩
          · exact hnF h4
          · rcases h3 with ⟨t1, t2⟩ | t1
            · have := (hD k h2).bs i h1
              rcases ht with ⟨u1, u2⟩ | u1
              · omega
              · have := hi'.nb o ((hW o).1 u1).1
                have := hi'.b1
                omega
            · -- k writes what i has made or written: it was shown it
              have hkR : o ∈ (D k).R := by
                have := (hD k h2).vis o t1
                rw [onlyObs_look] at this
                split at this
                · rename_i hc; simpa using hc
                · simp at this
              obtain ⟨h6, h7⟩ := h4 o hkR
              rcases ht with ⟨u1, u2⟩ | u1
              · omega
              · exact h6 u1
      rw [XD_add hi hfine hLi hL' hlater, nxt_look] at hx
      by_cases hb : (D i).b0 ≤ o ∧ o < (D i).b1
      · refine ⟨?_, .inl hb⟩
        rw [hs3, look_takeNew hb.1 hsd] at hx
        cases hl : look s.obs o with
        | some y => rw [hl] at hx; simpa using hx
        | none =>
          rw [hl] at hx
          have hnW : ¬ (D i).W.contains o = true := fun hc => hnb o ((hW o).1 (by simpa using hc)).1 hb
          simp only at hx
          rw [if_neg hnW] at hx
          -- no object of that name was there
          exfalso
          obtain ⟨b, cur, e, e1, _⟩ := h.step.inv.ob o x hx
          rw [h.free i hi hLi o hb.1 hb.2] at e1; cases e1
      · rcases ht with ht | ht
        · exact absurd ht hb
        · refine ⟨?_, .inr ht⟩
          rw [hi'.fine.none hb] at hx
          have hc : (D i).W.contains o = true := by simpa using ht
          simp only at hx
          rw [if_pos hc] at hx
          split at hx
          · rw [hs2]; exact hx
          · cases hx
    · right
      refine ⟨?_, fun hb => ht (.inl hb), fun hw => ht (.inr hw)⟩
      rw [← hx]
      refine (XD_agree p hfine (fun k hk htk => ?_)).symm
      exact hLj k (fun e => ht (e ▸ htk))
  -- the block of what has not been written
  have hold : ∀ {o x}, look (XD S.obs D L p) o = some x → o ∉ (D i).W → ∀ b n, c.κ o = some (b, n) → ∀ o' n', o' ∈ (D i).Nn → c.κ o' = some (b, n') → o' < s.low := by
    intro o x hx hnW b n hk o' n' ho' hk'
    rcases Nat.lt_or_ge o' s.low with h1 | h1
    · exact h1
    · exfalso
      have hw := (hW o').2 ⟨ho', h1⟩
      obtain ⟨_, y, hy⟩ := hWR o' hw
      have := h.step.inv.inj o o' x y b n n' hx hy hk hk'
      subst this
      exact hnW hw
  have hsnew : ∀ {o x}, look s.obs o = some x → ∃ b cur e, c'.κ o = some (b, e) ∧ c'.w.heap[b]? = some cur ∧ ObR Δ B c' x cur e := fun hx => hst.inv.ob _ _ hx
  refine ⟨c'', rfl, ⟨⟨⟨?_, ?_, ?_, ?_, ?_, ?_, fun w hb => h.step.inv.g w (hst.below.keepC.trans hb)⟩, fun o x hx => hκ _ _ (h.step.κ o x hx), h.step.below.trans hst.below, hnx, hlo, ?_, ?_, ?_, fun a ha => (by rw [hst.frz a (Nat.lt_of_lt_of_le ha h.step.below.size)]; exact h.step.frz a ha), h.step.oth.trans hst.oth⟩, ?_, ?_, ?_⟩⟩
  · exact Nat.le_trans h.step.inv.base hsz
  · intro o ho
    simp only at ho
    have := hnx2 i hi
    simp only [c'']
    rw [if_neg (by omega)]
    exact h.step.inv.fresh o ho
  · intro o b n hk
    simp only [c''] at hk
    split at hk
    · exact hst.inv.blk o b n hk
    · have := h.step.inv.blk o b n hk
      exact ⟨this.1, Nat.lt_of_lt_of_le this.2 hsz⟩
  · intro o x hx
    rcases hcase hx with ⟨h1, h2⟩ | ⟨h1, h2, h3⟩
    · obtain ⟨b, cur, e, e1, e2, e4⟩ := hsnew h1
      exact ⟨b, cur, e, hle1.κ _ _ e1, e2, e4.mono hle1⟩
    · obtain ⟨b, cur, e, e1, e2, e4⟩ := h.step.inv.ob o x h1
      have hb := (h.step.inv.blk o b _ e1).2
      exact ⟨b, cur, e, hκ _ _ e1, by rw [show c''.w = c'.w from rfl, hkeep b hb (hold h1 h3 b _ e1)]; exact e2, e4.mono hle2⟩
  · -- two objects, one block
    have hc1 : ∀ {o x}, look s.obs o = some x → ∀ {b n}, c''.κ o = some (b, n) → c'.κ o = some (b, n) := by
      intro o x hx b n hk
      obtain ⟨b', cur, e, e1, _⟩ := hsnew hx
      have := hle1.κ _ _ e1
      rw [hk] at this; cases this
      exact e1
    have hc2 : ∀ {o b n}, ¬ ((D i).b0 ≤ o ∧ o < (D i).b1) → c''.κ o = some (b, n) → c.κ o = some (b, n) := by
      intro o b n ho hk
      simp only [c''] at hk
      rwa [if_neg ho] at hk
    have mixed : ∀ {o o' x x' b n n'}, look s.obs o = some x → (((D i).b0 ≤ o ∧ o < (D i).b1) ∨ o ∈ (D i).W) → c'.κ o = some (b, n) → look (XD S.obs D L p) o' = some x' → o' ∉ (D i).W → c.κ o' = some (b, n') → False := by
      intro o o' x x' b n n' g1 g2 g3 g4 g5 g6
      rcases hnew o _ g3 with ⟨k1, k2⟩ | ⟨k1, k2, k3⟩
      · rcases g2 with g2 | g2
        · exact hnb o k1 g2
        · obtain ⟨_, y, hy⟩ := hWR o g2
          have := h.step.inv.inj o o' y x' b n n' hy g4 k2 g6
          subst this
          exact g5 g2
      · rcases k3 with k3 | ⟨o2, n2, m1, m2, m3⟩
        · have := (h.step.inv.blk _ _ _ g6).2; simp only at k3; omega
        · have hw := (hW o2).2 ⟨m1, m3⟩
          obtain ⟨_, y, hy⟩ := hWR o2 hw
          have := h.step.inv.inj o2 o' y x' b n2 n' hy g4 m2 g6
          subst this
          exact g5 hw
    intro o o' x x' b n n' hx hx' hk hk'
    rcases hcase hx with ⟨g1, g2⟩ | ⟨g1, g2, g3⟩ <;> rcases hcase hx' with ⟨g1', g2'⟩ | ⟨g1', g2', g3'⟩
    · exact hst.inv.inj o o' x x' b n n' g1 g1' (hc1 g1 hk) (hc1 g1' hk')
    · exact (mixed g1 g2 (hc1 g1 hk) g1' g3' (hc2 g2' hk')).elim
    · exact (mixed g1' g2' (hc1 g1' hk') g1 g3 (hc2 g2 hk)).elim
    · exact h.step.inv.inj o o' x x' b n n' g1 g1' (hc2 g2 hk) (hc2 g2' hk')
  · refine XD_desc h0.desc p (fun j hj => ?_) _ hnx hnx2
    have := hD j hj
    exact ⟨this.fine, this.b0, this.b1, this.bs⟩
  · intro b hb hc
    show c'.w.heap[b]? = _
    rw [hkeep b (Nat.lt_of_lt_of_le hb h.step.below.size) (fun o n ho hk => ?_), h.step.keep b hb hc]
    cases hk0 : c0.κ o with
    | some y =>
      have := h.step.κ o y hk0
      rw [hk] at this; cases this
      exact Nat.lt_of_lt_of_le (hc o n hk0) hs5
    | none =>
      obtain ⟨o', n', k1, k2⟩ := h.step.old o b n hk hk0 hb
      have := hc o' n' k1
      simp only at this k2
      omega
  · intro o b n hk hn hb
    have fromc : ∀ o n, c.κ o = some (b, n) → s.low ≤ o ∨ c0.κ o = none → ∃ o' n', c0.κ o' = some (b, n') ∧ lo ≤ o' := by
      intro o n hk hor
      cases hk0 : c0.κ o with
      | some y =>
        have := h.step.κ o y hk0
        rw [hk] at this; cases this
        rcases hor with h1 | h1
        · exact ⟨o, n, hk0, by omega⟩
        · rw [hk0] at h1; cases h1
      | none => exact h.step.old o b n hk hk0 hb
    simp only [c''] at hk
    split at hk
    · rcases hnew o _ hk with ⟨_, h2⟩ | ⟨_, _, h3⟩
      · exact fromc o n h2 (.inr hn)
      · rcases h3 with h3 | ⟨o2, n2, _, m2, m3⟩
        · have := h.step.below.size; simp only at h3; omega
        · exact fromc o2 n2 m2 (.inl m3)
    · exact fromc o n hk (.inr hn)
  · intro o x hk hn
    simp only [c''] at hk
    split at hk
    · rename_i ho
      have := hi'.b0
      omega
    · exact h.step.new o x hk hn
  · intro t' j hj hd' hLj'
    by_cases hji : j = i
    · subst hji
      rw [hdst] at hd'
      subst hd'
      have : (a.put (some t') u).tmps.getD t' undef = u := by simp [Act.put, Array.getD_eq_getD_getElem?, ht t' rfl]
      rw [this]
      exact hv.mono hle1
    · rw [hLj j hji] at hLj'
      have hne : d ≠ some t' := fun e => huniq t' e j hj hji hd'
      have : (a.put d u).tmps.getD t' undef = a.tmps.getD t' undef := by
        cases d with
        | none => rfl
        | some t => have : t ≠ t' := fun e => hne (by rw [e]); simp [Act.put, Array.getD_eq_getD_getElem?, Array.getElem?_setIfInBounds, this]
      rw [this]
      exact (h.val t' j hj hd' hLj').mono hle2
  · intro t' hno
    have hne : d ≠ some t' := by
      intro e
      have := hno i hi (by rw [hdst]; exact e)
      rw [hLi'] at this; cases this
    have : (a.put d u).tmps.getD t' undef = a.tmps.getD t' undef := by
      cases d with
      | none => rfl
      | some t => have : t ≠ t' := fun e => hne (by rw [e]); simp [Act.put, Array.getD_eq_getD_getElem?, Array.getElem?_setIfInBounds, this]
    rw [this]
    refine h.ini t' (fun j hj hd' => ?_)
    by_cases hji : j = i
    · subst hji; exact hLi
    · rw [← hLj j hji]; exact hno j hj hd'
  · intro j hj hLj' o h1 h2
    have hji : j ≠ i := fun e => by subst e; rw [hLi'] at hLj'; cases hLj'
    rw [hLj j hji] at hLj'
    simp only [c'']
    rw [if_neg]
    · exact h.free j hj hLj' o h1 h2
    · rintro ⟨h3, h4⟩
      rcases Nat.lt_or_ge j i with h5 | h5
      · have := hi'.bs j h5; omega
      · have := (hD j hj).bs i (by omega); omega

end
end
end Go.Sx

/-
  Regions of open order, both ways together.
-/
namespace Go.Sx
open Go.RowKit

section
variable {I : Type} {N : Num I} {Δ : Den I} {P : Program} {T : TypeId → Option Ti} {C : FuncId → List (V I) → Sto I → Option (V I × Sto I)} {B : Nat} {c : Cx} {st : St I} {sto : Sto I} {a : Act}

theorem headOk2_dst {ops : List Oper} {F : List (List Nat)} {p : Nat} (h : headOk2 ops F p = true) {i : Nat} (hi : i < p) {o : Oper} (ho : ops[i]? = some o) {t : Nat} (ht : o.dst = some t) :
    ∀ j, j < p → ∃ q, ops[j]? = some q ∧ (q.dst ≠ some t ∨ j = i) ∧ (t ∈ looks ops q → (i < j ∧ i ∈ F.getD j []) ∨ (j < i ∧ j ∈ F.getD i [])) := by
  unfold headOk2 at h
  rw [List.all_eq_true] at h
  have h1 := h i (List.mem_range.2 hi)
  rw [ho] at h1
  simp only [ht] at h1
  intro j hj
  rw [List.all_eq_true] at h1
  have h2 := h1 j (List.mem_range.2 hj)
  split at h2
  · rename_i q hq
    refine ⟨q, hq, ?_, fun hl => ?_⟩
    · simp only [Bool.and_eq_true, Bool.or_eq_true] at h2
      rcases h2.1 with h3 | h3
      · exact .inl (by simpa using h3)
      · exact .inr (by simpa using h3)
    · simp only [Bool.and_eq_true, Bool.or_eq_true] at h2
      have h3 := h2.2
      have hc : (looks ops q).contains t = true := by simpa using hl
      rw [hc] at h3
      simp only [Bool.not_true, Bool.false_eq_true, decide_eq_true_eq, or_false, false_or] at h3
      rcases h3 with ⟨a1, a2⟩ | ⟨a1, a2⟩
      · exact .inl ⟨a1, by simpa using a2⟩
      · exact .inr ⟨a1, by simpa using a2⟩
  · cases h2

theorem XD_idle {X0 : List (Nat × Ob I)} {D : Nat → Dat I} {L L' : Nat → Bool} {i : Nat} (hn : ∀ X, nxt (D i) X = X) (hL' : ∀ j, L' j = (L j || j == i)) : ∀ k, XD X0 D L' k = XD X0 D L k := by
  intro k
  induction k with
  | zero => rfl
  | succ k ih =>
    simp only [XD, ih]
    by_cases hki : k = i
    · subst hki; simp only [hn, ite_self]
    · rw [hL' k, show (k == i) = false by simp [hki], Bool.or_false]

theorem xhead_sound (hN : N.Ok Δ) (hG : NoCount P) (hT : TOk P T) (hC : COkY P Δ B C) {nt : Nat} {ops : Array Oper} {ro : Option Nat} {n : Nat} {Q : Exit → Act → World → Prop} {F : List (List Nat)} {p nx lo : Nat} (hp : p ≤ ops.size)
    (hb : befOk ops.toList F = true) (hch : chain ops.toList F p = true) (hho : headOk2 ops.toList F p = true) (hds : dstsOk2 nt (ops.toList.take p) = true)
    {c0 : Cx} {S : Sto I} {tm0 : Tr (V I)} (h0 : SInv Δ B c0 S) {dl : List Deferred} {D : Nat → Dat I} (hD : ∀ i, i < p → HX N T C nt ops.toList F S tm0 lo D i)
    (hnx : S.next ≤ nx) (hnx2 : ∀ j, j < p → (D j).b1 ≤ nx) (hlo : lo ≤ S.low)
    (HT : ∀ (fuel : Nat) (listed : Array Bool) (c : Cx) (a : Act), listed.size = ops.size → p + fuel = ops.size → (∀ i, listed.getD i false = decide (i < p)) → Step Δ B c0 S c ⟨nx, XD S.obs D (fun _ => true) p, lo⟩ →
      TmR Δ B c (tmT nt ops.toList (fun j => (D j).v) tm0 p) a.tmps → a.tmps.size = nt → a.defers = dl → wpAnyIn (Fw ro) n P .any ops Q fuel listed a c.w) :
    ∀ (fuel : Nat) (listed : Array Bool) (c : Cx) (a : Act), listed.size = ops.size → unl (fun i => listed.getD i false) ops.size = fuel →
      (∀ (i : Nat) (o : Oper), ops.toList[i]? = some o → listed.getD i false = true → ∀ k, k ∈ bindsOn o → listed.getD k false = true) → (∀ i, p ≤ i → listed.getD i false = false) →
      XInv Δ B ops.toList p nx lo S c0 (fun t => tm0.get .any t) D (fun i => listed.getD i false) c a.tmps → a.tmps.size = nt → a.defers = dl → wpAnyIn (Fw ro) n P .any ops Q fuel listed a c.w := by
  -- behind the head
  have htail : ∀ (fuel : Nat) (listed : Array Bool) (c : Cx) (a : Act), listed.size = ops.size → p + fuel = ops.size → (∀ i, listed.getD i false = decide (i < p)) →
      XInv Δ B ops.toList p nx lo S c0 (fun t => tm0.get .any t) D (fun i => listed.getD i false) c a.tmps → a.tmps.size = nt → a.defers = dl → wpAnyIn (Fw ro) n P .any ops Q fuel listed a c.w := by
    intro fuel listed c a hsz hpf hl h hnt hd
    have hst := h.step
    rw [XD_ext p (L := fun i => listed.getD i false) (L' := fun _ => true) (fun j hj => by simp only [hl]; simp [hj])] at hst
    refine HT fuel listed c a hsz hpf hl hst (fun t => ?_) hnt hd
    rcases tmT_get (nt := nt) (ops := ops.toList) (v := fun j => (D j).v) (tm := tm0) p t with h1 | ⟨j, h1, h2, h3⟩ | ⟨h1, h2⟩
    · rw [h1]; exact .any _
    · rw [h3]; exact h.val t j h1 h2 (by simp only [hl]; simp [h1])
    · rw [h2]; exact (h.ini t (fun j hj hd => absurd hd (h1 j hj))).mono h.step.le
  intro fuel
  induction fuel with
  | zero =>
    intro listed c a hsz hu hdc hge h hnt hd
    have hall := unl_zero _ hu
    have hpn : p = ops.size := by
      rcases Nat.lt_or_ge p ops.size with hlt | hge'
      · have h1 := hall p hlt
        rw [hge p (Nat.le_refl _)] at h1; cases h1
      · omega
    refine htail 0 listed c a hsz (by omega) (fun i => ?_) h hnt hd
    by_cases hi : i < ops.size
    · rw [hall i hi]; simp; omega
    · rw [hge i (by omega)]; simp; omega
  | succ fuel ih =>
    intro listed c a hsz hu hdc hge h hnt hd
    by_cases hheads : ∀ i, i < p → listed.getD i false = true
    · have hlp : ∀ i, listed.getD i false = decide (i < p) := by
        intro i
        by_cases hi : i < p
        · rw [hheads i hi]; simp [hi]
        · rw [hge i (by omega)]; simp; omega
      have hcount : ∀ k, unl (fun i => decide (i < p)) k = k - p := by
        intro k
        induction k with
        | zero => simp [unl]
        | succ k ihk =>
          simp only [unl, ihk]
          by_cases hk : k < p
          · simp [hk]; omega
          · simp [hk]; omega
      have hfu : fuel + 1 = ops.size - p := by
        rw [← hu, unl_ext (L' := fun i => decide (i < p)) ops.size (fun j _ => hlp j), hcount]
      exact htail (fuel + 1) listed c a hsz (by omega) hlp h hnt hd
    · have hex : ∃ i, i < p ∧ listed.getD i false = false := by
        apply Classical.byContradiction
        intro hno
        exact hheads fun i hi => by
          cases hL : listed.getD i false with
          | true => rfl
          | false => exact absurd ⟨i, hi, hL⟩ hno
      have hbefq := befOk_lt hb
      obtain ⟨i0, l1, l2, l3⟩ := least (L := fun i => listed.getD i false) p hex
      have hi0 : i0 ∈ Region.ready .any ops listed :=
        (mem_ready hsz).2 ⟨by omega, l2, ops[i0]'(by omega), Array.getElem?_eq_getElem _, fun k hk => l3 k (hbefq i0 _ (by simp [show i0 < ops.size by omega]) k hk)⟩
      refine ⟨fun hr => absurd (hr ▸ hi0) (by simp), fun i hi => ?_⟩
      obtain ⟨h1, h2, o, ho, h3⟩ := (mem_ready hsz).1 hi
      have ho' : ops.toList[i]? = some o := by simpa using ho
      have hbefs := bef_sub hb (L := fun j => listed.getD j false) hdc i o ho' h3
      have hdn : ∀ j q, ops.toList[j]? = some q → listed.getD j false = true → i ∉ F.getD j [] := by
        intro j q m1 hL r2
        have h9 : listed.getD i false = true := bef_sub hb (L := fun j => listed.getD j false) hdc j q m1 (fun k hk => hdc j q m1 hL k hk) i r2
        rw [h2] at h9; cases h9
      by_cases hip : i < p
      · have hx := hD i hip
        obtain ⟨o', e1, e2, e3, e4⟩ := hx.op
        rw [ho'] at e1
        cases e1
        have hdeps : ∀ j, j ∈ F.getD i [] → listed.getD j false = true := hbefs
        have hDn : ∀ j, j < p → listed.getD j false = true → i ∉ F.getD j [] := fun j hj hL => hdn j (ops.toList[j]'(by simp; omega)) (List.getElem?_eq_getElem _) hL
        have hsee := h.sees h0 hD hip h2 hdeps hDn
        -- the temporaries that it sees
        have htin := hx.tin o ho'
        have htm : TmR Δ B (c.only (D i).Nn) (seenX nt ops.toList (D i).b0 o (tmT nt ops.toList (fun j => (D j).v) tm0 i) (XD S.obs D (fun _ => true) i) (D i).R).tm a.tmps := by
          intro u
          simp only [seenX]
          rcases keepOnly_get (looks ops.toList o) ⟨tmT nt ops.toList (fun j => (D j).v) tm0 i, ⟨(D i).b0, XD S.obs D (fun _ => true) i, (D i).b0⟩⟩ (Tr.full .any (depthFor nt)) u with g | ⟨g1, g2⟩ | g
          · rw [g]; exact .any _
          · rw [g2]
            refine VR_only ?_ (temsIn_get htin u g1)
            -- whoever writes u is ordered against i
            have hord : ∀ j, j < p → (ops.toList[j]?).bind (·.dst) = some u → (j < i ∧ listed.getD j false = true) ∨ (i < j ∧ listed.getD j false = false) := by
              intro j hj hju
              have m1 : ops.toList[j]? = some (ops.toList[j]'(by simp; omega)) := List.getElem?_eq_getElem _
              rw [m1] at hju
              simp only [Option.bind_some] at hju
              obtain ⟨o2, n1, _, n3⟩ := headOk2_dst hho hj m1 hju i hip
              rw [ho'] at n1
              cases n1
              rcases n3 g1 with ⟨r1, r2⟩ | ⟨r1, r2⟩
              · exact .inl ⟨r1, hbefs j r2⟩
              · refine .inr ⟨r1, ?_⟩
                cases hL : listed.getD j false with
                | false => rfl
                | true => exact absurd r2 (hdn j _ m1 hL)
            rcases tmT_get (nt := nt) (ops := ops.toList) (v := fun j => (D j).v) (tm := tm0) i u with g | ⟨j, q1, q2, q3⟩ | ⟨q1, q2⟩
            · rw [g]; exact .any _
            · rw [q3]
              rcases hord j (by omega) q2 with ⟨_, r2⟩ | ⟨r1, _⟩
              · exact h.val u j (by omega) q2 r2
              · omega
            · rw [q2]
              refine (h.ini u (fun j hj hju => ?_)).mono h.step.le
              rcases hord j hj hju with ⟨r1, _⟩ | ⟨_, r2⟩
              · exact absurd hju (q1 j r1)
              · exact r2
          · rw [g, Tr.get_full]; exact .any _
        have hwant := wants_sound (a := a) htm e2
        have hdi : (ops.toList[i]?).bind (·.dst) = o.dst := by rw [ho']; rfl
        have huniq : ∀ t, o.dst = some t → ∀ j, j < p → j ≠ i → (ops.toList[j]?).bind (·.dst) ≠ some t := by
          intro t k2 j hj hji hjt
          obtain ⟨q, m1, m2, _⟩ := headOk2_dst hho hip ho' k2 j hj
          rw [m1] at hjt
          simp only [Option.bind_some] at hjt
          rcases m2 with m2 | m2
          · exact m2 hjt
          · exact hji m2
        have htn : ∀ t, o.dst = some t → t < a.tmps.size := by
          intro t k2
          rw [hnt]
          unfold dstsOk2 at hds
          rw [List.all_eq_true] at hds
          have := hds o (List.mem_of_getElem? (i := i) (by rw [List.getElem?_take, if_pos hip]; exact ho'))
          rw [k2] at this
          simpa [Nat.blt_eq] using this
        have hL' : ∀ j, (listed.setIfInBounds i true).getD j false = (listed.getD j false || j == i) := getD_set (by omega)
        have hnext : ∀ (c'' : Cx) (u : Value), XInv Δ B ops.toList p nx lo S c0 (fun t => tm0.get .any t) D (fun j => (listed.setIfInBounds i true).getD j false) c'' (a.put o.dst u).tmps →
            wpAnyIn (Fw ro) n P .any ops Q fuel (listed.setIfInBounds i true) (a.put o.dst u) c''.w := by
          intro c'' u g1
          refine ih (listed.setIfInBounds i true) c'' (a.put o.dst u) (by simpa using hsz) ?_ ?_ ?_ g1 (by rw [put_size, hnt]) (by rw [put_defers]; exact hd)
          · have := unl_set (L := fun i => listed.getD i false) (L' := fun j => (listed.setIfInBounds i true).getD j false) h2 hL' ops.size h1
            omega
          · intro j q hq hLj k hk
            rw [hL'] at hLj ⊢
            rw [Bool.or_eq_true] at hLj ⊢
            rcases hLj with hLj | hLj
            · exact .inl (hdc j q hq hLj k hk)
            · have : j = i := by simpa using hLj
              subst this
              rw [ho'] at hq; cases hq
              exact .inl (h3 k hk)
          · intro j hj
            rw [hL', hge j hj]
            simp; omega
        simp only [wpOpIn, ho]
        cases hwi : (D i).wt with
        | true =>
          rw [hwi] at hwant
          rw [if_pos hwant]
          obtain ⟨s, f1, f2, f3, f4, f5, f6⟩ := e3 hwi
          refine aop_sound (c := c.only (D i).Nn) hN hG hT hC hsee htm f1 _ _ _ _ (fun u c' hout => ?_)
          obtain ⟨g1, g2⟩ := hout
          obtain ⟨c'', r1, r2⟩ := h.next h0 hD hnx hnx2 hlo hip h2 hdeps hDn hL' g1 f2 f3 f4 f5 f6 g2 hdi htn huniq
          have := hnext c'' u r2
          rwa [r1] at this
        | false =>
          rw [hwi] at hwant
          rw [if_neg (by rw [hwant]; simp)]
          refine ⟨fun _ _ => trivial, ?_⟩
          obtain ⟨f1, f2, f3⟩ := e4 hwi
          have hun : VR Δ B c (.tup ([] : List (V I))) undef := .tup rfl (fun i x v hx _ => by simp at hx)
          -- nothing has run
          have hnone : ∀ X, nxt (D i) X = X := by
            intro X
            rw [nxt, f2, f3, over_nil, List.nil_append]
          have hXD : ∀ k, XD S.obs D (fun j => (listed.setIfInBounds i true).getD j false) k = XD S.obs D (fun j => listed.getD j false) k := fun k => XD_idle (L := fun j => listed.getD j false) hnone hL' k
          refine hnext c undef ⟨by rw [hXD]; exact h.step, fun t' j hj hd' hLj' => ?_, fun t' hno => ?_, fun j hj hLj' => ?_⟩
          · by_cases hji : j = i
            · subst hji
              rw [hdi] at hd'
              rw [f1]
              have : (a.put o.dst undef).tmps.getD t' undef = undef := by rw [hd']; simp [Act.put, Array.getD_eq_getD_getElem?, htn t' hd']
              rw [this]; exact hun
            · have hLj2 : listed.getD j false = true := by
                have := hLj'
                rw [hL'] at this
                simpa [hji] using this
              have hne : o.dst ≠ some t' := fun e => huniq t' e j hj hji hd'
              have : (a.put o.dst undef).tmps.getD t' undef = a.tmps.getD t' undef := by
                cases hdd : o.dst with
                | none => rfl
                | some t => have : t ≠ t' := fun e => hne (by rw [hdd, e]); simp [Act.put, Array.getD_eq_getD_getElem?, Array.getElem?_setIfInBounds, this]
              rw [this]
              exact h.val t' j hj hd' hLj2
          · have hne : o.dst ≠ some t' := by
              intro e
              have := hno i hip (by rw [hdi]; exact e)
              rw [hL'] at this; simp at this
            have : (a.put o.dst undef).tmps.getD t' undef = a.tmps.getD t' undef := by
              cases hdd : o.dst with
              | none => rfl
              | some t => have : t ≠ t' := fun e => hne (by rw [hdd, e]); simp [Act.put, Array.getD_eq_getD_getElem?, Array.getElem?_setIfInBounds, this]
            rw [this]
            refine h.ini t' (fun j hj hd' => ?_)
            have := hno j hj hd'
            rw [hL'] at this
            simp only [Bool.or_eq_false_iff] at this
            exact this.1
          · rw [hL'] at hLj'
            simp only [Bool.or_eq_false_iff] at hLj'
            exact h.free j hj hLj'.1
      · -- the tail is not ready while the head stands
        exfalso
        have hF : i0 ∈ F.getD i [] := chain_F hch (by simpa using h1) (by omega) (by omega)
        have h9 : listed.getD i0 false = true := hbefs i0 hF
        have l2' : listed.getD i0 false = false := l2
        rw [l2'] at h9; cases h9

theorem xdraw_sound (hN : N.Ok Δ) (hG : NoCount P) (hT : TOk P T) (hm : P.follows .mixedOrders = true) (hC : COkY P Δ B C) (nt : Nat) : DOk P Δ B nt (xdraw N T C nt) := by
  intro ops st st' hs c a id ro n Q h htm hnt hQ
  unfold xdraw at hs
  split at hs
  · rename_i F p hok
    unfold okDraw2 at hok
    split at hok
    · rename_i hcond
      obtain ⟨h1, h2, h3, h4⟩ := hcond
      cases hok
      generalize lead ops.toList (befs ops.toList []) = p at *
      generalize befs ops.toList [] = F at *
      rw [bite_eq] at hs
      split at hs
      · rename_i hds
        split at hs
        · rename_i tm s hd
          obtain ⟨D, hv, rfl, hob, hnx, hnx2, hlo⟩ := xhead_run h1 hd
          refine wpIn_region_any hm ?_
          have hfalse : ∀ i, (Array.replicate ops.size false).getD i false = false := by
            intro i
            simp only [Array.getD_eq_getD_getElem?, Array.getElem?_replicate]
            split <;> rfl
          have hle : Cx.le B c ⟨{ c.w with drawn := c.w.drawn + 1 }, c.κ⟩ := ⟨fun _ _ => rfl, fun _ _ h => h, fun _ _ h _ => h⟩
          obtain ⟨snx, sob, slo⟩ := s
          simp only at hob hnx hnx2 hlo hv
          subst hob
          refine xhead_sound (c0 := c) (S := st.sto) (tm0 := st.tm) hN hG hT hC (by simpa using h1) h2 h3 h4 hds h hv hnx hnx2 hlo (fun fuel listed c a e1 e2 e3 e4 e5 e6 e7 => tail_sound hN hG hT hC h2 h3 hQ fuel p listed _ c a e1 (Nat.le_refl _) e2 e3 hs e4 e5 e6 e7) ops.size (Array.replicate ops.size false) ⟨{ c.w with drawn := c.w.drawn + 1 }, c.κ⟩ a (by simp) ?_ ?_ ?_ ?_ hnt rfl
          · rw [unl_ext (L' := fun _ => false) ops.size (fun j _ => hfalse j)]
            generalize ops.size = n
            induction n with
            | zero => rfl
            | succ n ihn => simp [unl, ihn]
          · intro i o _ hL; rw [hfalse] at hL; cases hL
          · intro i _; exact hfalse i
          · have hnl : ∀ k, XD st.sto.obs D (fun i => (Array.replicate ops.size false).getD i false) k = st.sto.obs := by
              intro k
              induction k with
              | zero => rfl
              | succ k ihk => simp only [XD, ihk]; rw [hfalse k]; simp
            refine ⟨⟨⟨h.base, fun o ho => h.fresh o (by simp only at ho; omega), h.blk, fun o x hx => ?_, fun o o' x x' b n n' hx hx' => ?_, ?_, h.g⟩, fun _ _ h => h, ⟨rfl, rfl, rfl, Nat.le_refl _, fun _ _ => rfl⟩, hnx, hlo, fun _ _ _ => rfl,
                fun o b n k1 k2 => (by simp only at k1; rw [k2] at k1; cases k1), fun o x k1 k2 => (by simp only at k1; rw [k2] at k1; cases k1), fun _ _ => rfl, fun _ _ h _ => h⟩, fun t j _ _ hL => ?_, fun t _ => htm t, fun j hj _ o k1 _ => ?_⟩
            · simp only [hnl] at hx
              obtain ⟨b, cur, e, e1, e2, e4⟩ := h.ob o x hx
              exact ⟨b, cur, e, e1, e2, e4.mono hle⟩
            · simp only [hnl] at hx hx'
              exact h.inj o o' x x' b n n' hx hx'
            · simp only [hnl]
              exact h.desc.mono hnx
            · simp only [hfalse] at hL; cases hL
            · exact h.fresh o (by have := (hv j hj).b0; omega)
        · cases hs
      · cases hs
    · cases hok
  · cases hs

end

section
variable {I : Type} (N : Num I) (T : TypeId → Option Ti) (C : FuncId → List (V I) → Sto I → Option (V I × Sto I)) (nt : Nat)

def hasStore (l : List Oper) : Bool := l.any fun o => match o.op with
  | .store _ _ _ => true
  | _ => false
/-- A call that may write. -/
def hasCall (l : List Oper) : Bool := l.any fun o => match o.op with
  | .call c => match c.callee with
    | .builtin .append | .builtin .copy | .builtin .clear | .value _ | .invoke _ _ => true
    | _ => false
  | _ => false
/-- Is the head one in which what is written and what is looked at may meet? -/
def mixes (ops : List Oper) : Bool := hasStore (ops.take (lead ops (befs ops []))) || hasCall (ops.take (lead ops (befs ops [])))

/-- A region of open order, one way or the other. -/
noncomputable def adraw (ops : List Oper) (st : St I) : Option (St I) :=
  match adraw0 N T C nt ops st with
  | some r => some r
  | none => bite (mixes ops) (xdraw N T C nt ops st) none
end

theorem adraw_sound {I : Type} {N : Num I} {Δ : Den I} {P : Program} {T : TypeId → Option Ti} {C : FuncId → List (V I) → Sto I → Option (V I × Sto I)} {B : Nat}
    (hN : N.Ok Δ) (hG : NoCount P) (hT : TOk P T) (hm : P.follows .mixedOrders = true) (hC : COkY P Δ B C) (nt : Nat) : DOk P Δ B nt (adraw N T C nt) := by
  intro ops st st' hs
  unfold adraw at hs
  split at hs
  · rename_i r hr
    cases hs
    exact adraw0_sound hN hG hT hm hC nt ops st _ hr
  · rw [bite_eq] at hs
    split at hs
    · exact xdraw_sound hN hG hT hm hC nt ops st st' hs
    · cases hs

end Go.Sx

/-
  Calls that panic; functions that defer, and recover.
-/
namespace Go.Sx
open Go.RowKit

section
variable {I : Type} (N : Num I) (T : TypeId → Option Ti) (C : FuncId → List (V I) → Sto I → Option (V I × Sto I)) (nt : Nat)

/-- An operation that panics: with what, and the store behind it. -/
noncomputable def ppan (st : St I) (o : Oper) : Option (V I × Sto I) :=
  match o.op with
  | .call k => match k.callee with
    | .builtin .panic => match evals N st k.args.toList with
      | [.iface t v] => some (.iface t v, st.sto)
      | _ => none
    | .value f => match st.eval N f with
      | .func g first cap => bite (Nat.blt g 1000000) (match C (2000000 + g) (first ++ evals N st k.args.toList ++ cap) ⟨st.sto.next, st.sto.obs, st.sto.next⟩ with
        | some (v, s) => some (v, ⟨s.next, s.obs, if Nat.blt s.low st.sto.low then s.low else st.sto.low⟩)
        | none => none) none
      | _ => none
    | _ => none
  | .panic x => match st.eval N x with
    | .iface t v => some (.iface t v, st.sto)
    | _ => none
  | _ => none

noncomputable def pops (ops : List Oper) : List Oper → St I → Option (V I × St I)
  | [], _ => none
  | o :: r, st => match wants ops st o with
    | some true => match aop N T C st o with
      | some (v, s) => pops ops r ⟨setTm nt st.tm o.dst v, s⟩
      | none => match ppan N C st o with
        | some (v, s) => some (v, ⟨st.tm, s⟩)
        | none => none
    | some false => pops ops r ⟨setTm nt st.tm o.dst .any, st.sto⟩
    | none => none

/-- A value that refers to nothing. -/
def plainV : V I → Bool
  | .iface _ (.str _) => true
  | _ => false

/-- The first operation of the head that ends in nothing. -/
noncomputable def dstop (ops : List Oper) (F : List (List Nat)) (S : Sto I) : Nat → Nat → List Oper → Tr (V I) → List (Nat × List (Nat × Ob I)) → Option Nat
  | _, nx, [], tm, acc => none
  | i, nx, o :: r, tm, acc =>
    match wants ops (seenBy nt ops F S nx i o tm acc) o with
    | some true => match aop N T C (seenBy nt ops F S nx i o tm acc) o with
      | some (v, s) => dstop ops F S (i + 1) s.next r (setTm nt tm o.dst v) (addN i (takeNew nx s.obs) acc)
      | none => some i
    | some false => dstop ops F S (i + 1) nx r (setTm nt tm o.dst .any) acc
    | none => some i

/-- The head, with operation pk that panics: those behind it are left out. -/
noncomputable def phead (ops : List Oper) (F : List (List Nat)) (S : Sto I) (pk : Nat) : Nat → Nat → List Oper → Tr (V I) → List (Nat × List (Nat × Ob I)) → V I → Option (V I × Nat)
  | _, nx, [], tm, acc, pv => some (pv, nx)
  | i, nx, o :: r, tm, acc, pv =>
    bite (Nat.beq i pk)
      (match wants ops (seenBy nt ops F S nx i o tm acc) o with
      | some true => match ppan N C (seenBy nt ops F S nx i o tm acc) o with
        | some (v, s) => bite (Nat.ble nx s.low && Nat.ble nx s.next && plainV v)
            (phead ops F S pk (i + 1) s.next r (setTm nt tm o.dst .any) (addN i (takeNew nx s.obs) acc) v) none
        | none => none
      | _ => none)
      (bite ((F.getD i []).contains pk) (phead ops F S pk (i + 1) nx r (setTm nt tm o.dst .any) acc pv)
        (match wants ops (seenBy nt ops F S nx i o tm acc) o with
        | some true => match aop N T C (seenBy nt ops F S nx i o tm acc) o with
          | some (v, s) => bite (Nat.ble nx s.low && Nat.ble nx s.next)
              (phead ops F S pk (i + 1) s.next r (setTm nt tm o.dst v) (addN i (takeNew nx s.obs) acc) pv) none
          | none => none
        | some false => phead ops F S pk (i + 1) nx r (setTm nt tm o.dst .any) acc pv
        | none => none))

noncomputable def pdraw (ops : List Oper) (st : St I) : Option (V I × St I) :=
  match okDraw ops with
  | some (F, p) => bite (dstsOk nt (ops.take p)) (match dstop N T C nt ops F st.sto 0 st.sto.next (ops.take p) st.tm [] with
    | some pk => bite (Nat.blt pk p) (match phead N T C nt ops F st.sto pk 0 st.sto.next (ops.take p) st.tm [] .any with
      | some (pv, nx) => some (pv, ⟨tmT nt ops (fun _ => .any) st.tm p, ⟨nx, st.sto.obs, st.sto.low⟩⟩)
      | none => none) none
    | none => match dhead N T C nt ops F st.sto 0 st.sto.next (ops.take p) st.tm [] with
      | some (tm, acc, nx) => pops N T C nt ops (ops.drop p) ⟨tm, ⟨nx, allN acc ++ st.sto.obs, st.sto.low⟩⟩
      | none => none) none
  | none => none

variable (D : List Oper → St I → Option (St I)) (L : Code → St I → Option (AExit × St I)) (LP : Code → St I → Option (V I × St I))

/-- A piece of code that ends in a panic. -/
noncomputable def aexecP : Code → St I → Option (V I × St I)
  | .region _ ops draw, st => if draw then pdraw N T C nt ops.toList st else pops N T C nt ops.toList ops.toList st
  | .seq a b, st => match aexec N T C nt D L a st with
    | some (.normal, st') => aexecP b st'
    | some _ => none
    | none => aexecP a st
  | .cond c a b, st => match st.eval N c with
    | .bool q => if q then aexecP a st else aexecP b st
    | _ => none
  | .block _ c, st => aexecP c st
  | .loop c, st => bite (isScope c) none (LP c st)
  | _, _ => none

variable (kp : Code → Option (List Nat))
noncomputable def ploopN (fresh : Tr (V I)) : Nat → Code → St I → Option (V I × St I)
  | 0, _, _ => none
  | n + 1, c, st => match aexec N T C nt D (aloopN N T C nt D kp fresh n) c st with
    | some (.normal, st') => ploopN fresh n c st'
    | some _ => none
    | none => aexecP N T C nt D (aloopN N T C nt D kp fresh n) (ploopN fresh n) c st

/-- Deferred calls, the newest first: functions, their arguments. -/
abbrev DL (I : Type) := List (FuncId × List (V I))

noncomputable def dops (ops : List Oper) : List Oper → St I → DL I → Option (St I × DL I)
  | [], st, d => some (st, d)
  | o :: r, st, d => match wants ops st o with
    | some true => match o.op with
      | .defer k => match k.callee with
        | .value f => match st.eval N f with
          | .func g first cap => bite (Nat.blt g 1000000) (dops ops r ⟨setTm nt st.tm o.dst .any, st.sto⟩ ((g, first ++ evals N st k.args.toList ++ cap) :: d)) none
          | _ => none
        | _ => none
      | _ => match aop N T C st o with
        | some (v, s) => dops ops r ⟨setTm nt st.tm o.dst v, s⟩ d
        | none => none
    | some false => dops ops r ⟨setTm nt st.tm o.dst .any, st.sto⟩ d
    | none => none

/-- The body of a function that defers: what it panics with, or none; how it is left. -/
noncomputable def xexec : Code → St I → DL I → Option (Option (V I) × AExit × St I × DL I)
  | .seq a b, st, d => match xexec a st d with
    | some (none, .normal, st', d') => xexec b st' d'
    | r => r
  | .region id ops draw, st, d => match aexec N T C nt D L (.region id ops draw) st with
    | some (e, st') => some (none, e, st', d)
    | none => match (if draw then none else dops N T C nt ops.toList ops.toList st d) with
      | some (st', d') => some (none, .normal, st', d')
      | none => match aexecP N T C nt D L LP (.region id ops draw) st with
        | some (v, st') => some (some v, .normal, st', d)
        | none => none
  | c, st, d => match aexec N T C nt D L c st with
    | some (e, st') => some (none, e, st', d)
    | none => match aexecP N T C nt D L LP c st with
      | some (v, st') => some (some v, .normal, st', d)
      | none => none

/-- The operations of a deferred function: recover, what only computes, stores. m: what its caller panics with; q: has it been recovered? -/
noncomputable def rops (ops : List Oper) (m : Option (V I)) : List Oper → St I → Bool → Option (St I × Bool)
  | [], st, q => some (st, q)
  | o :: r, st, q => match wants ops st o with
    | some true => match o.op with
      | .call k => match k.callee with
        | .builtin .recover => match m, q with
          | some v, false => rops ops m r ⟨setTm nt st.tm o.dst v, st.sto⟩ true
          | _, _ => rops ops m r ⟨setTm nt st.tm o.dst .nilIface, st.sto⟩ q
        | _ => match apure N T st o with
          | some v => rops ops m r ⟨setTm nt st.tm o.dst v, st.sto⟩ q
          | none => none
      | .store t a v => match o.dst with
        | none => match astore T st.sto t (st.eval N a) (st.eval N v) with
          | some s => rops ops m r ⟨st.tm, s⟩ q
          | none => none
        | some _ => none
      | _ => match apure N T st o with
        | some v => rops ops m r ⟨setTm nt st.tm o.dst v, st.sto⟩ q
        | none => none
    | some false => rops ops m r ⟨setTm nt st.tm o.dst .any, st.sto⟩ q
    | none => none

noncomputable def rexec (m : Option (V I)) : Code → St I → Bool → Option (AExit × St I × Bool)
  | .skip, st, q => some (.normal, st, q)
  | .ret, st, q => some (.ret, st, q)
  | .seq a b, st, q => match rexec m a st q with
    | some (.normal, st', q') => rexec m b st' q'
    | r => r
  | .cond c a b, st, q => match st.eval N c with
    | .bool t => if t then rexec m a st q else rexec m b st q
    | _ => none
  | .region _ ops draw, st, q => if draw then none else match rops N T nt ops.toList m ops.toList st q with
    | some (st', q') => some (.normal, st', q')
    | none => none
  | _, _, _ => none

end

section
variable {I : Type} (N : Num I) (T : TypeId → Option Ti) (P : Program)

/-- One deferred call: is its caller's panic still on? -/
noncomputable def rcall (g : FuncId) (args : List (V I)) (m : Option (V I)) (sto : Sto I) : Option (Option (V I) × Sto I) :=
  match P.funcs[g]? with
  | some fn => match fn.body with
    | some c => bite (Nat.ble args.length fn.ntmps && fn.results.toList.isEmpty) (match rexec N T fn.ntmps m c ⟨setArgs args 0 (Tr.full .any (depthFor fn.ntmps)), sto⟩ false with
      | some (.normal, st, q) => some (if q then none else m, st.sto)
      | some (.ret, st, q) => some (if q then none else m, st.sto)
      | _ => none) none
    | none => none
  | none => none

noncomputable def aleave : DL I → Option (V I) → Sto I → Option (Option (V I) × Sto I)
  | [], m, s => some (m, s)
  | (g, args) :: r, m, s => match rcall N T P g args m s with
    | some (m', s') => aleave r m' s'
    | none => none

def hasDefer : Code → Bool
  | .seq a b => hasDefer a || hasDefer b
  | .region _ ops _ => ops.toList.any fun o => match o.op with
    | .defer _ => true
    | _ => false
  | _ => false

noncomputable def xcall (DD : (FuncId → List (V I) → Sto I → Option (V I × Sto I)) → Nat → List Oper → St I → Option (St I)) (C : FuncId → List (V I) → Sto I → Option (V I × Sto I)) (n : Nat) (k : FuncId) (args : List (V I)) (sto : Sto I) : Option (V I × Sto I) :=
  bite (Nat.ble 2000000 k)
    (match P.funcs[k - 2000000]? with
    | some fn => match fn.body with
      | some c => bite (Nat.ble args.length fn.ntmps)
          (match aexecP N T C fn.ntmps (DD C fn.ntmps) (aloopN N T C fn.ntmps (DD C fn.ntmps) (fun _ => none) (Tr.full .any (depthFor fn.ntmps)) n) (ploopN N T C fn.ntmps (DD C fn.ntmps) (fun _ => none) (Tr.full .any (depthFor fn.ntmps)) n) c ⟨setArgs args 0 (Tr.full .any (depthFor fn.ntmps)), sto⟩ with
          | some (v, st) => some (v, st.sto)
          | none => none) none
      | none => none
    | none => none)
    (match P.funcs[k]? with
    | some fn => match fn.body with
      | some c => bite (Nat.ble args.length fn.ntmps && hasDefer c)
          (match xexec N T C fn.ntmps (DD C fn.ntmps) (aloopN N T C fn.ntmps (DD C fn.ntmps) (fun _ => none) (Tr.full .any (depthFor fn.ntmps)) n) (ploopN N T C fn.ntmps (DD C fn.ntmps) (fun _ => none) (Tr.full .any (depthFor fn.ntmps)) n) c ⟨setArgs args 0 (Tr.full .any (depthFor fn.ntmps)), sto⟩ [] with
          | some (m, e, st, d) => match m, e with
            | none, .normal | none, .ret | some _, .normal => match aleave N T P d m st.sto with
              | some (none, s') => answer T ⟨st.tm, s'⟩ sto.next fn.results.toList
              | _ => none
            | _, _ => none
          | none => none) none
      | none => none
    | none => none)
end

section
variable {I : Type} {N : Num I} {Δ : Den I} {P : Program} {T : TypeId → Option Ti} {C : FuncId → List (V I) → Sto I → Option (V I × Sto I)} {B : Nat} {c : Cx} {st : St I} {sto : Sto I} {a : Act}

/-- What a piece of code that panics brings about. -/
def AfterP (Δ : Den I) (B : Nat) (c0 : Cx) (sto0 : Sto I) (nt : Nat) (v : V I) (st' : St I) (dl : List Deferred) (Q : Exit → Act → World → Prop) : Prop :=
  ∀ (c' : Cx) (a' : Act) (pv : Value), Step Δ B c0 sto0 c' st'.sto → TmR Δ B c' st'.tm a'.tmps → a'.tmps.size = nt → Mk c0.w c'.w dl a'.defers → VR Δ B c' v pv → Q (.panic [{ v := pv, recovered := false }]) a' c'.w

theorem ppan_sound (hN : N.Ok Δ) (hG : NoCount P) (hC : COkY P Δ B C) (h : SInv Δ B c st.sto) (htm : TmR Δ B c st.tm a.tmps) {o : Oper} {v : V I} {s : Sto I} (hs : ppan N C st o = some (v, s)) {ro : Option Nat} {n : Nat} {K : Act → World → Prop} {Q : Exit → Act → World → Prop}
    (hQ : ∀ c' pv, Step Δ B c st.sto c' s → VR Δ B c' v pv → Q (.panic [{ v := pv, recovered := false }]) a c'.w) : o.wpIn (Fw ro) n P a c.w K Q := by
  unfold ppan at hs
  split at hs
  · rename_i k ho
    have hnd : ∀ k, o.op ≠ .defer k := fun k' e => by rw [ho] at e; cases e
    refine ⟨fun _ _ => trivial, ?_⟩
    rw [Oper.semAt_eq _ _ _ hnd]
    have hx := evals_rel hN htm k.args
    split at hs
    · rename_i hk
      split at hs
      · rename_i t x hev
        cases hs
        rw [hev] at hx
        have one : ∃ p, k.args.map a.eval = #[p] ∧ VR Δ B c (.iface t x) p := by
          match hq : (k.args.map a.eval).toList, hx with
          | [p], hh => exact ⟨p, by apply Array.ext'; simpa using hq, hh.2 0 _ p rfl rfl⟩
        obtain ⟨p, hp, hvp⟩ := one
        have hvp' : ∃ pv, p = .iface t pv ∧ VR Δ B c x pv := by cases hvp with | iface _ h => exact ⟨_, rfl, h⟩
        obtain ⟨pv, rfl, hpv⟩ := hvp'
        have hrun : (execOp a.eval o).run P c.w = .halt (.panic (.iface t pv)) c.w := by
          simp only [execOp, ho, resolve, hk, invoke, builtin, Sem.run_bind, Sem.run_pure, Result.andThen_ok, hp]
          rfl
        rw [hrun]
        exact hQ c _ (Step.refl h) hvp
      · cases hs
    · rename_i f hk
      split at hs
      · rename_i g first cap hev
        rw [bite_eq] at hs
        split at hs
        · rename_i hg
          split at hs
          · rename_i v1 s1 hc
            cases hs
            have hf := VR_eval hN htm f
            rw [hev] at hf
            obtain ⟨ra, rb, hrf, hvr⟩ := func_args hf hx
            obtain ⟨⟨fn, hfn, hb⟩, hpan⟩ := hC.pan _ _ _ _ _ hc (Nat.le_add_right _ _)
            rw [Nat.add_sub_cancel_left] at hfn hpan
            have hrun : (execOp a.eval o).run P c.w = .ok (.enter g (ra ++ k.args.map a.eval ++ rb)) c.w := by
              simp only [execOp, ho, resolve, hk, hrf, Deferred.ofValue, invoke, Sem.run_bind, Sem.run_pure, Result.andThen_ok]
              exact run_callFunc hG hfn hb _ _
            rw [hrun]
            simp only [Oper.uponIn]
            refine ⟨FwD, callsFw (Calls.mono (hpan c _ (h.low _) hvr) ?_)⟩
            rintro e w' ⟨pv, c', rfl, rfl, hst, hv⟩
            exact hQ c' pv hst.called hv
          · cases hs
        · cases hs
      · cases hs
    · cases hs
  · rename_i x ho
    split at hs
    · rename_i t y hev
      cases hs
      have hnd : ∀ k, o.op ≠ .defer k := fun k' e => by rw [ho] at e; cases e
      refine ⟨fun _ _ => trivial, ?_⟩
      rw [Oper.semAt_eq _ _ _ hnd]
      have hvp := VR_eval hN htm x
      rw [hev] at hvp
      have hvp' : ∃ pv, a.eval x = .iface t pv ∧ VR Δ B c y pv := by
        generalize hz : a.eval x = z at hvp
        cases hvp with | iface _ h => exact ⟨_, rfl, h⟩
      obtain ⟨pv, hpe, hpv⟩ := hvp'
      have hrun : (execOp a.eval o).run P c.w = .halt (.panic (.iface t pv)) c.w := by
        simp only [execOp, ho, Sem.run_bind, Sem.run_pure, Result.andThen_ok, hpe]
        rfl
      rw [hrun]
      exact hQ c _ (Step.refl h) (.iface _ hpv)
    · cases hs
  · cases hs

theorem VR_plain {c c' : Cx} {v : V I} {u : Value} (h : plainV v = true) (hv : VR Δ B c v u) : VR Δ B c' v u := by
  unfold plainV at h
  split at h
  · cases hv with | iface _ g => cases g with | str _ => exact .iface _ (.str _)
  · cases h

/-- What is known of the head's operation i, where operation pk panics. -/
def HeadP (N : Num I) (T : TypeId → Option Ti) (C : FuncId → List (V I) → Sto I → Option (V I × Sto I)) (nt : Nat) (ops : List Oper) (F : List (List Nat)) (S : Sto I) (tm : Tr (V I)) (base : Nat → Nat)
    (v : Nat → V I) (nw : Nat → List (Nat × Ob I)) (wt : Nat → Bool) (pk : Nat) (pv : V I) (i : Nat) : Prop :=
  base i ≤ base (i + 1) ∧ ∃ o, ops[i]? = some o ∧
   (i ≠ pk → pk ∉ F.getD i [] → wants ops (seenBy nt ops F S (base i) i o (tmT nt ops v tm i) (accOf nw i)) o = some (wt i) ∧
    (wt i = true → ∃ s, aop N T C (seenBy nt ops F S (base i) i o (tmT nt ops v tm i) (accOf nw i)) o = some (v i, s) ∧ base i ≤ s.low ∧ s.next ≤ base (i + 1) ∧ nw i = takeNew (base i) s.obs) ∧
    (wt i = false → v i = .any ∧ nw i = [])) ∧
   (i = pk → wants ops (seenBy nt ops F S (base i) i o (tmT nt ops v tm i) (accOf nw i)) o = some true ∧ v i = .any ∧ ∃ s, ppan N C (seenBy nt ops F S (base i) i o (tmT nt ops v tm i) (accOf nw i)) o = some (pv, s) ∧ base i ≤ s.low ∧ s.next ≤ base (i + 1) ∧ nw i = takeNew (base i) s.obs ∧ plainV pv = true)

theorem phead_run {nt pk : Nat} {pv : V I} {ops : List Oper} {F : List (List Nat)} {S : Sto I} {tm : Tr (V I)} {nx' p : Nat} (hp : p ≤ ops.length)
    (hpk : pk < p) (hs : phead N T C nt ops F S pk 0 S.next (ops.take p) tm [] .any = some (pv, nx')) :
    ∃ (base : Nat → Nat) (v : Nat → V I) (nw : Nat → List (Nat × Ob I)) (wt : Nat → Bool), base 0 = S.next ∧ (∀ i, p ≤ i → base i = base p) ∧ (∀ i, i < p → HeadP N T C nt ops F S tm base v nw wt pk pv i) ∧ nx' = base p := by
  have key : ∀ k, k ≤ p → ∃ (q : V I) (base : Nat → Nat) (v : Nat → V I) (nw : Nat → List (Nat × Ob I)) (wt : Nat → Bool), base 0 = S.next ∧ (∀ i, k ≤ i → base i = base k) ∧ (∀ i, i < k → ∀ pv', (pk < k → pv' = q) → HeadP N T C nt ops F S tm base v nw wt pk pv' i) ∧
      phead N T C nt ops F S pk k (base k) ((ops.take p).drop k) (tmT nt ops v tm k) (accOf nw k) q = some (pv, nx') := by
    intro k
    induction k with
    | zero => intro _; exact ⟨.any, fun _ => S.next, fun _ => .any, fun _ => [], fun _ => true, rfl, fun _ _ => rfl, by simp, by simpa [tmT, accOf] using hs⟩
    | succ k ih =>
      intro hk
      obtain ⟨q, base, v, nw, wt, hb0, hbc, h1, h2⟩ := ih (by omega)
      have hlt : k < (ops.take p).length := by rw [List.length_take]; omega
      have hlt2 : k < ops.length := by omega
      rw [List.drop_eq_getElem_cons hlt] at h2
      have hok : ops[k]? = some ((ops.take p)[k]) := by rw [List.getElem_take]; exact List.getElem?_eq_getElem hlt2
      generalize (ops.take p)[k] = o at h2 hok
      simp only [phead] at h2
      have hstep : ∀ (nx : Nat) (x : V I) (l : List (Nat × Ob I)) (b : Bool) (q' : V I), base k ≤ nx → (k ≠ pk → q' = q) →
          ((k ≠ pk → pk ∉ F.getD k [] → wants ops (seenBy nt ops F S (base k) k o (tmT nt ops v tm k) (accOf nw k)) o = some b ∧
            (b = true → ∃ s, aop N T C (seenBy nt ops F S (base k) k o (tmT nt ops v tm k) (accOf nw k)) o = some (x, s) ∧ base k ≤ s.low ∧ s.next ≤ nx ∧ l = takeNew (base k) s.obs) ∧
            (b = false → x = .any ∧ l = [])) ∧
           (k = pk → wants ops (seenBy nt ops F S (base k) k o (tmT nt ops v tm k) (accOf nw k)) o = some true ∧ x = .any ∧ ∃ s, ppan N C (seenBy nt ops F S (base k) k o (tmT nt ops v tm k) (accOf nw k)) o = some (q', s) ∧ base k ≤ s.low ∧ s.next ≤ nx ∧ l = takeNew (base k) s.obs ∧ plainV q' = true)) →
          phead N T C nt ops F S pk (k + 1) nx ((ops.take p).drop (k + 1)) (setTm nt (tmT nt ops v tm k) o.dst x) (addN k l (accOf nw k)) q' = some (pv, nx') →
          ∃ (q : V I) (base : Nat → Nat) (v : Nat → V I) (nw : Nat → List (Nat × Ob I)) (wt : Nat → Bool), base 0 = S.next ∧ (∀ i, k + 1 ≤ i → base i = base (k + 1)) ∧ (∀ i, i < k + 1 → ∀ pv', (pk < k + 1 → pv' = q) → HeadP N T C nt ops F S tm base v nw wt pk pv' i) ∧
            phead N T C nt ops F S pk (k + 1) (base (k + 1)) ((ops.take p).drop (k + 1)) (tmT nt ops v tm (k + 1)) (accOf nw (k + 1)) q = some (pv, nx') := by
        intro nx x l b q' hnx hq' g1 g2
        have e0 : ∀ i, i ≤ k → (if i ≤ k then base i else nx) = base i := fun i hi => if_pos hi
        have e1 : ∀ i, i ≤ k → tmT nt ops (fun j => if j = k then x else v j) tm i = tmT nt ops v tm i := fun i hi => tmT_ext i (fun j hj => by rw [if_neg (by omega)])
        have e2 : ∀ i, i ≤ k → accOf (fun j => if j = k then l else nw j) i = accOf nw i := fun i hi => accOf_ext i (fun j hj => by rw [if_neg (by omega)])
        refine ⟨q', fun i => if i ≤ k then base i else nx, fun j => if j = k then x else v j, fun j => if j = k then l else nw j, fun j => if j = k then b else wt j, ?_, fun i hi => ?_, fun i hi pv' hpv => ?_, ?_⟩
        · simp only [Nat.zero_le, if_true]; exact hb0
        · show (if i ≤ k then base i else nx) = (if k + 1 ≤ k then base (k + 1) else nx)
          rw [if_neg (by omega), if_neg (by omega)]
        · by_cases hik : i = k
          · subst hik
            refine ⟨by show (if i ≤ i then base i else nx) ≤ (if i + 1 ≤ i then base (i + 1) else nx); rw [if_pos (Nat.le_refl _), if_neg (by omega)]; exact hnx, o, hok, ?_⟩
            rw [e1 i (Nat.le_refl _), e2 i (Nat.le_refl _)]
            have hne : ¬ (i + 1 ≤ i) := by omega
            have : i = pk → pv' = q' := fun e => hpv (by omega)
            refine ⟨fun a1 a2 => by simpa [hne] using g1.1 a1 a2, fun a1 => ?_⟩
            rw [this a1]
            simpa [hne] using g1.2 a1
          · obtain ⟨k0, o', k1, k2⟩ := h1 i (by omega) pv' (fun hp => by rw [hpv (by omega)]; exact hq' (by omega))
            have hi1 : i ≤ k := by omega
            have hi2 : i + 1 ≤ k := by omega
            refine ⟨by simp only [hi1, hi2, if_true]; exact k0, o', k1, ?_⟩
            rw [e1 i (by omega), e2 i (by omega)]
            simpa [hik, hi1, hi2] using k2
        · have hne : ¬ (k + 1 ≤ k) := by omega
          simp only [tmT, accOf, e1 k (Nat.le_refl _), e2 k (Nat.le_refl _), hok, Option.bind_some, if_true, hne, if_false]
          exact g2
      rw [bite_eq] at h2
      split at h2
      · rename_i hkp
        have hkp : k = pk := by simpa using hkp
        split at h2
        · rename_i hw
          split at h2
          · rename_i x s hx
            rw [bite_eq] at h2
            split at h2
            · rename_i hc
              rw [Bool.and_eq_true, Bool.and_eq_true, Nat.ble_eq, Nat.ble_eq] at hc
              exact hstep s.next .any _ true x hc.1.2 (fun e => absurd hkp e) ⟨fun e => absurd hkp e, fun _ => ⟨hw, rfl, s, hx, hc.1.1, Nat.le_refl _, rfl, hc.2⟩⟩ h2
            · cases h2
          · cases h2
        · cases h2
      · rename_i hkp
        have hkp : k ≠ pk := by simpa using hkp
        rw [bite_eq] at h2
        split at h2
        · rename_i hF
          have hF : pk ∈ F.getD k [] := by simpa using hF
          exact hstep (base k) .any [] false q (Nat.le_refl _) (fun _ => rfl) ⟨fun _ e => absurd hF e, fun e => absurd e hkp⟩ h2
        · split at h2
          · rename_i hw
            split at h2
            · rename_i x s hx
              rw [bite_eq] at h2
              split at h2
              · rename_i hc
                rw [Bool.and_eq_true, Nat.ble_eq, Nat.ble_eq] at hc
                exact hstep s.next x _ true q hc.2 (fun _ => rfl) ⟨fun _ _ => ⟨hw, fun _ => ⟨s, hx, hc.1, Nat.le_refl _, rfl⟩, by simp⟩, fun e => absurd e hkp⟩ h2
              · cases h2
            · cases h2
          · rename_i hw
            exact hstep (base k) .any [] false q (Nat.le_refl _) (fun _ => rfl) ⟨fun _ _ => ⟨hw, by simp, fun _ => ⟨rfl, rfl⟩⟩, fun e => absurd e hkp⟩ h2
          · cases h2
  obtain ⟨q, base, v, nw, wt, hb0, hbc, h1, h2⟩ := key p (Nat.le_refl _)
  have : (ops.take p).drop p = [] := List.drop_eq_nil_of_le (by rw [List.length_take]; omega)
  rw [this] at h2
  simp only [phead, Option.some.injEq, Prod.mk.injEq] at h2
  exact ⟨base, v, nw, wt, hb0, hbc, fun i hi => h1 i hi pv (fun _ => h2.1.symm), h2.2.symm⟩

theorem headP_sound (hN : N.Ok Δ) (hG : NoCount P) (hT : TOk P T) (hC : COkY P Δ B C) {nt : Nat} {ops : Array Oper} {ro : Option Nat} {n : Nat} {Q : Exit → Act → World → Prop} {F : List (List Nat)} {p : Nat} (hp : p ≤ ops.size)
    (hb : befOk ops.toList F = true) (hch : chain ops.toList F p = true) (hho : headOk ops.toList F p = true) (hds : dstsOk nt (ops.toList.take p) = true)
    {c0 : Cx} {S : Sto I} {tm0 : Tr (V I)} (h0 : SInv Δ B c0 S) {dl : List Deferred}
    {v : Nat → V I} {nw : Nat → List (Nat × Ob I)} {wt : Nat → Bool} {base : Nat → Nat} {pk : Nat} (hpk : pk < p) {pv : V I} (hv : ∀ i, i < p → HeadP N T C nt ops.toList F S tm0 base v nw wt pk pv i)
    (hQ : AfterP Δ B c0 S nt pv ⟨tmT nt ops.toList (fun _ => .any) tm0 p, ⟨base p, S.obs, S.low⟩⟩ dl Q)
    (hb0 : base 0 = S.next) (hbm : ∀ i j, i ≤ j → base i ≤ base j) :
    ∀ (fuel : Nat) (listed : Array Bool) (c : Cx) (a : Act), listed.size = ops.size → unl (fun i => listed.getD i false) ops.size = fuel →
      (∀ (i : Nat) (o : Oper), ops.toList[i]? = some o → listed.getD i false = true → ∀ k, k ∈ bindsOn o → listed.getD k false = true) → (∀ i, p ≤ i → listed.getD i false = false) → listed.getD pk false = false →
      HInv Δ B base ops.toList p S c0 (fun t => tm0.get .any t) v nw (fun i => listed.getD i false) c a.tmps → a.tmps.size = nt → a.defers = dl → wpAnyIn (Fw ro) n P .any ops Q fuel listed a c.w := by
  intro fuel
  induction fuel with
  | zero =>
    intro listed c a hsz hu hdc hge hnk h hnt hd
    have hall := unl_zero _ hu
    have h1 := hall pk (by omega)
    rw [hnk] at h1; cases h1
  | succ fuel ih =>
    intro listed c a hsz hu hdc hge hnk h hnt hd
    have hex : ∃ i, i < p ∧ listed.getD i false = false := ⟨pk, hpk, hnk⟩
    have hbefq := befOk_lt hb
    obtain ⟨i0, l1, l2, l3⟩ := least (L := fun i => listed.getD i false) p hex
    have hi0 : i0 ∈ Region.ready .any ops listed :=
      (mem_ready hsz).2 ⟨by omega, l2, ops[i0]'(by omega), Array.getElem?_eq_getElem _, fun k hk => l3 k (hbefq i0 _ (by simp [show i0 < ops.size by omega]) k hk)⟩
    refine ⟨fun hr => absurd (hr ▸ hi0) (by simp), fun i hi => ?_⟩
    obtain ⟨h1, h2, o, ho, h3⟩ := (mem_ready hsz).1 hi
    have ho' : ops.toList[i]? = some o := by simpa using ho
    have hbefs := bef_sub hb (L := fun j => listed.getD j false) hdc i o ho' h3
    by_cases hip : i < p
    · obtain ⟨_, o', e1, eN, eP⟩ := hv i hip
      rw [ho'] at e1
      cases e1
      obtain ⟨o', t, k1, k2, k3⟩ := headOk_dst hho hip
      rw [ho'] at k1
      cases k1
      have hlen : i < ops.toList.length := by simpa using h1
      have hdeps : ∀ j, j ∈ F.getD i [] → j < i ∧ listed.getD j false = true := fun j hj => ⟨befOk_F hb i hlen j hj, hbefs j hj⟩
      obtain ⟨hsee, hle0⟩ := h.sees hb0 hbm (F := F) h0 hip hdeps
      -- the temporaries that it sees
      have htm : TmR Δ B (c.cut (base i)) (seenBy nt ops.toList F S (base i) i o (tmT nt ops.toList v tm0 i) (accOf nw i)).tm a.tmps := by
        intro u
        simp only [seenBy]
        rcases keepOnly_get (looks ops.toList o) ⟨tmT nt ops.toList v tm0 i, S⟩ (Tr.full .any (depthFor nt)) u with g | ⟨g1, g2⟩ | g
        · rw [g]; exact .any _
        · rw [g2]
          -- whoever writes u is ordered against i
          have hord : ∀ j, j < p → (ops.toList[j]?).bind (·.dst) = some u → (j < i ∧ listed.getD j false = true) ∨ (i < j ∧ listed.getD j false = false) := by
            intro j hj hju
            obtain ⟨q, t', m1, m2, m3⟩ := headOk_dst hho hj
            rw [m1] at hju
            simp only [Option.bind_some] at hju
            rw [m2] at hju
            cases hju
            obtain ⟨o2, n1, _, n3⟩ := m3 i hip
            rw [ho'] at n1
            cases n1
            rcases n3 g1 with ⟨r1, r2⟩ | ⟨r1, r2⟩
            · exact .inl ⟨r1, hbefs j r2⟩
            · refine .inr ⟨r1, ?_⟩
              cases hL : listed.getD j false with
              | false => rfl
              | true =>
                have h9 : listed.getD i false = true := bef_sub hb (L := fun j => listed.getD j false) hdc j _ m1 (fun k hk => hdc j _ m1 hL k hk) i r2
                rw [h2] at h9; cases h9
          rcases tmT_get (nt := nt) (ops := ops.toList) (v := v) (tm := tm0) i u with g | ⟨j, q1, q2, q3⟩ | ⟨q1, q2⟩
          · rw [g]; exact .any _
          · rw [q3]
            rcases hord j (by omega) q2 with ⟨_, r2⟩ | ⟨r1, _⟩
            · exact (h.val u j (by omega) q2 r2).mono (Cx.cut_mono (hbm _ _ (by omega)))
            · omega
          · rw [q2]
            refine (h.ini u (fun j hj hju => ?_)).mono hle0
            rcases hord j hj hju with ⟨r1, _⟩ | ⟨_, r2⟩
            · exact absurd hju (q1 j r1)
            · exact r2
        · rw [g, Tr.get_full]; exact .any _
      have hdi : (ops.toList[i]?).bind (·.dst) = some t := by rw [ho']; exact k2
      have huniq : ∀ j, j < p → j ≠ i → (ops.toList[j]?).bind (·.dst) ≠ some t := by
        intro j hj hji hjt
        obtain ⟨q, m1, m2, _⟩ := k3 j hj
        rw [m1] at hjt
        simp only [Option.bind_some] at hjt
        rcases m2 with m2 | m2
        · exact m2 hjt
        · exact hji m2
      have htn : t < a.tmps.size := by
        rw [hnt]
        unfold dstsOk at hds
        rw [List.all_eq_true] at hds
        have := hds o (List.mem_of_getElem? (i := i) (by rw [List.getElem?_take, if_pos hip]; exact ho'))
        rw [k2] at this
        simpa [Nat.blt_eq] using this
      have hL' : ∀ j, (listed.setIfInBounds i true).getD j false = (listed.getD j false || j == i) := getD_set (by omega)
      have hSI : (seenBy nt ops.toList F S (base i) i o (tmT nt ops.toList v tm0 i) (accOf nw i)).sto = ⟨base i, NL nw (fun j => (F.getD i []).contains j) i ++ S.obs, base i⟩ := by
        simp only [seenBy, joinN_acc]
      have hSI2 : SInv Δ B (c.cut (base i)) (seenBy nt ops.toList F S (base i) i o (tmT nt ops.toList v tm0 i) (accOf nw i)).sto := by rw [hSI]; exact hsee
      by_cases hip0 : i = pk
      · obtain ⟨e2, e5, s, f1, f2, f3, f4, f5⟩ := eP hip0
        simp only [wpOpIn, ho]
        rw [if_pos (wants_sound htm e2)]
        refine ppan_sound hN hG hC hSI2 htm f1 (fun c' pvv g1 g2 => ?_)
        rw [hSI] at g1
        obtain ⟨c'', r1, r2⟩ := h.next hb0 hbm h0 hip h2 hL' (SI := ⟨base i, NL nw (fun j => (F.getD i []).contains j) i ++ S.obs, base i⟩) rfl rfl hsee g1 f2 f3 f4 (u := undef) (by rw [e5]; exact .any _) hdi htn huniq
        rw [← r1]
        have hfg : Step Δ B c0 S c'' ⟨base p, S.obs, S.low⟩ := r2.step.forget (h0.desc.mono (by have := hbm 0 p (Nat.zero_le _); rw [hb0] at this; exact this)) (fun o x hx => by
          have hlt := h0.desc.look_lt hx
          cases hl : look (NL nw (fun j => (listed.setIfInBounds i true).getD j false) p) o with
          | none => rw [look_append, hl]; exact hx
          | some y =>
            exfalso
            rcases look_NL (R := []) p (by rw [List.append_nil]; exact hl) with ⟨j, hj, hd, hl⟩ | hl
            · have := (r2.obs j hj hd).2.1 _ (look_mem hl)
              have h8 := hbm 0 j (Nat.zero_le _)
              rw [hb0] at h8
              simp only at this
              omega
            · cases hl)
        refine hQ c'' a pvv hfg (fun t => ?_) hnt ?_ ?_
        · rcases tmT_get (nt := nt) (ops := ops.toList) (v := fun _ => V.any) (tm := tm0) p t with q1 | ⟨j, q1, q2, q3⟩ | ⟨q1, q2⟩
          · rw [q1]; exact .any _
          · rw [q3]; exact .any _
          · rw [q2]; exact (h.ini t (fun j hj hju => absurd hju (q1 j hj))).mono hfg.le
        · rw [hd]; exact .refl _
        · exact VR_plain f5 g2
      have hkF : pk ∉ F.getD i [] := fun hF => by have := hbefs pk hF; rw [hnk] at this; cases this
      obtain ⟨e2, e3, e4⟩ := eN hip0 hkF
      have hwant := wants_sound htm e2
      have hnext : ∀ (c'' : Cx) (u : Value), HInv Δ B base ops.toList p S c0 (fun t => tm0.get .any t) v nw (fun j => (listed.setIfInBounds i true).getD j false) c'' (a.put o.dst u).tmps →
          wpAnyIn (Fw ro) n P .any ops Q fuel (listed.setIfInBounds i true) (a.put o.dst u) c''.w := by
        intro c'' u g1
        refine ih (listed.setIfInBounds i true) c'' (a.put o.dst u) (by simpa using hsz) ?_ ?_ ?_ (by rw [hL', hnk]; simpa using fun e => hip0 e.symm) g1 (by rw [put_size, hnt]) (by rw [put_defers]; exact hd)
        · have := unl_set (L := fun i => listed.getD i false) (L' := fun j => (listed.setIfInBounds i true).getD j false) h2 hL' ops.size h1
          omega
        · intro j q hq hLj k hk
          rw [hL'] at hLj ⊢
          rw [Bool.or_eq_true] at hLj ⊢
          rcases hLj with hLj | hLj
          · exact .inl (hdc j q hq hLj k hk)
          · have : j = i := by simpa using hLj
            subst this
            rw [ho'] at hq; cases hq
            exact .inl (h3 k hk)
        · intro j hj
          rw [hL', hge j hj]
          simp; omega
      simp only [wpOpIn, ho]
      cases hwi : wt i with
      | true =>
        rw [hwi] at hwant
        rw [if_pos hwant]
        obtain ⟨s, f1, f2, f3, f4⟩ := e3 hwi
        have hsee' : SInv Δ B (c.cut (base i)) (seenBy nt ops.toList F S (base i) i o (tmT nt ops.toList v tm0 i) (accOf nw i)).sto := by rw [hSI]; exact hsee
        refine aop_sound hN hG hT hC hsee' htm f1 _ _ _ _ (fun u c' hout => ?_)
        obtain ⟨g1, g2⟩ := hout
        rw [hSI] at g1
        obtain ⟨c'', r1, r2⟩ := h.next hb0 hbm h0 hip h2 hL' (SI := ⟨base i, NL nw (fun j => (F.getD i []).contains j) i ++ S.obs, base i⟩) rfl rfl hsee g1 f2 f3 f4 g2 hdi htn huniq
        have := hnext c'' u (by rw [k2]; exact r2)
        rwa [r1] at this
      | false =>
        rw [hwi] at hwant
        rw [if_neg (by rw [hwant]; simp)]
        refine ⟨fun _ _ => trivial, ?_⟩
        obtain ⟨f1, f2⟩ := e4 hwi
        have hg1 : Step Δ B (c.cut (base i)) ⟨base i, NL nw (fun j => (F.getD i []).contains j) i ++ S.obs, base i⟩ (c.cut (base i)) ⟨base i, NL nw (fun j => (F.getD i []).contains j) i ++ S.obs, base i⟩ := Step.refl hsee
        have htk : nw i = takeNew (base i) (NL nw (fun j => (F.getD i []).contains j) i ++ S.obs) := by
          rw [f2]
          have hd' := hsee.desc
          simp only at hd'
          cases hl : NL nw (fun j => (F.getD i []).contains j) i ++ S.obs with
          | nil => rfl
          | cons q r =>
            obtain ⟨o', b⟩ := q
            rw [hl] at hd'
            have : Nat.ble (base i) o' = false := by
              cases hbb : Nat.ble (base i) o' with
              | false => rfl
              | true => have := Nat.le_of_ble_eq_true hbb; have := hd'.1; omega
            simp [takeNew, this]
        obtain ⟨c'', r1, r2⟩ := h.next hb0 hbm h0 hip h2 hL' (SI := ⟨base i, NL nw (fun j => (F.getD i []).contains j) i ++ S.obs, base i⟩) rfl rfl hsee hg1 (Nat.le_refl _) (hbm _ _ (by omega)) htk (u := undef) (by rw [f1]; exact .any _) hdi htn huniq
        have := hnext c'' undef (by rw [k2]; exact r2)
        rwa [r1] at this
    · -- the tail is not ready while the head stands
      exfalso
      have hF : i0 ∈ F.getD i [] := chain_F hch (by simpa using h1) (by omega) (by omega)
      have h9 : listed.getD i0 false = true := hbefs i0 hF
      have l2' : listed.getD i0 false = false := l2
      rw [l2'] at h9; cases h9


theorem pops_sound (hN : N.Ok Δ) (hG : NoCount P) (hT : TOk P T) (hC : COkY P Δ B C) {nt : Nat} {ops : Array Oper} {ro : Option Nat} {n : Nat} {Q : Exit → Act → World → Prop} : ∀ (l : List Oper) (c : Cx) (st : St I) (a : Act) (v : V I) (st' : St I),
    SInv Δ B c st.sto → TmR Δ B c st.tm a.tmps → a.tmps.size = nt → pops N T C nt ops.toList l st = some (v, st') → AfterP Δ B c st.sto nt v st' a.defers Q → wpListIn (Fw ro) n P ops Q l a c.w := by
  intro l
  induction l with
  | nil => intro c st a v st' h htm hsz hs hQ; simp [pops] at hs
  | cons o r ih =>
    intro c st a v st' h htm hsz hs hQ
    simp only [pops] at hs
    split at hs
    · rename_i hw
      unfold wpListIn
      rw [if_pos (by rw [wants_sound htm hw])]
      split at hs
      · rename_i v1 s1 ho
        refine aop_sound hN hG hT hC h htm ho _ _ _ _ (fun u c' hout => ?_)
        obtain ⟨h1, h2⟩ := hout
        have htm' := (htm.mono h1.le).set h2 o.dst
        rw [hsz] at htm'
        exact ih c' _ (a.put o.dst u) v st' h1.inv htm' (by rw [put_size, hsz]) hs (fun c2 a2 pv g1 g2 g3 g4 g5 => hQ c2 a2 pv (h1.trans g1) g2 g3 (by rw [put_defers] at g4; exact g4.after h1.below.size) g5)
      · split at hs
        · rename_i v1 s1 hp
          cases hs
          exact ppan_sound hN hG hC h htm hp (fun c' pv k1 k2 => hQ c' a pv k1 (htm.mono k1.le) hsz (.refl _) k2)
        · cases hs
    · rename_i hw
      unfold wpListIn
      rw [if_neg (by rw [wants_sound htm hw]; simp)]
      have htm' := htm.set (.any undef) o.dst
      rw [hsz] at htm'
      exact ⟨fun _ _ => trivial, ih c ⟨setTm nt st.tm o.dst .any, st.sto⟩ (a.put o.dst undef) v st' h htm' (by rw [put_size, hsz]) hs (fun c2 a2 pv g1 g2 g3 g4 g5 => hQ c2 a2 pv g1 g2 g3 (by rw [put_defers] at g4; exact g4) g5)⟩
    · cases hs
/-- The tail of a region that panics. -/
theorem ptail_sound (hN : N.Ok Δ) (hG : NoCount P) (hT : TOk P T) (hC : COkY P Δ B C) {nt : Nat} {ops : Array Oper} {ro : Option Nat} {n : Nat} {Q : Exit → Act → World → Prop} {F : List (List Nat)} {p : Nat}
    (hb : befOk ops.toList F = true) (hch : chain ops.toList F p = true) {c0 : Cx} {sto0 : Sto I} {v : V I} {st' : St I} {dl : List Deferred} (hQ : AfterP Δ B c0 sto0 nt v st' dl Q) :
    ∀ (fuel q : Nat) (listed : Array Bool) (s : St I) (c : Cx) (a : Act), listed.size = ops.size → p ≤ q → q + fuel = ops.size → (∀ i, listed.getD i false = decide (i < q)) →
      pops N T C nt ops.toList (ops.toList.drop q) s = some (v, st') → Step Δ B c0 sto0 c s.sto → TmR Δ B c s.tm a.tmps → a.tmps.size = nt → a.defers = dl → wpAnyIn (Fw ro) n P .any ops Q fuel listed a c.w := by
  intro fuel
  induction fuel with
  | zero =>
    intro q listed s c a hsz hpq hq hl hs hst htm hnt hd
    have hdrop : ops.toList.drop q = [] := List.drop_eq_nil_of_le (by simp; omega)
    rw [hdrop] at hs
    simp [pops] at hs
  | succ fuel ih =>
    intro q listed s c a hsz hpq hq hl hs hst htm hnt hd
    have hlt : q < ops.size := by omega
    have hlt' : q < ops.toList.length := by simpa using hlt
    have hq0 : ops.toList[q]? = some ops[q] := by simp [hlt]
    have hbefq := befOk_lt hb
    have hmemq : q ∈ Region.ready .any ops listed := (mem_ready hsz).2 ⟨hlt, by rw [hl]; simp, ops[q], by simp [hlt], fun k hk => by rw [hl]; simpa using hbefq q _ hq0 k hk⟩
    refine ⟨fun hr => absurd (hr ▸ hmemq) (by simp), fun i hi => ?_⟩
    obtain ⟨h1, h2, o, ho, h3⟩ := (mem_ready hsz).1 hi
    rw [hl] at h2
    have hiq : i = q := by
      have hge : q ≤ i := by simpa using h2
      rcases Nat.lt_or_ge q i with hlt2 | hge2
      · exfalso
        have ho' : ops.toList[i]? = some o := by simpa using ho
        have hF : q ∈ F.getD i [] := by
          have hc' := hch
          unfold chain at hc'
          rw [List.all_eq_true] at hc'
          have := hc' i (List.mem_range.2 (by simpa using h1))
          rw [Bool.or_eq_true] at this
          rcases this with this | this
          · have : i < p := by simpa using this
            omega
          · rw [List.all_eq_true] at this
            simpa using this q (List.mem_range.2 hlt2)
        have := bef_sub hb (L := fun j => listed.getD j false) (fun i o ho hLi k hk => by
          have hki := hbefq i o ho k hk
          simp only [hl] at hLi ⊢
          simp at hLi ⊢; omega) i o ho' h3 q hF
        simp [hl] at this
      · omega
    subst hiq
    have hoi : o = ops[i] := by rw [Array.getElem?_eq_getElem h1] at ho; exact (Option.some.inj ho).symm
    subst hoi
    rw [List.drop_eq_getElem_cons hlt'] at hs
    simp only [pops, Array.getElem_toList] at hs
    have hnext : ∀ j, (listed.setIfInBounds i true).getD j false = decide (j < i + 1) := by
      intro j
      rw [getD_set (by omega) j, hl]
      rw [Bool.eq_iff_iff]; simp; omega
    simp only [wpOpIn, ho]
    split at hs
    · rename_i hw
      rw [if_pos (by rw [wants_sound htm hw])]
      split at hs
      · rename_i v1 s1 hop
        have hok := aop_sound hN hG hT hC hst.inv htm hop
        refine hok _ _ _ _ (fun u c' hout => ?_)
        obtain ⟨g1, g2⟩ := hout
        have htm' := (htm.mono g1.le).set g2 ops[i].dst
        rw [hnt] at htm'
        exact ih (i + 1) (listed.setIfInBounds i true) _ c' (a.put ops[i].dst u) (by simpa using hsz) (by omega) (by omega) hnext hs (hst.trans g1) htm' (by rw [put_size, hnt]) (by rw [put_defers]; exact hd)
      · split at hs
        · rename_i v1 s1 hp
          cases hs
          exact ppan_sound hN hG hC hst.inv htm hp (fun c' pv k1 k2 => hQ c' a pv (hst.trans k1) (htm.mono k1.le) hnt (.of_eq hd) k2)
        · cases hs
    · rename_i hw
      rw [if_neg (by rw [wants_sound htm hw]; simp)]
      have htm' := htm.set (.any undef) ops[i].dst
      rw [hnt] at htm'
      exact ⟨fun _ _ => trivial, ih (i + 1) (listed.setIfInBounds i true) ⟨setTm nt s.tm ops[i].dst .any, s.sto⟩ c (a.put ops[i].dst undef) (by simpa using hsz) (by omega) (by omega) hnext hs hst htm' (by rw [put_size, hnt]) (by rw [put_defers]; exact hd)⟩
    · cases hs

theorem pdraw_sound (hN : N.Ok Δ) (hG : NoCount P) (hT : TOk P T) (hm : P.follows .mixedOrders = true) (hC : COkY P Δ B C) {nt : Nat} {ops : Array Oper} {st st' : St I} {vp : V I} (hs : pdraw N T C nt ops.toList st = some (vp, st')) {c : Cx} {a : Act} {id : Nat} {ro : Option Nat} {n : Nat} {Q : Exit → Act → World → Prop}
    (h : SInv Δ B c st.sto) (htm : TmR Δ B c st.tm a.tmps) (hnt : a.tmps.size = nt) (hQ : AfterP Δ B c st.sto nt vp st' a.defers Q) : (Code.region id ops true).wpIn (Fw ro) n P Q a c.w := by
  unfold pdraw at hs
  split at hs
  · rename_i F p hok
    unfold okDraw at hok
    split at hok
    · rename_i hcond
      obtain ⟨h1, h2, h3, h4⟩ := hcond
      cases hok
      generalize lead ops.toList (befs ops.toList []) = p at *
      generalize befs ops.toList [] = F at *
      rw [bite_eq] at hs
      split at hs
      · rename_i hds
        have hfalse : ∀ i, (Array.replicate ops.size false).getD i false = false := by
          intro i
          simp only [Array.getD_eq_getD_getElem?, Array.getElem?_replicate]
          split <;> rfl
        have hunl : unl (fun i => (Array.replicate ops.size false).getD i false) ops.size = ops.size := by
          rw [unl_ext (L' := fun _ => false) ops.size (fun j _ => hfalse j)]
          generalize ops.size = n
          induction n with
          | zero => rfl
          | succ n ihn => simp [unl, ihn]
        have hini : ∀ {base : Nat → Nat} {v : Nat → V I} {nw : Nat → List (Nat × Ob I)}, base 0 = st.sto.next → (∀ i j, i ≤ j → base i ≤ base j) →
            HInv Δ B base ops.toList p st.sto c (fun t => st.tm.get .any t) v nw (fun i => (Array.replicate ops.size false).getD i false) ⟨{ c.w with drawn := c.w.drawn + 1 }, c.κ⟩ a.tmps := by
          intro base v nw hb0 hbm
          have hle : Cx.le B c ⟨{ c.w with drawn := c.w.drawn + 1 }, c.κ⟩ := ⟨fun _ _ => rfl, fun _ _ h => h, fun _ _ h _ => h⟩
          have hnl : ∀ k, NL nw (fun i => (Array.replicate ops.size false).getD i false) k = [] := by
            intro k
            induction k with
            | zero => rfl
            | succ k ihk => simp only [NL, ihk]; rw [hfalse k]; simp
          have hnx : st.sto.next ≤ base p := by have := hbm 0 p (Nat.zero_le _); rw [hb0] at this; exact this
          refine ⟨⟨⟨h.base, fun o ho => h.fresh o (by simp only at ho; omega), h.blk, fun o x hx => ?_, fun o o' x x' b n n' hx hx' => ?_, ?_, h.g⟩, fun _ _ h => h, ⟨rfl, rfl, rfl, Nat.le_refl _, fun _ _ => rfl⟩, hnx, Nat.le_refl _, fun _ _ _ => rfl,
              fun o b n k1 k2 => (by simp only at k1; rw [k2] at k1; cases k1), fun o x k1 k2 => (by simp only at k1; rw [k2] at k1; cases k1), fun _ _ => rfl, fun _ _ h _ => h⟩, ⟨rfl, rfl, rfl, Nat.le_refl _, fun _ _ => rfl⟩, fun t j _ _ hL => ?_, fun t _ => htm t, fun j _ hL => ?_, fun j _ _ o k1 _ => ?_⟩
          · simp only [hnl, List.nil_append] at hx
            obtain ⟨b, cur, e, e1, e2, e4⟩ := h.ob o x hx
            exact ⟨b, cur, e, e1, e2, e4.mono hle⟩
          · simp only [hnl, List.nil_append] at hx hx'
            exact h.inj o o' x x' b n n' hx hx'
          · simp only [hnl, List.nil_append]
            exact h.desc.mono hnx
          · simp only [hfalse] at hL; cases hL
          · simp only [hfalse] at hL; cases hL
          · exact h.fresh o (by have := hbm 0 j (Nat.zero_le _); rw [hb0] at this; omega)
        split at hs
        · rename_i pk hst
          rw [bite_eq] at hs
          split at hs
          · rename_i hpk
            split at hs
            · rename_i pv nx hd
              cases hs
              obtain ⟨base, v, nw, wt, hb0, hbc, hv, rfl⟩ := phead_run h1 (by simpa [Nat.blt_eq] using hpk) hd
              have hbm : ∀ i j, i ≤ j → base i ≤ base j := base_mono (fun i hi => (hv i hi).1) hbc
              refine wpIn_region_any hm ?_
              exact headP_sound (c0 := c) (S := st.sto) (tm0 := st.tm) hN hG hT hC (by simpa using h1) h2 h3 h4 hds h (by simpa [Nat.blt_eq] using hpk) hv hQ hb0 hbm ops.size (Array.replicate ops.size false) ⟨{ c.w with drawn := c.w.drawn + 1 }, c.κ⟩ a (by simp) hunl
                (fun i o _ hL => by rw [hfalse] at hL; cases hL) (fun i _ => hfalse i) (hfalse _) (hini hb0 hbm) hnt rfl
            · cases hs
          · cases hs
        split at hs
        · rename_i tm acc nx hd
          obtain ⟨base, v, nw, wt, hb0, hbc, hv, rfl, rfl, rfl⟩ := dhead_run h1 hd
          rw [allN_acc] at hs
          refine wpIn_region_any hm ?_
          have hfalse : ∀ i, (Array.replicate ops.size false).getD i false = false := by
            intro i
            simp only [Array.getD_eq_getD_getElem?, Array.getElem?_replicate]
            split <;> rfl
          have hbm : ∀ i j, i ≤ j → base i ≤ base j := base_mono (fun i hi => (hv i hi).1) hbc
          have hle : Cx.le B c ⟨{ c.w with drawn := c.w.drawn + 1 }, c.κ⟩ := ⟨fun _ _ => rfl, fun _ _ h => h, fun _ _ h _ => h⟩
          refine head_sound (c0 := c) (S := st.sto) (tm0 := st.tm) hN hG hT hC (by simpa using h1) h2 h3 h4 hds h hv (fun fuel listed c a e1 e2 e3 e4 e5 e6 e7 => ptail_sound hN hG hT hC h2 h3 hQ fuel p listed _ c a e1 (Nat.le_refl _) e2 e3 hs e4 e5 e6 e7) hb0 hbm ops.size (Array.replicate ops.size false) ⟨{ c.w with drawn := c.w.drawn + 1 }, c.κ⟩ a (by simp) ?_ ?_ ?_ ?_ hnt rfl
          · rw [unl_ext (L' := fun _ => false) ops.size (fun j _ => hfalse j)]
            generalize ops.size = n
            induction n with
            | zero => rfl
            | succ n ihn => simp [unl, ihn]
          · intro i o _ hL; rw [hfalse] at hL; cases hL
          · intro i _; exact hfalse i
          · have hnl : ∀ k, NL nw (fun i => (Array.replicate ops.size false).getD i false) k = [] := by
              intro k
              induction k with
              | zero => rfl
              | succ k ihk => simp only [NL, ihk]; rw [hfalse k]; simp
            have hnx : st.sto.next ≤ base p := by have := hbm 0 p (Nat.zero_le _); rw [hb0] at this; exact this
            refine ⟨⟨⟨h.base, fun o ho => h.fresh o (by simp only at ho; omega), h.blk, fun o x hx => ?_, fun o o' x x' b n n' hx hx' => ?_, ?_, h.g⟩, fun _ _ h => h, ⟨rfl, rfl, rfl, Nat.le_refl _, fun _ _ => rfl⟩, hnx, Nat.le_refl _, fun _ _ _ => rfl,
                fun o b n k1 k2 => (by simp only at k1; rw [k2] at k1; cases k1), fun o x k1 k2 => (by simp only at k1; rw [k2] at k1; cases k1), fun _ _ => rfl, fun _ _ h _ => h⟩, ⟨rfl, rfl, rfl, Nat.le_refl _, fun _ _ => rfl⟩, fun t j _ _ hL => ?_, fun t _ => htm t, fun j _ hL => ?_, fun j _ _ o k1 _ => ?_⟩
            · simp only [hnl, List.nil_append] at hx
              obtain ⟨b, cur, e, e1, e2, e4⟩ := h.ob o x hx
              exact ⟨b, cur, e, e1, e2, e4.mono hle⟩
            · simp only [hnl, List.nil_append] at hx hx'
              exact h.inj o o' x x' b n n' hx hx'
            · simp only [hnl, List.nil_append]
              exact h.desc.mono hnx
            · simp only [hfalse] at hL; cases hL
            · simp only [hfalse] at hL; cases hL
            · exact h.fresh o (by have := hbm 0 j (Nat.zero_le _); rw [hb0] at this; omega)
        · cases hs
      · cases hs
    · cases hok
  · cases hs

end
end Go.Sx

/-
  Calls that panic, functions that defer and recover: the machine tells the truth of them.
-/
namespace Go.Sx
open Go.RowKit

section
variable {I : Type} {N : Num I} {Δ : Den I} {P : Program} {T : TypeId → Option Ti} {C : FuncId → List (V I) → Sto I → Option (V I × Sto I)} {B : Nat} {c : Cx} {st : St I} {sto : Sto I} {a : Act}

def PLOk (ro : Option Nat) (P : Program) (Δ : Den I) (B nt : Nat) (LP : Code → St I → Option (V I × St I)) : Prop := ∀ (code : Code) (st : St I) (v : V I) (st' : St I), LP code st = some (v, st') →
  ∀ (c : Cx) (a : Act) (n : Nat) (Q : Exit → Act → World → Prop), SInv Δ B c st.sto → TmR Δ B c st.tm a.tmps → a.tmps.size = nt → AfterP Δ B c st.sto nt v st' a.defers Q → (Code.loop code).wpIn (Fw ro) n P Q a c.w

theorem AfterP.trans {c c' : Cx} {s s' : Sto I} {nt : Nat} {v : V I} {st' : St I} {d d' : List Deferred} {Q : Exit → Act → World → Prop} (hQ : AfterP Δ B c s nt v st' d Q) (g1 : Step Δ B c s c' s') (g4 : Mk c.w c'.w d d') : AfterP Δ B c' s' nt v st' d' Q :=
  fun c2 a2 pv k1 k2 k3 k4 k5 => hQ c2 a2 pv (g1.trans k1) k2 k3 (g4.trans g1.below.size k1.oth k4) k5

theorem aexecP_sound (hN : N.Ok Δ) (hG : NoCount P) (hT : TOk P T) (hm : P.follows .mixedOrders = true) (hC : COkY P Δ B C) {nt : Nat} {D : List Oper → St I → Option (St I)} (hD : DOk P Δ B nt D) {ro : Option Nat} {L : Code → St I → Option (AExit × St I)} (hL : LOk ro P Δ B nt L)
    {LP : Code → St I → Option (V I × St I)} (hP : PLOk ro P Δ B nt LP) :
    ∀ (code : Code) (st : St I) (v : V I) (st' : St I), aexecP N T C nt D L LP code st = some (v, st') →
      ∀ (c : Cx) (a : Act) (n : Nat) (Q : Exit → Act → World → Prop), SInv Δ B c st.sto → TmR Δ B c st.tm a.tmps → a.tmps.size = nt → AfterP Δ B c st.sto nt v st' a.defers Q → code.wpIn (Fw ro) n P Q a c.w := by
  intro code
  induction code with
  | region id ops draw =>
    intro st v st' hs c a n Q h htm hsz hQ
    simp only [aexecP] at hs
    cases draw with
    | true => simp only [if_true] at hs; exact pdraw_sound hN hG hT hm hC hs h htm hsz hQ
    | false => simp only [Bool.false_eq_true, if_false] at hs; exact wpIn_region_list (pops_sound hN hG hT hC ops.toList c st a v st' h htm hsz hs hQ)
  | seq x y ihx ihy =>
    intro st v st' hs c a n Q h htm hsz hQ
    simp only [aexecP] at hs
    split at hs
    · rename_i st1 h1
      refine wpIn_seq (aexec_sound hN hG hT hC hD hL x st .normal st1 h1 c a n _ h htm hsz (fun c' a' g1 g2 g3 g4 => ?_))
      exact ihy st1 v st' hs c' a' n Q g1.inv g2 g3 (hQ.trans g1 g4)
    · cases hs
    · exact wpIn_seq (ihx st v st' hs c a n _ h htm hsz (fun c' a' pv g1 g2 g3 g4 g5 => hQ c' a' pv g1 g2 g3 g4 g5))
  | cond x p q ihp ihq =>
    intro st v st' hs c a n Q h htm hsz hQ
    simp only [aexecP] at hs
    split at hs
    · rename_i b hb
      have hx := VR_eval hN htm x
      rw [hb] at hx
      have hx' : a.eval x = .bool b := by
        generalize a.eval x = rx at hx
        cases hx; rfl
      cases b with
      | true => exact wpIn_cond_true hx' (ihp st v st' hs c a n Q h htm hsz hQ)
      | false => exact wpIn_cond_false hx' (ihq st v st' hs c a n Q h htm hsz hQ)
    · cases hs
  | block id x ih =>
    intro st v st' hs c a n Q h htm hsz hQ
    simp only [aexecP] at hs
    exact wpIn_block (ih st v st' hs c a n _ h htm hsz (fun c' a' pv g1 g2 g3 g4 g5 => hQ c' a' pv g1 g2 g3 g4 g5))
  | loop x ih =>
    intro st v st' hs c a n Q h htm hsz hQ
    simp only [aexecP, bite_eq] at hs
    split at hs
    · cases hs
    · exact hP x st v st' hs c a n Q h htm hsz hQ
  | _ => intro st v st' hs; simp [aexecP] at hs

theorem ploopN_rounds (hN : N.Ok Δ) (hG : NoCount P) (hT : TOk P T) (hm : P.follows .mixedOrders = true) (hC : COkY P Δ B C) {nt d : Nat} {D : List Oper → St I → Option (St I)} (hD : DOk P Δ B nt D) {ro : Option Nat} {kp : Code → Option (List Nat)} (hkp : ro = none ∨ ∀ c q, rangeOf c = some q → kp c ≠ none) :
    ∀ (n : Nat) (code : Code) (st : St I) (v : V I) (st' : St I), ploopN N T C nt D kp (Tr.full .any d) n code st = some (v, st') →
      ∀ (c : Cx) (a : Act) (m : Nat) (Q : Exit → Act → World → Prop), SInv Δ B c st.sto → TmR Δ B c st.tm a.tmps → a.tmps.size = nt → AfterP Δ B c st.sto nt v st' a.defers Q → Code.roundsIn (Fw ro) m P code Q n a c.w := by
  intro n
  induction n with
  | zero => intro code st v st' hs; simp [ploopN] at hs
  | succ n ih =>
    intro code st v st' hs c a m Q h htm hsz hQ
    simp only [ploopN] at hs
    rw [roundsIn_succ]
    have hL := aloopN_sound hN hG hT hC hD hkp (d := d) n
    split at hs
    · rename_i st1 h1
      refine aexec_sound hN hG hT hC hD hL code st .normal st1 h1 c a m _ h htm hsz (fun c' a' g1 g2 g3 g4 => ?_)
      exact ih code st1 v st' hs c' a' m Q g1.inv g2 g3 (hQ.trans g1 g4)
    · cases hs
    · refine aexecP_sound hN hG hT hm hC hD hL (LP := ploopN N T C nt D kp (Tr.full .any d) n) (fun code st v st' hs c a m Q h htm hsz hQ => wpIn_loop_rounds n (ih code st v st' hs c a m Q h htm hsz hQ)) code st v st' hs c a m _ h htm hsz (fun c' a' pv g1 g2 g3 g4 g5 => hQ c' a' pv g1 g2 g3 g4 g5)

theorem ploopN_sound (hN : N.Ok Δ) (hG : NoCount P) (hT : TOk P T) (hm : P.follows .mixedOrders = true) (hC : COkY P Δ B C) {nt d : Nat} {D : List Oper → St I → Option (St I)} (hD : DOk P Δ B nt D) {ro : Option Nat} {kp : Code → Option (List Nat)} (hkp : ro = none ∨ ∀ c q, rangeOf c = some q → kp c ≠ none) (n : Nat) :
    PLOk ro P Δ B nt (ploopN N T C nt D kp (Tr.full .any d) n) :=
  fun code st v st' hs c a m Q h htm hsz hQ => wpIn_loop_rounds n (ploopN_rounds hN hG hT hm hC hD hkp n code st v st' hs c a m Q h htm hsz hQ)

/-! ## What is deferred -/
def marksOf (ds : List Deferred) : List Nat := ds.filterMap fun d => match d.target with
  | .collected r => some r
  | _ => none

inductive DfR (Δ : Den I) (B : Nat) (w0 : World) (c : Cx) : DL I → List Deferred → Prop
  | nil : DfR Δ B w0 c [] []
  | fn {g : FuncId} {xs : List (V I)} {d : DL I} {ds : List Deferred} {rargs rb : Array Value} : VRs Δ B c xs (rargs ++ rb).toList → DfR Δ B w0 c d ds → DfR Δ B w0 c ((g, xs) :: d) ({ target := .fn (.func g) rb, args := rargs } :: ds)
  | mk {D : Nat} {d : DL I} {ds : List Deferred} : w0.heap.size ≤ D → c.w.heap[D]? = some (.deferred (some [])) → (∀ D', D' ∈ marksOf ds → D' ≠ D) → DfR Δ B w0 c d ds → DfR Δ B w0 c d (markOf D :: ds)

theorem DfR.mono {w0 : World} {c c' : Cx} (hc : Cx.le B c c') {d : DL I} {ds : List Deferred} (h : DfR Δ B w0 c d ds) : DfR Δ B w0 c' d ds := by
  induction h with
  | nil => exact .nil
  | fn h1 _ ih => exact .fn (h1.mono hc) ih
  | mk h1 h2 h3 _ ih => exact .mk h1 (hc.oth _ _ h2 rfl) h3 ih

theorem DfR.marks {w0 : World} {c : Cx} {d : DL I} {ds : List Deferred} (h : DfR Δ B w0 c d ds) : ∀ D, D ∈ marksOf ds → D < c.w.heap.size := by
  induction h with
  | nil => intro D hD; simp [marksOf] at hD
  | fn h1 _ ih => intro D hD; simp only [marksOf, List.filterMap_cons] at hD; exact ih D hD
  | mk h1 h2 h3 _ ih =>
    intro D hD
    simp only [marksOf, markOf, List.filterMap_cons, List.mem_cons] at hD
    rcases hD with rfl | hD
    · exact (Array.getElem?_eq_some_iff.1 h2).1
    · exact ih D hD

theorem DfR.ofMk {w0 : World} {c c' : Cx} (hc : Cx.le B c c') (hs : w0.heap.size ≤ c.w.heap.size) {d : DL I} {dl dl' : List Deferred} (h : DfR Δ B w0 c d dl) (hk : Mk c.w c'.w dl dl') : DfR Δ B w0 c' d dl' := by
  obtain ⟨ms, h1, h2, rfl⟩ := hk
  induction ms with
  | nil => exact h.mono hc
  | cons D ms ih =>
    rw [List.nodup_cons] at h1
    obtain ⟨e1, e2⟩ := h2 D (by simp)
    refine .mk (Nat.le_trans hs e1) e2 (fun D' hD' => ?_) (ih h1.2 (fun D' hD' => h2 D' (by simp [hD'])))
    have hD2 : D' ∈ marksOf (ms.map markOf ++ dl) := hD'
    simp only [marksOf, List.filterMap_append, List.mem_append] at hD2
    rcases hD2 with hD' | hD'
    · intro e
      subst e
      apply h1.1
      simp only [List.filterMap_map, List.mem_filterMap] at hD'
      obtain ⟨q, hq, hq2⟩ := hD'
      simp [markOf] at hq2
      subst hq2; exact hq
    · have := h.marks D' hD'
      omega

theorem DfR.put {w0 : World} {c : Cx} {D : Nat} {q : Option (List Deferred)} (hD : c.w.heap[D]? = some (.deferred q)) {d : DL I} {ds : List Deferred} (h : DfR Δ B w0 c d ds) (hm : ∀ D', D' ∈ marksOf ds → D' ≠ D) : DfR Δ B w0 ⟨c.w.putObj D (.deferred none), c.κ⟩ d ds := by
  induction h with
  | nil => exact .nil
  | fn h1 _ ih =>
    refine .fn ⟨h1.1, fun i x v hx hv => (h1.2 i x v hx hv).moveL (c2 := ⟨c.w.putObj D (.deferred none), c.κ⟩) (fun ad u => putObj_cell hD rfl ad u) (fun _ _ h => h) (fun r rc hr => ?_)⟩ (ih (fun D' hD' => hm D' (by simpa [marksOf] using hD')))
    have : r ≠ D := by intro e; subst e; rw [hD] at hr; cases hr
    show (c.w.putObj D _).heap[r]? = _
    rw [World.putObj_heap_other this]; exact hr
  | @mk D2 _ _ h1 h2 h3 _ ih =>
    refine .mk h1 ?_ h3 (ih (fun D' hD' => hm D' (by simp [marksOf, markOf] at hD' ⊢; exact .inr hD')))
    have : D2 ≠ D := hm D2 (by simp [marksOf, markOf])
    exact (World.putObj_heap_other this).trans h2

def AfterX (Δ : Den I) (B : Nat) (w0 : World) (c0 : Cx) (sto0 : Sto I) (nt : Nat) (st' : St I) (d' : DL I) (Q : Cx → Act → Prop) : Prop :=
  ∀ (c' : Cx) (a' : Act), Step Δ B c0 sto0 c' st'.sto → TmR Δ B c' st'.tm a'.tmps → a'.tmps.size = nt → DfR Δ B w0 c' d' a'.defers → Q c' a'

theorem dops_sound (hN : N.Ok Δ) (hG : NoCount P) (hT : TOk P T) (hC : COkY P Δ B C) {nt : Nat} {ops : Array Oper} {n : Nat} {w0 : World} {Q : Exit → Act → World → Prop} : ∀ (l : List Oper) (c : Cx) (st : St I) (a : Act) (d : DL I) (st' : St I) (d' : DL I),
    SInv Δ B c st.sto → TmR Δ B c st.tm a.tmps → a.tmps.size = nt → DfR Δ B w0 c d a.defers → dops N T C nt ops.toList l st d = some (st', d') → AfterX Δ B w0 c st.sto nt st' d' (fun c' a' => Q .normal a' c'.w) → wpListIn (Fw none) n P ops Q l a c.w := by
  intro l
  induction l with
  | nil => intro c st a d st' d' h htm hsz hd hs hQ; simp only [dops] at hs; cases hs; exact hQ c a (Step.refl h) htm hsz hd
  | cons o r ih =>
    intro c st a d st' d' h htm hsz hd hs hQ
    simp only [dops] at hs
    split at hs
    · rename_i hw
      unfold wpListIn
      rw [if_pos (by rw [wants_sound htm hw])]
      split at hs
      · rename_i k ho
        split at hs
        · rename_i f hk
          split at hs
          · rename_i g first cap hev
            rw [bite_eq] at hs
            split at hs
            · have hf := VR_eval hN htm f
              rw [hev] at hf
              obtain ⟨ra, rb, hrf, hvr⟩ := func_args hf (evals_rel hN htm k.args)
              refine ⟨fun _ _ => trivial, ?_⟩
              have hrun : (o.semAt (Fw none).round a.eval).run P c.w = .ok (.defer { target := .fn (.func g) rb, args := ra ++ k.args.map a.eval }) c.w := by
                show (Oper.semAt none a.eval o).run P c.w = _
                rw [Oper.semAt_none]
                simp [execOp, ho, resolve, hk, hrf, Deferred.ofValue]
              rw [hrun]
              simp only [Oper.uponIn]
              have htm' := htm.set (.any undef) o.dst
              rw [hsz] at htm'
              have e1 : (({ a with defers := { target := .fn (.func g) rb, args := ra ++ k.args.map a.eval } :: a.defers } : Act).put o.dst undef).tmps = (a.put o.dst undef).tmps := by cases o.dst <;> rfl
              refine ih c ⟨setTm nt st.tm o.dst .any, st.sto⟩ _ _ st' d' h (by rw [e1]; exact htm') (by rw [e1, put_size, hsz]) ?_ hs hQ
              rw [put_defers]
              exact .fn hvr hd
            · cases hs
          · cases hs
        · cases hs
      · split at hs
        · rename_i v s1 hop
          refine aop_sound hN hG hT hC h htm hop _ _ _ _ (fun u c' hout => ?_)
          obtain ⟨h1, h2⟩ := hout
          have htm' := (htm.mono h1.le).set h2 o.dst
          rw [hsz] at htm'
          exact ih c' _ (a.put o.dst u) d st' d' h1.inv htm' (by rw [put_size, hsz]) (by rw [put_defers]; exact hd.mono h1.le) hs (fun c2 a2 g1 g2 g3 g4 => hQ c2 a2 (h1.trans g1) g2 g3 g4)
        · cases hs
    · rename_i hw
      unfold wpListIn
      rw [if_neg (by rw [wants_sound htm hw]; simp)]
      have htm' := htm.set (.any undef) o.dst
      rw [hsz] at htm'
      exact ⟨fun _ _ => trivial, ih c ⟨setTm nt st.tm o.dst .any, st.sto⟩ (a.put o.dst undef) d st' d' h htm' (by rw [put_size, hsz]) (by rw [put_defers]; exact hd) hs hQ⟩
    · cases hs

theorem xexec_sound (hN : N.Ok Δ) (hG : NoCount P) (hT : TOk P T) (hm : P.follows .mixedOrders = true) (hC : COkY P Δ B C) {nt : Nat} {D : List Oper → St I → Option (St I)} (hD : DOk P Δ B nt D) {L : Code → St I → Option (AExit × St I)} (hL : LOk none P Δ B nt L)
    {LP : Code → St I → Option (V I × St I)} (hP : PLOk none P Δ B nt LP) {w0 : World} :
    ∀ (code : Code) (st : St I) (d : DL I) (m : Option (V I)) (e : AExit) (st' : St I) (d' : DL I), xexec N T C nt D L LP code st d = some (m, e, st', d') →
      ∀ (c : Cx) (a : Act) (n : Nat) (Q : Exit → Act → World → Prop), SInv Δ B c st.sto → TmR Δ B c st.tm a.tmps → a.tmps.size = nt → DfR Δ B w0 c d a.defers → w0.heap.size ≤ c.w.heap.size →
      AfterX Δ B w0 c st.sto nt st' d' (fun c' a' => match m with
        | none => Q (exitOf e) a' c'.w
        | some v => ∀ pv, VR Δ B c' v pv → Q (.panic [{ v := pv, recovered := false }]) a' c'.w) → code.wpIn (Fw none) n P Q a c.w := by
  intro code
  -- pieces that push nothing
  have plain : ∀ (code : Code) (st : St I) (d : DL I) (m : Option (V I)) (e : AExit) (st' : St I) (d' : DL I),
      (match aexec N T C nt D L code st with
        | some (e, st') => some (none, e, st', d)
        | none => match aexecP N T C nt D L LP code st with
          | some (v, st') => some (some v, .normal, st', d)
          | none => none) = some (m, e, st', d') →
      ∀ (c : Cx) (a : Act) (n : Nat) (Q : Exit → Act → World → Prop), SInv Δ B c st.sto → TmR Δ B c st.tm a.tmps → a.tmps.size = nt → DfR Δ B w0 c d a.defers → w0.heap.size ≤ c.w.heap.size →
      AfterX Δ B w0 c st.sto nt st' d' (fun c' a' => match m with
        | none => Q (exitOf e) a' c'.w
        | some v => ∀ pv, VR Δ B c' v pv → Q (.panic [{ v := pv, recovered := false }]) a' c'.w) → code.wpIn (Fw none) n P Q a c.w := by
    intro code st d m e st' d' hs c a n Q h htm hsz hd hw hQ
    split at hs
    · rename_i e1 st1 h1
      cases hs
      exact aexec_sound hN hG hT hC hD hL code st _ _ h1 c a n Q h htm hsz (fun c' a' g1 g2 g3 g4 => hQ c' a' g1 g2 g3 (hd.ofMk g1.le hw g4))
    · split at hs
      · rename_i v1 st1 h1
        cases hs
        exact aexecP_sound hN hG hT hm hC hD hL hP code st _ _ h1 c a n Q h htm hsz (fun c' a' pv g1 g2 g3 g4 g5 => hQ c' a' g1 g2 g3 (hd.ofMk g1.le hw g4) pv g5)
      · cases hs
  induction code with
  | seq x y ihx ihy =>
    intro st d m e st' d' hs c a n Q h htm hsz hd hw hQ
    simp only [xexec] at hs
    split at hs
    · rename_i st1 d1 h1
      refine wpIn_seq (ihx st d none .normal st1 d1 h1 c a n _ h htm hsz hd hw (fun c' a' g1 g2 g3 g4 => ?_))
      exact ihy st1 d1 m e st' d' hs c' a' n Q g1.inv g2 g3 g4 (Nat.le_trans hw g1.below.size) (fun c2 a2 k1 k2 k3 k4 => hQ c2 a2 (g1.trans k1) k2 k3 k4)
    · rename_i hne
      refine wpIn_seq (ihx st d m e st' d' hs c a n _ h htm hsz hd hw (fun c' a' g1 g2 g3 g4 => ?_))
      have hq := hQ c' a' g1 g2 g3 g4
      cases m with
      | none =>
        cases e with
        | normal => exact (hne st' d' hs).elim
        | exit id => exact hq
        | goto l => exact hq
        | ret => exact hq
      | some v => exact hq
  | region id ops draw =>
    intro st d m e st' d' hs c a n Q h htm hsz hd hw hQ
    simp only [xexec] at hs
    split at hs
    · rename_i e1 st1 h1
      cases hs
      exact aexec_sound hN hG hT hC hD hL _ st _ _ h1 c a n Q h htm hsz (fun c' a' g1 g2 g3 g4 => hQ c' a' g1 g2 g3 (hd.ofMk g1.le hw g4))
    · split at hs
      · rename_i st1 d1 h1
        cases hs
        cases draw with
        | true => simp at h1
        | false =>
          simp only [Bool.false_eq_true, if_false] at h1
          exact wpIn_region_list (dops_sound hN hG hT hC ops.toList c st a d _ _ h htm hsz hd h1 hQ)
      · split at hs
        · rename_i v1 st1 h1
          cases hs
          exact aexecP_sound hN hG hT hm hC hD hL hP _ st _ _ h1 c a n Q h htm hsz (fun c' a' pv g1 g2 g3 g4 g5 => hQ c' a' g1 g2 g3 (hd.ofMk g1.le hw g4) pv g5)
        · cases hs
  | skip => intro st d m e st' d' hs; exact plain _ st d m e st' d' (by simp only [xexec] at hs; exact hs)
  | cond => intro st d m e st' d' hs; exact plain _ st d m e st' d' (by simp only [xexec] at hs; exact hs)
  | block => intro st d m e st' d' hs; exact plain _ st d m e st' d' (by simp only [xexec] at hs; exact hs)
  | loop => intro st d m e st' d' hs; exact plain _ st d m e st' d' (by simp only [xexec] at hs; exact hs)
  | rangeFunc => intro st d m e st' d' hs; exact plain _ st d m e st' d' (by simp only [xexec] at hs; exact hs)
  | exit => intro st d m e st' d' hs; exact plain _ st d m e st' d' (by simp only [xexec] at hs; exact hs)
  | scope => intro st d m e st' d' hs; exact plain _ st d m e st' d' (by simp only [xexec] at hs; exact hs)
  | label => intro st d m e st' d' hs; exact plain _ st d m e st' d' (by simp only [xexec] at hs; exact hs)
  | goto => intro st d m e st' d' hs; exact plain _ st d m e st' d' (by simp only [xexec] at hs; exact hs)
  | ret => intro st d m e st' d' hs; exact plain _ st d m e st' d' (by simp only [xexec] at hs; exact hs)
  | refuse => intro st d m e st' d' hs; exact plain _ st d m e st' d' (by simp only [xexec] at hs; exact hs)


/-! ## Deferred functions -/
/-- The mode of the frame below: mv: what it panics with; q: has it been recovered? -/
def modeOf (mv : Option Value) (q : Bool) : FrameMode := match mv with
  | none => .returning
  | some pv => .panicking [{ v := pv, recovered := q }]

def VRm (Δ : Den I) (B : Nat) (c : Cx) (m : Option (V I)) (mv : Option Value) : Prop := match m, mv with
  | none, none => True
  | some v, some pv => VR Δ B c v pv
  | _, _ => False

theorem VRm.mono {c c' : Cx} (hc : Cx.le B c c') {m : Option (V I)} {mv : Option Value} (h : VRm Δ B c m mv) : VRm Δ B c' m mv := by
  cases m <;> cases mv <;> first | exact h.elim | trivial | exact VR.mono hc h

theorem rops_sound (hN : N.Ok Δ) (hT : TOk P T) {nt : Nat} {ops : Array Oper} {m : Option (V I)} {mv : Option Value} {c₀ : Frame} {cs : List Frame} {n : Nat} {Q : Exit → Act → List Frame → World → Prop} : ∀ (l : List Oper) (k : Nat) (c : Cx) (st : St I) (a : Act) (q : Bool) (st' : St I) (q' : Bool),
    (∀ j, l[j]? = ops[k + j]?) → SInv Δ B c st.sto → TmR Δ B c st.tm a.tmps → a.tmps.size = nt → VRm Δ B c m mv → rops N T nt ops.toList m l st q = some (st', q') →
    (∀ c' a', Step Δ B c st.sto c' st'.sto → TmR Δ B c' st'.tm a'.tmps → a'.tmps.size = nt → a'.defers = a.defers → Q .normal a' ({ c₀ with mode := modeOf mv q' } :: cs) c'.w) →
    wpOpsSIn Fence.wide n P ops Q (List.range' k l.length) a ({ c₀ with mode := modeOf mv q } :: cs) c.w := by
  intro l
  induction l with
  | nil => intro k c st a q st' q' _ h htm hsz hm hs hQ; simp only [rops] at hs; cases hs; exact hQ c a (Step.refl h) htm hsz rfl
  | cons o r ih =>
    intro k c st a q st' q' hj h htm hsz hm hs hQ
    have hk : ops[k]? = some o := by have := hj 0; simpa using this.symm
    have hj' : ∀ j, r[j]? = ops[k + 1 + j]? := fun j => by have := hj (j + 1); rw [List.getElem?_cons_succ] at this; rw [this]; congr 1; omega
    simp only [rops] at hs
    simp only [List.length_cons, List.range'_succ, wpOpsSIn, hk]
    refine ⟨fun _ _ => trivial, ?_⟩
    -- a value for the slot
    have one : ∀ (v : V I) (u : Value) (q2 : Bool), VR Δ B c v u → rops N T nt ops.toList m r ⟨setTm nt st.tm o.dst v, st.sto⟩ q2 = some (st', q') → wpOpsSIn Fence.wide n P ops Q (List.range' (k + 1) r.length) (a.put o.dst u) ({ c₀ with mode := modeOf mv q2 } :: cs) c.w := by
      intro v u q2 hv hs
      have htm' := htm.set hv o.dst
      rw [hsz] at htm'
      exact ih (k + 1) c ⟨setTm nt st.tm o.dst v, st.sto⟩ (a.put o.dst u) q2 st' q' hj' h htm' (by rw [put_size, hsz]) hm hs (fun c' a' g1 g2 g3 g4 => hQ c' a' g1 g2 g3 (by rw [g4, put_defers]))
    have pure1 : ∀ v, apure N T st o = some v → rops N T nt ops.toList m r ⟨setTm nt st.tm o.dst v, st.sto⟩ q = some (st', q') → ∃ u, (execOp a.eval o).run P c.w = .ok (.value u) c.w ∧ wpOpsSIn Fence.wide n P ops Q (List.range' (k + 1) r.length) (a.put o.dst u) ({ c₀ with mode := modeOf mv q } :: cs) c.w := by
      intro v hv hs
      obtain ⟨u, hu, hvu⟩ := apure_run hN hT h htm hv
      exact ⟨u, hu, one v u q hvu hs⟩
    split at hs
    · rename_i hw
      rw [if_pos (by rw [wants_sound htm hw])]
      split at hs
      · rename_i kk ho
        split at hs
        · rename_i hkk
          have hrun : (execOp a.eval o).run P c.w = .ok .recover c.w := by simp [execOp, ho, resolve, hkk, invoke, builtin]
          rw [hrun]
          simp only
          split at hs
          · rename_i v
            cases mv with
            | none => exact hm.elim
            | some pv =>
              have hrec : recoverD ({ c₀ with mode := modeOf (some pv) false } :: cs) = some (pv, { c₀ with mode := modeOf (some pv) true } :: cs) := rfl
              rw [hrec]
              exact one v pv true hm hs
          · rename_i hno
            have hrec : recoverD ({ c₀ with mode := modeOf mv q } :: cs) = none := by
              cases mv with
              | none => rfl
              | some pv =>
                cases q with
                | true => rfl
                | false =>
                  cases m with
                  | none => exact hm.elim
                  | some v => exact (hno v rfl rfl).elim
            rw [hrec]
            exact one .nilIface .nilIface q .nilIface hs
        · split at hs
          · rename_i v hv
            obtain ⟨u, hu, hk2⟩ := pure1 v hv hs
            rw [hu]; exact hk2
          · cases hs
      · rename_i t ad x ho
        split at hs
        · rename_i hd
          split at hs
          · rename_i s1 hst
            obtain ⟨c', h1, h2⟩ := store_sound hT h (VR_eval hN htm ad) (VR_eval hN htm x) hst
            have hrun : (execOp a.eval o).run P c.w = .ok .skip c'.w := by simp [execOp, ho, h1]
            rw [hrun]
            simp only [hd]
            exact ih (k + 1) c' ⟨st.tm, s1⟩ a q st' q' hj' h2.inv (htm.mono h2.le) hsz (hm.mono h2.le) hs (fun c2 a2 g1 g2 g3 g4 => hQ c2 a2 (h2.trans g1) g2 g3 g4)
          · cases hs
        · cases hs
      · split at hs
        · rename_i v hv
          obtain ⟨u, hu, hk2⟩ := pure1 v hv hs
          rw [hu]; exact hk2
        · cases hs
    · rename_i hw
      rw [if_neg (by rw [wants_sound htm hw]; simp)]
      exact one .any undef q (.any _) hs
    · cases hs

theorem rexec_sound (hN : N.Ok Δ) (hT : TOk P T) {nt : Nat} {m : Option (V I)} {mv : Option Value} {c₀ : Frame} {cs : List Frame} {n : Nat} : ∀ (code : Code) (st : St I) (q : Bool) (e : AExit) (st' : St I) (q' : Bool), rexec N T nt m code st q = some (e, st', q') →
    ∀ (c : Cx) (a : Act) (Q : Exit → Act → List Frame → World → Prop), SInv Δ B c st.sto → TmR Δ B c st.tm a.tmps → a.tmps.size = nt → VRm Δ B c m mv →
    (∀ c' a', Step Δ B c st.sto c' st'.sto → TmR Δ B c' st'.tm a'.tmps → a'.tmps.size = nt → a'.defers = a.defers → Q (exitOf e) a' ({ c₀ with mode := modeOf mv q' } :: cs) c'.w) →
    code.wpSIn Fence.wide n P Q a ({ c₀ with mode := modeOf mv q } :: cs) c.w := by
  intro code
  induction code with
  | skip => intro st q e st' q' hs c a Q h htm hsz hm hQ; simp only [rexec] at hs; cases hs; exact wpSIn_of_wpIn rfl (wpIn_skip (hQ c a (Step.refl h) htm hsz rfl))
  | ret => intro st q e st' q' hs c a Q h htm hsz hm hQ; simp only [rexec] at hs; cases hs; exact wpSIn_of_wpIn rfl (wpIn_ret (hQ c a (Step.refl h) htm hsz rfl))
  | seq x y ihx ihy =>
    intro st q e st' q' hs c a Q h htm hsz hm hQ
    simp only [rexec] at hs
    split at hs
    · rename_i st1 q1 h1
      refine wpSIn_seq (ihx st q .normal st1 q1 h1 c a _ h htm hsz hm (fun c' a' g1 g2 g3 g4 => ?_))
      exact ihy st1 q1 e st' q' hs c' a' Q g1.inv g2 g3 (hm.mono g1.le) (fun c2 a2 k1 k2 k3 k4 => hQ c2 a2 (g1.trans k1) k2 k3 (by rw [k4, g4]))
    · rename_i hne
      refine wpSIn_seq (ihx st q e st' q' hs c a _ h htm hsz hm (fun c' a' g1 g2 g3 g4 => ?_))
      have hq := hQ c' a' g1 g2 g3 g4
      cases e with
      | normal => exact (hne st' q' hs).elim
      | exit id => exact hq
      | goto l => exact hq
      | ret => exact hq
  | cond x p r ihp ihr =>
    intro st q e st' q' hs c a Q h htm hsz hm hQ
    simp only [rexec] at hs
    split at hs
    · rename_i b hb
      have hx := VR_eval hN htm x
      rw [hb] at hx
      have hx' : a.eval x = .bool b := by
        generalize a.eval x = rx at hx
        cases hx; rfl
      refine wpSIn_cond hx' ?_
      cases b with
      | true => exact ihp st q e st' q' hs c a Q h htm hsz hm hQ
      | false => exact ihr st q e st' q' hs c a Q h htm hsz hm hQ
    · cases hs
  | region id ops draw =>
    intro st q e st' q' hs c a Q h htm hsz hm hQ
    simp only [rexec] at hs
    cases draw with
    | true => simp at hs
    | false =>
      simp only [Bool.false_eq_true, if_false] at hs
      split at hs
      · rename_i st1 q1 h1
        cases hs
        refine wpSIn_region ?_
        rw [List.range_eq_range', ← Array.length_toList]
        exact rops_sound hN hT ops.toList 0 c st a q _ _ (fun j => by simp) h htm hsz hm h1 hQ
      · cases hs
  | _ => intro st q e st' q' hs; simp [rexec] at hs

theorem rcall_sound (hN : N.Ok Δ) (hT : TOk P T) {g : FuncId} {xs : List (V I)} {m m' : Option (V I)} {sto sto' : Sto I} (hs : rcall N T P g xs m sto = some (m', sto')) :
    (∃ fn, P.funcs[g]? = some fn ∧ fn.body.isSome = true) ∧ ∀ (c : Cx) (rargs : Array Value) (mv : Option Value) (n : Nat), SInv Δ B c sto → VRs Δ B c xs rargs.toList → VRm Δ B c m mv →
      CallsDIn Fence.wide n P g rargs (modeOf mv false) c.w fun e u' w' => ∃ rv c' q, e = .returned rv ∧ c'.w = w' ∧ Step Δ B c sto c' sto' ∧ u' = modeOf mv q ∧ m' = if q then none else m := by
  unfold rcall at hs
  split at hs
  · rename_i fn hfn
    split at hs
    · rename_i code hb
      rw [bite_eq] at hs
      split at hs
      · rename_i hlen
        simp only [Bool.and_eq_true] at hlen
        obtain ⟨hlen, hres⟩ := hlen
        have hlen : xs.length ≤ fn.ntmps := by simpa [Nat.ble_eq] using hlen
        refine ⟨⟨fn, hfn, by rw [hb]; rfl⟩, fun c rargs mv n h hx hm => ?_⟩
        obtain ⟨hsz, htm⟩ := enter_rel hx hlen
        have hr0 : fn.results = #[] := by
          have : fn.results.toList = [] := by simpa using hres
          apply Array.ext'; simpa using this
        have key : ∀ (e : AExit) (st : St I) (q : Bool), (e = .normal ∨ e = .ret) → rexec N T fn.ntmps m code ⟨setArgs xs 0 (Tr.full .any (depthFor fn.ntmps)), sto⟩ false = some (e, st, q) → (m', sto') = (if q then none else m, st.sto) →
            CallsDIn Fence.wide n P g rargs (modeOf mv false) c.w fun e u' w' => ∃ rv c' q, e = .returned rv ∧ c'.w = w' ∧ Step Δ B c sto c' sto' ∧ u' = modeOf mv q ∧ m' = if q then none else m := by
          intro e st q he hex heq
          cases heq
          refine callsDIn_of_wpSIn hfn hb trivial (fun c₀ cs hc => ?_)
          have hc0 : c₀ = { c₀ with mode := modeOf mv false } := by rw [← hc]
          rw [hc0]
          refine rexec_sound hN hT code _ _ _ _ _ hex c { tmps := _, defers := [] } _ h htm hsz hm (fun c' a' g1 g2 g3 g4 => ?_)
          have hrun : (results fn a'.tmps).run P c'.w = .ok (.tuple #[]) c'.w := by unfold results; rw [hr0]; simp
          rcases he with rfl | rfl
          · exact ⟨g4, _, rfl, _, hrun, _, c', q, rfl, rfl, g1, rfl, rfl⟩
          · exact ⟨g4, _, rfl, _, hrun, _, c', q, rfl, rfl, g1, rfl, rfl⟩
        split at hs
        · rename_i st q hex; exact key .normal st q (.inl rfl) hex (Option.some.inj hs).symm
        · rename_i st q hex; exact key .ret st q (.inr rfl) hex (Option.some.inj hs).symm
        · cases hs
      · cases hs
    · cases hs
  · cases hs

theorem settle_mode (mv : Option Value) (q : Bool) : settle (modeOf mv q) = modeOf (if q then none else mv) false := by
  cases mv <;> cases q <;> rfl

theorem aleave_sound (hN : N.Ok Δ) (hG : NoCount P) (hT : TOk P T) {c0 : Cx} {sto0 : Sto I} (hb : B ≤ c0.w.heap.size) {fn : Func} {tmps : Array Value} {n : Nat} {R : Ending → World → Prop} :
    ∀ (ds : List Deferred) (d : DL I) (c : Cx) (m : Option (V I)) (mv : Option Value) (sto : Sto I) (m' : Option (V I)) (sto' : Sto I), DfR Δ B c0.w c d ds → Step Δ B c0 sto0 c sto → VRm Δ B c m mv → aleave N T P d m sto = some (m', sto') →
    (∀ c' mv', Step Δ B c0 sto0 c' sto' → Cx.le B c c' ∨ True → VRm Δ B c' m' mv' → (∀ {tm : Tr (V I)} {ts : Array Value}, TmR Δ B c tm ts → TmR Δ B c' tm ts) → LeavesInM Fence.wide n P fn tmps R [] (modeOf mv' false) c'.w) →
    LeavesInM Fence.wide n P fn tmps R ds (modeOf mv false) c.w := by
  intro ds
  induction ds with
  | nil =>
    intro d c m mv sto m' sto' hd hst hm hs hK
    cases hd
    simp only [aleave] at hs
    cases hs
    exact hK c mv hst (.inr trivial) hm (fun h => h)
  | cons x ds ih =>
    intro d c m mv sto m' sto' hd hst hm hs hK
    have hne : modeOf mv false ≠ .run := by cases mv <;> simp [modeOf]
    cases hd with
    | @fn g xs d _ rargs rb hx hd =>
      simp only [aleave] at hs
      split at hs
      · rename_i m1 s1 h1
        obtain ⟨⟨f1, hf1, hb1⟩, hcall⟩ := rcall_sound (Δ := Δ) (B := B) hN hT h1
        refine ⟨hne, .inr ⟨fun h => by simp [Fence.wide] at h, _, _, g, rargs ++ rb, rfl, run_callFunc hG hf1 hb1 _ _, fun _ _ => trivial, ?_⟩⟩
        refine CallsDIn.mono (hcall c _ mv _ hst.inv hx hm) ?_
        rintro e u' w' ⟨rv, c', q, rfl, rfl, hst', rfl, rfl⟩
        simp only
        rw [settle_mode]
        refine ih d c' _ _ s1 m' sto' (hd.mono hst'.le) (hst.trans hst') ?_ hs (fun c2 mv2 k1 _ k3 k4 => hK c2 mv2 k1 (.inr trivial) k3 (fun htm => k4 (htm.mono hst'.le)))
        cases q
        · exact hm.mono hst'.le
        · trivial
      · cases hs
    | @mk D _ _ h1 h2 h3 hd =>
      refine ⟨hne, .inl ⟨D, _, rfl, run_takeDeferred h2, ?_⟩⟩
      have hst2 := hst.putNew (o' := .deferred none) hb h1 h2 rfl rfl (.inr (fun rc e => by cases e))
      have mv2 : ∀ {y : V I} {u : Value}, VR Δ B c y u → VR Δ B ⟨c.w.putObj D (.deferred none), c.κ⟩ y u := fun hy => hy.moveL (c2 := ⟨c.w.putObj D (.deferred none), c.κ⟩) (fun ad u => putObj_cell h2 rfl ad u) (fun _ _ h => h) (fun r rc hr => by
        have : r ≠ D := by intro e; subst e; rw [h2] at hr; cases hr
        show (c.w.putObj D _).heap[r]? = _
        rw [World.putObj_heap_other this]; exact hr)
      refine ih d ⟨c.w.putObj D (.deferred none), c.κ⟩ m mv sto m' sto' (hd.put h2 h3) hst2 ?_ hs (fun c2 mv3 k1 _ k3 k4 => hK c2 mv3 k1 (.inr trivial) k3 (fun htm => k4 (fun i => mv2 (htm i))))
      cases m <;> cases mv <;> first | exact hm.elim | trivial | exact mv2 hm

theorem xcall_ok (hN : N.Ok Δ) (hG : NoCount P) (hT : TOk P T) (hm : P.follows .mixedOrders = true) {DD : (FuncId → List (V I) → Sto I → Option (V I × Sto I)) → Nat → List Oper → St I → Option (St I)} (hD : ∀ C, COkY P Δ B C → ∀ nt, DOk P Δ B nt (DD C nt)) :
    XOk P Δ B (xcall N T P DD) := by
  intro C hC n k args sto r sto' hs
  unfold xcall at hs
  rw [bite_eq] at hs
  refine ⟨fun hk => ?_, fun hk => ?_⟩
  · rw [if_neg (by
      intro h2
      have h2' : (2000000 : Nat) ≤ k := by simpa [Nat.ble_eq] using h2
      exact absurd (Nat.lt_of_lt_of_le (show (k : Nat) < 1000000 from hk) (by decide : (1000000 : Nat) ≤ 2000000)) (Nat.not_lt.2 h2'))] at hs
    split at hs
    · rename_i fn hfn
      split at hs
      · rename_i code hb
        rw [bite_eq] at hs
        split at hs
        · rename_i hlen
          simp only [Bool.and_eq_true] at hlen
          have hlen : args.length ≤ fn.ntmps := by simpa [Nat.ble_eq] using hlen.1
          have hL := aloopN_sound hN hG hT hC (hD C hC fn.ntmps) (d := depthFor fn.ntmps) (ro := none) (kp := fun _ => none) (.inl rfl) n
          have hPL := ploopN_sound hN hG hT hm hC (hD C hC fn.ntmps) (d := depthFor fn.ntmps) (ro := none) (kp := fun _ => none) (.inl rfl) n
          split at hs
          · rename_i m e st d hex
            have body : ((m = none ∧ (e = .normal ∨ e = .ret)) ∨ ∃ v, m = some v ∧ e = .normal) → ∀ s', aleave N T P d m st.sto = some (none, s') → answer T ⟨st.tm, s'⟩ sto.next fn.results.toList = some (r, sto') → Good P Δ B k args sto r sto' := by
              intro hme s' hlv ha c0 rargs hinv hargs
              obtain ⟨hsz, htm⟩ := enter_rel hargs hlen
              refine callsIn_wide.1 (callsIn_of_wp_marks (F := Fence.wide) (n := 0) hfn hb trivial ?_)
              refine xexec_sound (w0 := c0.w) hN hG hT hm hC (hD C hC fn.ntmps) hL hPL code _ [] m e st d hex c0 { tmps := _, defers := [] } 0 _ hinv htm hsz .nil (Nat.le_refl _) (fun c' a' g1 g2 g3 g4 => ?_)
              have fin : ∀ mv, VRm Δ B c' m mv → LeavesInM Fence.wide 0 P fn a'.tmps (fun e w' => ∃ rv c', e = .returned rv ∧ c'.w = w' ∧ Out Δ B c0 sto r sto' rv c') a'.defers (modeOf mv false) c'.w := by
                intro mv hmv
                refine aleave_sound hN hG hT (c0 := c0) (sto0 := sto) hinv.base a'.defers d c' m mv st.sto none s' g4 g1 hmv hlv (fun c2 mv2 k1 _ k3 k4 => ?_)
                cases mv2 with
                | some _ => exact k3.elim
                | none =>
                  obtain ⟨rv, e1, e2⟩ := answer_sound (P := P) (st := ⟨st.tm, s'⟩) (a := a') hT k1 (k4 g2) ha
                  exact ⟨rv, e1, rv, _, rfl, rfl, e2⟩
              rcases hme with ⟨rfl, he⟩ | ⟨v, rfl, rfl⟩
              · rcases he with rfl | rfl
                · exact fin none trivial
                · exact fin none trivial
              · intro pv hpv
                exact fin (some pv) hpv
            split at hs
            · rename_i h1 h2
              split at hs
              · rename_i s' hlv; exact ⟨body (.inl ⟨rfl, .inl rfl⟩) s' hlv hs, fn, hfn, by rw [hb]; rfl⟩
              · cases hs
            · split at hs
              · rename_i s' hlv; exact ⟨body (.inl ⟨rfl, .inr rfl⟩) s' hlv hs, fn, hfn, by rw [hb]; rfl⟩
              · cases hs
            · split at hs
              · rename_i s' hlv; exact ⟨body (.inr ⟨_, rfl, rfl⟩) s' hlv hs, fn, hfn, by rw [hb]; rfl⟩
              · cases hs
            · cases hs
          · cases hs
        · cases hs
      · cases hs
    · cases hs
  · rw [if_pos (by simpa [Nat.ble_eq] using hk)] at hs
    split at hs
    · rename_i fn hfn
      split at hs
      · rename_i code hb
        rw [bite_eq] at hs
        split at hs
        · rename_i hlen
          have hlen : args.length ≤ fn.ntmps := by simpa [Nat.ble_eq] using hlen
          split at hs
          · rename_i v st hex
            cases hs
            have hL := aloopN_sound hN hG hT hC (hD C hC fn.ntmps) (d := depthFor fn.ntmps) (ro := none) (kp := fun _ => none) (.inl rfl) n
            have hPL := ploopN_sound hN hG hT hm hC (hD C hC fn.ntmps) (d := depthFor fn.ntmps) (ro := none) (kp := fun _ => none) (.inl rfl) n
            refine ⟨⟨fn, hfn, by rw [hb]; rfl⟩, fun c0 rargs hinv hargs => ?_⟩
            obtain ⟨hsz, htm⟩ := enter_rel hargs hlen
            refine callsIn_wide.1 (callsIn_of_wp_marks (F := Fence.wide) (n := 0) hfn hb trivial ?_)
            refine aexecP_sound hN hG hT hm hC (hD C hC fn.ntmps) hL hPL code _ _ _ hex c0 { tmps := _, defers := [] } 0 _ hinv htm hsz (fun c' a' pv g1 g2 g3 g4 g5 => ?_)
            obtain ⟨ms, h1, h2, h3⟩ := g4
            show LeavesInM _ _ _ _ _ _ a'.defers _ _
            rw [h3]
            refine leaves_marks ms c'.w h1 (fun D hD => (h2 D hD).2) [] _ (by simp) ?_
            obtain ⟨k1, k2⟩ := Step.shut (c' := c') hinv.base ms c' g1 (fun D hD => ⟨(h2 D hD).1, _, (h2 D hD).2⟩)
            refine ⟨pv, _, rfl, rfl, k1, ?_⟩
            have := k2 (tm := Tr.node .leaf r .leaf) (tmps := #[pv]) (fun i => by
              cases i with
              | zero => exact g5
              | succ i => rw [Tr.get_succ]; split <;> exact .any _) 0
            exact this
          · cases hs
        · cases hs
      · cases hs
    · cases hs

end
end Go.Sx


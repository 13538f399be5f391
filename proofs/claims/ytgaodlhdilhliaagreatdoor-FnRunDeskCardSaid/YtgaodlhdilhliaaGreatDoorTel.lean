/-
  What functions answer at what is known: rows, pairs, lists, by runs at symbols. No condition.
-/
import Derived.Test.YtgaodlhdilhliaaGreatDoorRows
import Derived.Test.YtgaodlhdilhliaaGreatDoorSym
import Derived.Test.YtgaodlhdilhliaaGreatDoorSymD
import Derived.Test.YtgaodlhdilhliaaGreatDoorSymE
import Derived.Test.YtgaodlhdilhliaaGreatDoorSymF
import Derived.Test.YtgaodlhdilhliaaGreatDoorIds
import Derived.WalkKit
import Derived.ProofKit
import Derived.OpenShut
namespace Go.Proofs.YtgaodlhdilhliaaGreatDoor.Tel
open Go.ChangeShapes Go.WideShapes Go.ChangeAt Go.RowKit Go.Sx Go.Proofs.YtgaodlhdilhliaaGreatDoor.Ids
set_option linter.unusedVariables false
set_option linter.unusedSimpArgs false

def rowsV : Nat → List (List Int) → List (V Sy)
  | _, [] => []
  | o, z :: r => .rsl o 0 z.length none :: rowsV (o + 1) r
theorem rowsV_len : ∀ (o : Nat) (l : List (List Int)), (rowsV o l).length = l.length
  | _, [] => rfl
  | o, z :: r => by simp [rowsV, rowsV_len (o + 1) r]
theorem rowsV_get : ∀ (o : Nat) (l : List (List Int)) (i : Nat), (rowsV o l)[i]? = l[i]?.map fun z => V.rsl (o + i) 0 z.length none
  | _, [], i => by simp [rowsV]
  | o, z :: r, 0 => by simp [rowsV]
  | o, z :: r, i + 1 => by
    simp only [rowsV, List.getElem?_cons_succ]
    rw [rowsV_get (o + 1) r i, show o + 1 + i = o + (i + 1) by omega]
noncomputable def heldAt (S : Sto Sy) (ps : List Sy) (x : V Sy) : Option Nat := match x with
  | .rsl q 0 len cap => bite (Nat.beq len ps.length) (match Go.Sx.look S.obs q with
    | some b => match numsOf b with
      | some qs => bite (sames (qs.take len) ps) (bite (Nat.ble len qs.length) (match cap with
        | some cp => bite (Nat.ble len cp) (bite (Nat.ble cp qs.length) (some q) none) none
        | none => some q) none) none
      | none => none
    | none => none) none
  | _ => none
theorem heldAt_ok {S : Sto Sy} {ps : List Sy} {x : V Sy} {q : Nat} (h : heldAt S ps x = some q) : ∃ (qs : List Sy) (cap : Option Nat), x = .rsl q 0 ps.length cap ∧ Go.Sx.look S.obs q = some (ints qs) ∧ qs.take ps.length = ps ∧ ps.length ≤ qs.length ∧ ∀ cp, cap = some cp → ps.length ≤ cp ∧ cp ≤ qs.length := by
  unfold heldAt at h
  split at h
  case h_2 => cases h
  rename_i q' len cap
  simp only [bite_eq] at h
  split at h
  case isFalse => cases h
  rename_i hlen
  have hlen := Nat.eq_of_beq_eq_true hlen
  subst hlen
  split at h
  case h_2 => cases h
  rename_i b hb
  split at h
  case h_2 => cases h
  rename_i qs hqs
  have hbi := numsOf_ints hqs
  subst hbi
  split at h
  case isFalse => cases h
  rename_i hs
  have hs := sames_eq hs
  split at h
  case isFalse => cases h
  rename_i hle
  rw [Nat.ble_eq] at hle
  split at h
  · rename_i cp
    split at h
    case isFalse => cases h
    rename_i c1
    split at h
    case isFalse => cases h
    rename_i c2
    rw [Nat.ble_eq] at c1 c2
    cases h
    exact ⟨qs, _, rfl, hb, hs, hle, fun cp' e => by cases e; exact ⟨c1, c2⟩⟩
  · cases h
    exact ⟨qs, none, rfl, hb, hs, hle, fun cp' e => by cases e⟩

noncomputable def heldAll (S : Sto Sy) : List (List Sy) → List (V Sy) → Option (List Nat)
  | [], [] => some []
  | ps :: r, x :: s => match heldAt S ps x with
    | some q => match heldAll S r s with
      | some qs => some (q :: qs)
      | none => none
    | none => none
  | _, _ => none
theorem heldAll_ok {S : Sto Sy} : ∀ {l : List (List Sy)} {xs : List (V Sy)} {qs : List Nat}, heldAll S l xs = some qs → xs.length = l.length ∧ qs.length = l.length ∧ ∀ (j : Nat) (ps : List Sy), l[j]? = some ps → ∃ (x : V Sy) (q : Nat), xs[j]? = some x ∧ qs[j]? = some q ∧ heldAt S ps x = some q
  | [], [], qs, h => by simp [heldAll] at h; subst h; simp
  | [], _ :: _, qs, h => by simp [heldAll] at h
  | _ :: _, [], qs, h => by simp [heldAll] at h
  | ps :: r, x :: s, qs, h => by
    simp only [heldAll] at h
    split at h
    case h_2 => cases h
    rename_i q hq
    split at h
    case h_2 => cases h
    rename_i qs' hqs
    cases h
    obtain ⟨h1, h2, h3⟩ := heldAll_ok hqs
    refine ⟨by simp [h1], by simp [h2], fun j ps' hj => ?_⟩
    cases j with
    | zero => simp at hj; subst hj; exact ⟨x, q, rfl, rfl, hq⟩
    | succ j => simpa using h3 j ps' (by simpa using hj)
noncomputable def inB (q : Nat) : List Nat → Bool
  | [] => false
  | p :: r => bite (Nat.beq p q) true (inB q r)
noncomputable def nodB : List Nat → Bool
  | [] => true
  | q :: r => bite (inB q r) false (nodB r)
theorem inB_no {q : Nat} : ∀ {l : List Nat}, inB q l = false → q ∉ l
  | [], _ => by simp
  | p :: r, h => by
    simp only [inB, bite_eq] at h
    split at h
    · cases h
    · rename_i hp
      have : p ≠ q := fun e => hp (by rw [e]; exact Nat.beq_refl q)
      simp [inB_no h, Ne.symm this]
theorem nodB_ok : ∀ {l : List Nat}, nodB l = true → l.Nodup
  | [], _ => List.nodup_nil
  | q :: r, h => by
    simp only [nodB, bite_eq] at h
    split at h
    · cases h
    · rename_i hq
      exact List.nodup_cons.2 ⟨inB_no (by simpa using hq), nodB_ok h⟩
def objsO (l : List (List Int)) : List (Ob Sy) := l.map fun z => ints (nums z)
section
variable {ρ' : Nat → Int}
theorem rel_of {zs ts : List Sy} {os : List Nat} {sz : Nat → Nat} {n : Nat} {ρ : Nat → Int} (ht : ts.take zs.length = zs) : RNs ρ' ρ os sz n ((ints ts).take (ints (nums (zs.map (Sy.den ρ')))).length) (ints (nums (zs.map (Sy.den ρ')))) := by
  have e : (ints (nums (zs.map (Sy.den ρ')))).length = zs.length := by simp
  rw [e, show (ints ts).take zs.length = ints (ts.take zs.length) by simp [ints, List.map_take], ht]
  exact RNs.ints rfl
noncomputable def szO (S : Sto Sy) (q : Nat) : Nat := match Go.Sx.look S.obs q with
  | some b => b.length
  | none => 0
theorem szO_eq {S : Sto Sy} {q : Nat} {b : Ob Sy} (h : Go.Sx.look S.obs q = some b) : szO S q = b.length := by unfold szO; rw [h]
theorem held_rn {S : Sto Sy} {ps : List Sy} {x : V Sy} {q : Nat} (h : heldAt S ps x = some q) {os : List Nat} {n j : Nat} {ρ : Nat → Int} (hj : os[j]? = some q) {l : Nat} (hl : l = ps.length) : RN ρ' ρ os (szO S) n x (.rsl (n + j) 0 l none) := by
  subst hl
  obtain ⟨us, c1, rfl, o1, t1, l1, k1⟩ := heldAt_ok h
  cases c1 with
  | none => exact .rsl 0 _ none hj
  | some cp => exact .rsn hj (k1 _ rfl).1 (by rw [szO_eq o1]; simpa using (k1 _ rfl).2)
theorem held_obj {S : Sto Sy} {ps : List Sy} {x : V Sy} {q : Nat} (h : heldAt S ps x = some q) (os : List Nat) (n : Nat) (ρ : Nat → Int) : ∃ b, Go.Sx.look S.obs q = some b ∧ isMp b = false ∧ szO S q = b.length ∧ (ints (nums (ps.map (Sy.den ρ')))).length ≤ b.length ∧ RNs ρ' ρ os (szO S) n (b.take (ints (nums (ps.map (Sy.den ρ')))).length) (ints (nums (ps.map (Sy.den ρ')))) := by
  obtain ⟨us, c1, rfl, o1, t1, l1, k1⟩ := heldAt_ok h
  exact ⟨_, o1, isMp_ints _, szO_eq o1, by simpa using l1, rel_of t1⟩
end
def rowsR (l : List (List Int)) (n : Nat) : V Sy := .rsl n 0 l.length none
def rowsO (l : List (List Int)) (n : Nat) : List (Ob Sy) := rowsV (n + 1) l :: objsO l
noncomputable def capB (cap : Option Nat) (len n : Nat) : Bool := match cap with
  | some cp => bite (Nat.ble len cp) (Nat.ble cp n) false
  | none => true
noncomputable def rowsIs (l : List (List Sy)) (r : Option (V Sy × Sto Sy)) : Bool := match r with
  | some (.rsl q 0 len cap, S) => bite (Nat.beq len l.length) (match Go.Sx.look S.obs q with
    | some b => bite (isMp b) false (bite (Nat.ble len b.length) (bite (capB cap len b.length) (match heldAll S l (b.take len) with
      | some qs => nodB (q :: qs)
      | none => false) false) false)
    | none => false) false
  | _ => false
theorem tells_rows {k0 : FuncId} {pats pat : List (V Sy)} {ρ' : Nat → Int} {r : Option (V Sy × Sto Sy)} {l : List (List Sy)} (h : rowsIs l r = true) (hG : ∀ (R : V Sy) (S : Sto Sy), r = some (R, S) → ∀ (s : Sms) (B' : Nat), Go.Sx.Good Tryz.prog ⟨Sy.den ρ', s⟩ B' k0 pat ⟨0, [], 0⟩ R S)
    (hp : ∀ (s : Sms) (B : Nat) (c : Cx) (vs : List Value), VRs ⟨Sy.den ρ', s⟩ B c pats vs → VRs ⟨Sy.den ρ', s⟩ B c pat vs) : Tells Tryz.prog k0 pats (rowsR (l.map fun ps => ps.map (Sy.den ρ'))) (rowsO (l.map fun ps => ps.map (Sy.den ρ'))) := by
  unfold rowsIs at h
  split at h
  case h_2 => cases h
  rename_i q len cap S
  simp only [bite_eq] at h
  split at h
  case isFalse => cases h
  rename_i hlen
  have hlen := Nat.eq_of_beq_eq_true hlen
  subst hlen
  split at h
  case h_2 => cases h
  rename_i b hb
  split at h
  case isTrue => cases h
  rename_i hmp
  split at h
  case isFalse => cases h
  rename_i hle
  rw [Nat.ble_eq] at hle
  split at h
  case isFalse => cases h
  rename_i hcap
  split at h
  case h_2 => cases h
  rename_i qs hqs
  obtain ⟨hx1, hx2, hx3⟩ := heldAll_ok hqs
  refine ⟨ρ', pat, _, S, q :: qs, szO S, hG _ _ rfl, nodB_ok h, fun n ρ => ⟨by simp [rowsO, objsO, hx2], fun j o b' hj hb' => ?_, ?_⟩, hp⟩
  · cases j with
    | zero =>
      simp only [List.getElem?_cons_zero, Option.some.injEq, rowsO] at hj hb'
      subst hj hb'
      refine ⟨b, hb, by simpa using hmp, szO_eq hb, by rw [rowsV_len]; simpa using hle, ?_⟩
      rw [rowsV_len, List.length_map]
      refine ⟨by rw [rowsV_len, List.length_map, List.length_take]; exact Nat.min_eq_left hle, fun i x y hx hy => ?_⟩
      rw [rowsV_get, List.getElem?_map] at hy
      obtain ⟨z, hz, rfl⟩ := Option.map_eq_some_iff.1 hy
      obtain ⟨ps, hps, rfl⟩ := Option.map_eq_some_iff.1 hz
      obtain ⟨x', q', a1, a2, a3⟩ := hx3 i ps hps
      rw [hx] at a1
      cases a1
      have := held_rn (ρ' := ρ') (ρ := ρ) (n := n) a3 (os := q :: qs) (j := i + 1) (by simpa using a2) (l := (ps.map (Sy.den ρ')).length) (by simp)
      rwa [show n + (i + 1) = n + 1 + i by omega] at this
    | succ j =>
      simp only [List.getElem?_cons_succ, rowsO, objsO, List.getElem?_map] at hj hb'
      obtain ⟨z, hz, rfl⟩ := Option.map_eq_some_iff.1 hb'
      obtain ⟨ps, hps, rfl⟩ := Option.map_eq_some_iff.1 hz
      obtain ⟨x', q', a1, a2, a3⟩ := hx3 j ps hps
      rw [hj] at a2
      cases a2
      exact held_obj a3 _ _ _
  · show RN _ _ _ _ _ _ (.rsl n 0 (l.map _).length none)
    rw [List.length_map]
    cases cap with
    | none => exact .rsl (j := 0) 0 _ none rfl
    | some cp =>
      simp only [capB, bite_eq] at hcap
      split at hcap
      case isFalse => cases hcap
      rename_i h1
      rw [Nat.ble_eq] at h1 hcap
      exact .rsn (j := 0) rfl h1 (by rw [szO_eq hb]; simpa using hcap)
def unR (p : List Int × List Int) (n : Nat) : V Sy := .agg [.rsl n 0 p.1.length none, .rsl (n + 1) 0 p.2.length none]
def unO (p : List Int × List Int) (n : Nat) : List (Ob Sy) := objsO [p.1, p.2]
noncomputable def unIs (ps qs : List Sy) (r : Option (V Sy × Sto Sy)) : Bool := match r with
  | some (.agg [x, y], S) => match heldAt S ps x, heldAt S qs y with
    | some a, some b => bite (Nat.beq a b) false true
    | _, _ => false
  | _ => false
theorem tells_un {k0 : FuncId} {pats pat : List (V Sy)} {ρ' : Nat → Int} {r : Option (V Sy × Sto Sy)} {ps qs : List Sy} (h : unIs ps qs r = true) (hG : ∀ (R : V Sy) (S : Sto Sy), r = some (R, S) → ∀ (s : Sms) (B' : Nat), Go.Sx.Good Tryz.prog ⟨Sy.den ρ', s⟩ B' k0 pat ⟨0, [], 0⟩ R S)
    (hp : ∀ (s : Sms) (B : Nat) (c : Cx) (vs : List Value), VRs ⟨Sy.den ρ', s⟩ B c pats vs → VRs ⟨Sy.den ρ', s⟩ B c pat vs) : Tells Tryz.prog k0 pats (unR (ps.map (Sy.den ρ'), qs.map (Sy.den ρ'))) (unO (ps.map (Sy.den ρ'), qs.map (Sy.den ρ'))) := by
  unfold unIs at h
  split at h
  case h_2 => cases h
  rename_i x y S
  split at h
  case h_2 => cases h
  rename_i a b ha hb
  rw [bite_eq] at h
  split at h
  case isTrue => cases h
  rename_i hab
  have hne : a ≠ b := fun e => hab (by rw [e]; exact Nat.beq_refl b)
  refine ⟨ρ', pat, _, S, [a, b], szO S, hG _ _ rfl, by simp [hne], fun n ρ => ⟨rfl, fun j o b' hj hb' => ?_, ?_⟩, hp⟩
  · match j with
    | 0 =>
      simp only [List.getElem?_cons_zero, Option.some.injEq, unO, objsO, List.map_cons] at hj hb'
      subst hj hb'
      exact held_obj ha _ _ _
    | 1 =>
      simp only [List.getElem?_cons_succ, List.getElem?_cons_zero, Option.some.injEq, unO, objsO, List.map_cons] at hj hb'
      subst hj hb'
      exact held_obj hb _ _ _
    | j + 2 => simp at hj
  · exact RNs.agg (.cons (held_rn ha (j := 0) rfl (by simp)) (.cons (held_rn hb (j := 1) rfl (by simp)) .nil))
def lstR (z : List Int) (n : Nat) : V Sy := .rsl n 0 z.length none
def lstO (z : List Int) (n : Nat) : List (Ob Sy) := objsO [z]
noncomputable def lstIs (ps : List Sy) (r : Option (V Sy × Sto Sy)) : Bool := match r with
  | some (x, S) => match heldAt S ps x with
    | some a => true
    | none => false
  | _ => false
theorem tells_lst {k0 : FuncId} {pats pat : List (V Sy)} {ρ' : Nat → Int} {r : Option (V Sy × Sto Sy)} {ps : List Sy} (h : lstIs ps r = true) (hG : ∀ (R : V Sy) (S : Sto Sy), r = some (R, S) → ∀ (s : Sms) (B' : Nat), Go.Sx.Good Tryz.prog ⟨Sy.den ρ', s⟩ B' k0 pat ⟨0, [], 0⟩ R S)
    (hp : ∀ (s : Sms) (B : Nat) (c : Cx) (vs : List Value), VRs ⟨Sy.den ρ', s⟩ B c pats vs → VRs ⟨Sy.den ρ', s⟩ B c pat vs) : Tells Tryz.prog k0 pats (lstR (ps.map (Sy.den ρ'))) (lstO (ps.map (Sy.den ρ'))) := by
  unfold lstIs at h
  split at h
  case h_2 => cases h
  rename_i x S
  split at h
  case h_2 => cases h
  rename_i a ha
  refine ⟨ρ', pat, _, S, [a], szO S, hG _ _ rfl, by simp, fun n ρ => ⟨rfl, fun j o b' hj hb' => ?_, ?_⟩, hp⟩
  · match j with
    | 0 =>
      simp only [List.getElem?_cons_zero, Option.some.injEq, lstO, objsO, List.map_cons] at hj hb'
      subst hj hb'
      exact held_obj ha _ _ _
    | j + 1 => simp at hj
  · exact held_rn ha (j := 0) rfl (by simp)
noncomputable def booIs (q : Bool) (r : Option (V Sy × Sto Sy)) : Bool := match r with
  | some (.bool b, _) => bite b q (bite q false true)
  | _ => false
theorem tells_boo {k0 : FuncId} {pats pat : List (V Sy)} {ρ' : Nat → Int} {r : Option (V Sy × Sto Sy)} {q : Bool} (h : booIs q r = true) (hG : ∀ (R : V Sy) (S : Sto Sy), r = some (R, S) → ∀ (s : Sms) (B' : Nat), Go.Sx.Good Tryz.prog ⟨Sy.den ρ', s⟩ B' k0 pat ⟨0, [], 0⟩ R S)
    (hp : ∀ (s : Sms) (B : Nat) (c : Cx) (vs : List Value), VRs ⟨Sy.den ρ', s⟩ B c pats vs → VRs ⟨Sy.den ρ', s⟩ B c pat vs) : Tells Tryz.prog k0 pats (fun _ => .bool q) (fun _ => []) := by
  unfold booIs at h
  split at h
  case h_2 => cases h
  rename_i b S
  have hb : b = q := by cases b <;> cases q <;> first | rfl | cases h
  subst hb
  exact ⟨ρ', pat, _, S, [], fun _ => 0, hG _ _ rfl, List.nodup_nil, fun n ρ => ⟨rfl, fun j o b hj => by simp at hj, .bool _⟩, hp⟩

noncomputable def telK {α : Type} (k0 : FuncId) (D : List (V Sy) → Sto Sy → Option α) (R : α → Nat → V Sy) (O : α → Nat → List (Ob Sy)) : Ctr := fun k args sto =>
  bite (Nat.beq k k0) (match D args sto with
  | some a => some (R a sto.next, ⟨sto.next + (O a sto.next).length, numO sto.next (O a sto.next) sto.obs, sto.low⟩)
  | none => none) none
theorem telK_ok {α : Type} {k0 : FuncId} {D : List (V Sy) → Sto Sy → Option α} {R : α → Nat → V Sy} {O : α → Nat → List (Ob Sy)} (hb : ∃ fn, Tryz.prog.funcs[k0]? = some fn ∧ fn.body.isSome = true)
    (hT : ∀ args sto a, D args sto = some a → ∃ pats, Tells Tryz.prog k0 pats (R a) (O a) ∧ ∀ (ρ : Nat → Int) (s : Sms) (B : Nat) (c : Cx), SInv ⟨Sy.den ρ, s⟩ B c sto → ∀ vs, VRs ⟨Sy.den ρ, s⟩ B c args vs → ∀ ρ', VRs ⟨Sy.den ρ', s⟩ c.w.heap.size ⟨c.w, fun _ => none⟩ pats vs) {ρ : Nat → Int} {s : Sms} {B : Nat} : COk Tryz.prog ⟨Sy.den ρ, s⟩ B (telK k0 D R O) := by
  intro k args sto r sto' h
  unfold telK at h
  rw [bite_eq] at h
  split at h
  case isFalse => cases h
  rename_i hk
  have hk := Nat.eq_of_beq_eq_true hk
  subst hk
  split at h
  case h_2 => cases h
  rename_i a ha
  cases h
  obtain ⟨pats, h1, h2⟩ := hT args sto a ha
  exact ⟨h1.good (fun c hinv vs hv ρ' => h2 ρ s B c hinv vs hv ρ'), hb⟩
theorem vr_agg2 {Δ : Den Sy} {B : Nat} {c : Cx} {x y : V Sy} {v : Value} (h : VR Δ B c (.agg [x, y]) v) : ∃ u w, v = .agg #[u, w] ∧ VR Δ B c x u ∧ VR Δ B c y w := by
  cases h with
  | agg h1 h2 =>
    rename_i vs
    obtain ⟨l⟩ := vs
    match l, h1 with
    | [u, w], _ => exact ⟨u, w, rfl, h2 0 x u rfl rfl, h2 1 y w rfl rfl⟩
end Go.Proofs.YtgaodlhdilhliaaGreatDoor.Tel

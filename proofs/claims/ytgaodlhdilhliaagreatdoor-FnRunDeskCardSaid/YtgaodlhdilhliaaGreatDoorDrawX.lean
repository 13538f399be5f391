/-
  Regions of open order with calls that read bytes, by hand. No condition.
-/
import Derived.Test.YtgaodlhdilhliaaGreatDoorRows
import Derived.Test.YtgaodlhdilhliaaGreatDoorSym
import Derived.Test.YtgaodlhdilhliaaGreatDoorIds
import Derived.Test.YtgaodlhdilhliaaGreatDoorDraw
import Derived.Test.YtgaodlhdilhliaaGreatDoorDrawC
import Derived.WalkKit
import Derived.ProofKit
import Derived.OpenShut
namespace Go.Proofs.YtgaodlhdilhliaaGreatDoor.Draw
open Go.ChangeShapes Go.WideShapes Go.ChangeAt Go.RowKit Go.Sx Go.Proofs.YtgaodlhdilhliaaGreatDoor.Ids
set_option linter.unusedVariables false
set_option linter.unusedSimpArgs false

theorem descB_of {I : Type} : ∀ {n : Nat} {l : List (Nat × Ob I)}, Desc n l → descB n l = true
  | _, [], _ => rfl
  | n, (o, b) :: r, ⟨h1, h2⟩ => by
    simp only [descB, Bool.and_eq_true]
    exact ⟨by rw [Nat.blt_eq]; exact h1, descB_of h2⟩
theorem takeNew_desc {I : Type} {n : Nat} : ∀ {m : Nat} {l : List (Nat × Ob I)}, Desc m l → Desc m (takeNew n l)
  | _, [], _ => trivial
  | m, (o, b) :: r, ⟨h1, h2⟩ => by
    simp only [takeNew, bite_eq]
    split
    · exact ⟨h1, takeNew_desc h2⟩
    · trivial
theorem desc_append {I : Type} {n : Nat} : ∀ {m : Nat} {l r : List (Nat × Ob I)}, Desc m l → (∀ q, q ∈ l → n ≤ q.1) → n ≤ m → Desc n r → Desc m (l ++ r)
  | m, [], r, _, _, hm, hr => by
    cases r with
    | nil => trivial
    | cons p r => obtain ⟨o, b⟩ := p; exact ⟨Nat.lt_of_lt_of_le hr.1 hm, hr.2⟩
  | m, (o, b) :: l, r, ⟨h1, h2⟩, hk, hm, hr => ⟨h1, desc_append h2 (fun q hq => hk q (by simp [hq])) (hk (o, b) (by simp)) hr⟩
theorem obsIn_of {I : Type} {ok : Nat → Bool} {R : List Nat} : ∀ {n : Nat} {l : List (Nat × Ob I)}, Desc n l → (∀ k, R.contains k = true → ∀ b, Go.Sx.look l k = some b → inNs ok b = true) → obsIn ok (onlyObs R l) = true
  | _, [], _, _ => rfl
  | n, (o, b) :: r, ⟨h1, h2⟩, h => by
    have ht : ∀ k, R.contains k = true → ∀ b', Go.Sx.look r k = some b' → inNs ok b' = true := fun k hk b' hb' => h k hk b' (by
      have := h2.look_lt hb'
      rw [look_cons, if_neg (by omega)]; exact hb')
    simp only [onlyObs]
    split
    · rename_i hc
      simp only [obsIn, Bool.and_eq_true]
      exact ⟨h o hc b (by rw [look_cons, if_pos rfl]), obsIn_of h2 ht⟩
    · exact obsIn_of h2 ht

section
variable {I : Type} {N : Num I} {T : TypeId → Option Ti} {C : FuncId → List (V I) → Sto I → Option (V I × Sto I)} {nt : Nat}
/-- An operation of a head that writes nothing. -/
theorem xpure {ops : List Oper} {F : List (List Nat)} {i nx lo : Nat} {o : Oper} {r : List Oper} {tm : Tr (V I)} {obs : List (Nat × Ob I)} {rs : List Rec} {v : V I} (R Nn : List Nat) (hsh : shown tm obs ops o = (R, Nn))
    (hfit : fitX ops (F.getD i []) nx o tm obs R Nn rs = true) (hw : wants ops (seenX nt ops nx o tm obs R) o = some true) (ha : aop N T C (seenX nt ops nx o tm obs R) o = some (v, ⟨nx, onlyObs R obs, nx⟩)) (hd : Desc nx obs) (hlo : lo ≤ nx)
    (hn : ∀ q, q ∈ Nn → q < nx) (hap : apart (F.getD i []) R [] rs = true) :
    xhead N T C nt ops F i nx lo (o :: r) tm obs rs = xhead N T C nt ops F (i + 1) nx lo r (setTm nt tm o.dst v) obs ((i, R, [], nx, nx) :: rs) := by
  have e1 : takeNew nx (onlyObs R obs) = [] := takeNew_id (onlyObs_desc hd)
  have e2 : wroteOf Nn nx = [] := List.filter_eq_nil_iff.2 (fun q hq => by have := hn q hq; rw [Nat.ble_eq]; omega)
  have e3 : (Nat.ble nx nx && descB nx ([] : List (Nat × Ob I)) && ([] : List Nat).all (fun q => (Go.Sx.look (onlyObs R obs) q).isSome) && apart (F.getD i []) R [] rs) = true := by
    rw [hap]; simp [descB]
  have e4 : (if Nat.blt nx lo then nx else lo) = lo := by rw [if_neg (by rw [Nat.blt_eq]; omega)]
  simp only [xhead, hsh, hfit, hw, ha, e1, e2, bite_true, e3, e4, over_nil, List.nil_append]

/-- The last operation of a head, one that goes on reading bytes and makes new objects. -/
theorem xcall {ops : List Oper} {F : List (List Nat)} {i nx lo p : Nat} {o : Oper} {tm : Tr (V I)} {obs : List (Nat × Ob I)} {rs : List Rec} {v : V I} {s : Sto I} (hsh : shown tm obs ops o = ([p], [p]))
    (hfit : fitX ops (F.getD i []) nx o tm obs [p] [p] rs = true) (hw : wants ops (seenX nt ops nx o tm obs [p]) o = some true) (ha : aop N T C (seenX nt ops nx o tm obs [p]) o = some (v, s)) (hd : Desc nx obs) (hds : Desc s.next s.obs)
    (hnx : nx ≤ s.next) (hlow : s.low ≤ p) (hpo : (Go.Sx.look obs p).isSome = true) (hap : apart (F.getD i []) [p] [p] rs = true) :
    xhead N T C nt ops F i nx lo [o] tm obs rs = some (setTm nt tm o.dst v, ⟨s.next, takeNew nx s.obs ++ over [p] s.obs obs, if Nat.blt s.low lo then s.low else lo⟩) := by
  have e2 : wroteOf [p] s.low = [p] := by
    have : Nat.ble s.low p = true := by rw [Nat.ble_eq]; exact hlow
    simp [wroteOf, List.filter, this]
  have e3 : (Nat.ble nx s.next && descB s.next (takeNew nx s.obs) && [p].all (fun q => (Go.Sx.look (onlyObs [p] obs) q).isSome) && apart (F.getD i []) [p] [p] rs) = true := by
    have h5 : Nat.ble nx s.next = true := by rw [Nat.ble_eq]; exact hnx
    rw [hap, descB_of (takeNew_desc hds), h5]
    simp [onlyObs_look, hpo]
  simp only [xhead, hsh, hfit, hw, ha, e2, bite_true, e3]

variable {L : Code → St I → Option (AExit × St I)} {Qn : St I → Prop} {Qx : AExit → St I → Prop}
/-- A region of open order, the second way. -/
theorem drawX {id : Nat} {ops : Array Oper} {st st' : St I} {tm2 : Tr (V I)} {s2 : Sto I} (p : Nat) (h0 : (okDraw2 ops.toList).map (·.2) = some p) (hm : mixes ops.toList = true) (h1 : dstsOk2 nt (ops.toList.take p) = true)
    (hn : ∀ F, dhead N T C nt ops.toList F st.sto 0 st.sto.next (ops.toList.take p) st.tm [] = none) (h2 : ∀ F, xhead N T C nt ops.toList F 0 st.sto.next st.sto.low (ops.toList.take p) st.tm st.sto.obs [] = some (tm2, s2))
    (h3 : aops N T C nt ops.toList (ops.toList.drop p) ⟨tm2, s2⟩ = some st') (h : Qn st') : Wp N T C nt (adraw N T C nt) L (.region id ops true) st Qn Qx := by
  have hp : lead ops.toList (befs ops.toList []) = p := by
    cases he : okDraw2 ops.toList with
    | none => rw [he] at h0; cases h0
    | some Fp =>
      rw [he] at h0
      simp only [okDraw2] at he
      split at he
      · cases he; cases h0; rfl
      · cases he
  have ha0 : adraw0 N T C nt ops.toList st = none := by
    simp only [adraw0]
    cases he : okDraw ops.toList with
    | none => rfl
    | some Fp =>
      simp only [okDraw] at he
      split at he
      · cases he
        simp only [hp, hn, bite_eq]
        split <;> rfl
      · cases he
  refine Wp.drawn ?_ h
  simp only [adraw, ha0, hm, bite_true, xdraw]
  cases he : okDraw2 ops.toList with
  | none => rw [he] at h0; cases h0
  | some Fp =>
    obtain ⟨F, q⟩ := Fp
    rw [he] at h0
    cases h0
    simp only [h1, bite_true, h2, h3]
end

theorem joined {bs : List Int} {o : Nat} {P Q : Int} {S s : Sto Sy} (h : Rdy bs o P S) (hn : Nw bs o Q [] ⟨S.next, onlyObs [o] S.obs, S.next⟩ s) :
    Nw bs o Q [] S ⟨s.next, takeNew S.next s.obs ++ over [o] s.obs S.obs, if Nat.blt s.low S.low then s.low else S.low⟩ ∧ ∀ k x, S.next ≤ k → Go.Sx.look s.obs k = some x → Go.Sx.look (takeNew S.next s.obs ++ over [o] s.obs S.obs) k = some x := by
  have hd := h.desc
  have hlt := h.lt
  obtain ⟨p, p1, p2⟩ := hn.rd
  have hs := p2.desc
  have hold : ∀ k, k < S.next → Go.Sx.look (takeNew S.next s.obs) k = none := by
    intro k hk
    cases e : Go.Sx.look (takeNew S.next s.obs) k with
    | none => rfl
    | some x =>
      exfalso
      obtain ⟨q, hq, hqk⟩ : ∃ q, q ∈ takeNew S.next s.obs ∧ q.1 = k := by
        generalize takeNew S.next s.obs = l at e
        induction l with
        | nil => cases e
        | cons a r ih =>
          obtain ⟨k', b⟩ := a
          rw [look_cons] at e
          by_cases hk' : k' = k
          · exact ⟨(k', b), by simp, hk'⟩
          · rw [if_neg (by first | exact hk' | exact fun h => hk' h.symm)] at e
            obtain ⟨q, h1, h2⟩ := ih e
            exact ⟨q, by simp [h1], h2⟩
      have := takeNew_key hq
      omega
  have hobj : Go.Sx.look (takeNew S.next s.obs ++ over [o] s.obs S.obs) o = Go.Sx.look s.obs o := by
    rw [look_append, hold o hlt]
    simp only
    rw [over_look, if_pos (by simp)]
    obtain ⟨p', _, h3⟩ := h
    rw [h3.obj]; rfl
  refine ⟨⟨⟨p, p1, by rw [show (Sto.obs ⟨s.next, takeNew S.next s.obs ++ over [o] s.obs S.obs, if Nat.blt s.low S.low then s.low else S.low⟩ : List (Nat × Ob Sy)) = takeNew S.next s.obs ++ over [o] s.obs S.obs from rfl, hobj]; exact p2.obj,
    desc_append (takeNew_desc hs) (fun q hq => takeNew_key hq) hn.next (over_desc hd), p2.p0⟩, hn.next, ?_, fun k x hk _ hl => ?_⟩, fun k x hk hl => ?_⟩
  · have := hn.low
    show (if Nat.blt s.low S.low then s.low else S.low) ≤ o
    by_cases h1 : s.low < S.low
    · rw [if_pos (by rw [Nat.blt_eq]; exact h1)]; exact this
    · rw [if_neg (by rw [Nat.blt_eq]; exact h1)]; omega
  · show Go.Sx.look (takeNew S.next s.obs ++ over [o] s.obs S.obs) k = some x
    rw [look_append, hold k (hd.look_lt hl)]
    simp only
    rw [over_look, if_neg (by simp; exact hk)]
    exact hl
  · rw [look_append, look_takeNew hk hs, hl]

theorem rdyOnly {bs : List Int} {o : Nat} {P : Int} {S : Sto Sy} (h : Rdy bs o P S) : Rdy bs o P ⟨S.next, onlyObs [o] S.obs, S.next⟩ := by
  obtain ⟨p, p1, p2⟩ := h
  exact ⟨p, p1, by show Go.Sx.look (onlyObs [o] S.obs) o = _; rw [onlyObs_look, if_pos (by simp)]; exact p2.obj, onlyObs_desc p2.desc, p2.p0⟩
theorem onlyObs_nil {I : Type} : ∀ l : List (Nat × Ob I), onlyObs [] l = []
  | [] => rfl
  | (o, b) :: r => by simp [onlyObs, onlyObs_nil r]
theorem inNs_u8s {ok : Nat → Bool} (bs : List Int) : inNs ok (u8s bs) = true := by
  induction bs with
  | nil => rfl
  | cons b r ih => simpa [u8s, inNs, V.inN] using ih
theorem inNs_nums {ok : Nat → Bool} (zs : List Int) : inNs ok (ints (nums zs)) = true := by
  induction zs with
  | nil => rfl
  | cons b r ih => simpa [ints, nums, inNs, V.inN] using ih
theorem refs_nums (zs : List Int) : refsL (ints (nums zs)) = [] := by
  induction zs with
  | nil => rfl
  | cons b r ih => simpa [ints, nums, refsL, V.refs] using ih

/-! ## Any operation of a head -/
section
variable {I : Type} {N : Num I} {T : TypeId → Option Ti} {C : FuncId → List (V I) → Sto I → Option (V I × Sto I)} {nt : Nat}
theorem xgen {ops : List Oper} {F : List (List Nat)} {i nx lo : Nat} {o : Oper} {r : List Oper} {tm : Tr (V I)} {obs : List (Nat × Ob I)} {rs : List Rec} {v : V I} {s : Sto I} (R Nn W : List Nat) (hsh : shown tm obs ops o = (R, Nn))
    (hfit : fitX ops (F.getD i []) nx o tm obs R Nn rs = true) (hw : wants ops (seenX nt ops nx o tm obs R) o = some true) (ha : aop N T C (seenX nt ops nx o tm obs R) o = some (v, s)) (hW : wroteOf Nn s.low = W) (hnx : nx ≤ s.next) (hds : Desc s.next s.obs)
    (hin : W.all (fun q => (Go.Sx.look (onlyObs R obs) q).isSome) = true) (hap : apart (F.getD i []) R W rs = true) :
    xhead N T C nt ops F i nx lo (o :: r) tm obs rs = xhead N T C nt ops F (i + 1) s.next (if Nat.blt s.low lo then s.low else lo) r (setTm nt tm o.dst v) (takeNew nx s.obs ++ over W s.obs obs) ((i, R, W, nx, s.next) :: rs) := by
  have e3 : (Nat.ble nx s.next && descB s.next (takeNew nx s.obs) && W.all (fun q => (Go.Sx.look (onlyObs R obs) q).isSome) && apart (F.getD i []) R W rs) = true := by
    have h5 : Nat.ble nx s.next = true := by rw [Nat.ble_eq]; exact hnx
    rw [hap, descB_of (takeNew_desc hds), h5, hin]; rfl
  simp only [xhead, hsh, hfit, hw, ha, hW, bite_true, e3]
variable {L : Code → St I → Option (AExit × St I)} {Qn : St I → Prop} {Qx : AExit → St I → Prop}
noncomputable def okJ2 (ops : List Oper) (p i j k : Nat) : Bool := match okDraw2 ops with
  | some (F, q) => bite (Nat.beq q p) (bite ((F.getD i []).contains j) ((F.getD i []).contains k) false) false
  | none => false
/-- A region of open order, the second way; one operation of the head is behind two others. -/
theorem drawX7 {id : Nat} {ops : Array Oper} {st st' : St I} {tm2 : Tr (V I)} {s2 : Sto I} (p i j k : Nat) (h0 : okJ2 ops.toList p i j k = true) (hm : mixes ops.toList = true) (h1 : dstsOk2 nt (ops.toList.take p) = true)
    (hn : ∀ F : List (List Nat), (F.getD i []).contains j = true → (F.getD i []).contains k = true → dhead N T C nt ops.toList F st.sto 0 st.sto.next (ops.toList.take p) st.tm [] = none) (h2 : ∀ F : List (List Nat), (F.getD i []).contains j = true → (F.getD i []).contains k = true → xhead N T C nt ops.toList F 0 st.sto.next st.sto.low (ops.toList.take p) st.tm st.sto.obs [] = some (tm2, s2))
    (h3 : aops N T C nt ops.toList (ops.toList.drop p) ⟨tm2, s2⟩ = some st') (h : Qn st') : Wp N T C nt (adraw N T C nt) L (.region id ops true) st Qn Qx := by
  unfold okJ2 at h0
  split at h0
  case h_2 => cases h0
  rename_i F q he
  simp only [bite_eq] at h0
  split at h0
  case isFalse => cases h0
  rename_i hq
  split at h0
  case isFalse => cases h0
  rename_i hj
  have hq := Nat.eq_of_beq_eq_true hq
  subst hq
  have hp : lead ops.toList (befs ops.toList []) = q ∧ befs ops.toList [] = F := by
    have he' := he
    simp only [okDraw2] at he'
    split at he'
    · cases he'; exact ⟨rfl, rfl⟩
    · cases he'
  have ha0 : adraw0 N T C nt ops.toList st = none := by
    simp only [adraw0]
    cases he' : okDraw ops.toList with
    | none => rfl
    | some Fp =>
      simp only [okDraw] at he'
      split at he'
      · cases he'
        have hp2 : lead ops.toList F = q := by rw [← hp.2]; exact hp.1
        simp only [hp.2, hp2, hn F hj h0, bite_eq]
        split <;> rfl
      · cases he'
  refine Wp.drawn ?_ h
  simp only [adraw, ha0, hm, bite_true, xdraw, he, h1, h2 F hj h0, h3]
end
theorem takeNew_none {n k : Nat} {l : List (Nat × Ob Sy)} (hk : k < n) : Go.Sx.look (takeNew n l) k = none := by
  cases e : Go.Sx.look (takeNew n l) k with
  | none => rfl
  | some x =>
    exfalso
    obtain ⟨q, hq, hqk⟩ : ∃ q, q ∈ takeNew n l ∧ q.1 = k := by
      generalize takeNew n l = l at e
      induction l with
      | nil => cases e
      | cons a r ih =>
        obtain ⟨k', b⟩ := a
        rw [look_cons] at e
        by_cases hk' : k' = k
        · exact ⟨(k', b), by simp, hk'⟩
        · rw [if_neg (by first | exact hk' | exact fun h => hk' h.symm)] at e
          obtain ⟨q, h1, h2⟩ := ih e
          exact ⟨q, by simp [h1], h2⟩
    have := takeNew_key hq
    omega
/-- Behind a call that was shown the reader and a list beside it. -/
theorem joined2 {bs : List Int} {o l : Nat} {P Q : Int} {S s : Sto Sy} {cs : Ob Sy} (h : Rdy bs o P S) (hl : Go.Sx.look S.obs l = some cs) (hlo : l ≠ o) (hn : Nw bs o Q [] ⟨S.next, onlyObs [o, l] S.obs, S.next⟩ s) (lo : Nat) (hlow : lo ≤ o) :
    Nw bs o Q [] S ⟨s.next, takeNew S.next s.obs ++ over [o, l] s.obs S.obs, if Nat.blt s.low lo then s.low else lo⟩ := by
  have hd := h.desc
  have hlt := h.lt
  obtain ⟨p', p1', p2⟩ := hn.rd
  have hs := p2.desc
  have hll := hd.look_lt hl
  have hkl : Go.Sx.look s.obs l = some cs := hn.keep l _ hlo (by simp) (by show Go.Sx.look (onlyObs [o, l] S.obs) l = _; rw [onlyObs_look, if_pos (by simp)]; exact hl)
  have hobj : Go.Sx.look (takeNew S.next s.obs ++ over [o, l] s.obs S.obs) o = Go.Sx.look s.obs o := by
    rw [look_append, takeNew_none hlt]
    simp only
    rw [over_look, if_pos (by simp)]
    obtain ⟨p', _, h3⟩ := h
    rw [h3.obj]; rfl
  refine ⟨⟨p', p1', by rw [show (Sto.obs ⟨s.next, takeNew S.next s.obs ++ over [o, l] s.obs S.obs, if Nat.blt s.low lo then s.low else lo⟩ : List (Nat × Ob Sy)) = takeNew S.next s.obs ++ over [o, l] s.obs S.obs from rfl, hobj]; exact p2.obj,
    desc_append (takeNew_desc hs) (fun q hq => takeNew_key hq) hn.next (over_desc hd), p2.p0⟩, hn.next, ?_, fun k x hk _ hx => ?_⟩
  · have := hn.low
    show (if Nat.blt s.low lo then s.low else lo) ≤ o
    split <;> omega
  · show Go.Sx.look (takeNew S.next s.obs ++ over [o, l] s.obs S.obs) k = some x
    rw [look_append, takeNew_none (hd.look_lt hx)]
    simp only
    rw [over_look]
    by_cases hkl' : k = l
    · subst hkl'
      rw [if_pos (by simp), hl, if_pos (show (some cs).isSome = true from rfl), hkl, ← hl, hx]
    · rw [if_neg (by simp; exact ⟨hk, hkl'⟩)]; exact hx
end Go.Proofs.YtgaodlhdilhliaaGreatDoor.Draw

/-
  Laws over lists that are drawn and known; regions of open order by hand.
-/
import Derived.Test.YtpjenggjcpahaaaSym
import Derived.ProofKit
import Derived.OpenShut
import Derived.Lib.SmallJoins
set_option linter.unusedVariables false
set_option linter.unusedSimpArgs false
/-
  Regions of open order in which memory is read beside a call that reads bytes, by hand.
-/
namespace Go.Sx
open Go.RowKit

theorem descB_of {I : Type} : ∀ {n : Nat} {l : List (Nat × Ob I)}, Desc n l → descB n l = true
  | _, [], _ => rfl
  | n, (o, b) :: r, ⟨h1, h2⟩ => by
    simp only [descB, Bool.and_eq_true]
    exact ⟨by rw [Nat.blt_eq]; exact h1, descB_of h2⟩
theorem takeNew_descL {I : Type} {n : Nat} : ∀ {m : Nat} {l : List (Nat × Ob I)}, Desc m l → Desc m (takeNew n l)
  | _, [], _ => trivial
  | m, (o, b) :: r, ⟨h1, h2⟩ => by
    simp only [takeNew, bite_eq]
    split
    · exact ⟨h1, takeNew_descL h2⟩
    · trivial
theorem desc_append {I : Type} {n : Nat} : ∀ {m : Nat} {l r : List (Nat × Ob I)}, Desc m l → (∀ q, q ∈ l → n ≤ q.1) → n ≤ m → Desc n r → Desc m (l ++ r)
  | m, [], r, _, _, hm, hr => by
    cases r with
    | nil => trivial
    | cons p r => obtain ⟨o, b⟩ := p; exact ⟨Nat.lt_of_lt_of_le hr.1 hm, hr.2⟩
  | m, (o, b) :: l, r, ⟨h1, h2⟩, hk, hm, hr => ⟨h1, desc_append h2 (fun q hq => hk q (by simp [hq])) (hk (o, b) (by simp)) hr⟩
theorem obsIn_of {I : Type} {ok : Nat → Bool} {R : List Nat} : ∀ {n : Nat} {l : List (Nat × Ob I)}, Desc n l → (∀ k, R.contains k = true → ∀ b, look l k = some b → inNs ok b = true) → obsIn ok (onlyObs R l) = true
  | _, [], _, _ => rfl
  | n, (o, b) :: r, ⟨h1, h2⟩, h => by
    have ht : ∀ k, R.contains k = true → ∀ b', look r k = some b' → inNs ok b' = true := fun k hk b' hb' => h k hk b' (by
      have := h2.look_lt hb'
      rw [look_cons, if_neg (by omega)]; exact hb')
    simp only [onlyObs]
    split
    · rename_i hc
      simp only [obsIn, Bool.and_eq_true]
      exact ⟨h o hc b (by rw [look_cons, if_pos rfl]), obsIn_of h2 ht⟩
    · exact obsIn_of h2 ht

section
variable {I : Type} {N : Num I} {T : TypeId → Option Ti} {C : FuncId → List (V I) → Sto I → Option (V I × Sto I)} {nt : Nat}
/-- An operation of a head that writes nothing. -/
theorem xpureL {ops : List Oper} {F : List (List Nat)} {i nx lo : Nat} {o : Oper} {r : List Oper} {tm : Tr (V I)} {obs : List (Nat × Ob I)} {rs : List Rec} {v : V I} (R Nn : List Nat) (hsh : shown tm obs ops o = (R, Nn))
    (hfit : fitX ops (F.getD i []) nx o tm obs R Nn rs = true) (hw : wants ops (seenX nt ops nx o tm obs R) o = some true) (ha : aop N T C (seenX nt ops nx o tm obs R) o = some (v, ⟨nx, onlyObs R obs, nx⟩)) (hd : Desc nx obs) (hlo : lo ≤ nx)
    (hn : ∀ q, q ∈ Nn → q < nx) (hap : apart (F.getD i []) R [] rs = true) :
    xhead N T C nt ops F i nx lo (o :: r) tm obs rs = xhead N T C nt ops F (i + 1) nx lo r (setTm nt tm o.dst v) obs ((i, R, [], nx, nx) :: rs) := by
  have e1 : takeNew nx (onlyObs R obs) = [] := takeNew_id (onlyObs_desc hd)
  have e2 : wroteOf Nn nx = [] := List.filter_eq_nil_iff.2 (fun q hq => by have := hn q hq; rw [Nat.ble_eq]; omega)
  have e3 : (Nat.ble nx nx && descB nx ([] : List (Nat × Ob I)) && ([] : List Nat).all (fun q => (look (onlyObs R obs) q).isSome) && apart (F.getD i []) R [] rs) = true := by
    rw [hap]; simp [descB]
  have e4 : (if Nat.blt nx lo then nx else lo) = lo := by rw [if_neg (by rw [Nat.blt_eq]; omega)]
  simp only [xhead, hsh, hfit, hw, ha, e1, e2, bite_true, e3, e4, over_nil, List.nil_append]

/-- The last operation of a head, one that goes on reading bytes and makes new objects. -/
theorem xcallL {ops : List Oper} {F : List (List Nat)} {i nx lo p : Nat} {o : Oper} {tm : Tr (V I)} {obs : List (Nat × Ob I)} {rs : List Rec} {v : V I} {s : Sto I} (hsh : shown tm obs ops o = ([p], [p]))
    (hfit : fitX ops (F.getD i []) nx o tm obs [p] [p] rs = true) (hw : wants ops (seenX nt ops nx o tm obs [p]) o = some true) (ha : aop N T C (seenX nt ops nx o tm obs [p]) o = some (v, s)) (hd : Desc nx obs) (hds : Desc s.next s.obs)
    (hnx : nx ≤ s.next) (hlow : s.low ≤ p) (hpo : (look obs p).isSome = true) (hap : apart (F.getD i []) [p] [p] rs = true) :
    xhead N T C nt ops F i nx lo [o] tm obs rs = some (setTm nt tm o.dst v, ⟨s.next, takeNew nx s.obs ++ over [p] s.obs obs, if Nat.blt s.low lo then s.low else lo⟩) := by
  have e2 : wroteOf [p] s.low = [p] := by
    have : Nat.ble s.low p = true := by rw [Nat.ble_eq]; exact hlow
    simp [wroteOf, List.filter, this]
  have e3 : (Nat.ble nx s.next && descB s.next (takeNew nx s.obs) && [p].all (fun q => (look (onlyObs [p] obs) q).isSome) && apart (F.getD i []) [p] [p] rs) = true := by
    have h5 : Nat.ble nx s.next = true := by rw [Nat.ble_eq]; exact hnx
    rw [hap, descB_of (takeNew_descL hds), h5]
    simp [onlyObs_look, hpo]
  simp only [xhead, hsh, hfit, hw, ha, e2, bite_true, e3]

/-- A call that goes on reading bytes, with more behind it. -/
theorem xmidL {ops : List Oper} {F : List (List Nat)} {i nx lo p : Nat} {o : Oper} {r : List Oper} {tm : Tr (V I)} {obs : List (Nat × Ob I)} {rs : List Rec} {v : V I} {s : Sto I} (hsh : shown tm obs ops o = ([p], [p]))
    (hfit : fitX ops (F.getD i []) nx o tm obs [p] [p] rs = true) (hw : wants ops (seenX nt ops nx o tm obs [p]) o = some true) (ha : aop N T C (seenX nt ops nx o tm obs [p]) o = some (v, s)) (hd : Desc nx obs) (hds : Desc s.next s.obs)
    (hnx : nx ≤ s.next) (hlow : s.low ≤ p) (hpo : (look obs p).isSome = true) (hap : apart (F.getD i []) [p] [p] rs = true) :
    xhead N T C nt ops F i nx lo (o :: r) tm obs rs = xhead N T C nt ops F (i + 1) s.next (if Nat.blt s.low lo then s.low else lo) r (setTm nt tm o.dst v) (takeNew nx s.obs ++ over [p] s.obs obs) ((i, [p], [p], nx, s.next) :: rs) := by
  have e2 : wroteOf [p] s.low = [p] := by
    have : Nat.ble s.low p = true := by rw [Nat.ble_eq]; exact hlow
    simp [wroteOf, List.filter, this]
  have e3 : (Nat.ble nx s.next && descB s.next (takeNew nx s.obs) && [p].all (fun q => (look (onlyObs [p] obs) q).isSome) && apart (F.getD i []) [p] [p] rs) = true := by
    have h5 : Nat.ble nx s.next = true := by rw [Nat.ble_eq]; exact hnx
    rw [hap, descB_of (takeNew_descL hds), h5]
    simp [onlyObs_look, hpo]
  simp only [xhead, hsh, hfit, hw, ha, e2, bite_true, e3]
/-- One that makes a new object and looks at none. -/
theorem xnewL {ops : List Oper} {F : List (List Nat)} {i nx lo : Nat} {o : Oper} {r : List Oper} {tm : Tr (V I)} {obs : List (Nat × Ob I)} {rs : List Rec} {v : V I} {b : Ob I} (hsh : shown tm obs ops o = ([], []))
    (hfit : fitX ops (F.getD i []) nx o tm obs [] [] rs = true) (hw : wants ops (seenX nt ops nx o tm obs []) o = some true) (ha : aop N T C (seenX nt ops nx o tm obs []) o = some (v, ⟨nx + 1, [(nx, b)], nx⟩)) (hlo : lo ≤ nx)
    (hap : apart (F.getD i []) [] [] rs = true) :
    xhead N T C nt ops F i nx lo (o :: r) tm obs rs = xhead N T C nt ops F (i + 1) (nx + 1) lo r (setTm nt tm o.dst v) ((nx, b) :: obs) ((i, [], [], nx, nx + 1) :: rs) := by
  have e1 : takeNew nx [(nx, b)] = [(nx, b)] := by simp [takeNew, bite_eq, Nat.ble_eq]
  have e2 : wroteOf [] nx = [] := rfl
  have e3 : (Nat.ble nx (nx + 1) && descB (nx + 1) [(nx, b)] && ([] : List Nat).all (fun q => (look (onlyObs [] obs) q).isSome) && apart (F.getD i []) [] [] rs) = true := by
    have h5 : Nat.ble nx (nx + 1) = true := by rw [Nat.ble_eq]; omega
    have h6 : Nat.blt nx (nx + 1) = true := by rw [Nat.blt_eq]; omega
    rw [hap, h5]; simp [descB, h6]
  have e4 : (if Nat.blt nx lo then nx else lo) = lo := by rw [if_neg (by rw [Nat.blt_eq]; omega)]
  simp only [xhead, hsh, hfit, hw, ha, e1, e2, bite_true, e3, e4, over_nil, List.cons_append, List.nil_append]

variable {L : Code → St I → Option (AExit × St I)} {Qn : St I → Prop} {Qx : AExit → St I → Prop}
/-- A region of open order, the second way. -/
theorem drawX {id : Nat} {ops : Array Oper} {st st' : St I} {tm2 : Tr (V I)} {s2 : Sto I} (p : Nat) (h0 : (okDraw2 ops.toList).map (·.2) = some p) (hm : mixes ops.toList = true) (h1 : dstsOk2 nt (ops.toList.take p) = true)
    (hn : ∀ F, dhead N T C nt ops.toList F st.sto 0 st.sto.next (ops.toList.take p) st.tm [] = none) (h2 : ∀ F, xhead N T C nt ops.toList F 0 st.sto.next st.sto.low (ops.toList.take p) st.tm st.sto.obs [] = some (tm2, s2))
    (h3 : aops N T C nt ops.toList (ops.toList.drop p) ⟨tm2, s2⟩ = some st') (h : Qn st') : Wp N T C nt (adraw N T C nt) L (.region id ops true) st Qn Qx := by
  have hp : lead ops.toList (befs ops.toList []) = p := by
    cases he : okDraw2 ops.toList with
    | none => rw [he] at h0; cases h0
    | some Fp =>
      rw [he] at h0
      simp only [okDraw2] at he
      split at he
      · cases he; cases h0; rfl
      · cases he
  have ha0 : adraw0 N T C nt ops.toList st = none := by
    simp only [adraw0]
    cases he : okDraw ops.toList with
    | none => rfl
    | some Fp =>
      simp only [okDraw] at he
      split at he
      · cases he
        simp only [hp, hn, bite_eq]
        split <;> rfl
      · cases he
  refine Wp.drawn ?_ h
  simp only [adraw, ha0, hm, bite_true, xdraw]
  cases he : okDraw2 ops.toList with
  | none => rw [he] at h0; cases h0
  | some Fp =>
    obtain ⟨F, q⟩ := Fp
    rw [he] at h0
    cases h0
    simp only [h1, bite_true, h2, h3]
end

theorem joined {bs : List Int} {o : Nat} {P Q : Int} {S s : Sto Sy} (h : Rdy bs o P S) (hn : Nw bs o Q [] ⟨S.next, onlyObs [o] S.obs, S.next⟩ s) :
    Nw bs o Q [] S ⟨s.next, takeNew S.next s.obs ++ over [o] s.obs S.obs, if Nat.blt s.low S.low then s.low else S.low⟩ ∧ ∀ k x, S.next ≤ k → look s.obs k = some x → look (takeNew S.next s.obs ++ over [o] s.obs S.obs) k = some x := by
  have hd := h.desc
  have hlt := h.lt
  obtain ⟨p, p1, p2⟩ := hn.rd
  have hs := p2.desc
  have hold : ∀ k, k < S.next → look (takeNew S.next s.obs) k = none := by
    intro k hk
    cases e : look (takeNew S.next s.obs) k with
    | none => rfl
    | some x =>
      exfalso
      obtain ⟨q, hq, hqk⟩ : ∃ q, q ∈ takeNew S.next s.obs ∧ q.1 = k := by
        generalize takeNew S.next s.obs = l at e
        induction l with
        | nil => cases e
        | cons a r ih =>
          obtain ⟨k', b⟩ := a
          rw [look_cons] at e
          by_cases hk' : k' = k
          · exact ⟨(k', b), by simp, hk'⟩
          · rw [if_neg (by first | exact hk' | exact fun h => hk' h.symm)] at e
            obtain ⟨q, h1, h2⟩ := ih e
            exact ⟨q, by simp [h1], h2⟩
      have := takeNew_key hq
      omega
  have hobj : look (takeNew S.next s.obs ++ over [o] s.obs S.obs) o = look s.obs o := by
    rw [look_append, hold o hlt]
    simp only
    rw [over_look, if_pos (by simp)]
    obtain ⟨p', _, h3⟩ := h
    rw [h3.obj]; rfl
  refine ⟨⟨⟨p, p1, by rw [show (Sto.obs ⟨s.next, takeNew S.next s.obs ++ over [o] s.obs S.obs, if Nat.blt s.low S.low then s.low else S.low⟩ : List (Nat × Ob Sy)) = takeNew S.next s.obs ++ over [o] s.obs S.obs from rfl, hobj]; exact p2.obj,
    desc_append (takeNew_descL hs) (fun q hq => takeNew_key hq) hn.next (over_desc hd), p2.p0⟩, hn.next, ?_, fun k x hk _ hl => ?_⟩, fun k x hk hl => ?_⟩
  · have := hn.low
    show (if Nat.blt s.low S.low then s.low else S.low) ≤ o
    by_cases h1 : s.low < S.low
    · rw [if_pos (by rw [Nat.blt_eq]; exact h1)]; exact this
    · rw [if_neg (by rw [Nat.blt_eq]; exact h1)]; omega
  · show look (takeNew S.next s.obs ++ over [o] s.obs S.obs) k = some x
    rw [look_append, hold k (hd.look_lt hl)]
    simp only
    rw [over_look, if_neg (by simp; exact hk)]
    exact hl
  · rw [look_append, look_takeNew hk hs, hl]

theorem rdyOnly {bs : List Int} {o : Nat} {P : Int} {S : Sto Sy} (h : Rdy bs o P S) : Rdy bs o P ⟨S.next, onlyObs [o] S.obs, S.next⟩ := by
  obtain ⟨p, p1, p2⟩ := h
  exact ⟨p, p1, by show look (onlyObs [o] S.obs) o = _; rw [onlyObs_look, if_pos (by simp)]; exact p2.obj, onlyObs_desc p2.desc, p2.p0⟩
theorem onlyObs_nil {I : Type} : ∀ l : List (Nat × Ob I), onlyObs [] l = []
  | [] => rfl
  | (o, b) :: r => by simp [onlyObs, onlyObs_nil r]
theorem inNs_u8s {ok : Nat → Bool} (bs : List Int) : inNs ok (u8s bs) = true := by
  induction bs with
  | nil => rfl
  | cons b r ih => simpa [u8s, inNs, V.inN] using ih
theorem inNs_nums {ok : Nat → Bool} (zs : List Int) : inNs ok (ints (nums zs)) = true := by
  induction zs with
  | nil => rfl
  | cons b r ih => simpa [ints, nums, inNs, V.inN] using ih
theorem refs_nums (zs : List Int) : refsL (ints (nums zs)) = [] := by
  induction zs with
  | nil => rfl
  | cons b r ih => simpa [ints, nums, refsL, V.refs] using ih

end Go.Sx

/-
  Lists that are drawn, as they stand.
-/
namespace Go.Sx
open Go.RowKit

noncomputable def knownV : List (List Int) → Nat → List (V Sy)
  | [], _ => []
  | l :: r, o => .rsl o 0 l.length none :: knownV r (o + 1)
noncomputable def knownO : List (List Int) → Nat → List (Nat × Ob Sy) → List (Nat × Ob Sy)
  | [], _, acc => acc
  | l :: r, o, acc => knownO r (o + 1) ((o, ints (nums l)) :: acc)
theorem knownV_len : ∀ (Ls : List (List Int)) (o : Nat), (knownV Ls o).length = Ls.length
  | [], _ => rfl
  | l :: r, o => by simp [knownV, knownV_len r]
theorem knownV_get : ∀ (Ls : List (List Int)) (o i : Nat), i < Ls.length → (knownV Ls o).getD i .any = .rsl (o + i) 0 (Ls.getD i []).length none
  | [], _, i, h => by simp at h
  | l :: r, o, 0, _ => rfl
  | l :: r, o, i + 1, h => by
    have := knownV_get r (o + 1) i (by simpa using h)
    simp only [knownV, getD_cons_succ']
    rw [this, show o + 1 + i = o + (i + 1) by omega]
theorem look_knownO : ∀ (Ls : List (List Int)) (o : Nat) (acc : List (Nat × Ob Sy)) (q : Nat) (x : Ob Sy), look (knownO Ls o acc) q = some x → (∃ i, i < Ls.length ∧ q = o + i ∧ x = ints (nums (Ls.getD i []))) ∨ look acc q = some x := by
  intro Ls
  induction Ls with
  | nil => intro o acc q x h; exact .inr h
  | cons l r ih =>
    intro o acc q x h
    simp only [knownO] at h
    rcases ih _ _ _ _ h with ⟨i, h1, h2, h3⟩ | h
    · exact .inl ⟨i + 1, by simpa using h1, by omega, by rw [h3, getD_cons_succ']⟩
    · rw [look_cons] at h
      split at h
      · rename_i e
        cases h
        exact .inl ⟨0, by simp, by omega, rfl⟩
      · exact .inr h
theorem desc_knownO : ∀ (Ls : List (List Int)) (o : Nat) (acc : List (Nat × Ob Sy)), Desc o acc → Desc (o + Ls.length) (knownO Ls o acc) := by
  intro Ls
  induction Ls with
  | nil => intro o acc h; exact h
  | cons l r ih =>
    intro o acc h
    simp only [knownO, List.length_cons]
    rw [show o + (r.length + 1) = o + 1 + r.length by omega]
    exact ih _ _ ⟨Nat.lt_succ_self _, h⟩

noncomputable def drawKC (dk : FuncId) (outs : List Tp) (Ls : List (List Int)) (I : List Int) : Ctr := fun k args sto =>
  match args with
  | [.bys j _] => bite (Nat.beq k dk) (bite (Nat.beq j 0) (some (outV outs (knownV Ls sto.next) (ints (nums I)), ⟨sto.next + Ls.length, knownO Ls sto.next sto.obs, sto.low⟩)) none) none
  | _ => none

theorem drawKC_ok {P : Program} (hG : NoCount P) (hm : P.follows .mixedOrders = true) {ρ : Nat → Int} {s : Sms} {B : Nat} {dk : FuncId} {outs : List Tp} {Ls : List (List Int)} {I : List Int}
    (hD : Drawn P dk outs (bytesOf (s.s 0 [])) Ls I) (hbody : ∃ fn, P.funcs[dk]? = some fn ∧ fn.body.isSome = true) : COk P ⟨Sy.den ρ, s⟩ B (drawKC dk outs Ls I) := by
  intro k args sto r sto' h
  unfold drawKC at h
  split at h
  · rename_i j mm
    simp only [bite_eq] at h
    split at h
    · rename_i hk
      have hk := Nat.eq_of_beq_eq_true hk
      subst hk
      split at h
      · rename_i hj
        have hj := Nat.eq_of_beq_eq_true hj
        subst hj
        cases h
        refine ⟨?_, hbody⟩
        intro c rargs hinv hra
        obtain ⟨K, n, os, lvs, S, hK, hrun, hl1, hl2, hnd, hmade⟩ := hD
        obtain ⟨v0, hv0, hv1⟩ := hra.one
        refine Calls.mono (run_goodK hG hm hK ρ hrun c.w.heap.size ⟨c.w, fun _ => none⟩ rargs (inv0 _ _) (by rw [hv0]; exact .cons (bys_data hinv hv1) .nil)) ?_
        rintro ev w' ⟨rv, c', rfl, rfl, hst', hv⟩
        have hbe : Below c.w.heap.size c.w c'.w := hst'.below
        let c'' : Cx := ⟨c'.w, fun o => if o < sto.next then c.κ o else if o - sto.next < Ls.length then c'.κ (os.getD (o - sto.next) 0) else none⟩
        have hκ : ∀ i b, i < Ls.length → c'.κ (os.getD i 0) = some b → c''.κ (sto.next + i) = some b := by
          intro i b hi hb
          simp only [c'']
          rw [if_neg (by omega), Nat.add_sub_cancel_left, if_pos hi]; exact hb
        have hold : ∀ o x, c.κ o = some x → c''.κ o = some x := by
          intro o x hx
          have : o < sto.next := by
            rcases Nat.lt_or_ge o sto.next with h1 | h1
            · exact h1
            · rw [hinv.fresh o h1] at hx; cases hx
          simp only [c'']; rw [if_pos this]; exact hx
        have hle : Cx.le B c c'' := ⟨fun b hb => hbe.block b (Nat.lt_of_lt_of_le hb hinv.base), hold, hst'.oth⟩
        have hnew : ∀ o b n, c'.κ o = some (b, n) → c.w.heap.size ≤ b ∧ b < c'.w.heap.size := fun o b n hk => hst'.inv.blk o b n hk
        have hnewκ : ∀ {o b n}, ¬ o < sto.next → c''.κ o = some (b, n) → ∃ i, i < Ls.length ∧ o = sto.next + i ∧ c'.κ (os.getD i 0) = some (b, n) := by
          intro o b n ho hk
          simp only [c''] at hk
          rw [if_neg ho] at hk
          split at hk
          · rename_i h1; exact ⟨_, h1, by omega, hk⟩
          · cases hk
        have hcase : ∀ o x, look (knownO Ls sto.next sto.obs) o = some x → (∃ i, i < Ls.length ∧ o = sto.next + i ∧ x = ints (nums (Ls.getD i []))) ∨ (o < sto.next ∧ look sto.obs o = some x) := by
          intro o x hx
          rcases look_knownO _ _ _ _ _ hx with h | h
          · exact .inl h
          · exact .inr ⟨hinv.desc.look_lt h, h⟩
        have hosne : ∀ {i i' : Nat}, i < Ls.length → i' < Ls.length → os.getD i 0 = os.getD i' 0 → i = i' := by
          intro i i' hi hi' he
          have e1 : os.getD i 0 = os[i]'(by omega) := by simp [List.getD, show i < os.length by omega]
          have e2 : os.getD i' 0 = os[i']'(by omega) := by simp [List.getD, show i' < os.length by omega]
          rw [e1, e2] at he
          have hp := List.pairwise_iff_getElem.1 hnd
          rcases Nat.lt_trichotomy i i' with h | h | h
          · exact (hp i i' (by omega) (by omega) h he).elim
          · exact h
          · exact (hp i' i (by omega) (by omega) h he.symm).elim
        refine ⟨rv, c'', rfl, rfl, ⟨⟨Nat.le_trans hinv.base hbe.size, fun o ho => ?_, fun o b n hk => ?_, fun o x hx => ?_, fun o o' x x' b n n' hx hx' hk hk' => ?_, ?_⟩, hold,
          hbe.mono hinv.base, Nat.le_add_right _ _, Nat.le_refl _, fun b hb _ => hbe.block b hb, fun o b n hk hn hb => ?_, fun o x hk hn => ?_, hst'.frz, hst'.oth⟩, ?_⟩
        · simp only at ho
          simp only [c'']
          rw [if_neg (by omega), if_neg (by omega)]
        · by_cases ho : o < sto.next
          · simp only [c''] at hk
            rw [if_pos ho] at hk
            have := hinv.blk o b n hk
            exact ⟨this.1, Nat.lt_of_lt_of_le this.2 hbe.size⟩
          · obtain ⟨i, h1, h2, h3⟩ := hnewκ ho hk
            have := hnew _ _ _ h3
            exact ⟨Nat.le_trans hinv.base this.1, this.2⟩
        · rcases hcase o x hx with ⟨i, h1, rfl, rfl⟩ | ⟨h1, h2⟩
          · obtain ⟨hval, hobj⟩ := hmade i h1
            obtain ⟨b, cur, el, e1, e2, e3, e4⟩ := hst'.inv.obc _ _ (lookC_iff.2 ⟨hobj, isMp_ints _⟩)
            have hln : (ints (nums (Ls.getD i []))).length = (Ls.getD i []).length := by simp
            have hus := intVs_of e4.vrs
            rw [hln] at hus
            refine ⟨b, _, cur.size, hκ i _ h1 e1, e2, .cells el e3 ⟨?_, fun j hj => ?_⟩ (ints_nm _)⟩
            · rw [hln, hus]
              exact VRs_intVs (B := B) (c := c'')
            · cases hz : Ls.getD i [] with
              | nil => rw [hz] at hj; simp [ints, nums] at hj
              | cons a r => rw [hz] at hj; simp [ints, nums] at hj
          · obtain ⟨b, cur, el, e1, e2, e4⟩ := hinv.ob o x h2
            refine ⟨b, cur, el, hold _ _ e1, ?_, e4.mono hle⟩
            show c'.w.heap[b]? = _
            rw [hbe.block b (hinv.blk _ _ _ e1).2]; exact e2
        · rcases hcase o x hx with ⟨i, h1, rfl, _⟩ | ⟨h1, h2⟩ <;> rcases hcase o' x' hx' with ⟨i', h1', rfl, _⟩ | ⟨h1', h2'⟩
          · obtain ⟨a, a1, a2, a3⟩ := hnewκ (by omega) hk
            obtain ⟨a', a1', a2', a3'⟩ := hnewκ (by omega) hk'
            have : a = i := by omega
            subst this
            have : a' = i' := by omega
            subst this
            have := hst'.inv.inj _ _ _ _ b n n' (hmade _ a1).obj (hmade _ a1').obj a3 a3'
            rw [hosne a1 a1' this]
          · obtain ⟨a, a1, a2, a3⟩ := hnewκ (by omega) hk
            simp only [c''] at hk'
            rw [if_pos h1'] at hk'
            have h1 := (hnew _ _ _ a3).1
            have h2 := (hinv.blk _ _ _ hk').2
            omega
          · obtain ⟨a, a1, a2, a3⟩ := hnewκ (by omega) hk'
            simp only [c''] at hk
            rw [if_pos h1] at hk
            have h1 := (hnew _ _ _ a3).1
            have h2 := (hinv.blk _ _ _ hk).2
            omega
          · simp only [c''] at hk hk'
            rw [if_pos h1] at hk
            rw [if_pos h1'] at hk'
            exact hinv.inj o o' x x' b n n' h2 h2' hk hk'
        · exact desc_knownO _ _ _ hinv.desc
        · by_cases ho : o < sto.next
          · simp only [c''] at hk
            rw [if_pos ho] at hk
            rw [hn] at hk; cases hk
          · obtain ⟨i, h1, h2, h3⟩ := hnewκ ho hk
            have := (hnew _ _ _ h3).1; omega
        · by_cases ho : o < sto.next
          · simp only [c''] at hk
            rw [if_pos ho] at hk
            rw [hn] at hk; cases hk
          · omega
        · refine outV_tell (fun j v hv => ?_) (fun j v hv => ?_) hv
          · by_cases hj : j < Ls.length
            · obtain ⟨hval, hobj⟩ := hmade j hj
              rw [knownV_get _ _ _ (by omega)]
              obtain ⟨b0, cur0, el0, e10, _, e30, _⟩ := hst'.inv.obc _ _ (lookC_iff.2 ⟨hobj, isMp_ints _⟩)
              have hsz : (Ls.getD j []).length ≤ cur0.size := by simpa using e30
              rcases hval with hval | hval
              · rw [hval] at hv
                cases hv with
                | rslo hk h1 h2 => rw [e10] at hk; cases hk; exact .rslo (hκ j _ hj e10) h1 (by omega)
              · rw [hval] at hv
                cases hv with
                | rsl hk => rw [e10] at hk; cases hk; exact .rslo (hκ j _ hj e10) (Nat.le_refl _) (by omega)
            · rw [show lvs.getD j .any = V.any by simp [List.getD, List.getElem?_eq_none (show lvs.length ≤ j by omega)]] at hv
              rw [show (knownV Ls sto.next).getD j .any = V.any by simp [List.getD, List.getElem?_eq_none (show (knownV Ls sto.next).length ≤ j by rw [knownV_len]; omega)]]
              exact .any _
          · by_cases hj : j < I.length
            · have e1 : (ints (nums I)).getD j .any = V.int .i64 (.c I[j]) := by simp [List.getD, hj]
              rw [e1] at hv ⊢
              cases hv
              exact VR_int' rfl
            · have e1 : (ints (nums I)).getD j .any = V.any := by simp [List.getD, List.getElem?_eq_none (show (nums I).length ≤ j by simp; omega)]
              rw [e1]
              exact .any _
      · cases h
    · cases h
  · cases h
end Go.Sx

/-
  Laws over lists that are drawn, with what is told besides; at lists that are known.
-/
namespace Go.Sx
open Go.RowKit

theorem numsOf_nums : ∀ zs : List Int, numsOf (ints (nums zs)) = some (nums zs)
  | [] => rfl
  | a :: r => by
    have := numsOf_nums r
    simp only [ints, nums, List.map_cons] at this ⊢
    simp only [numsOf, this]
theorem consts_of : ∀ zs : List Int, consts (nums zs) = some zs
  | [] => rfl
  | a :: r => by
    have := consts_of r
    simp only [nums, List.map_cons] at this ⊢
    simp only [consts, this]
theorem tidyFrom_bound {α : Type} [DecidableEq α] : ∀ (l seen : List α), ∀ z, z ∈ tidyFrom seen l → 0 ≤ z ∧ z ≤ (seen.length + l.length : Nat)
  | [], seen, z, h => by simp [tidyFrom] at h
  | x :: r, seen, z, h => by
    simp only [tidyFrom, List.mem_cons] at h
    have h1 := idxOf_le x seen
    rcases h with rfl | h
    · simp; omega
    · have := tidyFrom_bound r _ z h
      split at this
      · simp at this ⊢; omega
      · simp at this ⊢; omega
theorem tidyL_bound (l : List Int) : ∀ z, z ∈ tidyL l → 0 ≤ z ∧ z ≤ (l.length : Nat) := fun z h => by
  have := tidyFrom_bound l [] z h
  simpa using this
/-- A function at a list of no numbers. -/
noncomputable def oneKE (k0 : FuncId) (ys : List Int) : Ctr := fun k args sto =>
  bite (Nat.beq k k0) (match args with
  | [x] => match constsOf sto x with
    | some [] => some (.rsl sto.next 0 ys.length none, ⟨sto.next + 1, (sto.next, ints (nums ys)) :: sto.obs, sto.low⟩)
    | _ => none
  | _ => none) none
theorem oneKE_ok {P : Program} (hG : NoCount P) (hm : P.follows .mixedOrders = true) {k0 : FuncId} {ys : List Int} (hb : ∃ fn, P.funcs[k0]? = some fn ∧ fn.body.isSome = true)
    (hF : OneOk P k0 [.emp] ys) {ρ : Nat → Int} {s : Sms} {B : Nat} : COk P ⟨Sy.den ρ, s⟩ B (oneKE k0 ys) := by
  intro k args sto r sto' h
  unfold oneKE at h
  rw [bite_eq] at h
  split at h
  case isFalse => cases h
  rename_i hk
  have hk := Nat.eq_of_beq_eq_true hk
  subst hk
  split at h
  · rename_i x
    split at h
    · rename_i hz
      cases h
      obtain ⟨K, n, q, R, S, hK, hrun, hM⟩ := hF.run
      obtain ⟨h1, h2⟩ := constsOf_ok hz
      refine ⟨lift_one (ρ' := ρ) (fun B' => run_goodK hG hm hK ρ hrun B') hM (fun c hinv vs hv => ?_), hb⟩
      obtain ⟨v, rfl, hv2⟩ := hv.one
      exact .cons ((elems_data (ρ' := ρ) hinv hv2 h1 h2).1 rfl) .nil
    · cases h
  · cases h

theorem flat_app : ∀ (Ls : List (List Int)) (I J : List Int), flat Ls (I ++ J) = flat Ls I ++ J := by
  intro Ls
  induction Ls with
  | nil => intro I J; rfl
  | cons l r ih => intro I J; simp [flat, ih]

noncomputable def LawD.kAll (D : Ids) (t : List Summ) (l : LawD) (X : Ctr) (es : List Nat) (G : List Fact) : Ctr :=
  orK X (orK (drawK l.dk l.outs l.m es l.xs) (orK (orK (bigK D (entsL es l.bds l.xs) (bentsL es l.bds 0)) (uK D (G ++ l.facts es) (entsL es l.bds l.xs) (bentsL es l.bds 0))) (summK t)))
/-- One run over lists that are not looked into, with what is told besides. -/
noncomputable def LawD.runX (P : Program) (D : Ids) (t : List Summ) (N : Nat) (l : LawD) (X : Ctr) (es : List Nat) (G : List Fact) : Bool :=
  saysTrue (symRun P (l.kAll D t X es G) (G ++ l.facts es) N l.k [.bys 0 l.lenv] ⟨0, [], 0⟩)
/-- One run over lists that are known. -/
noncomputable def LawD.runC (P : Program) (N : Nat) (l : LawD) (KL : Ctr) (Ls : List (List Int)) (I : List Int) : Bool :=
  saysTrue (symRun P (orK (drawKC l.dk l.outs Ls I) KL) [⟨true, .c 1048576, l.lenv, false⟩, ⟨true, l.lenv, .c 0, false⟩] N l.k [.bys 0 l.lenv] ⟨0, [], 0⟩)

def smsD (bs : List Int) (Ls : List (List Int)) : Sms := ⟨fun _ _ => toBytes bs, fun j => if (Ls.getD j []) = [] then [0] else Ls.getD j []⟩
def SmOk (s : Sms) : Prop := (∀ j, 1 ≤ (s.l j).length ∧ (s.l j).length ≤ 1048576) ∧ ∀ j z, z ∈ s.l j → IntKind.i64.wrap z = z

theorem LawD.okX {P : Program} (hG : NoCount P) (hm : P.follows .mixedOrders = true) {D : Ids} (hD : D.Ok P) {t : List Summ} (ht : ∀ e, e ∈ t → e.Ok P) {N : Nat} {l : LawD}
    (h1 : l.huge P N = true) (hn : 7 * l.bds.length + l.m + 1 ≤ 40) (hb : ∃ fn, P.funcs[l.dk]? = some fn ∧ fn.body.isSome = true)
    {w : World} {bs : List Int} {v : Value} {Ls : List (List Int)} {I : List Int} (hdr : Drawn P l.dk l.outs bs Ls I) (hlen : Ls.length = l.bds.length) (hI : I.length = l.m)
    (hwf : ∀ ls, ls ∈ Ls → (∀ z, z ∈ ls → IntKind.i64.wrap z = z) ∧ ls.length ≤ 1048576) (hwI : ∀ z, z ∈ I → IntKind.i64.wrap z = z)
    (hv : IsBytes w bs v) (hbl : bs.length ≤ 9223372036854775807)
    (h2 : (∃ (X : Ctr) (G : List Fact), l.runX P D t N X (esOf Ls) G = true ∧ ∀ ρ : Nat → Int, l.xs.map (Sy.den ρ) = flat Ls (I ++ [(bs.length : Int)]) → (∀ f, f ∈ G → f.Ok ρ) ∧ ∀ B, SmOk (smsD bs Ls) → COk P ⟨Sy.den ρ, smsD bs Ls⟩ B X) ∨
      (∃ KL : Ctr, (∀ (ρ : Nat → Int) (s : Sms) (B : Nat), SmOk s → COk P ⟨Sy.den ρ, s⟩ B KL) ∧ l.runC P N KL Ls I = true)) : LawTrue P l.k #[v] w := by
  have hfl := flat_len Ls (I ++ [(bs.length : Int)])
  rw [hlen, List.length_append, hI] at hfl
  simp only [List.length_cons, List.length_nil] at hfl
  have hvx := vxs_den (zs := flat Ls (I ++ [(bs.length : Int)])) (by rw [hfl]; omega) (flat_wf (fun ls hls => ⟨(hwf ls hls).1, by have := (hwf ls hls).2; omega⟩) (fun z hz => by
    rcases List.mem_append.1 hz with hz | hz
    · exact hwI z hz
    · simp at hz; subst hz; exact wrap_in (by omega) (by omega)))
  rw [hfl] at hvx
  generalize hρ : (fun i => (flat Ls (I ++ [(bs.length : Int)])).getD i 0) = ρ at hvx
  have hxs : l.xs.map (Sy.den ρ) = flat Ls (I ++ [(bs.length : Int)]) := hvx
  have hs0 : bytesOf ((smsD bs Ls).s 0 []) = bs := toBytes_of hv.1
  have hlv : l.lenv.den ρ = (bs.length : Int) := by
    have e1 : (l.xs.map (Sy.den ρ))[7 * l.bds.length + l.m]? = some (bs.length : Int) := by
      rw [hxs]
      have : ∀ (Ls : List (List Int)) (J : List Int), (flat Ls J).drop (7 * Ls.length) = J := by
        intro Ls
        induction Ls with
        | nil => intro J; simp [flat]
        | cons a r ih =>
          intro J
          have h7 : (flat (a :: r) J).drop 7 = flat r J := by
            rw [flat]
            show (pad6 a ++ flat r J).drop 6 = _
            exact List.drop_left' (pad6_length a)
          rw [List.length_cons, show 7 * (r.length + 1) = 7 + 7 * r.length by omega, ← List.drop_drop, h7, ih]
      have h3 := this Ls (I ++ [(bs.length : Int)])
      have h4 : ((flat Ls (I ++ [(bs.length : Int)])).drop (7 * Ls.length))[l.m]? = some (bs.length : Int) := by rw [h3, ← hI]; simp
      rw [List.getElem?_drop, hlen] at h4
      exact h4
    rw [List.getElem?_map] at e1
    have e2 : l.xs[7 * l.bds.length + l.m]? = some (vx (7 * l.bds.length + l.m)) := by
      unfold LawD.xs vxs
      rw [List.getElem?_map, List.getElem?_range (by omega)]; rfl
    rw [e2] at e1
    exact Option.some.inj e1
  have hvr := hv.2 ρ (smsD bs Ls) l.lenv hs0 hlv
  have hargs : VRs ⟨Sy.den ρ, smsD bs Ls⟩ w.heap.size ⟨w, fun _ => none⟩ [.bys 0 l.lenv] (#[v] : Array Value).toList := .cons hvr .nil
  have hsl : ∀ (i : Nat) (ls : List Int), Ls[i]? = some ls → ls ≠ [] → (smsD bs Ls).l (0 + i) = ls := by
    intro i ls hi hne
    have : Ls.getD i [] = ls := by simp [List.getD, hi]
    simp only [smsD, Nat.zero_add]
    rw [this, if_neg hne]
  have hget : ∀ j, Ls.getD j [] = [] ∨ Ls.getD j [] ∈ Ls := by
    intro j
    rcases Nat.lt_or_ge j Ls.length with h | h
    · right; simp [List.getD, h]
    · left; simp [List.getD, List.getElem?_eq_none h]
  have hs1 : ∀ j, 1 ≤ ((smsD bs Ls).l j).length ∧ ((smsD bs Ls).l j).length ≤ 1048576 := by
    intro j
    simp only [smsD]
    split
    · simp
    · rename_i hne
      rcases hget j with h | h
      · exact (hne h).elim
      · refine ⟨?_, (hwf _ h).2⟩
        cases hg : Ls.getD j [] with
        | nil => exact (hne hg).elim
        | cons a b => simp
  have hs2 : ∀ j z, z ∈ (smsD bs Ls).l j → IntKind.i64.wrap z = z := by
    intro j z hz
    simp only [smsD] at hz
    split at hz
    · simp at hz; subst hz; exact wrap0
    · rename_i hne
      rcases hget j with h | h
      · exact (hne h).elim
      · exact (hwf _ h).1 z hz
  by_cases hbig : (1048576 : Int) < (bs.length : Int)
  · refine calls_true (Δ := ⟨Sy.den ρ, smsD bs Ls⟩) (symRun_ok hG hm (fun f hf => ?_) noK_ok N) hargs h1
    simp only [List.mem_cons, List.not_mem_nil, or_false] at hf
    subst hf
    exact Fact.lt_yes (by rw [hlv]; exact hbig)
  · have f1 : Fact.Ok ρ ⟨true, .c 1048576, l.lenv, false⟩ := Fact.lt_no (by rw [hlv]; exact hbig)
    have f2 : Fact.Ok ρ ⟨true, l.lenv, .c 0, false⟩ := Fact.lt_no (by rw [hlv]; simp only [Sy.den]; omega)
    rcases h2 with ⟨X, G, hrun, hX⟩ | ⟨KL, hKL, hrun⟩
    · obtain ⟨hGf, hXo⟩ := hX ρ hxs
      have hst : StsOk l.bds (esOf Ls) Ls := by
        refine ⟨by simp [esOf], hlen.symm, fun j hj => ?_⟩
        have e1 : (esOf Ls).getD j 0 = if Ls.getD j [] = [] then 0 else 1 := by simp [esOf, List.getD, hj]
        rw [e1]
        have hmem : Ls.getD j [] ∈ Ls := by simp [List.getD, hj]
        by_cases he : Ls.getD j [] = []
        · rw [if_pos he]; exact ⟨fun _ => he, fun h => (h rfl).elim, fun h => by omega, fun h => by omega, fun h => by omega⟩
        · rw [if_neg he]; exact ⟨fun h => by omega, fun _ => ⟨he, (hwf _ hmem).2⟩, fun h => by omega, fun h => by omega, fun h => by omega⟩
      have hF : ∀ f, f ∈ G ++ l.facts (esOf Ls) → f.Ok ρ := by
        intro f hf
        rcases List.mem_append.1 hf with hf | hf
        · exact hGf f hf
        · simp only [LawD.facts, List.mem_cons] at hf
          rcases hf with rfl | rfl | hf
          · exact f1
          · exact f2
          · exact (List.mem_append.1 hf).elim (fun hf => factsL_ok hst hxs f hf) (fun hf => rngL_ok hst hxs f hf)
      have hVe : ∀ e, e ∈ entsL (esOf Ls) l.bds l.xs → e.Ok ρ := fun e he => entsL_ok hst hxs e he
      have hBe : ∀ e, e ∈ bentsL (esOf Ls) l.bds 0 → e.Ok (smsD bs Ls) := fun e he => bentsL_ok (s := smsD bs Ls) (j := 0) hst hsl e he
      refine calls_true (Δ := ⟨Sy.den ρ, smsD bs Ls⟩) (symRun_ok hG hm hF (orK_ok (hXo _ ⟨hs1, hs2⟩) (orK_ok ?_ (orK_ok (orK_ok (bigK_ok hG hm hD hVe hBe hs1 hs2) (uK_ok hG hm hD hD.pok hF hVe hBe hs1 hs2)) (summK_ok ht)))) N) hargs hrun
      rw [← hI]
      exact drawK_ok hG hm (I' := [(bs.length : Int)]) (by rw [hs0]; exact hdr) hb hst hxs hsl
    · refine calls_true (Δ := ⟨Sy.den ρ, smsD bs Ls⟩) (symRun_ok hG hm (fun f hf => ?_) (orK_ok (drawKC_ok hG hm (by rw [hs0]; exact hdr) hb) (hKL _ _ _ ⟨hs1, hs2⟩)) N) hargs hrun
      simp only [List.mem_cons, List.not_mem_nil, or_false] at hf
      rcases hf with rfl | rfl
      · exact f1
      · exact f2

theorem wayVD_ok {bs p q : List Int} : ∀ e, e ∈ [(0, isPart p), (1, isPart q)] → isPart ((smsD bs [p, q]).l e.1) = e.2 := by
  intro e he
  have := wayV_ok (p := p) (q := q) e he
  exact this

theorem sameI_of (l : List Int) : sameI l l = true := by
  induction l with
  | nil => rfl
  | cons a r ih => simp [sameI, ieq_eq, ih]
theorem sameI_dec (l l' : List Int) : sameI l l' = decide (l = l') := by
  by_cases h : l = l'
  · subst h; simp [sameI_of]
  · rw [decide_eq_false h]
    cases hs : sameI l l' with
    | false => rfl
    | true => exact (h (sameI_eq hs)).elim
/-- Are two lists that are known equal? -/
noncomputable def eqbK (k0 : FuncId) : Ctr := fun k args sto =>
  bite (Nat.beq k k0) (match args with
  | [x, y] => match constsOf sto x, constsOf sto y with
    | some (z :: r), some (z' :: r') => bite (Nat.ble (z :: r).length 1000) (bite (Nat.ble (z' :: r').length 1000) (some (.bool (sameI (z :: r) (z' :: r')), sto)) none) none
    | _, _ => none
  | _ => none) none
theorem eqbK_ok {P : Program} (hG : NoCount P) (hm : P.follows .mixedOrders = true) {k0 : FuncId} (hb : ∃ fn, P.funcs[k0]? = some fn ∧ fn.body.isSome = true)
    (hF : ∀ zs us : List Int, zs.length ≤ 1000 → us.length ≤ 1000 → ∃ r, symRun P noK [] 3000 k0 [.slice (ints (nums zs)), .slice (ints (nums us))] ⟨0, [], 0⟩ = some r ∧ r.1 = .bool (decide (zs = us))) {ρ : Nat → Int} {s : Sms} {B : Nat} : COk P ⟨Sy.den ρ, s⟩ B (eqbK k0) := by
  intro k args sto r sto' h
  unfold eqbK at h
  rw [bite_eq] at h
  split at h
  case isFalse => cases h
  rename_i hk
  have hk := Nat.eq_of_beq_eq_true hk
  subst hk
  split at h
  · rename_i x y
    split at h
    · rename_i z rr z' rr' hz hz'
      rw [bite_eq] at h
      split at h
      · rename_i hl
        rw [Nat.ble_eq] at hl
        rw [bite_eq] at h
        split at h
        · rename_i hl'
          rw [Nat.ble_eq] at hl'
          cases h
          obtain ⟨⟨R, S⟩, hrun, hR⟩ := hF _ _ hl hl'
          simp only at hR
          subst hR
          rw [← sameI_dec] at hrun
          refine ⟨lift_plain (ρ' := ρ) (run_good hG hm ρ hrun) (fun c hinv vs hv => ?_) rfl (.bool _), hb⟩
          obtain ⟨v, u, rfl, hv, hu⟩ := hv.two
          exact .cons (constsOf_rel hz (by simp) (by omega) hinv hv) (.cons (constsOf_rel hz' (by simp) (by omega) hinv hu) .nil)
        · cases h
      · cases h
    · cases h
  · cases h

/-- A test of a list that is told to be a way, with itself. -/
noncomputable def finB (k0 : FuncId) (Vp : List (Nat × Bool)) : Ctr := fun k args sto =>
  bite (Nat.beq k k0) (match args with
  | [.brs o j m, .brs o' j' m'] => bite (Nat.beq j j') (bite (isBig sto o j) (bite (isBig sto o' j') (match findW j Vp with
    | some true => some (.bool true, sto)
    | _ => none) none) none) none
  | _ => none) none
theorem finB_ok {P : Program} {k0 : FuncId} (hb : ∃ fn, P.funcs[k0]? = some fn ∧ fn.body.isSome = true) {ρ : Nat → Int} {s : Sms} {B : Nat} {Vp : List (Nat × Bool)} (hV : ∀ e, e ∈ Vp → isPart (s.l e.1) = e.2) (hs : SmOk s)
    (hF : ∀ zs, isPart zs = true → zs ≠ [] → ∃ S, ∀ B', Good P ⟨Sy.den ρ, s⟩ B' k0 [.slice (ints (nums zs)), .slice (ints (nums zs))] ⟨0, [], 0⟩ (.bool true) S) : COk P ⟨Sy.den ρ, s⟩ B (finB k0 Vp) := by
  intro k args sto r sto' h
  unfold finB at h
  rw [bite_eq] at h
  split at h
  case isFalse => cases h
  rename_i hk
  have hk := Nat.eq_of_beq_eq_true hk
  subst hk
  split at h
  · rename_i o j m o' j' m'
    simp only [bite_eq] at h
    split at h
    · rename_i hj
      have hj := Nat.eq_of_beq_eq_true hj
      subst hj
      split at h
      · rename_i h1
        split at h
        · rename_i h2
          split at h
          · rename_i hq
            cases h
            have hp : isPart (s.l j) = true := hV _ (findW_mem hq)
            have hne : s.l j ≠ [] := fun e => by have := (hs.1 j).1; rw [e] at this; simp at this
            obtain ⟨S, hg⟩ := hF _ hp hne
            refine ⟨lift_plain (ρ' := ρ) hg (fun c hinv vs hv => ?_) rfl (.bool _), hb⟩
            obtain ⟨v, u, rfl, hv, hu⟩ := hv.two
            exact .cons (brs_data hinv (isBig_look h1) hv) (.cons (brs_data hinv (isBig_look h2) hu) .nil)
          · cases h
        · cases h
      · cases h
    · cases h
  · cases h
/-- All ways of a number of things. -/
theorem ways_each {f : List Int → Bool} (h : ∀ n, 1 ≤ n → n ≤ 5 → allL f (waysOf n) = true) {p : List Int} (hp : isPart p = true) (hne : p ≠ []) : f p = true :=
  allL_ok (h p.length (by cases p with | nil => exact (hne rfl).elim | cons a r => simp) (isPart_len hp)) p (mem_waysOf hp)
end Go.Sx


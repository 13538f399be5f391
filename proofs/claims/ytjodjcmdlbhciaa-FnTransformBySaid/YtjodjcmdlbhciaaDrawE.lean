/-
  Regions of open order in which a pair is loaded beside a call that reads bytes, by hand; draws of a pair and a list. No condition.
-/
import Derived.Test.YtjodjcmdlbhciaaRows
import Derived.Test.YtjodjcmdlbhciaaSym
import Derived.Test.YtjodjcmdlbhciaaIds
import Derived.Test.YtjodjcmdlbhciaaDraw
import Derived.Test.YtjodjcmdlbhciaaDrawC
import Derived.Test.YtjodjcmdlbhciaaDrawD
import Derived.WalkKit
import Derived.ProofKit
import Derived.OpenShut
namespace Go.Proofs.Ytjodjcmdlbhciaa.Draw
open Go.ChangeShapes Go.WideShapes Go.ChangeAt Go.RowKit Go.Sx Go.Proofs.Ytjodjcmdlbhciaa.Ids
set_option linter.unusedVariables false
set_option linter.unusedSimpArgs false

theorem descB_of {I : Type} : ∀ {n : Nat} {l : List (Nat × Ob I)}, Desc n l → descB n l = true
  | _, [], _ => rfl
  | n, (o, b) :: r, ⟨h1, h2⟩ => by
    simp only [descB, Bool.and_eq_true]
    exact ⟨by rw [Nat.blt_eq]; exact h1, descB_of h2⟩
theorem takeNew_desc {I : Type} {n : Nat} : ∀ {m : Nat} {l : List (Nat × Ob I)}, Desc m l → Desc m (takeNew n l)
  | _, [], _ => trivial
  | m, (o, b) :: r, ⟨h1, h2⟩ => by
    simp only [takeNew, bite_eq]
    split
    · exact ⟨h1, takeNew_desc h2⟩
    · trivial
theorem desc_append {I : Type} {n : Nat} : ∀ {m : Nat} {l r : List (Nat × Ob I)}, Desc m l → (∀ q, q ∈ l → n ≤ q.1) → n ≤ m → Desc n r → Desc m (l ++ r)
  | m, [], r, _, _, hm, hr => by
    cases r with
    | nil => trivial
    | cons p r => obtain ⟨o, b⟩ := p; exact ⟨Nat.lt_of_lt_of_le hr.1 hm, hr.2⟩
  | m, (o, b) :: l, r, ⟨h1, h2⟩, hk, hm, hr => ⟨h1, desc_append h2 (fun q hq => hk q (by simp [hq])) (hk (o, b) (by simp)) hr⟩
theorem obsIn_of {I : Type} {ok : Nat → Bool} {R : List Nat} : ∀ {n : Nat} {l : List (Nat × Ob I)}, Desc n l → (∀ k, R.contains k = true → ∀ b, Go.Sx.look l k = some b → inNs ok b = true) → obsIn ok (onlyObs R l) = true
  | _, [], _, _ => rfl
  | n, (o, b) :: r, ⟨h1, h2⟩, h => by
    have ht : ∀ k, R.contains k = true → ∀ b', Go.Sx.look r k = some b' → inNs ok b' = true := fun k hk b' hb' => h k hk b' (by
      have := h2.look_lt hb'
      rw [look_cons, if_neg (by omega)]; exact hb')
    simp only [onlyObs]
    split
    · rename_i hc
      simp only [obsIn, Bool.and_eq_true]
      exact ⟨h o hc b (by rw [look_cons, if_pos rfl]), obsIn_of h2 ht⟩
    · exact obsIn_of h2 ht

section
variable {I : Type} {N : Num I} {T : TypeId → Option Ti} {C : FuncId → List (V I) → Sto I → Option (V I × Sto I)} {nt : Nat}
/-- An operation of a head that writes nothing. -/
theorem xpure {ops : List Oper} {F : List (List Nat)} {i nx lo : Nat} {o : Oper} {r : List Oper} {tm : Tr (V I)} {obs : List (Nat × Ob I)} {rs : List Rec} {v : V I} (R Nn : List Nat) (hsh : shown tm obs ops o = (R, Nn))
    (hfit : fitX ops (F.getD i []) nx o tm obs R Nn rs = true) (hw : wants ops (seenX nt ops nx o tm obs R) o = some true) (ha : aop N T C (seenX nt ops nx o tm obs R) o = some (v, ⟨nx, onlyObs R obs, nx⟩)) (hd : Desc nx obs) (hlo : lo ≤ nx)
    (hn : ∀ q, q ∈ Nn → q < nx) (hap : apart (F.getD i []) R [] rs = true) :
    xhead N T C nt ops F i nx lo (o :: r) tm obs rs = xhead N T C nt ops F (i + 1) nx lo r (setTm nt tm o.dst v) obs ((i, R, [], nx, nx) :: rs) := by
  have e1 : takeNew nx (onlyObs R obs) = [] := takeNew_id (onlyObs_desc hd)
  have e2 : wroteOf Nn nx = [] := List.filter_eq_nil_iff.2 (fun q hq => by have := hn q hq; rw [Nat.ble_eq]; omega)
  have e3 : (Nat.ble nx nx && descB nx ([] : List (Nat × Ob I)) && ([] : List Nat).all (fun q => (Go.Sx.look (onlyObs R obs) q).isSome) && apart (F.getD i []) R [] rs) = true := by
    rw [hap]; simp [descB]
  have e4 : (if Nat.blt nx lo then nx else lo) = lo := by rw [if_neg (by rw [Nat.blt_eq]; omega)]
  simp only [xhead, hsh, hfit, hw, ha, e1, e2, bite_true, e3, e4, over_nil, List.nil_append]

/-- The last operation of a head, one that goes on reading bytes and makes new objects. -/
theorem xcall {ops : List Oper} {F : List (List Nat)} {i nx lo p : Nat} {o : Oper} {tm : Tr (V I)} {obs : List (Nat × Ob I)} {rs : List Rec} {v : V I} {s : Sto I} (hsh : shown tm obs ops o = ([p], [p]))
    (hfit : fitX ops (F.getD i []) nx o tm obs [p] [p] rs = true) (hw : wants ops (seenX nt ops nx o tm obs [p]) o = some true) (ha : aop N T C (seenX nt ops nx o tm obs [p]) o = some (v, s)) (hd : Desc nx obs) (hds : Desc s.next s.obs)
    (hnx : nx ≤ s.next) (hlow : s.low ≤ p) (hpo : (Go.Sx.look obs p).isSome = true) (hap : apart (F.getD i []) [p] [p] rs = true) :
    xhead N T C nt ops F i nx lo [o] tm obs rs = some (setTm nt tm o.dst v, ⟨s.next, takeNew nx s.obs ++ over [p] s.obs obs, if Nat.blt s.low lo then s.low else lo⟩) := by
  have e2 : wroteOf [p] s.low = [p] := by
    have : Nat.ble s.low p = true := by rw [Nat.ble_eq]; exact hlow
    simp [wroteOf, List.filter, this]
  have e3 : (Nat.ble nx s.next && descB s.next (takeNew nx s.obs) && [p].all (fun q => (Go.Sx.look (onlyObs [p] obs) q).isSome) && apart (F.getD i []) [p] [p] rs) = true := by
    have h5 : Nat.ble nx s.next = true := by rw [Nat.ble_eq]; exact hnx
    rw [hap, descB_of (takeNew_desc hds), h5]
    simp [onlyObs_look, hpo]
  simp only [xhead, hsh, hfit, hw, ha, e2, bite_true, e3]

variable {L : Code → St I → Option (AExit × St I)} {Qn : St I → Prop} {Qx : AExit → St I → Prop}
/-- A region of open order, the second way. -/
theorem drawX {id : Nat} {ops : Array Oper} {st st' : St I} {tm2 : Tr (V I)} {s2 : Sto I} (p : Nat) (h0 : (okDraw2 ops.toList).map (·.2) = some p) (hm : mixes ops.toList = true) (h1 : dstsOk2 nt (ops.toList.take p) = true)
    (hn : ∀ F, dhead N T C nt ops.toList F st.sto 0 st.sto.next (ops.toList.take p) st.tm [] = none) (h2 : ∀ F, xhead N T C nt ops.toList F 0 st.sto.next st.sto.low (ops.toList.take p) st.tm st.sto.obs [] = some (tm2, s2))
    (h3 : aops N T C nt ops.toList (ops.toList.drop p) ⟨tm2, s2⟩ = some st') (h : Qn st') : Wp N T C nt (adraw N T C nt) L (.region id ops true) st Qn Qx := by
  have hp : lead ops.toList (befs ops.toList []) = p := by
    cases he : okDraw2 ops.toList with
    | none => rw [he] at h0; cases h0
    | some Fp =>
      rw [he] at h0
      simp only [okDraw2] at he
      split at he
      · cases he; cases h0; rfl
      · cases he
  have ha0 : adraw0 N T C nt ops.toList st = none := by
    simp only [adraw0]
    cases he : okDraw ops.toList with
    | none => rfl
    | some Fp =>
      simp only [okDraw] at he
      split at he
      · cases he
        simp only [hp, hn, bite_eq]
        split <;> rfl
      · cases he
  refine Wp.drawn ?_ h
  simp only [adraw, ha0, hm, bite_true, xdraw]
  cases he : okDraw2 ops.toList with
  | none => rw [he] at h0; cases h0
  | some Fp =>
    obtain ⟨F, q⟩ := Fp
    rw [he] at h0
    cases h0
    simp only [h1, bite_true, h2, h3]
end

theorem joined {bs : List Int} {o : Nat} {P Q : Int} {S s : Sto Sy} (h : Rdy bs o P S) (hn : Nw bs o Q [] ⟨S.next, onlyObs [o] S.obs, S.next⟩ s) :
    Nw bs o Q [] S ⟨s.next, takeNew S.next s.obs ++ over [o] s.obs S.obs, if Nat.blt s.low S.low then s.low else S.low⟩ ∧ ∀ k x, S.next ≤ k → Go.Sx.look s.obs k = some x → Go.Sx.look (takeNew S.next s.obs ++ over [o] s.obs S.obs) k = some x := by
  have hd := h.desc
  have hlt := h.lt
  obtain ⟨p, p1, p2⟩ := hn.rd
  have hs := p2.desc
  have hold : ∀ k, k < S.next → Go.Sx.look (takeNew S.next s.obs) k = none := by
    intro k hk
    cases e : Go.Sx.look (takeNew S.next s.obs) k with
    | none => rfl
    | some x =>
      exfalso
      obtain ⟨q, hq, hqk⟩ : ∃ q, q ∈ takeNew S.next s.obs ∧ q.1 = k := by
        generalize takeNew S.next s.obs = l at e
        induction l with
        | nil => cases e
        | cons a r ih =>
          obtain ⟨k', b⟩ := a
          rw [look_cons] at e
          by_cases hk' : k' = k
          · exact ⟨(k', b), by simp, hk'⟩
          · rw [if_neg (by first | exact hk' | exact fun h => hk' h.symm)] at e
            obtain ⟨q, h1, h2⟩ := ih e
            exact ⟨q, by simp [h1], h2⟩
      have := takeNew_key hq
      omega
  have hobj : Go.Sx.look (takeNew S.next s.obs ++ over [o] s.obs S.obs) o = Go.Sx.look s.obs o := by
    rw [look_append, hold o hlt]
    simp only
    rw [over_look, if_pos (by simp)]
    obtain ⟨p', _, h3⟩ := h
    rw [h3.obj]; rfl
  refine ⟨⟨⟨p, p1, by rw [show (Sto.obs ⟨s.next, takeNew S.next s.obs ++ over [o] s.obs S.obs, if Nat.blt s.low S.low then s.low else S.low⟩ : List (Nat × Ob Sy)) = takeNew S.next s.obs ++ over [o] s.obs S.obs from rfl, hobj]; exact p2.obj,
    desc_append (takeNew_desc hs) (fun q hq => takeNew_key hq) hn.next (over_desc hd), p2.p0⟩, hn.next, ?_, fun k x hk _ hl => ?_⟩, fun k x hk hl => ?_⟩
  · have := hn.low
    show (if Nat.blt s.low S.low then s.low else S.low) ≤ o
    by_cases h1 : s.low < S.low
    · rw [if_pos (by rw [Nat.blt_eq]; exact h1)]; exact this
    · rw [if_neg (by rw [Nat.blt_eq]; exact h1)]; omega
  · show Go.Sx.look (takeNew S.next s.obs ++ over [o] s.obs S.obs) k = some x
    rw [look_append, hold k (hd.look_lt hl)]
    simp only
    rw [over_look, if_neg (by simp; exact hk)]
    exact hl
  · rw [look_append, look_takeNew hk hs, hl]

theorem rdyOnly {bs : List Int} {o : Nat} {P : Int} {S : Sto Sy} (h : Rdy bs o P S) : Rdy bs o P ⟨S.next, onlyObs [o] S.obs, S.next⟩ := by
  obtain ⟨p, p1, p2⟩ := h
  exact ⟨p, p1, by show Go.Sx.look (onlyObs [o] S.obs) o = _; rw [onlyObs_look, if_pos (by simp)]; exact p2.obj, onlyObs_desc p2.desc, p2.p0⟩
theorem onlyObs_nil {I : Type} : ∀ l : List (Nat × Ob I), onlyObs [] l = []
  | [] => rfl
  | (o, b) :: r => by simp [onlyObs, onlyObs_nil r]
theorem inNs_u8s {ok : Nat → Bool} (bs : List Int) : inNs ok (u8s bs) = true := by
  induction bs with
  | nil => rfl
  | cons b r ih => simpa [u8s, inNs, V.inN] using ih
theorem inNs_nums {ok : Nat → Bool} (zs : List Int) : inNs ok (ints (nums zs)) = true := by
  induction zs with
  | nil => rfl
  | cons b r ih => simpa [ints, nums, inNs, V.inN] using ih
theorem refs_nums (zs : List Int) : refsL (ints (nums zs)) = [] := by
  induction zs with
  | nil => rfl
  | cons b r ih => simpa [ints, nums, refsL, V.refs] using ih

section
attribute [local simp] aops wants aop apure St.eval setTm_some setTm_none Tr.get_set evals pevals apureB alen tiS tiI tiB tiY tiU tiSs tiSr abin aint isCmp sym_lt sym_eqs sym_neqs sym_eq sym_neq sym_gtr sym_leq sym_geq sym_add sym_sub sym_mul aeff aeffB idx? ofV aindexAddr aggDesc aifc_int fldP0 fldP1
set_option maxRecDepth 10000 in
theorem drawActOn (bs : List Int) (hbs0 : ∀ b, b ∈ bs → 0 ≤ b ∧ b < 256) (m : Nat) : ∃ r, symRun Try.prog K0 [] (m + 100) 23 [.slice (u8s bs)] ⟨0, [], 0⟩ = some r ∧ ∃ v1 v2 v3 q1 q2 q3 z1 z2 z3, r.1 = .tup [.agg [v1, v2], v3] ∧ q1 ≠ q2 ∧ q1 ≠ q3 ∧ q2 ≠ q3 ∧ IsL r.2.obs q1 z1 v1 ∧ IsL r.2.obs q2 z2 v2 ∧ IsL r.2.obs q3 z3 v3 ∧ Fit z1 ∧ Fit z2 ∧ Fit z3 := by
  refine own_run2 (n := m + 99) hK0 Try.func23 rfl rfl ?_
  simp only [Try.f23]
  obtain ⟨S1, hr, h1, k1, e1⟩ := readerP bs (m + 99) (by omega)
  have hbs := take2000 hbs0
  generalize bs.take 2000 = bs1 at hbs h1
  obtain ⟨_, T, hc, hn, v1, v2, rfl, q1, q2, z1, z2, a1, a2, a3, a4, a5, a6, a7⟩ := somePair bs1 hbs h1 (by omega) (m + 99) (by omega)
  obtain ⟨c1, rfl, hc1⟩ := a4.val
  obtain ⟨c2, rfl, hc2⟩ := a5.val
  have kA := lookN T V.nil V.nil
  have st := storeP (v := .rsl q1 0 z1.length c1) (w := .rsl q2 0 z2.length c2) kA rfl rfl
  have m2 := lookW (a := V.rsl q1 0 z1.length c1) (b := V.rsl q2 0 z2.length c2) kA
  have l1 := hn.rd.desc.look_lt a4.obj
  have l2 := hn.rd.desc.look_lt a5.obj
  have eN := hn.next
  have i1 := islW (cs := [.rsl q1 0 z1.length c1, .rsl q2 0 z2.length c2]) (r := T.next) (IsL.new (n := 0) a4 hn.rd.desc [V.nil, V.nil]) (by omega)
  have i2 := islW (cs := [.rsl q1 0 z1.length c1, .rsl q2 0 z2.length c2]) (r := T.next) (IsL.new (n := 0) a5 hn.rd.desc [V.nil, V.nil]) (by omega)
  have t2 := (hn.behind [V.nil, V.nil]).wrote h1.desc (q := T.next) (by omega) (.inr hn.next) [.rsl q1 0 z1.length c1, .rsl q2 0 z2.length c2]
  have k2 := t2.keep 0 _ (by omega) (by simp) k1
  have eT : ((T.new [V.nil, V.nil]).write T.next [.rsl q1 0 z1.length c1, .rsl q2 0 z2.length c2]).next = T.next + 1 := rfl
  generalize (T.new [V.nil, V.nil]).write T.next [.rsl q1 0 z1.length c1, .rsl q2 0 z2.length c2] = T2 at st m2 i1 i2 t2 k2 eT
  have big : ∀ {U : Sto Sy} {P : Int}, Nw bs1 1 P [] S1 U → T.next < U.next → Go.Sx.look U.obs T.next = some [.rsl q1 0 z1.length c1, .rsl q2 0 z2.length c2] → Desc U.next U.obs ∧ U.low ≤ U.next ∧ 1 < U.next ∧ (∃ p, Go.Sx.look U.obs 1 = some [.slice (u8s bs1), .int .i64 (.c p)]) ∧
      obsIn (fun o => [T.next, q1, q2].contains o) (onlyObs [T.next] U.obs) = true ∧ obsIn (fun o => [1].contains o) (onlyObs [1] U.obs) = true ∧ Go.Sx.look (onlyObs [T.next] U.obs) T.next = some [.rsl q1 0 z1.length c1, .rsl q2 0 z2.length c2] := by
    intro U P tU hUn mU
    have dU := tU.rd.desc
    have := tU.low
    have := tU.rd.lt
    obtain ⟨p, _, hp⟩ := tU.rd
    refine ⟨dU, by omega, by omega, ⟨p, hp.obj⟩, obsIn_of dU (fun k hk b hb => ?_), obsIn_of dU (fun k hk b hb => ?_), ?_⟩
    · have hk : k = T.next := by simpa using hk
      subst hk
      rw [mU] at hb
      cases hb
      simp [inNs, V.inN]
    · have hk : k = 1 := by simpa using hk
      subst hk
      rw [hp.obj] at hb
      cases hb
      simp [inNs, V.inN, inNs_u8s]
    · rw [onlyObs_look, if_pos (by simp)]; exact mU
  have fin : ∀ {U s2 : Sto Sy} {P Q : Int} {q3 : Nat} {z3 : List Int} {c3 : Option Nat}, Nw bs1 1 P [] S1 U → Nw bs1 1 Q [] U s2 → T.next < U.next → IsL U.obs q1 z1 (.rsl q1 0 z1.length c1) → IsL U.obs q2 z2 (.rsl q2 0 z2.length c2) → U.next ≤ q3 → IsL s2.obs q3 z3 (.rsl q3 0 z3.length c3) → Fit z3 → Go.Sx.look s2.obs 0 = some [V.nil, V.nil] →
      ∀ tm : Tr (V Sy), tm.get .any 2 = .ptr 0 0 → tm.get .any 3 = .rsl q3 0 z3.length c3 → ∃ r, answer (tiOf Try.prog) ⟨tm, s2.write 0 [.rsl q1 0 z1.length c1, .rsl q2 0 z2.length c2]⟩ 0 [.cell 2 25, .tmp 3] = some r ∧
      ∃ v1 v2 v3 q1 q2 q3 z1 z2 z3, r.1 = .tup [.agg [v1, v2], v3] ∧ q1 ≠ q2 ∧ q1 ≠ q3 ∧ q2 ≠ q3 ∧ IsL r.2.obs q1 z1 v1 ∧ IsL r.2.obs q2 z2 v2 ∧ IsL r.2.obs q3 z3 v3 ∧ Fit z1 ∧ Fit z2 ∧ Fit z3 := by
    intro U s2 P Q q3 z3 c3 tU ts hUn i1 i2 hq3 i3 f3 k0 tm g2 g3
    have mF := lookW (a := V.rsl q1 0 z1.length c1) (b := V.rsl q2 0 z2.length c2) k0
    have y1 := islW (cs := [.rsl q1 0 z1.length c1, .rsl q2 0 z2.length c2]) (r := 0) (i1.keep ts (by omega) (by simp)) (by omega)
    have y2 := islW (cs := [.rsl q1 0 z1.length c1, .rsl q2 0 z2.length c2]) (r := 0) (i2.keep ts (by omega) (by simp)) (by omega)
    have y3 := islW (cs := [.rsl q1 0 z1.length c1, .rsl q2 0 z2.length c2]) (r := 0) i3 (by omega)
    generalize s2.write 0 [V.rsl q1 0 z1.length c1, .rsl q2 0 z2.length c2] = s3 at mF y1 y2 y3
    refine ⟨(.tup [.agg [.rsl q1 0 z1.length c1, .rsl q2 0 z2.length c2], .rsl q3 0 z3.length c3], s3.trim 0 (.tup [.agg [.rsl q1 0 z1.length c1, .rsl q2 0 z2.length c2], .rsl q3 0 z3.length c3])), ?_, _, _, _, q1, q2, q3, z1, z2, z3, rfl, a3, by omega, by omega, y1.trimIn (by simp [V.refs, refsL]), y2.trimIn (by simp [V.refs, refsL]), y3.trimIn (by simp [V.refs, refsL]), a6, a7, f3⟩
    simp [answer, aresults, aresult, g2, g3, loadP mF]
  have lS := loadS (S := T2) (i := 0) m2 rfl
  by_cases c0 : z1 = []
  · have c0a : ((z1.length : Int) == 0) = true := by simp [c0]
    repeat' (first | refine Wp.seq ?_ | refine Wp.block ?_ | (apply Wp.region; focus ((try simp [setArgs, allocP, hr, hc, st, lS, c0a]) <;> rfl)) | (refine Wp.cond_t ?_ ?_; focus (simp [setArgs, allocP, hr, hc, st, lS, c0a]; done)) | (refine Wp.cond_f ?_ ?_; focus (simp [setArgs, allocP, hr, hc, st, lS, c0a]; done)) | refine Wp.skip ?_ | refine Wp.ret ?_ | refine Wp.exit ?_ | refine Blk.here ?_ | (refine Blk.past ?_ ?_; focus (simp; done)))
    have mU := m2
    have hUn : T.next < T2.next := by omega
    obtain ⟨dU, lU, lt1, ⟨pU, oU⟩, ob5, ob1, mO⟩ := big t2 hUn mU
    have l1U : q1 < T2.next := by omega
    have l2U : q2 < T2.next := by omega
    obtain ⟨v3, S9, hc9, hn9, q3, z3, hq3, hz3, _, hl3, hb3⟩ := someSeries bs1 hbs (rdyOnly t2.rd) (by omega) (m + 99) (by omega)
    obtain ⟨w3, W9, hd9, hm9, _⟩ := someSeries bs1 hbs (t2.rd.lows T2.next) (by omega) (m + 99) (by omega)
    have hble : Nat.ble T2.next W9.low = false := by have := hm9.low; rw [Bool.eq_false_iff, ne_eq, Nat.ble_eq]; omega
    obtain ⟨c3, rfl, hc3⟩ := hz3.val
    obtain ⟨j1, j2⟩ := joined t2.rd hn9
    obtain ⟨s2, hs2⟩ : ∃ s2 : Sto Sy, s2 = ⟨S9.next, takeNew T2.next S9.obs ++ over [1] S9.obs T2.obs, if Nat.blt S9.low T2.low then S9.low else T2.low⟩ := ⟨_, rfl⟩
    rw [← hs2] at j1
    have i3 : IsL s2.obs q3 z3 (.rsl q3 0 z3.length c3) := ⟨⟨c3, rfl, hc3⟩, by rw [hs2]; exact j2 _ _ hq3 hz3.obj⟩
    have k0 := j1.keep 0 _ (by omega) (by simp) k2
    have loadF := loadP (S := ⟨T2.next, T2.obs, T2.next⟩) mU
    have loadFS := loadS (S := ⟨T2.next, T2.obs, T2.next⟩) (i := 0) mU rfl
    have loadO := loadP (S := ⟨T2.next, onlyObs [T.next] T2.obs, T2.next⟩) mO
    have loadOS := loadS (S := ⟨T2.next, onlyObs [T.next] T2.obs, T2.next⟩) (i := 0) mO rfl
    have tk := takeNew_id dU
    have obN : obsIn (fun o => [1].contains o) (onlyObs [] T2.obs) = true := by rw [onlyObs_nil]; rfl
    have obT : obsIn (fun o => [T.next].contains o) (onlyObs [] T2.obs) = true := by rw [onlyObs_nil]; rfl
    refine drawX (tm2 := ?tmx1) (st' := ?stnx1) (s2 := s2) 3 (by kernel_rfl) (by kernel_rfl) (by kernel_rfl) (fun F => ?g1x1) (fun F => ?g2x1) ?g3x1 ?g4x1
    case g1x1 =>
      simp [dhead, seenBy, keepOnly, looks, joinN, addN, bite_eq, Op.operands, Call.operands, loadF, loadFS, tk, hd9, hble]
    case g2x1 =>
      refine (xpure (v := .agg [.rsl q1 0 z1.length c1, .rsl q2 0 z2.length c2]) [T.next] [T.next, q1, q2] (by simp [shown, sightOf, rootsOf, looks, Op.operands, Call.operands, V.refs, deeper, reach, mU, refsL, refs_nums]) (by simp only [fitX, ob5]; simp [temsIn, looks, Op.operands, Call.operands, V.inN, hUn, l1U, l2U, lt1]) (by simp [wants]) (by simp [seenX, keepOnly, looks, Op.operands, Call.operands, loadO, loadOS]) dU lU (fun q hq => by simp at hq; omega) (by simp [apart, hUn, l1U, l2U])).trans ?_
      refine (xpure (v := .ptr 1 0) [] [1] (by simp [shown, sightOf, rootsOf, looks, Op.operands, Call.operands, V.refs, deeper, reach, mU, refsL, refs_nums]) (by simp only [fitX, obN]; simp [temsIn, looks, Op.operands, Call.operands, V.inN, hUn, l1U, l2U, lt1]) (by simp [wants]) (by simp [seenX, keepOnly, looks, Op.operands, Call.operands, loadO, loadOS]) dU lU (fun q hq => by simp at hq; omega) (by simp [apart, hUn, l1U, l2U])).trans ?_
      refine (xcall (p := 1) (s := S9) (v := .rsl q3 0 z3.length c3) (by simp [shown, sightOf, rootsOf, looks, Op.operands, Call.operands, V.refs, deeper, reach, oU, refsL, refs_u8s]) (by simp only [fitX, ob1]; simp [temsIn, looks, Op.operands, Call.operands, V.inN, hUn, l1U, l2U, lt1]) (by simp [wants]) (by simp [seenX, keepOnly, looks, Op.operands, Call.operands, hc9]) dU hn9.rd.desc hn9.next hn9.low (by rw [oU]; rfl) (by simp [apart, hUn, l1U, l2U, lt1]; omega)).trans ?_
      rw [hs2]
    case g3x1 =>
      simp [storeP (v := .rsl q1 0 z1.length c1) (w := .rsl q2 0 z2.length c2) k0 rfl rfl]; rfl
    case g4x1 =>
      repeat' (first | refine Wp.seq ?_ | refine Wp.block ?_ | (apply Wp.region; focus ((try simp []) <;> rfl)) | (refine Wp.cond_t ?_ ?_; focus (simp []; done)) | (refine Wp.cond_f ?_ ?_; focus (simp []; done)) | refine Wp.skip ?_ | refine Wp.ret ?_ | refine Wp.exit ?_ | refine Blk.here ?_ | (refine Blk.past ?_ ?_; focus (simp; done)))
      exact ⟨rfl, fin t2 j1 hUn (i1) (i2) hq3 i3 (Fit.of hl3 hb3) k0 _ (by simp) (by simp)⟩
  have c0b : ((z1.length : Int) == 0) = false := by simp [c0]
  obtain ⟨x, T3, hx, hn3, hx1, hx2⟩ := pickC bs1 hbs t2.rd (by omega) 24 (by omega) (m + 99) (by omega)
  have t3 := t2.trans h1.desc hn3 (by simp)
  have e3 := hn3.next
  have m3 := hn3.keep _ _ (by omega) (by simp) m2
  have k3 := hn3.keep 0 _ (by omega) (by simp) k2
  have i13 := i1.keep hn3 (by omega) (by simp)
  have i23 := i2.keep hn3 (by omega) (by simp)
  by_cases c1x : x = 0
  · subst c1x
    repeat' (first | refine Wp.seq ?_ | refine Wp.block ?_ | (apply Wp.region; focus ((try simp [setArgs, allocP, hr, hc, st, lS, c0b, hx]) <;> rfl)) | (refine Wp.cond_t ?_ ?_; focus (simp [setArgs, allocP, hr, hc, st, lS, c0b, hx]; done)) | (refine Wp.cond_f ?_ ?_; focus (simp [setArgs, allocP, hr, hc, st, lS, c0b, hx]; done)) | refine Wp.skip ?_ | refine Wp.ret ?_ | refine Wp.exit ?_ | refine Blk.here ?_ | (refine Blk.past ?_ ?_; focus (simp; done)))
    have mU := m3
    have hUn : T.next < T3.next := by omega
    obtain ⟨dU, lU, lt1, ⟨pU, oU⟩, ob5, ob1, mO⟩ := big t3 hUn mU
    have l1U : q1 < T3.next := by omega
    have l2U : q2 < T3.next := by omega
    obtain ⟨v3, S9, hc9, hn9, q3, z3, hq3, hz3, _, hl3, hb3⟩ := someSeries bs1 hbs (rdyOnly t3.rd) (by omega) (m + 99) (by omega)
    obtain ⟨w3, W9, hd9, hm9, _⟩ := someSeries bs1 hbs (t3.rd.lows T3.next) (by omega) (m + 99) (by omega)
    have hble : Nat.ble T3.next W9.low = false := by have := hm9.low; rw [Bool.eq_false_iff, ne_eq, Nat.ble_eq]; omega
    obtain ⟨c3, rfl, hc3⟩ := hz3.val
    obtain ⟨j1, j2⟩ := joined t3.rd hn9
    obtain ⟨s2, hs2⟩ : ∃ s2 : Sto Sy, s2 = ⟨S9.next, takeNew T3.next S9.obs ++ over [1] S9.obs T3.obs, if Nat.blt S9.low T3.low then S9.low else T3.low⟩ := ⟨_, rfl⟩
    rw [← hs2] at j1
    have i3 : IsL s2.obs q3 z3 (.rsl q3 0 z3.length c3) := ⟨⟨c3, rfl, hc3⟩, by rw [hs2]; exact j2 _ _ hq3 hz3.obj⟩
    have k0 := j1.keep 0 _ (by omega) (by simp) k3
    have loadF := loadP (S := ⟨T3.next, T3.obs, T3.next⟩) mU
    have loadFS := loadS (S := ⟨T3.next, T3.obs, T3.next⟩) (i := 0) mU rfl
    have loadO := loadP (S := ⟨T3.next, onlyObs [T.next] T3.obs, T3.next⟩) mO
    have loadOS := loadS (S := ⟨T3.next, onlyObs [T.next] T3.obs, T3.next⟩) (i := 0) mO rfl
    have tk := takeNew_id dU
    have obN : obsIn (fun o => [1].contains o) (onlyObs [] T3.obs) = true := by rw [onlyObs_nil]; rfl
    have obT : obsIn (fun o => [T.next].contains o) (onlyObs [] T3.obs) = true := by rw [onlyObs_nil]; rfl
    refine drawX (tm2 := ?tmx2) (st' := ?stnx2) (s2 := s2) 3 (by kernel_rfl) (by kernel_rfl) (by kernel_rfl) (fun F => ?g1x2) (fun F => ?g2x2) ?g3x2 ?g4x2
    case g1x2 =>
      simp [dhead, seenBy, keepOnly, looks, joinN, addN, bite_eq, Op.operands, Call.operands, loadF, loadFS, tk, hd9, hble]
    case g2x2 =>
      refine (xpure (v := .agg [.rsl q1 0 z1.length c1, .rsl q2 0 z2.length c2]) [T.next] [T.next, q1, q2] (by simp [shown, sightOf, rootsOf, looks, Op.operands, Call.operands, V.refs, deeper, reach, mU, refsL, refs_nums]) (by simp only [fitX, ob5]; simp [temsIn, looks, Op.operands, Call.operands, V.inN, hUn, l1U, l2U, lt1]) (by simp [wants]) (by simp [seenX, keepOnly, looks, Op.operands, Call.operands, loadO, loadOS]) dU lU (fun q hq => by simp at hq; omega) (by simp [apart, hUn, l1U, l2U])).trans ?_
      refine (xpure (v := .ptr 1 0) [] [1] (by simp [shown, sightOf, rootsOf, looks, Op.operands, Call.operands, V.refs, deeper, reach, mU, refsL, refs_nums]) (by simp only [fitX, obN]; simp [temsIn, looks, Op.operands, Call.operands, V.inN, hUn, l1U, l2U, lt1]) (by simp [wants]) (by simp [seenX, keepOnly, looks, Op.operands, Call.operands, loadO, loadOS]) dU lU (fun q hq => by simp at hq; omega) (by simp [apart, hUn, l1U, l2U])).trans ?_
      refine (xcall (p := 1) (s := S9) (v := .rsl q3 0 z3.length c3) (by simp [shown, sightOf, rootsOf, looks, Op.operands, Call.operands, V.refs, deeper, reach, oU, refsL, refs_u8s]) (by simp only [fitX, ob1]; simp [temsIn, looks, Op.operands, Call.operands, V.inN, hUn, l1U, l2U, lt1]) (by simp [wants]) (by simp [seenX, keepOnly, looks, Op.operands, Call.operands, hc9]) dU hn9.rd.desc hn9.next hn9.low (by rw [oU]; rfl) (by simp [apart, hUn, l1U, l2U, lt1]; omega)).trans ?_
      rw [hs2]
    case g3x2 =>
      simp [storeP (v := .rsl q1 0 z1.length c1) (w := .rsl q2 0 z2.length c2) k0 rfl rfl]; rfl
    case g4x2 =>
      repeat' (first | refine Wp.seq ?_ | refine Wp.block ?_ | (apply Wp.region; focus ((try simp []) <;> rfl)) | (refine Wp.cond_t ?_ ?_; focus (simp []; done)) | (refine Wp.cond_f ?_ ?_; focus (simp []; done)) | refine Wp.skip ?_ | refine Wp.ret ?_ | refine Wp.exit ?_ | refine Blk.here ?_ | (refine Blk.past ?_ ?_; focus (simp; done)))
      exact ⟨rfl, fin t3 j1 hUn (i13) (i23) hq3 i3 (Fit.of hl3 hb3) k0 _ (by simp) (by simp)⟩
  have c1b : (x == 0) = false := by simp [c1x]
  repeat' (first | refine Wp.seq ?_ | refine Wp.block ?_ | (apply Wp.region; focus ((try simp [setArgs, allocP, hr, hc, st, lS, c0b, hx, c1b, c1x]) <;> rfl)) | (refine Wp.cond_t ?_ ?_; focus (simp [setArgs, allocP, hr, hc, st, lS, c0b, hx, c1b, c1x]; done)) | (refine Wp.cond_f ?_ ?_; focus (simp [setArgs, allocP, hr, hc, st, lS, c0b, hx, c1b, c1x]; done)) | refine Wp.skip ?_ | refine Wp.ret ?_ | refine Wp.exit ?_ | refine Blk.here ?_ | (refine Blk.past ?_ ?_; focus (simp; done)))
  have mU := m3
  have hUn : T.next < T3.next := by omega
  obtain ⟨dU, lU, lt1, ⟨pU, oU⟩, ob5, ob1, mO⟩ := big t3 hUn mU
  have l1U : q1 < T3.next := by omega
  have l2U : q2 < T3.next := by omega
  obtain ⟨v3, S9, hc9, hn9, q3, z3, hq3, hz3, hl3, hb3⟩ := seriesOf bs1 hbs (rdyOnly t3.rd) (by omega) z1.length a6.1 (m + 99) (by omega)
  obtain ⟨w3, W9, hd9, hm9, _⟩ := seriesOf bs1 hbs (t3.rd.lows T3.next) (by omega) z1.length a6.1 (m + 99) (by omega)
  have hble : Nat.ble T3.next W9.low = false := by have := hm9.low; rw [Bool.eq_false_iff, ne_eq, Nat.ble_eq]; omega
  obtain ⟨c3, rfl, hc3⟩ := hz3.val
  obtain ⟨j1, j2⟩ := joined t3.rd hn9
  obtain ⟨s2, hs2⟩ : ∃ s2 : Sto Sy, s2 = ⟨S9.next, takeNew T3.next S9.obs ++ over [1] S9.obs T3.obs, if Nat.blt S9.low T3.low then S9.low else T3.low⟩ := ⟨_, rfl⟩
  rw [← hs2] at j1
  have i3 : IsL s2.obs q3 z3 (.rsl q3 0 z3.length c3) := ⟨⟨c3, rfl, hc3⟩, by rw [hs2]; exact j2 _ _ hq3 hz3.obj⟩
  have k0 := j1.keep 0 _ (by omega) (by simp) k3
  have loadF := loadP (S := ⟨T3.next, T3.obs, T3.next⟩) mU
  have loadFS := loadS (S := ⟨T3.next, T3.obs, T3.next⟩) (i := 0) mU rfl
  have loadO := loadP (S := ⟨T3.next, onlyObs [T.next] T3.obs, T3.next⟩) mO
  have loadOS := loadS (S := ⟨T3.next, onlyObs [T.next] T3.obs, T3.next⟩) (i := 0) mO rfl
  have tk := takeNew_id dU
  have obN : obsIn (fun o => [1].contains o) (onlyObs [] T3.obs) = true := by rw [onlyObs_nil]; rfl
  have obT : obsIn (fun o => [T.next].contains o) (onlyObs [] T3.obs) = true := by rw [onlyObs_nil]; rfl
  have iU := i13
  have obQ : obsIn (fun o => [q1].contains o) (onlyObs [q1] T3.obs) = true := obsIn_of dU (fun k hk b hb => by
    have hk : k = q1 := by simpa using hk
    subst hk
    rw [iU.obj] at hb
    cases hb
    exact inNs_nums _)
  refine drawX (tm2 := ?tmx3) (st' := ?stnx3) (s2 := s2) 6 (by kernel_rfl) (by kernel_rfl) (by kernel_rfl) (fun F => ?g1x3) (fun F => ?g2x3) ?g3x3 ?g4x3
  case g1x3 =>
    simp [dhead, seenBy, keepOnly, looks, joinN, addN, bite_eq, Op.operands, Call.operands, loadF, loadFS, tk, hd9, hble]
  case g2x3 =>
    refine (xpure (v := .agg [.rsl q1 0 z1.length c1, .rsl q2 0 z2.length c2]) [T.next] [T.next, q1, q2] (by simp [shown, sightOf, rootsOf, looks, Op.operands, Call.operands, V.refs, deeper, reach, mU, refsL, refs_nums]) (by simp only [fitX, ob5]; simp [temsIn, looks, Op.operands, Call.operands, V.inN, hUn, l1U, l2U, lt1]) (by simp [wants]) (by simp [seenX, keepOnly, looks, Op.operands, Call.operands, loadO, loadOS]) dU lU (fun q hq => by simp at hq; omega) (by simp [apart, hUn, l1U, l2U])).trans ?_
    refine (xpure (v := .ptr 1 0) [] [1] (by simp [shown, sightOf, rootsOf, looks, Op.operands, Call.operands, V.refs, deeper, reach, mU, refsL, refs_nums]) (by simp only [fitX, obN]; simp [temsIn, looks, Op.operands, Call.operands, V.inN, hUn, l1U, l2U, lt1]) (by simp [wants]) (by simp [seenX, keepOnly, looks, Op.operands, Call.operands, loadO, loadOS]) dU lU (fun q hq => by simp at hq; omega) (by simp [apart, hUn, l1U, l2U])).trans ?_
    refine (xpure (v := .ptr T.next 0) [] [T.next] (by simp [shown, sightOf, rootsOf, looks, Op.operands, Call.operands, V.refs, deeper, reach, mU, refsL, refs_nums]) (by simp only [fitX, obT]; simp [temsIn, looks, Op.operands, Call.operands, V.inN, hUn, l1U, l2U, lt1]) (by simp [wants]) (by simp [seenX, keepOnly, looks, Op.operands, Call.operands, loadO, loadOS]) dU lU (fun q hq => by simp at hq; omega) (by simp [apart, hUn, l1U, l2U])).trans ?_
    refine (xpure (v := .rsl q1 0 z1.length c1) [T.next] [T.next, q1, q2] (by simp [shown, sightOf, rootsOf, looks, Op.operands, Call.operands, V.refs, deeper, reach, mU, refsL, refs_nums]) (by simp only [fitX, ob5]; simp [temsIn, looks, Op.operands, Call.operands, V.inN, hUn, l1U, l2U, lt1]) (by simp [wants]) (by simp [seenX, keepOnly, looks, Op.operands, Call.operands, loadO, loadOS]) dU lU (fun q hq => by simp at hq; omega) (by simp [apart, hUn, l1U, l2U])).trans ?_
    refine (xpure (v := .int .i64 (.c z1.length)) [q1] [q1] (by simp [shown, sightOf, rootsOf, looks, Op.operands, Call.operands, V.refs, deeper, reach, mU, refsL, refs_nums, iU.obj]) (by simp only [fitX, obQ]; simp [temsIn, looks, Op.operands, Call.operands, V.inN, hUn, l1U, l2U, lt1]) (by simp [wants]) (by simp [seenX, keepOnly, looks, Op.operands, Call.operands, loadO, loadOS]) dU lU (fun q hq => by simp at hq; omega) (by simp [apart, hUn, l1U, l2U])).trans ?_
    refine (xcall (p := 1) (s := S9) (v := .rsl q3 0 z3.length c3) (by simp [shown, sightOf, rootsOf, looks, Op.operands, Call.operands, V.refs, deeper, reach, oU, refsL, refs_u8s]) (by simp only [fitX, ob1]; simp [temsIn, looks, Op.operands, Call.operands, V.inN, hUn, l1U, l2U, lt1]) (by simp [wants]) (by simp [seenX, keepOnly, looks, Op.operands, Call.operands, hc9]) dU hn9.rd.desc hn9.next hn9.low (by rw [oU]; rfl) (by simp [apart, hUn, l1U, l2U, lt1]; omega)).trans ?_
    rw [hs2]
  case g3x3 =>
    simp [storeP (v := .rsl q1 0 z1.length c1) (w := .rsl q2 0 z2.length c2) k0 rfl rfl]; rfl
  case g4x3 =>
    repeat' (first | refine Wp.seq ?_ | refine Wp.block ?_ | (apply Wp.region; focus ((try simp []) <;> rfl)) | (refine Wp.cond_t ?_ ?_; focus (simp []; done)) | (refine Wp.cond_f ?_ ?_; focus (simp []; done)) | refine Wp.skip ?_ | refine Wp.ret ?_ | refine Wp.exit ?_ | refine Blk.here ?_ | (refine Blk.past ?_ ?_; focus (simp; done)))
    exact ⟨rfl, fin t3 j1 hUn (i13) (i23) hq3 i3 (Fit.of (by have := a6.1; omega) (fun z hz => by have := hb3 z hz; omega)) k0 _ (by simp) (by simp)⟩
end
end Go.Proofs.Ytjodjcmdlbhciaa.Draw

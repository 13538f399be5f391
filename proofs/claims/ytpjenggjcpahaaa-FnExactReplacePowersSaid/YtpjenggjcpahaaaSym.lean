/-
  Ways to part things: laws over two lists, contracts of functions of lists that are known.
-/
import Derived.Test.YtpjenggjcpahaaaSymB
import Derived.ProofKit
import Derived.OpenShut
import Derived.Lib.SmallJoins
set_option linter.unusedVariables false
set_option linter.unusedSimpArgs false
/-
  Laws over two lists that may be ways to part things: ways of one length as they stand, all else by what is told of lists that are not looked into.
-/
namespace Go.Sx
open Go.RowKit

noncomputable def findW (j : Nat) : List (Nat × Bool) → Option Bool
  | [] => none
  | (i, q) :: r => bite (Nat.beq i j) (some q) (findW j r)
theorem findW_mem {j : Nat} {q : Bool} : ∀ {l : List (Nat × Bool)}, findW j l = some q → (j, q) ∈ l := by
  intro l
  induction l with
  | nil => intro h; cases h
  | cons e r ih =>
    intro h
    obtain ⟨i, p⟩ := e
    simp only [findW, bite_eq] at h
    split at h
    · rename_i hk
      have := Nat.eq_of_beq_eq_true hk
      subst this; cases h; simp
    · exact List.mem_cons_of_mem _ (ih h)

/-- Is a list that is not looked into a way to part things? As is told. -/
noncomputable def partB (U : PIds) (Vp : List (Nat × Bool)) : Ctr := fun k args sto =>
  bite (Nat.beq k U.isWay || Nat.beq k U.validPart) (match args with
  | [.brs o j m] => bite (isBig sto o j) (match findW j Vp with
    | some q => some (.bool q, sto)
    | none => none) none
  | _ => none) none

theorem partB_ok {P : Program} {U : PIds} (hU : U.Ok P) {ρ : Nat → Int} {s : Sms} {B : Nat} {Vp : List (Nat × Bool)} (hV : ∀ e, e ∈ Vp → isPart (s.l e.1) = e.2)
    (hs : ∀ j, 1 ≤ (s.l j).length ∧ (s.l j).length ≤ 1048576) (hw : ∀ j z, z ∈ s.l j → IntKind.i64.wrap z = z) : COk P ⟨Sy.den ρ, s⟩ B (partB U Vp) := by
  intro k args sto r sto' h
  unfold partB at h
  rw [bite_eq] at h
  split at h
  case isFalse => cases h
  rename_i hk
  have hk : k = U.isWay ∨ k = U.validPart := by
    rw [Bool.or_eq_true] at hk
    exact hk.imp Nat.eq_of_beq_eq_true Nat.eq_of_beq_eq_true
  split at h
  · rename_i o j m
    rw [bite_eq] at h
    split at h
    · rename_i hbig
      have hl := isBig_look hbig
      split at h
      · rename_i q hq
        cases h
        refine ⟨?_, hU.body k hk⟩
        obtain ⟨S, hrun⟩ := hU.part k hk (s.l j) (hs j).2 (hw j)
        have hp : isPart (s.l j) = q := hV _ (findW_mem hq)
        rw [hp] at hrun
        refine lift_plain (ρ' := ρ) (hrun ρ s) (fun c hinv vs hv => ?_) rfl (.bool _)
        obtain ⟨v, rfl, hv2⟩ := hv.one
        exact .cons (brs_data hinv hl hv2) .nil
      · cases h
    · cases h
  · cases h

noncomputable def LawU.kAll (D : Ids) (t : List Summ) (l : LawU) (X : Ctr) (es : List Nat) (G : List Fact) : Ctr :=
  orK X (orK (orK (bigK D (entsL es l.bds l.xs) (bentsL es l.bds 0)) (uK D (G ++ l.facts es) (entsL es l.bds l.xs) (bentsL es l.bds 0))) (summK t))
/-- One run over lists that are not looked into, with what is told besides. -/
noncomputable def LawU.runX (P : Program) (D : Ids) (t : List Summ) (N : Nat) (l : LawU) (X : Ctr) (es : List Nat) (G : List Fact) : Bool :=
  saysTrue (symRun P (l.kAll D t X es G) (G ++ l.facts es) N l.k (l.args (argsL es l.xs 0) (ints (restL es l.xs))) ⟨0, [], 0⟩)

def esOf (Ls : List (List Int)) : List Nat := Ls.map fun ls => if ls = [] then 0 else 1
def smsOf (Ls : List (List Int)) : Sms := ⟨fun _ _ => ByteArray.empty, fun j => if (Ls.getD j []) = [] then [0] else Ls.getD j []⟩

theorem LawU.okX {P : Program} (hG : NoCount P) (hm : P.follows .mixedOrders = true) {D : Ids} (hD : D.Ok P) {t : List Summ} (ht : ∀ e, e ∈ t → e.Ok P) {N : Nat} {l : LawU}
    (h1 : l.huge P N = true) (hn : 7 * l.bds.length + l.m ≤ 40)
    {w : World} {Ls : List (List Int)} {lv : List Value} {I : List Int} {rargs : Array Value} (hL : AllL w Ls lv) (hlen : Ls.length = l.bds.length) (hwf : ∀ ls, ls ∈ Ls → (∀ z, z ∈ ls → IntKind.i64.wrap z = z) ∧ ls.length ≤ 9223372036854775807)
    (hI : I.length = l.m) (hwI : ∀ z, z ∈ I → IntKind.i64.wrap z = z)
    (hA : ∀ (ρ : Nat → Int) (s : Sms) (ll : List (V Sy)) (xi : List Sy), VRs ⟨Sy.den ρ, s⟩ w.heap.size ⟨w, fun _ => none⟩ ll lv → VRs ⟨Sy.den ρ, s⟩ w.heap.size ⟨w, fun _ => none⟩ (ints xi) (intVs I) → VRs ⟨Sy.den ρ, s⟩ w.heap.size ⟨w, fun _ => none⟩ (l.args ll (ints xi)) rargs.toList)
    (hT : ∀ (ρ : Nat → Int) (ys : List Sy), ys.map (Sy.den ρ) = Ls.map (fun l => (l.length : Int)) → (∀ p, p ∈ l.tests ys → ¬ p.1.den ρ < p.2.den ρ) → ∀ ls, ls ∈ Ls → ls.length ≤ 1048576)
    (hT2 : ∀ (ρ : Nat → Int) (ys zs : List Sy), ys.map (Sy.den ρ) = zs.map (Sy.den ρ) → (l.tests ys).map (fun p => (p.1.den ρ, p.2.den ρ)) = (l.tests zs).map (fun p => (p.1.den ρ, p.2.den ρ)))
    (h2 : (∀ ls, ls ∈ Ls → ls.length ≤ 1048576) → ∃ (X : Ctr) (G : List Fact), l.runX P D t N X (esOf Ls) G = true ∧
      ∀ ρ : Nat → Int, l.xs.map (Sy.den ρ) = flat Ls I → (∀ f, f ∈ G → f.Ok ρ) ∧ ∀ B, (∀ j, 1 ≤ ((smsOf Ls).l j).length ∧ ((smsOf Ls).l j).length ≤ 1048576) → (∀ j z, z ∈ (smsOf Ls).l j → IntKind.i64.wrap z = z) → COk P ⟨Sy.den ρ, smsOf Ls⟩ B X) :
    LawTrue P l.k rargs w := by
  have hintsV : ∀ (ρ : Nat → Int) (s : Sms) (xi : List Sy), xi.map (Sy.den ρ) = I → VRs ⟨Sy.den ρ, s⟩ w.heap.size ⟨w, fun _ => none⟩ (ints xi) (intVs I) := by
    intro ρ s xi hxi
    subst hxi
    refine ⟨by simp [intVs], fun i x v hx hv => ?_⟩
    rw [ints_get] at hx
    rw [intVs, List.map_map, List.getElem?_map] at hv
    cases hz : xi[i]? with
    | none => rw [hz] at hx; simp at hx
    | some z => rw [hz] at hx hv; simp at hx hv; subst hx; subst hv; exact .int _ _
  have hfl := flat_len Ls I
  rw [hlen, hI] at hfl
  have hvx := vxs_den (zs := flat Ls I) (by rw [hfl]; omega) (flat_wf hwf hwI)
  rw [hfl] at hvx
  generalize hρ : (fun i => (flat Ls I).getD i 0) = ρ at hvx
  have hxs : l.xs.map (Sy.den ρ) = flat Ls I := hvx
  have hsl : ∀ (i : Nat) (ls : List Int), Ls[i]? = some ls → ls ≠ [] → (smsOf Ls).l (0 + i) = ls := by
    intro i ls hi hne
    have : Ls.getD i [] = ls := by simp [List.getD, hi]
    simp only [smsOf, Nat.zero_add]
    rw [this, if_neg hne]
  have hget : ∀ j, Ls.getD j [] = [] ∨ Ls.getD j [] ∈ Ls := by
    intro j
    rcases Nat.lt_or_ge j Ls.length with h | h
    · right; simp [List.getD, h]
    · left; simp [List.getD, List.getElem?_eq_none h]
  have hlen1 : (lensL (l.bds.map fun _ => 1) l.xs).map (Sy.den ρ) = Ls.map (fun l => (l.length : Int)) := by
    have aux : ∀ {Ls : List (List Int)} {bds : List Int} {xs : List Sy}, Ls.length = bds.length → xs.map (Sy.den ρ) = flat Ls I → (lensL (bds.map fun _ => 1) xs).map (Sy.den ρ) = Ls.map (fun l => (l.length : Int)) := by
      intro Ls
      induction Ls with
      | nil => intro bds xs hb _; cases bds with
        | nil => rfl
        | cons a b => simp at hb
      | cons a r ih =>
        intro bds xs hb hx
        cases bds with
        | nil => simp at hb
        | cons bd bs =>
          obtain ⟨c1, c2, _⟩ := flat_cut hx
          simp only [List.map_cons, lensL, List.cons.injEq]
          exact ⟨c1, ih (by simpa using hb) c2⟩
    exact aux hlen hxs
  by_cases hall : ∀ p, p ∈ l.testsAt (l.bds.map fun _ => 1) → ¬ p.1.den ρ < p.2.den ρ
  · have hsm := hT ρ _ hlen1 hall
    obtain ⟨X, G, hrun, hX⟩ := h2 hsm
    obtain ⟨hGf, hXo⟩ := hX ρ hxs
    have hst : StsOk l.bds (esOf Ls) Ls := by
      refine ⟨by simp [esOf], hlen.symm, fun j hj => ?_⟩
      have e1 : (esOf Ls).getD j 0 = if Ls.getD j [] = [] then 0 else 1 := by simp [esOf, List.getD, hj]
      rw [e1]
      have hmem : Ls.getD j [] ∈ Ls := by simp [List.getD, hj]
      by_cases he : Ls.getD j [] = []
      · rw [if_pos he]; exact ⟨fun _ => he, fun h => (h rfl).elim, fun h => by omega, fun h => by omega, fun h => by omega⟩
      · rw [if_neg he]; exact ⟨fun h => by omega, fun _ => ⟨he, hsm _ hmem⟩, fun h => by omega, fun h => by omega, fun h => by omega⟩
    have hs1 : ∀ j, 1 ≤ ((smsOf Ls).l j).length ∧ ((smsOf Ls).l j).length ≤ 1048576 := by
      intro j
      simp only [smsOf]
      split
      · simp
      · rename_i hne
        rcases hget j with h | h
        · exact (hne h).elim
        · refine ⟨?_, hsm _ h⟩
          cases hg : Ls.getD j [] with
          | nil => exact (hne hg).elim
          | cons a b => simp
    have hs2 : ∀ j z, z ∈ (smsOf Ls).l j → IntKind.i64.wrap z = z := by
      intro j z hz
      simp only [smsOf] at hz
      split at hz
      · simp at hz; subst hz; exact wrap0
      · rename_i hne
        rcases hget j with h | h
        · exact (hne h).elim
        · exact (hwf _ h).1 z hz
    have hF : ∀ f, f ∈ G ++ l.facts (esOf Ls) → f.Ok ρ := by
      intro f hf
      rcases List.mem_append.1 hf with hf | hf
      · exact hGf f hf
      · unfold LawU.facts at hf
        rcases List.mem_cons.1 hf with rfl | hf
        · refine Fact.lt_no ?_
          have := sumS_den (acc := .c 1) (b := 1) hst hxs (by simp [Sy.den]) (by simp [Sy.den]) (by omega)
          simp only [Sy.den] at this ⊢; omega
        · rcases List.mem_append.1 hf with hf | hf
          · exact factsL_ok hst hxs f hf
          refine (List.mem_append.1 hf).elim (fun hf => ?_) (fun hf => rngL_ok hst hxs f hf)
          · refine testF_ok (fun j p hp _ => ?_) f hf
            have e1 := hT2 ρ (lensL (esOf Ls) l.xs) (lensL (l.bds.map fun _ => 1) l.xs) (by rw [lensL_den hst hxs, hlen1])
            have e2 := congrArg (fun q => q[j]?) e1
            simp only [List.getElem?_map] at e2
            have hp' : (l.tests (lensL (esOf Ls) l.xs))[j]? = some p := hp
            rw [hp'] at e2
            cases hq : (l.tests (lensL (l.bds.map fun _ => 1) l.xs))[j]? with
            | none => rw [hq] at e2; cases e2
            | some q =>
              rw [hq] at e2
              simp only [Option.map_some, Option.some.injEq, Prod.mk.injEq] at e2
              rw [e2.1, e2.2]
              exact hall q (List.mem_of_getElem? hq)
    have hVe : ∀ e, e ∈ entsL (esOf Ls) l.bds l.xs → e.Ok ρ := fun e he => entsL_ok hst hxs e he
    have hBe : ∀ e, e ∈ bentsL (esOf Ls) l.bds 0 → e.Ok (smsOf Ls) := fun e he => bentsL_ok (s := smsOf Ls) (j := 0) hst hsl e he
    obtain ⟨g1, g2⟩ := argsL_rel (s := smsOf Ls) (j := 0) hL hst hxs hsl
    exact calls_true (Δ := ⟨Sy.den ρ, smsOf Ls⟩) (symRun_ok hG hm hF (orK_ok (hXo _ hs1 hs2) (orK_ok (orK_ok (bigK_ok hG hm hD hVe hBe hs1 hs2) (uK_ok hG hm hD hD.pok hF hVe hBe hs1 hs2)) (summK_ok ht))) N) (hA _ _ _ _ g1 (hintsV _ _ _ g2)) hrun
  · -- too long
    have hex : ∃ (i : Nat) (p : Sy × Sy), (l.testsAt (l.bds.map fun _ => 1))[i]? = some p ∧ p.1.den ρ < p.2.den ρ ∧ ∀ (j : Nat) (q : Sy × Sy), (l.testsAt (l.bds.map fun _ => 1))[j]? = some q → j < i → ¬ q.1.den ρ < q.2.den ρ := by
      generalize l.testsAt (l.bds.map fun _ => 1) = ts at hall
      induction ts with
      | nil => exact (hall (fun p hp => by cases hp)).elim
      | cons a r ih =>
        by_cases ha : a.1.den ρ < a.2.den ρ
        · exact ⟨0, a, rfl, ha, fun j q _ hj => by omega⟩
        · obtain ⟨i, p, k1, k2, k3⟩ := ih (fun h => hall (fun p hp => by
            rcases List.mem_cons.1 hp with rfl | hp
            · exact ha
            · exact h p hp))
          refine ⟨i + 1, p, by simpa using k1, k2, fun j q hj hji => ?_⟩
          cases j with
          | zero => simp at hj; subst hj; exact ha
          | succ j => exact k3 j q (by simpa using hj) (by omega)
    obtain ⟨i, p, k1, k2, k3⟩ := hex
    have hi := allTo_ok h1 i (List.getElem?_eq_some_iff.1 k1).1
    simp only [k1] at hi
    let s2 : Sms := ⟨fun _ _ => ByteArray.empty, fun j => Ls.getD j []⟩
    have aux : ∀ {Ls : List (List Int)} {lv : List Value} {bds : List Int} {xs : List Sy} {j : Nat}, AllL w Ls lv → Ls.length = bds.length → xs.map (Sy.den ρ) = flat Ls I → (∀ (i : Nat) (l : List Int), Ls[i]? = some l → s2.l (j + i) = l) →
        VRs ⟨Sy.den ρ, s2⟩ w.heap.size ⟨w, fun _ => none⟩ (argsL (bds.map fun _ => 1) xs j) lv ∧ (restL (bds.map fun _ => 1) xs).map (Sy.den ρ) = I := by
      intro Ls
      induction Ls with
      | nil =>
        intro lv bds xs j hL hb hx _
        cases bds with
        | cons a b => simp at hb
        | nil =>
          cases lv with
          | nil => exact ⟨.nil, hx⟩
          | cons a b => exact hL.elim
      | cons a r ih =>
        intro lv bds xs j hL hb hx hs
        cases bds with
        | nil => simp at hb
        | cons bd bs =>
          cases lv with
          | nil => exact hL.elim
          | cons v vs =>
            obtain ⟨c1, c2, _⟩ := flat_cut hx
            obtain ⟨g1, g2⟩ := ih (j := j + 1) hL.2 (by simpa using hb) c2 (fun i l' h1 => by
              have := hs (i + 1) l' (by simpa using h1)
              rwa [show j + (i + 1) = j + 1 + i by omega] at this)
            exact ⟨.cons (hL.1.big (by have := hs 0 a rfl; simpa using this) c1) g1, g2⟩
    obtain ⟨g1, g2⟩ := aux (j := 0) hL hlen hxs (fun i ls hi => by simp [s2, List.getD, hi])
    refine calls_true (Δ := ⟨Sy.den ρ, s2⟩) (symRun_ok hG hm (fun f hf => ?_) noK_ok N) (hA _ _ _ _ g1 (hintsV _ _ _ g2)) hi
    rcases List.mem_cons.1 hf with rfl | hf
    · exact Fact.lt_yes k2
    · exact testF_ok k3 f hf

/-! ## Ways of a number of things -/
def goW : Nat → Nat → List (List Int)
  | 0, _ => [[]]
  | n + 1, most => (List.range (most + 1)).flatMap fun t => (goW n (if t = most then most + 1 else most)).map fun l => (t : Int) :: l
def waysOf (n : Nat) : List (List Int) := goW n 0

theorem mem_goW : ∀ (zs : List Int) (most : Nat), partFrom (most : Int) zs = true → zs ∈ goW zs.length most := by
  intro zs
  induction zs with
  | nil => intro most _; simp [goW]
  | cons z r ih =>
    intro most h
    simp only [partFrom, Bool.and_eq_true, decide_eq_true_eq] at h
    obtain ⟨⟨h1, h2⟩, h3⟩ := h
    simp only [goW, List.length_cons, List.mem_flatMap, List.mem_range, List.mem_map]
    refine ⟨z.toNat, by omega, r, ?_, by simp; omega⟩
    have hz : (z.toNat : Int) = z := by omega
    by_cases hm : z.toNat = most
    · rw [if_pos hm]
      have : z = (most : Int) := by omega
      rw [if_pos this] at h3
      exact ih (most + 1) (by simpa using h3)
    · rw [if_neg hm]
      have : ¬ z = (most : Int) := by omega
      rw [if_neg this] at h3
      exact ih most h3
theorem mem_waysOf {zs : List Int} (h : isPart zs = true) : zs ∈ waysOf zs.length := by
  unfold isPart at h
  rw [Bool.and_eq_true] at h
  exact mem_goW zs 0 h.2
theorem isPart_len {zs : List Int} (h : isPart zs = true) : zs.length ≤ 5 := by
  unfold isPart at h
  rw [Bool.and_eq_true] at h
  exact of_decide_eq_true h.1

/-- All of a list. -/
noncomputable def allL {α : Type} (f : α → Bool) : List α → Bool
  | [] => true
  | x :: r => bite (f x) (allL f r) false
theorem allL_ok {α : Type} {f : α → Bool} : ∀ {l : List α}, allL f l = true → ∀ x, x ∈ l → f x = true := by
  intro l
  induction l with
  | nil => intro _ x hx; cases hx
  | cons a r ih =>
    intro h x hx
    simp only [allL, bite_eq] at h
    split at h
    · rename_i h1
      rcases List.mem_cons.1 hx with rfl | hx
      · exact h1
      · exact ih h x hx
    · cases h

/-- A way at a place, against all of as many things. -/
noncomputable def wayRow (f : List Int → List Int → Bool) (n i : Nat) : Bool := allL (f ((waysOf n).getD i [])) (waysOf n)
theorem wayRow_ok {f : List Int → List Int → Bool} (h : ∀ n i, n ≤ 5 → i < (waysOf n).length → wayRow f n i = true) {p q : List Int} (hp : isPart p = true) (hq : isPart q = true) (hl : p.length = q.length) : f p q = true := by
  have h1 := mem_waysOf hp
  have h2 := mem_waysOf hq
  rw [← hl] at h2
  obtain ⟨i, hi, he⟩ := List.mem_iff_getElem.1 h1
  have := h p.length i (isPart_len hp) hi
  unfold wayRow at this
  have e : (waysOf p.length).getD i [] = p := by simp [List.getD, hi, he]
  rw [e] at this
  exact allL_ok this q h2

/-- What symbols stand for where none is used. -/
def s00 : Sms := ⟨fun _ _ => ByteArray.empty, noL⟩
theorem s00_len (j : Nat) : 1 ≤ (s00.l j).length ∧ (s00.l j).length ≤ 1048576 := ⟨Nat.le_refl _, (by decide : (1 : Nat) ≤ 1048576)⟩
theorem s00_wrap (j : Nat) (z : Int) (h : z ∈ s00.l j) : IntKind.i64.wrap z = z := by
  have : z ∈ [(0 : Int)] := h
  simp at this; subst this; exact wrap0
theorem uK_00 {P : Program} (hG : NoCount P) (hm : P.follows .mixedOrders = true) {D : Ids} (hD : D.Ok P) (ρ : Nat → Int) (B : Nat) : COk P ⟨Sy.den ρ, s00⟩ B (uK D [] [] []) :=
  uK_ok hG hm hD hD.pok (by simp) (by simp) (by simp) s00_len s00_wrap
theorem bigK_00 {P : Program} (hG : NoCount P) (hm : P.follows .mixedOrders = true) {D : Ids} (hD : D.Ok P) (ρ : Nat → Int) (B : Nat) : COk P ⟨Sy.den ρ, s00⟩ B (bigK D [] []) :=
  bigK_ok hG hm hD (by simp) (by simp) s00_len s00_wrap

/-- A law's run at two lists as they stand. -/
theorem conc_true {P : Program} (hG : NoCount P) (hm : P.follows .mixedOrders = true) {K : Ctr} (hK : ∀ B, COk P ⟨Sy.den (fun _ => 0), s00⟩ B K) {N : Nat} {k : FuncId} {p q : List Int} {v0 v1 : Value} {w : World} (hp : IsList w p v0) (hq : IsList w q v1)
    (h : saysTrue (symRun P K [] N k [.slice (ints (nums p)), .slice (ints (nums q))] ⟨0, [], 0⟩) = true) : LawTrue P k #[v0, v1] w :=
  calls_true (Δ := ⟨Sy.den (fun _ => 0), s00⟩) (symRun_ok hG hm (Γ := []) (by simp) (hK _) N) (.cons (hp.2 _ _) (.cons (hq.2 _ _) .nil)) h
end Go.Sx

/-
  Contracts of functions that answer one list of numbers; of functions that copy, at lists that are known.
-/
namespace Go.Sx
open Go.RowKit

/-- A call that answers one list, its object the next one. -/
theorem lift_one {P : Program} {ρ ρ' : Nat → Int} {s : Sms} {k : FuncId} {pat : List (V Sy)} {R : V Sy} {S : Sto Sy} (hG : ∀ B', Good P ⟨Sy.den ρ', s⟩ B' k pat ⟨0, [], 0⟩ R S)
    {zs : List Int} {q : Nat} (hM : Made S zs q R) {B : Nat} {args : List (V Sy)} {sto : Sto Sy}
    (hargs : ∀ (c : Cx), SInv ⟨Sy.den ρ, s⟩ B c sto → ∀ vs, VRs ⟨Sy.den ρ, s⟩ B c args vs → VRs ⟨Sy.den ρ', s⟩ c.w.heap.size ⟨c.w, fun _ => none⟩ pat vs) :
    Good P ⟨Sy.den ρ, s⟩ B k args sto (.rsl sto.next 0 zs.length none) ⟨sto.next + 1, (sto.next, ints (nums zs)) :: sto.obs, sto.low⟩ := by
  intro c rargs hinv hra
  have hp := hargs c hinv _ hra
  refine Calls.mono (hG c.w.heap.size ⟨c.w, fun _ => none⟩ rargs (inv0 _ _) hp) ?_
  rintro ev w' ⟨rv, c', rfl, rfl, hst, hv⟩
  have hbe : Below c.w.heap.size c.w c'.w := hst.below
  let c'' : Cx := ⟨c'.w, fun o => if o < sto.next then c.κ o else if o = sto.next then c'.κ q else none⟩
  have hκ : ∀ b, c'.κ q = some b → c''.κ sto.next = some b := by
    intro b hb
    show (if sto.next < sto.next then c.κ sto.next else if sto.next = sto.next then c'.κ q else none) = some b
    rw [if_neg (by omega), if_pos rfl]; exact hb
  have hold : ∀ o x, c.κ o = some x → c''.κ o = some x := by
    intro o x hx
    have : o < sto.next := by
      rcases Nat.lt_or_ge o sto.next with h1 | h1
      · exact h1
      · rw [hinv.fresh o h1] at hx; cases hx
    simp only [c'']; rw [if_pos this]; exact hx
  have hle : Cx.le B c c'' := ⟨fun b hb => hbe.block b (Nat.lt_of_lt_of_le hb hinv.base), hold, hst.oth⟩
  have hnew : ∀ o b n, c'.κ o = some (b, n) → c.w.heap.size ≤ b ∧ b < c'.w.heap.size := fun o b n hk => hst.inv.blk o b n hk
  have hnewκ : ∀ {o b n}, ¬ o < sto.next → c''.κ o = some (b, n) → o = sto.next ∧ c'.κ q = some (b, n) := by
    intro o b n ho hk
    simp only [c''] at hk
    rw [if_neg ho] at hk
    split at hk
    · rename_i h1; exact ⟨h1, hk⟩
    · cases hk
  have hcase : ∀ o x, look ((sto.next, ints (nums zs)) :: sto.obs) o = some x → (o = sto.next ∧ x = ints (nums zs)) ∨ (o < sto.next ∧ look sto.obs o = some x) := by
    intro o x hx
    rw [look_cons] at hx
    split at hx
    · rename_i h; cases hx; exact .inl ⟨h.symm, rfl⟩
    · exact .inr ⟨hinv.desc.look_lt hx, hx⟩
  obtain ⟨hval, hobj⟩ := hM
  obtain ⟨b0, cur0, el0, e10, e20, e30, e40⟩ := hst.inv.obc _ _ (lookC_iff.2 ⟨hobj, isMp_ints _⟩)
  have hln : (ints (nums zs)).length = zs.length := by simp
  rw [hln] at e30
  have hus := intVs_of e40.vrs
  rw [hln] at hus
  refine ⟨rv, c'', rfl, rfl, ⟨⟨Nat.le_trans hinv.base hbe.size, fun o ho => ?_, fun o b n hk => ?_, fun o x hx => ?_, fun o o' x x' b n n' hx hx' hk hk' => ?_, ?_⟩, hold,
    hbe.mono hinv.base, Nat.le_succ _, Nat.le_refl _, fun b hb _ => hbe.block b hb, fun o b n hk hn hb => ?_, fun o x hk hn => ?_, hst.frz, hst.oth⟩, ?_⟩
  · simp only at ho
    simp only [c'']
    rw [if_neg (by omega), if_neg (by omega)]
  · by_cases ho : o < sto.next
    · simp only [c''] at hk
      rw [if_pos ho] at hk
      have := hinv.blk o b n hk
      exact ⟨this.1, Nat.lt_of_lt_of_le this.2 hbe.size⟩
    · obtain ⟨_, h3⟩ := hnewκ ho hk
      have := hnew _ _ _ h3
      exact ⟨Nat.le_trans hinv.base this.1, this.2⟩
  · rcases hcase o x hx with ⟨rfl, rfl⟩ | ⟨h1, h2⟩
    · refine ⟨b0, _, cur0.size, hκ _ e10, e20, .cells el0 (by rw [hln]; exact e30) ⟨?_, fun j hj => ?_⟩ (ints_nm _)⟩
      · rw [hln, hus]
        exact VRs_intVs (B := B) (c := c'')
      · cases zs with
        | nil => simp [ints, nums] at hj
        | cons a r => simp [ints, nums] at hj
    · obtain ⟨b, cur, el, e1, e2, e4⟩ := hinv.ob o x h2
      refine ⟨b, cur, el, hold _ _ e1, ?_, e4.mono hle⟩
      show c'.w.heap[b]? = _
      rw [hbe.block b (hinv.blk _ _ _ e1).2]; exact e2
  · rcases hcase o x hx with ⟨rfl, _⟩ | ⟨h1, h2⟩ <;> rcases hcase o' x' hx' with ⟨rfl, _⟩ | ⟨h1', h2'⟩
    · rfl
    · obtain ⟨_, a3⟩ := hnewκ (by omega) hk
      simp only [c''] at hk'
      rw [if_pos h1'] at hk'
      have h1 := (hnew _ _ _ a3).1
      have h2 := (hinv.blk _ _ _ hk').2
      omega
    · obtain ⟨_, a3⟩ := hnewκ (by omega) hk'
      simp only [c''] at hk
      rw [if_pos h1] at hk
      have h1 := (hnew _ _ _ a3).1
      have h2 := (hinv.blk _ _ _ hk).2
      omega
    · simp only [c''] at hk hk'
      rw [if_pos h1] at hk
      rw [if_pos h1'] at hk'
      exact hinv.inj o o' x x' b n n' h2 h2' hk hk'
  · exact ⟨Nat.lt_succ_self _, hinv.desc⟩
  · by_cases ho : o < sto.next
    · simp only [c''] at hk
      rw [if_pos ho] at hk
      rw [hn] at hk; cases hk
    · obtain ⟨_, h3⟩ := hnewκ ho hk
      have := (hnew _ _ _ h3).1; omega
  · by_cases ho : o < sto.next
    · simp only [c''] at hk
      rw [if_pos ho] at hk
      rw [hn] at hk; cases hk
    · omega
  · rcases hval with hval | hval
    · rw [hval] at hv
      cases hv with
      | rslo hk h1 h2 => exact .rslo (hκ _ hk) h1 h2
    · rw [hval] at hv
      cases hv with
      | rsl hk => rw [e10] at hk; cases hk; exact .rslo (hκ _ e10) (Nat.le_refl _) (by omega)

/-- A function of lists of numbers that are known, that answers one list. -/
structure OneOk (P : Program) (k : FuncId) (pat : List (V Sy)) (zs : List Int) : Prop where
  run : ∃ (K : Ctr) (n q : Nat) (R : V Sy) (S : Sto Sy), (∀ (ρ : Nat → Int) (s : Sms) (B : Nat), COk P ⟨Sy.den ρ, s⟩ B K) ∧ symRun P K [] n k pat ⟨0, [], 0⟩ = some (R, S) ∧ Made S zs q R

/-- The numbers, where they are known. -/
noncomputable def consts : List Sy → Option (List Int)
  | [] => some []
  | .c n :: r => match consts r with
    | some l => some (n :: l)
    | none => none
  | _ => none
theorem consts_nums : ∀ {ps : List Sy} {zs : List Int}, consts ps = some zs → ps = nums zs := by
  intro ps
  induction ps with
  | nil => intro zs h; cases h; rfl
  | cons p r ih =>
    intro zs h
    cases p with
    | c n =>
      simp only [consts] at h
      split at h
      · rename_i l hl; cases h; rw [ih hl]; rfl
      · cases h
    | p l => simp [consts] at h

/-- A list of a slice, its numbers known. -/
noncomputable def constsOf (sto : Sto Sy) (x : V Sy) : Option (List Int) := match sto.elems x with
  | some xs => match numsOf xs with
    | some ps => bite (capOk x) (consts ps) none
    | none => none
  | none => none
theorem constsOf_ok {sto : Sto Sy} {x : V Sy} {zs : List Int} (h : constsOf sto x = some zs) : sto.elems x = some (ints (nums zs)) ∧ capOk x = true := by
  unfold constsOf at h
  split at h
  · rename_i xs hxs
    split at h
    · rename_i ps hps
      have := numsOf_ints hps
      subst this
      rw [bite_eq] at h
      split at h
      · rename_i hc
        rw [consts_nums h] at hxs
        exact ⟨hxs, hc⟩
      · cases h
    · cases h
  · cases h
theorem constsOf_rel {ρ ρ' : Nat → Int} {s : Sms} {B : Nat} {c : Cx} {sto : Sto Sy} {x : V Sy} {v : Value} {zs : List Int} (h : constsOf sto x = some zs) (hne : zs ≠ []) (hl : zs.length ≤ 1048576) (hinv : SInv ⟨Sy.den ρ, s⟩ B c sto) (hx : VR ⟨Sy.den ρ, s⟩ B c x v) :
    VR ⟨Sy.den ρ', s⟩ c.w.heap.size ⟨c.w, fun _ => none⟩ (.slice (ints (nums zs))) v := by
  obtain ⟨h1, h2⟩ := constsOf_ok h
  have := (elems_data (ρ' := ρ') hinv hx h1 h2).2 (by cases zs with | nil => exact (hne rfl).elim | cons a r => simp [nums]) (by simpa using hl)
  have e : (nums zs).map (Sy.den ρ) = zs := by simp [nums, Sy.den, Function.comp_def]
  rwa [e] at this

/-- The contract of a function of a list: 'F' what it answers. -/
noncomputable def oneK (k0 : FuncId) (F : List Int → Option (List Int)) : Ctr := fun k args sto =>
  bite (Nat.beq k k0) (match args with
  | [x] => match constsOf sto x with
    | some (z :: r) => bite (Nat.ble (z :: r).length 1000) (match F (z :: r) with
      | some ys => some (.rsl sto.next 0 ys.length none, ⟨sto.next + 1, (sto.next, ints (nums ys)) :: sto.obs, sto.low⟩)
      | none => none) none
    | _ => none
  | _ => none) none
theorem oneK_ok {P : Program} (hG : NoCount P) (hm : P.follows .mixedOrders = true) {k0 : FuncId} {F : List Int → Option (List Int)} (hb : ∃ fn, P.funcs[k0]? = some fn ∧ fn.body.isSome = true)
    (hF : ∀ zs ys, F zs = some ys → zs.length ≤ 1000 → zs ≠ [] → OneOk P k0 [.slice (ints (nums zs))] ys) {ρ : Nat → Int} {s : Sms} {B : Nat} : COk P ⟨Sy.den ρ, s⟩ B (oneK k0 F) := by
  intro k args sto r sto' h
  unfold oneK at h
  rw [bite_eq] at h
  split at h
  case isFalse => cases h
  rename_i hk
  have hk := Nat.eq_of_beq_eq_true hk
  subst hk
  split at h
  · rename_i x
    split at h
    · rename_i z rr hz
      rw [bite_eq] at h
      split at h
      · rename_i hl
        rw [Nat.ble_eq] at hl
        split at h
        · rename_i ys hy
          cases h
          obtain ⟨K, n, q, R, S, hK, hrun, hM⟩ := (hF _ _ hy hl (by simp)).run
          refine ⟨lift_one (ρ' := ρ) (fun B' => run_goodK hG hm hK ρ hrun B') hM (fun c hinv vs hv => ?_), hb⟩
          obtain ⟨v, rfl, hv2⟩ := hv.one
          exact .cons (constsOf_rel hz (by simp) (by omega) hinv hv2) .nil
        · cases h
      · cases h
    · cases h
  · cases h
end Go.Sx

/-
  Words for runs by hand without a reader: lists that grow; numbers in order of first coming.
-/
namespace Go.Sx
open Go.RowKit

section
variable {T : TypeId → Option Ti} {t e : TypeId} {za zb : Nat} {zv : Value} {ze ze2 : Bool} {S : Sto Sy} {q : Nat} {zs : List Int} {v : V Sy}
/-- A list grows. -/
theorem append_ok0 (tS : T t = some ⟨.slice e, za, zb, zv, ze⟩) (tI : T e = some ⟨.int .i64, 1, 8, .int .i64 0, ze2⟩) (hd : Desc S.next S.obs) (h : IsL S.obs q zs v)
    {w : Int} {ws : List Int} (hl : zs.length + (w :: ws).length ≤ 1000000) :
    ∃ v' S' q', aappend (symNum []) T (S.new (ints (nums (w :: ws)))) t t v (.rsl S.next 0 (w :: ws).length (some (w :: ws).length)) = some (v', S') ∧ Desc S'.next S'.obs ∧ S.next ≤ q' ∧ S.next ≤ S'.next ∧ IsL S'.obs q' (zs ++ w :: ws) v' ∧ ∀ (k : Nat) (x : Ob Sy), k ≠ q → look S.obs k = some x → look S'.obs k = some x := by
  obtain ⟨cp, rfl, hcp⟩ := h.val
  have hqn := hd.look_lt h.obj
  have hdN : Desc (S.new (ints (nums (w :: ws)))).next (S.new (ints (nums (w :: ws)))).obs := ⟨Nat.lt_succ_self _, hd⟩
  have ho : lookC (S.new (ints (nums (w :: ws)))).obs q = some (ints (nums zs)) := lookC_ints (IsL.new (n := 0) h hd _).obj
  have he : (S.new (ints (nums (w :: ws)))).elems (.rsl S.next 0 (w :: ws).length (some (w :: ws).length)) = some (ints (nums (w :: ws))) := by
    simp only [Sto.elems, Sto.cells, lookC_ints (look_new _ _)]
    rw [if_pos (by simp), List.drop_zero, List.take_of_length_le (by simp)]
  have hall := ints_oneCells (nums (w :: ws))
  have hyl : (ints (nums (w :: ws))).length = (w :: ws).length := by simp
  have hz : (ofV (symNum []) (Value.int .i64 0)).oneCell = true := rfl
  have happ : ints (nums zs) ++ ints (nums (w :: ws)) = ints (nums (zs ++ w :: ws)) := by rw [nums_append, ints_append]
  have hlen : zs.length + (ints (nums (w :: ws))).length = (zs ++ w :: ws).length := by rw [hyl, List.length_append]
  have hb1 : (zs.length + (ints (nums (w :: ws))).length) * 8 ≤ 140737488355328 := by rw [hyl]; omega
  have hb2 : zs.length + (ints (nums (w :: ws))).length ≤ 9223372036854775807 := by rw [hyl]; omega
  have hkeep0 : ∀ (k : Nat) (x : Ob Sy), look S.obs k = some x → k < S.next := fun k x hk => hd.look_lt hk
  cases hys : ints (nums (w :: ws)) with
  | nil => rw [hys] at hyl; simp at hyl
  | cons y ys =>
    rw [hys] at hall happ hlen hb1 hb2
    have hnx : (S.new (y :: ys)).next = S.next + 1 := rfl
    have hobsN : ∀ (k : Nat) (x : Ob Sy), k < S.next → look S.obs k = some x → look (S.new (y :: ys)).obs k = some x := fun k x hk h1 => by
      show look ((S.next, noBc (y :: ys)) :: S.obs) k = _
      rw [look_cons, if_neg (by omega)]; exact h1
    have hdN' : Desc (S.next + 1) (S.new (y :: ys)).obs := ⟨Nat.lt_succ_self _, hd⟩
    rcases hcp with rfl | rfl
    · refine ⟨.rsl (S.next + 1) 0 (zs ++ w :: ws).length none, ⟨S.next + 1 + 1, (S.next + 1, ints (nums (zs ++ w :: ws))) :: del (S.new (y :: ys)).obs q, if Nat.blt q (S.new (y :: ys)).low then q else (S.new (y :: ys)).low⟩, S.next + 1, ?_, ⟨Nat.lt_succ_self _, Desc.del q hdN'⟩, Nat.le_succ _, by show S.next ≤ S.next + 1 + 1; omega, ⟨⟨none, rfl, .inl rfl⟩, by show look ((S.next + 1, _) :: _) (S.next + 1) = _; rw [look_cons, if_pos rfl]⟩, fun k x hk hl => ?_⟩
      · rw [hys] at he ho
        rw [hlen] at hb1 hb2
        have htk : (ints (nums zs)).take zs.length = ints (nums zs) := List.take_of_length_le (by simp)
        simp only [aappend, tS, tI, he, ho, hz, hall, true_and, and_true, if_true, ints_length, nums_length, htk, happ, hlen, Nat.le_refl]
        rw [if_pos ⟨hb1, hb2⟩]
        rfl
      · have hkl := hkeep0 k x hl
        show look ((S.next + 1, _) :: del _ q) k = _
        rw [look_cons, if_neg (by omega), look_del_ne hk]; exact hobsN k x hkl hl
    · have hc : ¬ zs.length + (y :: ys).length ≤ zs.length := by simp
      refine ⟨.rsl (S.next + 1) 0 (zs ++ w :: ws).length none, (S.new (y :: ys)).new (ints (nums (zs ++ w :: ws))), S.next + 1, ?_, ⟨Nat.lt_succ_self _, hdN'⟩, Nat.le_succ _, by show S.next ≤ S.next + 1 + 1; omega, ⟨⟨_, rfl, .inl rfl⟩, look_new (S.new _) _⟩, fun k x hk hl => ?_⟩
      · rw [hys] at he ho
        have hdt : ((ints (nums zs)).drop 0).take zs.length ++ y :: ys = ints (nums (zs ++ w :: ws)) := by rw [← happ, List.drop_zero, List.take_of_length_le (by simp)]
        rw [hlen] at hc hb1 hb2
        simp only [aappend, tS, tI, he, ho, hz, hall, true_and, and_true, if_true, ints_length, nums_length, hlen, hdt, Nat.le_refl, Nat.zero_add]
        rw [if_pos ⟨hb1, hb2⟩, if_neg hc]
        rfl
      · have hkl := hkeep0 k x hl
        show look ((S.next + 1, _) :: (S.new (y :: ys)).obs) k = _
        rw [look_cons, if_neg (by omega)]; exact hobsN k x hkl hl
end

section
variable {I : Type} {N : Num I} {T : TypeId → Option Ti} {C : FuncId → List (V I) → Sto I → Option (V I × Sto I)} {nt : Nat} {D : List Oper → St I → Option (St I)} {kp : Code → Option (List Nat)} {fresh : Tr (V I)}
  {Qn : St I → Prop} {Qx : AExit → St I → Prop}
/-- A loop whose rounds may hold loops of fewer than e rounds. -/
theorem Wp.loopF {B : Code} (hk : kp B = none) (his : isScope B = false) (Inv : Nat → St I → Prop) (n e : Nat) {m : Nat} (hn : n + e < m) {st : St I} (h0 : Inv 0 st)
    (hstep : ∀ f i st, e ≤ f → i < n → Inv i st → Wp N T C nt D (aloopN N T C nt D kp fresh f) B st (Inv (i + 1)) Qx)
    (hend : ∀ f st, e ≤ f → Inv n st → Wp N T C nt D (aloopN N T C nt D kp fresh f) B st (fun _ => False) Qx) :
    Wp N T C nt D (aloopN N T C nt D kp fresh m) (.loop B) st Qn Qx := by
  have hsc := scopeOf_none his
  have hro := rangeOf_none his
  have key : ∀ k i st, i + k = n → Inv i st → ∀ m, e ≤ m → ∃ e st', aloopN N T C nt D kp fresh (k + 1 + m) B st = some (e, st') ∧ e ≠ .normal ∧ Qx e st' := by
    intro k
    induction k with
    | zero =>
      intro i st hi h m hem
      have : i = n := by omega
      subst this
      obtain ⟨e, st', he, h2⟩ := (hend (0 + m) st (by omega) h).run
      rw [show 0 + 1 + m = (0 + m) + 1 by omega]
      cases e with
      | normal => exact h2.elim
      | exit id => exact ⟨.exit id, st', by simp only [aloopN, hsc, hro, hk, havoc, he], by simp, h2⟩
      | goto l => exact ⟨.goto l, st', by simp only [aloopN, hsc, hro, hk, havoc, he], by simp, h2⟩
      | ret => exact ⟨.ret, st', by simp only [aloopN, hsc, hro, hk, havoc, he], by simp, h2⟩
    | succ k ih =>
      intro i st hi h m hem
      obtain ⟨e1, st1, h1, h2⟩ := (hstep (k + 1 + m) i st (by omega) (by omega) h).run
      rw [show k + 1 + 1 + m = (k + 1 + m) + 1 by omega]
      cases e1 with
      | normal =>
        obtain ⟨e, st', h3, h4⟩ := ih (i + 1) st1 (by omega) h2 m hem
        exact ⟨e, st', by simp only [aloopN, hsc, hro, hk, havoc, h1]; exact h3, h4⟩
      | exit id => exact ⟨.exit id, st1, by simp only [aloopN, hsc, hro, hk, havoc, h1], by simp, h2⟩
      | goto l => exact ⟨.goto l, st1, by simp only [aloopN, hsc, hro, hk, havoc, h1], by simp, h2⟩
      | ret => exact ⟨.ret, st1, by simp only [aloopN, hsc, hro, hk, havoc, h1], by simp, h2⟩
  obtain ⟨e', st', h1, h2, h3⟩ := key n 0 st (by omega) h0 (m - n - 1) (by omega)
  rw [show n + 1 + (m - n - 1) = m by omega] at h1
  refine ⟨⟨e', st', by simp only [aexec, his, bite_false, h1], ?_⟩⟩
  cases e' with
  | normal => exact (h2 rfl).elim
  | exit id => exact h3
  | goto l => exact h3
  | ret => exact h3
end

/-- Where a thing first stands. -/
def idxOf {α : Type} [DecidableEq α] (z : α) : List α → Nat
  | [] => 0
  | y :: r => if z = y then 0 else idxOf z r + 1
theorem idxOf_le {α : Type} [DecidableEq α] (z : α) : ∀ l : List α, idxOf z l ≤ l.length
  | [] => Nat.le_refl _
  | y :: r => by
    simp only [idxOf]
    split
    · simp
    · have := idxOf_le z r; simp; omega
theorem idxOf_at {α : Type} [DecidableEq α] {z : α} : ∀ {l : List α} {k : Nat}, (∀ (j : Nat) (y : α), l[j]? = some y → j < k → z ≠ y) → l[k]? = some z → idxOf z l = k
  | [], k, _, h => by simp at h
  | y :: r, 0, _, h => by simp at h; simp [idxOf, h]
  | y :: r, k + 1, hn, h => by
    have h0 := hn 0 y rfl (by omega)
    simp only [idxOf, if_neg h0]
    rw [idxOf_at (l := r) (k := k) (fun j y hj hk => hn (j + 1) y (by simpa using hj) (by omega)) (by simpa using h)]
theorem idxOf_none {α : Type} [DecidableEq α] {z : α} : ∀ {l : List α}, (∀ (j : Nat) (y : α), l[j]? = some y → z ≠ y) → idxOf z l = l.length
  | [], _ => rfl
  | y :: r, hn => by
    have h0 := hn 0 y rfl
    simp only [idxOf, if_neg h0, List.length_cons]
    rw [idxOf_none (l := r) (fun j y hj => hn (j + 1) y (by simpa using hj))]
theorem idxOf_get {α : Type} [DecidableEq α] {z : α} : ∀ {l : List α}, idxOf z l < l.length → l[idxOf z l]? = some z
  | [], h => by simp at h
  | y :: r, h => by
    simp only [idxOf] at h ⊢
    split
    · rename_i e; subst e; rfl
    · rename_i e
      rw [if_neg e] at h
      simpa using idxOf_get (l := r) (by simpa using h)

/-- Numbers in order of first coming. -/
def tidyFrom {α : Type} [DecidableEq α] (seen : List α) : List α → List Int
  | [] => []
  | z :: r => (idxOf z seen : Int) :: tidyFrom (if idxOf z seen = seen.length then seen ++ [z] else seen) r
def tidyL {α : Type} [DecidableEq α] (l : List α) : List Int := tidyFrom [] l
theorem tidyFrom_length {α : Type} [DecidableEq α] : ∀ (l seen : List α), (tidyFrom seen l).length = l.length
  | [], _ => rfl
  | z :: r, seen => by simp [tidyFrom, tidyFrom_length r]
theorem tidyL_length {α : Type} [DecidableEq α] (l : List α) : (tidyL l).length = l.length := tidyFrom_length l []
end Go.Sx

/-
  Lists that are known: copied, compared.
-/
namespace Go.Sx
open Go.RowKit

noncomputable def sameI : List Int → List Int → Bool
  | [], [] => true
  | a :: r, b :: r' => bite (ieq a b) (sameI r r') false
  | _, _ => false
theorem sameI_eq : ∀ {l l' : List Int}, sameI l l' = true → l = l' := by
  intro l
  induction l with
  | nil => intro l' h; cases l' with
    | nil => rfl
    | cons b r => simp [sameI] at h
  | cons a r ih =>
    intro l' h
    cases l' with
    | nil => simp [sameI] at h
    | cons b r' =>
      simp only [sameI, bite_eq] at h
      split at h
      · rename_i h1
        rw [ieq_eq] at h1
        have : a = b := by simpa using h1
        rw [this, ih h]
      · cases h

/-- Two lists that are known and equal. -/
noncomputable def eqK (k0 : FuncId) : Ctr := fun k args sto =>
  bite (Nat.beq k k0) (match args with
  | [x, y] => match constsOf sto x, constsOf sto y with
    | some (z :: r), some l => bite (Nat.ble (z :: r).length 1000) (bite (sameI (z :: r) l) (some (.bool true, sto)) none) none
    | _, _ => none
  | _ => none) none
theorem eqK_ok {P : Program} (hG : NoCount P) (hm : P.follows .mixedOrders = true) {k0 : FuncId} (hb : ∃ fn, P.funcs[k0]? = some fn ∧ fn.body.isSome = true)
    (hF : ∀ zs : List Int, zs.length ≤ 1000 → ∃ n S, symRun P noK [] n k0 [.slice (ints (nums zs)), .slice (ints (nums zs))] ⟨0, [], 0⟩ = some (.bool true, S)) {ρ : Nat → Int} {s : Sms} {B : Nat} : COk P ⟨Sy.den ρ, s⟩ B (eqK k0) := by
  intro k args sto r sto' h
  unfold eqK at h
  rw [bite_eq] at h
  split at h
  case isFalse => cases h
  rename_i hk
  have hk := Nat.eq_of_beq_eq_true hk
  subst hk
  split at h
  · rename_i x y
    split at h
    · rename_i z rr l hz hz'
      rw [bite_eq] at h
      split at h
      · rename_i hl
        rw [Nat.ble_eq] at hl
        rw [bite_eq] at h
        split at h
        · rename_i he
          have he := sameI_eq he
          subst he
          cases h
          obtain ⟨n, S, hrun⟩ := hF _ hl
          refine ⟨lift_plain (ρ' := ρ) (run_good hG hm ρ hrun) (fun c hinv vs hv => ?_) rfl (.bool _), hb⟩
          obtain ⟨v, u, rfl, hv, hu⟩ := hv.two
          exact .cons (constsOf_rel hz (by simp) (by omega) hinv hv) (.cons (constsOf_rel hz' (by simp) (by omega) hinv hu) .nil)
        · cases h
      · cases h
    · cases h
  · cases h

/-- The contract of a function of two lists. -/
noncomputable def twoK (k0 : FuncId) (F : List Int → List Int → Option (List Int)) : Ctr := fun k args sto =>
  bite (Nat.beq k k0) (match args with
  | [x, y] => match constsOf sto x, constsOf sto y with
    | some (z :: r), some (z' :: r') => bite (Nat.ble (z :: r).length 1000) (bite (Nat.ble (z' :: r').length 1000) (match F (z :: r) (z' :: r') with
      | some ys => some (.rsl sto.next 0 ys.length none, ⟨sto.next + 1, (sto.next, ints (nums ys)) :: sto.obs, sto.low⟩)
      | none => none) none) none
    | _, _ => none
  | _ => none) none
theorem twoK_ok {P : Program} (hG : NoCount P) (hm : P.follows .mixedOrders = true) {k0 : FuncId} {F : List Int → List Int → Option (List Int)} (hb : ∃ fn, P.funcs[k0]? = some fn ∧ fn.body.isSome = true)
    (hF : ∀ zs us ys, F zs us = some ys → zs.length ≤ 1000 → us.length ≤ 1000 → zs ≠ [] → us ≠ [] → OneOk P k0 [.slice (ints (nums zs)), .slice (ints (nums us))] ys) {ρ : Nat → Int} {s : Sms} {B : Nat} : COk P ⟨Sy.den ρ, s⟩ B (twoK k0 F) := by
  intro k args sto r sto' h
  unfold twoK at h
  rw [bite_eq] at h
  split at h
  case isFalse => cases h
  rename_i hk
  have hk := Nat.eq_of_beq_eq_true hk
  subst hk
  split at h
  · rename_i x y
    split at h
    · rename_i z rr z' rr' hz hz'
      rw [bite_eq] at h
      split at h
      · rename_i hl
        rw [Nat.ble_eq] at hl
        rw [bite_eq] at h
        split at h
        · rename_i hl'
          rw [Nat.ble_eq] at hl'
          split at h
          · rename_i ys hy
            cases h
            obtain ⟨K, n, q, R, S, hK, hrun, hM⟩ := (hF _ _ _ hy hl hl' (by simp) (by simp)).run
            refine ⟨lift_one (ρ' := ρ) (fun B' => run_goodK hG hm hK ρ hrun B') hM (fun c hinv vs hv => ?_), hb⟩
            obtain ⟨v, u, rfl, hv, hu⟩ := hv.two
            exact .cons (constsOf_rel hz (by simp) (by omega) hinv hv) (.cons (constsOf_rel hz' (by simp) (by omega) hinv hu) .nil)
          · cases h
        · cases h
      · cases h
    · cases h
  · cases h

theorem oneOk_run {P : Program} {k n q : Nat} {pat : List (V Sy)} {zs : List Int} {r : V Sy × Sto Sy} (h : symRun P noK [] n k pat ⟨0, [], 0⟩ = some r) (hi : IsL r.2.obs q zs r.1) : OneOk P k pat zs :=
  ⟨noK, n, q, r.1, r.2, fun _ _ _ => noK_ok, h, hi.made⟩
end Go.Sx

/-
  Maps from things to the numbers in which they came first.
-/
namespace Go.Sx
open Go.RowKit

def kI (a : Int) : V Sy := .int .i64 (.c a)
def kP (a : Int × Int) : V Sy := .agg [.int .i64 (.c a.1), .int .i64 (.c a.2)]
def rangeV (n : Nat) : List (V Sy) := (List.range n).map fun (i : Nat) => .int .i64 (.c (i : Int))
theorem rangeV_succ (n : Nat) : rangeV (n + 1) = rangeV n ++ [.int .i64 (.c (n : Int))] := by simp [rangeV, List.range_succ]
theorem rangeV_get {n i : Nat} (h : i < n) : (rangeV n)[i]? = some (.int .i64 (.c (i : Int))) := by simp [rangeV, h]
theorem rangeV_len (n : Nat) : (rangeV n).length = n := by simp [rangeV]

theorem keyEq_I (a b : Int) : keyEq (symNum []) (kI a) (kI b) = some (decide (a = b)) := by
  simp only [keyEq, kI, if_true, sym_eq]
  congr 1
theorem keyEq_P (a b : Int × Int) : keyEq (symNum []) (kP a) (kP b) = some (decide (a = b)) := by
  obtain ⟨a1, a2⟩ := a
  obtain ⟨b1, b2⟩ := b
  simp only [keyEq, kP, eqCells, if_true, sym_eq, Prod.mk.injEq]
  by_cases h1 : a1 = b1
  · subst h1
    by_cases h2 : a2 = b2
    · subst h2; simp
    · have : (a2 == b2) = false := by simpa using h2
      simp [this, h2]
  · have : (a1 == b1) = false := by simpa using h1
    simp [this, h1]

section
variable {α : Type} [DecidableEq α] {κ : α → V Sy} {T : TypeId → Option Ti} {t kt et : TypeId} {za zb za' : Nat} {zv zv' : Value} {ze ze' : Bool} {S : Sto Sy} {om : Nat} {ks : List α} {z : α}

theorem findK_idx (hfit : ∀ a, keyFit T kt (κ a) = true) (heq : ∀ a b, keyEq (symNum []) (κ a) (κ b) = some (decide (a = b))) (z : α) : ∀ (ks : List α) (i : Nat),
    findK (symNum []) T kt (κ z) (ks.map κ) i = some (if idxOf z ks < ks.length then some (i + idxOf z ks) else none)
  | [], i => by simp [findK]
  | y :: r, i => by
    simp only [List.map_cons, findK, hfit, if_true, heq, idxOf]
    by_cases h : z = y
    · simp [h]
    · simp only [h, decide_false, if_false, List.length_cons, Nat.add_lt_add_iff_right]
      rw [findK_idx hfit heq z r (i + 1)]
      split
      · congr 2; omega
      · rfl

theorem mapAt_ok {ks vs : List (V Sy)} (h : look S.obs om = some [.mpc ks vs]) : mapAt S (.mp om) = some (om, ks, vs) := by simp [mapAt, h]

theorem alookup_ok (tM : T t = some ⟨.map kt et, za, zb, zv, ze⟩) (tE : T et = some ⟨.int .i64, 1, za', .int .i64 0, ze'⟩) (hfit : ∀ a, keyFit T kt (κ a) = true) (heq : ∀ a b, keyEq (symNum []) (κ a) (κ b) = some (decide (a = b)))
    (hl : look S.obs om = some [.mpc (ks.map κ) (rangeV ks.length)]) (z : α) :
    alookup (symNum []) T S t (.mp om) (κ z) true = some (if idxOf z ks < ks.length then .tup [.int .i64 (.c (idxOf z ks : Nat)), .bool true] else .tup [.int .i64 (.c 0), .bool false]) := by
  simp only [alookup, tM, mapAt_ok hl, tE, hfit, if_true, findK_idx hfit heq z ks 0]
  split
  · rename_i h1
    simp only [Nat.zero_add] at h1 ⊢
    split at h1
    · rename_i h2
      cases h1
      rw [rangeV_get h2, if_pos h2]
    · cases h1
  · rename_i h1
    split at h1
    · cases h1
    · rename_i h2
      rw [if_neg h2]; rfl
  · rename_i h1; cases h1

theorem amapUpdate_ok (tM : T t = some ⟨.map kt et, za, zb, zv, ze⟩) (hfit : ∀ a, keyFit T kt (κ a) = true) (heq : ∀ a b, keyEq (symNum []) (κ a) (κ b) = some (decide (a = b)))
    (hl : look S.obs om = some [.mpc (ks.map κ) (rangeV ks.length)]) (hn : idxOf z ks = ks.length) :
    amapUpdate (symNum []) T S t (.mp om) (κ z) (.int .i64 (.c (ks.length : Nat))) = some (S.writeM om [.mpc ((ks ++ [z]).map κ) (rangeV (ks ++ [z]).length)]) := by
  have h2 : ¬ idxOf z ks < ks.length := by omega
  simp only [amapUpdate, tM, mapAt_ok hl, hfit, if_true, findK_idx hfit heq z ks 0, if_neg h2]
  simp [rangeV_succ]

omit [DecidableEq α] in
theorem amapLen_ok (tM : T t = some ⟨.map kt et, za, zb, zv, ze⟩) (hl : look S.obs om = some [.mpc (ks.map κ) (rangeV ks.length)]) : amapLen (symNum []) T S t (.mp om) = some (.int .i64 (.c (ks.length : Nat)), S) := by
  simp [amapLen, tM, mapAt_ok hl, symNum]
end

theorem look_put_other {α : Type} {l : List (Nat × α)} {s k : Nat} {b : α} (h : k ≠ s) : look (put l s b) k = look l k := look_put_ne h
theorem writeM_desc {S : Sto Sy} {o : Nat} {y : Ob Sy} (h : Desc S.next S.obs) : Desc (S.writeM o y).next (S.writeM o y).obs := h.put o y
theorem write_desc {S : Sto Sy} {o : Nat} {y : Ob Sy} (h : Desc S.next S.obs) : Desc (S.write o y).next (S.write o y).obs := h.put o _

/-- Cells of pairs. -/
def cellsP : List (Int × Int) → List (V Sy)
  | [] => []
  | a :: r => .int .i64 (.c a.1) :: .int .i64 (.c a.2) :: cellsP r
theorem cellsP_len : ∀ l : List (Int × Int), (cellsP l).length = 2 * l.length
  | [] => rfl
  | a :: r => by simp [cellsP, cellsP_len r]; omega
theorem cellsP_at : ∀ (l : List (Int × Int)) (i : Nat) (a : Int × Int), l[i]? = some a → ((cellsP l).drop (2 * i)).take 2 = [.int .i64 (.c a.1), .int .i64 (.c a.2)]
  | [], i, a, h => by simp at h
  | b :: r, 0, a, h => by simp at h; subst h; rfl
  | b :: r, i + 1, a, h => by
    rw [show 2 * (i + 1) = 2 * i + 1 + 1 by omega]
    simp only [cellsP, List.drop_succ_cons]
    exact cellsP_at r i a (by simpa using h)
theorem cellsP_nm (l : List (Int × Int)) : isMp (cellsP l) = false := by
  cases l with
  | nil => rfl
  | cons a r => rfl
theorem cellsP_noBc (l : List (Int × Int)) : noBc (cellsP l) = cellsP l := by
  cases l with
  | nil => rfl
  | cons a r => rfl
theorem cellsP_app : ∀ (l r : List (Int × Int)), cellsP (l ++ r) = cellsP l ++ cellsP r
  | [], r => rfl
  | a :: l, r => by simp [cellsP, cellsP_app l r]
theorem cellsP_set : ∀ (l : List (Int × Int)) (i : Nat) (a : Int × Int), i < l.length → setRange (cellsP l) (2 * i) [.int .i64 (.c a.1), .int .i64 (.c a.2)] = cellsP (l.set i a)
  | [], i, a, h => by simp at h
  | b :: r, 0, a, h => by simp [setRange, cellsP]
  | b :: r, i + 1, a, h => by
    have := cellsP_set r i a (by simpa using h)
    simp only [setRange] at this ⊢
    rw [show 2 * (i + 1) = 2 * i + 1 + 1 by omega]
    simp only [cellsP, List.set_cons_succ]
    rw [this]
theorem cellsP_zero : ∀ n : Nat, (List.range (n * 2)).map (fun i => [V.int .i64 (Sy.c 0), V.int .i64 (Sy.c 0)].getD (i % 2) .any) = cellsP (List.replicate n (0, 0))
  | 0 => rfl
  | n + 1 => by
    rw [show (n + 1) * 2 = n * 2 + 1 + 1 by omega, List.range_succ, List.range_succ, List.map_append, List.map_append, cellsP_zero n, List.replicate_succ', cellsP_app, List.append_assoc]
    have h1 : (n * 2) % 2 = 0 := by omega
    have h2 : (n * 2 + 1) % 2 = 1 := by omega
    simp [h1, h2, cellsP]
theorem take_set_succ {α : Type} : ∀ (l : List α) (i : Nat) (x : α), i < l.length → (l.set i x).take (i + 1) = l.take i ++ [x]
  | [], i, x, h => by simp at h
  | a :: r, 0, x, h => by simp
  | a :: r, i + 1, x, h => by
    have := take_set_succ r i x (by simpa using h)
    simp [this]
theorem repl_ints (n : Nat) : List.replicate n (V.int .i64 (Sy.c 0)) = ints (nums (List.replicate n 0)) := by simp [ints, nums]
end Go.Sx

/-
  Answers of one list, by runs, one for each of some arguments; parts put together.
-/
namespace Go.Sx
open Go.RowKit

noncomputable def capFull (len : Nat) : Option Nat → Bool
  | none => true
  | some c => Nat.beq c len
noncomputable def madeAs (zs : List Int) (r : Option (V Sy × Sto Sy)) : Bool :=
  match r with
  | some (.rsl o 0 len cap, S) => match look S.obs o with
    | some xs => match numsOf xs with
      | some ps => match consts ps with
        | some l => bite (sameI l zs) (bite (Nat.beq len l.length) (capFull len cap) false) false
        | none => false
      | none => false
    | none => false
  | _ => false
theorem madeAs_ok {zs : List Int} {r : Option (V Sy × Sto Sy)} (h : madeAs zs r = true) : ∃ q R S, r = some (R, S) ∧ Made S zs q R := by
  unfold madeAs at h
  split at h
  · rename_i o len cap S
    split at h
    · rename_i xs hxs
      split at h
      · rename_i ps hps
        split at h
        · rename_i l hl
          have h1 := numsOf_ints hps
          have h2 := consts_nums hl
          subst h2
          subst h1
          rw [bite_eq] at h
          split at h
          · rename_i hs
            have hs := sameI_eq hs
            subst hs
            rw [bite_eq] at h
            split at h
            · rename_i hn
              have hn := Nat.eq_of_beq_eq_true hn
              subst hn
              refine ⟨o, _, S, rfl, ?_, hxs⟩
              cases cap with
              | none => exact .inl rfl
              | some c => exact .inr (by rw [Nat.eq_of_beq_eq_true h])
            · cases h
          · cases h
        · cases h
      · cases h
    · cases h
  · cases h

/-- Things of one part of q get one label. -/
def joinG (q : List Int) : List Int → Nat → List Int → List Int
  | [], _, ls => ls
  | x :: r, i, ls => joinG q r (i + 1) (ls.map fun l => if l = ls.getD i 0 then ls.getD (idxOf x q) 0 else l)
def joinL (p q : List Int) : List Int := tidyL (joinG q q 0 p)

/-- A function of two ways, by its runs. -/
noncomputable def joinRun (P : Program) (K : Ctr) (N : Nat) (k : FuncId) (p q : List Int) : Bool := madeAs (joinL p q) (symRun P K [] N k [.slice (ints (nums p)), .slice (ints (nums q))] ⟨0, [], 0⟩)
noncomputable def sameLen : List Int → List Int → Bool
  | [], [] => true
  | _ :: r, _ :: r' => sameLen r r'
  | _, _ => false
theorem sameLen_eq : ∀ {l l' : List Int}, sameLen l l' = true → l.length = l'.length
  | [], [], _ => rfl
  | [], _ :: _, h => by simp [sameLen] at h
  | _ :: _, [], h => by simp [sameLen] at h
  | _ :: r, _ :: r', h => by simp [sameLen_eq (l := r) (l' := r') (by simpa [sameLen] using h)]
noncomputable def meetF (p q : List Int) : Option (List Int) := bite (sameLen p q) (some (tidyL (p.zip q))) none
noncomputable def joinF (p q : List Int) : Option (List Int) := bite (sameLen p q) (bite (isPart p) (bite (isPart q) (some (joinL p q)) none) none) none
theorem joinF_ok {p q l : List Int} (h : joinF p q = some l) : p.length = q.length ∧ isPart p = true ∧ isPart q = true ∧ l = joinL p q := by
  unfold joinF at h
  simp only [bite_eq] at h
  split at h
  · rename_i h1
    split at h
    · rename_i h2
      split at h
      · rename_i h3
        cases h
        exact ⟨sameLen_eq h1, h2, h3, rfl⟩
      · cases h
    · cases h
  · cases h
end Go.Sx

/-
  Pairs of ways, by blocks of runs; laws over two lists that may be ways.
-/
namespace Go.Sx
open Go.RowKit

/-- Some ways, one after the other, against one. -/
noncomputable def wayBlk (f : List Int → List Int → Bool) (n i a m : Nat) : Bool := allTo (fun j => f ((waysOf n).getD i []) ((waysOf n).getD (Nat.add a j) [])) m
theorem of_wayBlk {f : List Int → List Int → Bool} {n i a m : Nat} (h : wayBlk f n i a m = true) {j : Nat} (h1 : a ≤ j) (h2 : j < a + m) : f ((waysOf n).getD i []) ((waysOf n).getD j []) = true := by
  have := allTo_ok h (j - a) (by omega)
  rwa [show Nat.add a (j - a) = j from by show a + (j - a) = j; omega] at this
theorem ways_all {f : List Int → List Int → Bool} {p q : List Int} (h : ∀ i j, i < (waysOf p.length).length → j < (waysOf p.length).length → f ((waysOf p.length).getD i []) ((waysOf p.length).getD j []) = true) (hp : isPart p = true) (hq : isPart q = true) (hl : p.length = q.length) : f p q = true := by
  have h1 := mem_waysOf hp
  have h2 := mem_waysOf hq
  rw [← hl] at h2
  obtain ⟨i, hi, he⟩ := List.mem_iff_getElem.1 h1
  obtain ⟨j, hj, hf⟩ := List.mem_iff_getElem.1 h2
  have := h i j hi hj
  have e1 : (waysOf p.length).getD i [] = p := by simp [List.getD, hi, he]
  have e2 : (waysOf p.length).getD j [] = q := by simp [List.getD, hj, hf]
  rwa [e1, e2] at this

theorem lenS_den {ρ : Nat → Int} {Ls : List (List Int)} {I : List Int} {xs : List Sy} {i : Nat} (hx : xs.map (Sy.den ρ) = flat Ls I) (hi : i < Ls.length) : (lenS xs i).den ρ = ((Ls.getD i []).length : Int) := by
  have := (flat_at hx hi).1
  unfold lenS
  have e : xs.getD (7 * i) (.c 0) = (xs.drop (7 * i)).headD (.c 0) := by simp [List.getD, List.headD_eq_head?_getD, List.head?_drop]
  rw [e]; exact this

/-- What is told of two lists: are they ways, are they of one length? -/
def wayG (xs : List Sy) (b : Bool) : List Fact := [⟨false, lenS xs 0, lenS xs 1, b⟩]
theorem wayG_ok {ρ : Nat → Int} {p q : List Int} {Ls : List (List Int)} {I : List Int} {xs : List Sy} (hx : xs.map (Sy.den ρ) = flat (p :: q :: Ls) I) : ∀ f, f ∈ wayG xs (decide (p.length = q.length)) → f.Ok ρ := by
  intro f hf
  have h0 := lenS_den (i := 0) hx (by simp)
  have h1 := lenS_den (i := 1) hx (by simp)
  simp only [List.getD_cons_zero, List.getD_cons_succ] at h0 h1
  simp only [wayG, List.mem_cons, List.not_mem_nil, or_false] at hf
  subst hf
  by_cases h : p.length = q.length
  · rw [decide_eq_true h]; exact Fact.eq_yes (by rw [h0, h1, h])
  · rw [decide_eq_false h]; exact Fact.eq_no (by rw [h0, h1]; omega)
theorem wayV_ok {p q : List Int} : ∀ e, e ∈ [(0, isPart p), (1, isPart q)] → isPart ((smsOf [p, q]).l e.1) = e.2 := by
  intro e he
  have h1 : isPart [0] = isPart [] := by decide
  simp only [List.mem_cons, List.not_mem_nil, or_false] at he
  rcases he with rfl | rfl
  · show isPart (if p = [] then [0] else p) = isPart p
    split
    · rename_i h; rw [h, h1]
    · rfl
  · show isPart (if q = [] then [0] else q) = isPart q
    split
    · rename_i h; rw [h, h1]
    · rfl
end Go.Sx


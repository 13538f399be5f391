import Derived.Test.YtobdnpnohaonkaaRows
import Derived.Test.YtobdnpnohaonkaaSym
import Derived.Test.YtobdnpnohaonkaaSymD
import Derived.Test.YtobdnpnohaonkaaSymE
import Derived.Test.YtobdnpnohaonkaaSymF
import Derived.Test.YtobdnpnohaonkaaIds
import Derived.Test.YtobdnpnohaonkaaSumm
import Derived.Test.YtobdnpnohaonkaaSeq
import Derived.Test.YtobdnpnohaonkaaSeqB
import Derived.Test.YtobdnpnohaonkaaSeqC
import Derived.Test.YtobdnpnohaonkaaSeqE
import Derived.Test.YtobdnpnohaonkaaRep
import Derived.Test.YtobdnpnohaonkaaRepB
import Derived.Test.YtobdnpnohaonkaaTel
import Derived.Test.YtobdnpnohaonkaaTelB
import Derived.WalkKit
import Derived.ProofKit
import Derived.OpenShut
namespace Go.Proofs.Ytobdnpnohaonkaa.Tel
open Go.ChangeShapes Go.WideShapes Go.ChangeAt Go.RowKit Go.Sx Go.Proofs.Ytobdnpnohaonkaa.Ids Go.Proofs.Ytobdnpnohaonkaa.Seq Go.Proofs.Ytobdnpnohaonkaa.Rep
set_option linter.unusedVariables false
set_option linter.unusedSimpArgs false

theorem six {Q : Nat → Prop} (h1 : Q 1) (h2 : Q 2) (h3 : Q 3) (h4 : Q 4) (h5 : Q 5) (h6 : Q 6) {L : Nat} (hl : 1 ≤ L) (hu : L ≤ 6) : Q L := by
  have h : L = 1 ∨ L = 2 ∨ L = 3 ∨ L = 4 ∨ L = 5 ∨ L = 6 := by omega
  rcases h with rfl | rfl | rfl | rfl | rfl | rfl
  · exact h1
  · exact h2
  · exact h3
  · exact h4
  · exact h5
  · exact h6
theorem five {Q : Nat → Prop} (h2 : Q 2) (h3 : Q 3) (h4 : Q 4) (h5 : Q 5) (h6 : Q 6) {L : Nat} (hl : 2 ≤ L) (hu : L ≤ 6) : Q L := by
  have h : L = 2 ∨ L = 3 ∨ L = 4 ∨ L = 5 ∨ L = 6 := by omega
  rcases h with rfl | rfl | rfl | rfl | rfl
  · exact h2
  · exact h3
  · exact h4
  · exact h5
  · exact h6
def PairL (a b : List Int) : Prop := a.length = b.length ∧ 2 ≤ a.length ∧ a.length ≤ 6 ∧ (∀ z, z ∈ a → IntKind.i64.wrap z = z) ∧ ∀ z, z ∈ b → IntKind.i64.wrap z = z
def rhoP (a b : List Int) (k : Nat) : Int := if k < 6 then a.getD k 0 else b.getD (k - 6) 0
theorem getD_wrap {a : List Int} (h : ∀ z, z ∈ a → IntKind.i64.wrap z = z) (i : Nat) : IntKind.i64.wrap (a.getD i 0) = a.getD i 0 := by
  simp only [List.getD]
  cases ha : a[i]? with
  | none => decide
  | some z => exact h z (List.mem_of_getElem? ha)
theorem map_get {a : List Int} {n : Nat} (hn : a.length = n) (f : Nat → Sy) (ρ : Nat → Int) (hf : ∀ i, i < n → (f i).den ρ = a.getD i 0) : ((List.range n).map f).map (Sy.den ρ) = a := by
  apply List.ext_getElem?
  intro i
  rcases Nat.lt_or_ge i n with hi | hi
  · have : i < a.length := by omega
    simp [hi, hf i hi, List.getD, this]
  · simp [hi, show a.length ≤ i by omega]
theorem gP_den {a b : List Int} {n : Nat} (hn : a.length = n) (h6 : n ≤ 6) (hw : ∀ z, z ∈ a → IntKind.i64.wrap z = z) : (gP n).map (Sy.den (rhoP a b)) = a :=
  map_get hn _ _ (fun i hi => by
    have e : rhoP a b i = a.getD i 0 := by unfold rhoP; rw [if_pos (by omega)]
    rw [vx_den _ _ (by omega) (by rw [e]; exact getD_wrap hw i), e])
theorem fP_den {a b : List Int} {n : Nat} (hn : b.length = n) (h6 : n ≤ 6) (hw : ∀ z, z ∈ b → IntKind.i64.wrap z = z) : (fP n).map (Sy.den (rhoP a b)) = b :=
  map_get hn _ _ (fun i hi => by
    have e : rhoP a b (6 + i) = b.getD i 0 := by unfold rhoP; rw [if_neg (by omega), show 6 + i - 6 = i by omega]
    rw [vx_den _ _ (by omega) (by rw [e]; exact getD_wrap hw i), e])
theorem ne_len {a : List Int} (h : 1 ≤ a.length) : a ≠ [] := fun e => by rw [e] at h; simp at h
theorem pP_pat {a b : List Int} (h : PairL a b) : ∀ (s : Sms) (B : Nat) (c : Cx) (vs : List Value), VRs ⟨Sy.den (rhoP a b), s⟩ B c [.agg [patL a, patL b]] vs → VRs ⟨Sy.den (rhoP a b), s⟩ B c [pP a.length] vs := by
  intro s B c vs hvs
  obtain ⟨h1, h2, h6, wa, wb⟩ := h
  obtain ⟨v, rfl, hv⟩ := hvs.one
  obtain ⟨u, w, rfl, hu, hw⟩ := vr_agg2 hv
  exact .cons (VRs.agg (.cons (ints_sym (gP_den rfl h6 wa) (ne_len (by omega)) hu) (.cons (ints_sym (fP_den h1.symm h6 wb) (ne_len (by omega)) hw) .nil))) .nil

open Classical in
noncomputable def dPair : List (V Sy) → Sto Sy → Option (List Int × List Int)
  | [.agg [x, y]], sto => match constsOf sto x, constsOf sto y with
    | some a, some b => if PairL a b then some (a, b) else none
    | _, _ => none
  | _, _ => none
theorem dPair_eq {sto : Sto Sy} {x y : V Sy} {a b : List Int} (ha : constsOf sto x = some a) (hb : constsOf sto y = some b) (h : PairL a b) : dPair [.agg [x, y]] sto = some (a, b) := by
  simp only [dPair, ha, hb, if_pos h]
theorem dPair_rel {args : List (V Sy)} {sto : Sto Sy} {p : List Int × List Int} (h : dPair args sto = some p) : PairL p.1 p.2 ∧ ∀ (ρ : Nat → Int) (s : Sms) (B : Nat) (c : Cx), SInv ⟨Sy.den ρ, s⟩ B c sto → ∀ vs, VRs ⟨Sy.den ρ, s⟩ B c args vs → ∀ ρ', VRs ⟨Sy.den ρ', s⟩ c.w.heap.size ⟨c.w, fun _ => none⟩ [.agg [patL p.1, patL p.2]] vs := by
  unfold dPair at h
  split at h
  case h_2 => cases h
  rename_i x y
  split at h
  case h_2 => cases h
  rename_i a b ha hb
  split at h
  case isFalse => cases h
  rename_i hp
  cases h
  refine ⟨hp, fun ρ s B c hinv vs hvs ρ' => ?_⟩
  obtain ⟨h1, h2, h6, wa, wb⟩ := hp
  obtain ⟨v, rfl, hv⟩ := hvs.one
  obtain ⟨u, w, rfl, hu, hw⟩ := vr_agg2 hv
  exact .cons (VRs.agg (.cons (patL_rel ha (by simp only; omega) hinv hu) (.cons (patL_rel hb (by simp only; omega) hinv hw) .nil))) .nil

def vpB (a b : List Int) : Bool := decide (validP 600 a ∧ validP 600 b ∧ (a.getD 0 0 = 1 ∨ a.getD 0 0 = -1) ∧ b.getD 0 0 = 0 ∧ (b.getD 1 0 = 1 ∨ b.getD 1 0 = -1))
theorem vp_tells {a b : List Int} (h : PairL a b) : Tells Try.prog 56 [.agg [patL a, patL b]] (fun _ => .bool (vpB a b)) (fun _ => []) := by
  have hp := pP_pat h
  obtain ⟨h1, h2, h6, wa, wb⟩ := h
  have ga := gP_den (b := b) rfl h6 wa
  have gb := fP_den (a := a) h1.symm h6 wb
  have main : ∀ (Γ : List Fact) (qa qb q : Bool), (∀ f, f ∈ Γ → f.Ok (rhoP a b)) → decide (validP 600 a) = qa → decide (validP 600 b) = qb → booIs q (vpR a.length Γ qa qb) = true → vpB a b = q → Tells Try.prog 56 [.agg [patL a, patL b]] (fun _ => .bool (vpB a b)) (fun _ => []) := by
    intro Γ qa qb q hΓ e1 e2 hq e3
    rw [e3]
    refine tells_boo hq (fun R S hRS s B' => ?_) hp
    refine (symRun_ok noCount mixed hΓ (symK_ok noCount mixed ids_ok (t := Summs.tab) Summs.tab_ok hΓ (fun e he => ?_)) 60 _ _ _ _ _ hRS).1
    simp only [List.mem_cons, List.not_mem_nil, or_false] at he
    rcases he with rfl | rfl
    · unfold VEnt.Ok; simp only [ga]; exact e1
    · unfold VEnt.Ok; simp only [gb]; exact e2
  have C : vpC a.length = true := five (Q := fun n => vpC n = true) vp_2 vp_3 vp_4 vp_5 vp_6 h2 h6
  have x0 : (vx 0).den (rhoP a b) = a.getD 0 0 := vx_den _ _ (by omega) (getD_wrap wa 0)
  have x6 : (vx 6).den (rhoP a b) = b.getD 0 0 := vx_den _ _ (by omega) (getD_wrap wb 0)
  have x7 : (vx 7).den (rhoP a b) = b.getD 1 0 := vx_den _ _ (by omega) (getD_wrap wb 1)
  have ne : ∀ {x : Sy} {n z : Int}, x.den (rhoP a b) = n → ¬ n = z → (neF x z).Ok (rhoP a b) := fun {x n z} e h => Fact.eq_no (by rw [e]; exact h)
  have eq : ∀ {x : Sy} {n z : Int}, x.den (rhoP a b) = n → n = z → (eqF x z).Ok (rhoP a b) := fun {x n z} e h => Fact.eq_yes (by rw [e]; exact h)
  have un : ∀ {x : Sy} {n : Int}, x.den (rhoP a b) = n → (n = 1 ∨ n = -1) → ∃ s, ∀ f, f ∈ unF x s → f.Ok (rhoP a b) := fun {x n} e h => by
    rcases h with h | h
    · exact ⟨true, fun f hf => by simp only [unF, List.mem_cons, List.not_mem_nil, or_false] at hf; subst hf; exact eq e h⟩
    · exact ⟨false, fun f hf => by
        simp only [unF, List.mem_cons, List.not_mem_nil, or_false] at hf
        rcases hf with rfl | rfl
        · exact ne e (by omega)
        · exact eq e h⟩
  unfold vpC at C
  simp only [bite_eq] at C
  split at C
  case isFalse => cases C
  rename_i c1
  split at C
  case isFalse => cases C
  rename_i c2
  split at C
  case isFalse => cases C
  rename_i c3
  split at C
  case isFalse => cases C
  rename_i c4
  split at C
  case isFalse => cases C
  rename_i c5
  have c6 : ∀ s, vpS a.length s = true := fun s => by cases s; exact C; exact c5
  by_cases va : validP 600 a
  case neg =>
    by_cases vb : validP 600 b
    · exact main [] false true false (by simp) (decide_eq_false va) (decide_eq_true vb) c1 (decide_eq_false fun h => va h.1)
    · exact main [] false false false (by simp) (decide_eq_false va) (decide_eq_false vb) c2 (decide_eq_false fun h => va h.1)
  by_cases vb : validP 600 b
  case neg => exact main [] true false false (by simp) (decide_eq_true va) (decide_eq_false vb) c3 (decide_eq_false fun h => vb h.2.1)
  by_cases u0 : a.getD 0 0 = 1 ∨ a.getD 0 0 = -1
  case neg =>
    refine main [neF (vx 0) 1, neF (vx 0) (-1)] true true false (fun f hf => ?_) (decide_eq_true va) (decide_eq_true vb) c4 (decide_eq_false fun h => u0 h.2.2.1)
    simp only [List.mem_cons, List.not_mem_nil, or_false] at hf
    rcases hf with rfl | rfl
    · exact ne x0 (fun h => u0 (.inl h))
    · exact ne x0 (fun h => u0 (.inr h))
  obtain ⟨s, hs⟩ := un x0 u0
  have c := c6 s
  unfold vpS at c
  simp only [bite_eq] at c
  split at c
  case isFalse => cases c
  rename_i d1
  split at c
  case isFalse => cases c
  rename_i d2
  split at c
  case isFalse => cases c
  rename_i d3
  by_cases z0 : b.getD 0 0 = 0
  case neg =>
    refine main _ true true false (fun f hf => ?_) (decide_eq_true va) (decide_eq_true vb) d1 (decide_eq_false fun h => z0 h.2.2.2.1)
    rcases List.mem_cons.1 hf with rfl | hf
    · exact ne x6 z0
    · exact hs f hf
  by_cases u1 : b.getD 1 0 = 1 ∨ b.getD 1 0 = -1
  case neg =>
    refine main _ true true false (fun f hf => ?_) (decide_eq_true va) (decide_eq_true vb) d2 (decide_eq_false fun h => u1 h.2.2.2.2)
    rcases List.mem_cons.1 hf with rfl | hf
    · exact ne x7 (fun h => u1 (.inl h))
    rcases List.mem_cons.1 hf with rfl | hf
    · exact ne x7 (fun h => u1 (.inr h))
    rcases List.mem_cons.1 hf with rfl | hf
    · exact eq x6 z0
    · exact hs f hf
  obtain ⟨t, ht⟩ := un x7 u1
  have d : booIs true (vpR a.length (unF (vx 7) t ++ (eqF (vx 6) 0 :: unF (vx 0) s)) true true) = true := by cases t; exact c; exact d3
  refine main _ true true true (fun f hf => ?_) (decide_eq_true va) (decide_eq_true vb) d (decide_eq_true ⟨va, vb, u0, z0, u1⟩)
  rcases List.mem_append.1 hf with hf | hf
  · exact ht f hf
  rcases List.mem_cons.1 hf with rfl | hf
  · exact eq x6 z0
  · exact hs f hf
noncomputable def vpK : Ctr := telK 56 dPair (fun p _ => .bool (vpB p.1 p.2)) (fun _ _ => [])
theorem vpK_ok (ρ : Nat → Int) (s : Sms) (B : Nat) : COk Try.prog ⟨Sy.den ρ, s⟩ B vpK :=
  telK_ok (body_of Try.func56 rfl) (fun args sto p h => ⟨_, vp_tells (dPair_rel h).1, (dPair_rel h).2⟩)

noncomputable def arrF (p : List Int × List Int) : List (List Int) := (rowsAt (arrR p.1.length)).map fun ps => ps.map (Sy.den (rhoP p.1 p.2))
theorem lens_all {n : Nat} : ∀ {l : List (List Sy)}, lensB n l = true → ∀ ps, ps ∈ l → ps.length = n
  | [], _, ps, h => by simp at h
  | q :: r, h, ps, hp => by
    simp only [lensB, bite_eq] at h
    split at h
    case isFalse => cases h
    rename_i hq
    rcases List.mem_cons.1 hp with rfl | hp
    · exact Nat.eq_of_beq_eq_true hq
    · exact lens_all h ps hp
theorem arr_all {n : Nat} (h2 : 2 ≤ n) (h6 : n ≤ 6) : rowsIs (rowsAt (arrR n)) (arrR n) = true ∧ (rowsAt (arrR n)).length = n ∧ ∀ ps, ps ∈ rowsAt (arrR n) → ps.length = n := by
  have C : arrC n = true := five (Q := fun n => arrC n = true) arr_2 arr_3 arr_4 arr_5 arr_6 h2 h6
  unfold arrC at C
  simp only [bite_eq] at C
  split at C
  case isFalse => cases C
  rename_i c1
  split at C
  case isFalse => cases C
  rename_i c2
  exact ⟨c1, Nat.eq_of_beq_eq_true c2, lens_all C⟩
theorem arrF_len {p : List Int × List Int} (h : PairL p.1 p.2) : (arrF p).length = p.1.length ∧ ∀ z, z ∈ arrF p → z.length = p.1.length := by
  obtain ⟨_, c2, c3⟩ := arr_all h.2.1 h.2.2.1
  refine ⟨by simp [arrF, c2], fun z hz => ?_⟩
  obtain ⟨ps, hps, rfl⟩ := List.mem_map.1 hz
  simpa using c3 ps hps
theorem arr_tells {p : List Int × List Int} (h : PairL p.1 p.2) : Tells Try.prog 57 [.agg [patL p.1, patL p.2]] (rowsR (arrF p)) (rowsO (arrF p)) :=
  tells_rows (arr_all h.2.1 h.2.2.1).1 (fun R S hRS s B' => run_goodK noCount mixed (fun _ _ _ => summK_ok Summs.tab_ok) _ hRS B') (pP_pat h)
noncomputable def arrK : Ctr := telK 57 dPair (fun p => rowsR (arrF p)) (fun p => rowsO (arrF p))
theorem arrK_ok (ρ : Nat → Int) (s : Sms) (B : Nat) : COk Try.prog ⟨Sy.den ρ, s⟩ B arrK :=
  telK_ok (body_of Try.func57 rfl) (fun args sto p h => ⟨_, arr_tells (dPair_rel h).1, (dPair_rel h).2⟩)

open Classical in
noncomputable def dLen (lo : Nat) : List (V Sy) → Sto Sy → Option Nat
  | [.int .i64 (.c z)], _ => if ((lo : Int) ≤ z ∧ z ≤ 6) then some z.toNat else none
  | _, _ => none
theorem dLen_eq {lo n : Nat} {sto : Sto Sy} (h1 : lo ≤ n) (h6 : n ≤ 6) : dLen lo [.int .i64 (.c n)] sto = some n := by
  simp only [dLen, if_pos (show (lo : Int) ≤ (n : Int) ∧ (n : Int) ≤ 6 by omega)]; simp
theorem int_rel {ρ ρ' : Nat → Int} {s : Sms} {B B' : Nat} {c c' : Cx} {z : Int} {v : Value} (h : VR ⟨Sy.den ρ, s⟩ B c (.int .i64 (.c z)) v) : VR ⟨Sy.den ρ', s⟩ B' c' (.int .i64 (.c z)) v := by
  cases h with
  | int k n => exact VR.int (Δ := ⟨Sy.den ρ', s⟩) .i64 (.c z)
theorem dLen_rel {lo n : Nat} {args : List (V Sy)} {sto : Sto Sy} (h : dLen lo args sto = some n) : lo ≤ n ∧ n ≤ 6 ∧ ∀ (ρ : Nat → Int) (s : Sms) (B : Nat) (c : Cx), SInv ⟨Sy.den ρ, s⟩ B c sto → ∀ vs, VRs ⟨Sy.den ρ, s⟩ B c args vs → ∀ ρ', VRs ⟨Sy.den ρ', s⟩ c.w.heap.size ⟨c.w, fun _ => none⟩ [.int .i64 (.c n)] vs := by
  unfold dLen at h
  split at h
  case h_2 => cases h
  rename_i z
  split at h
  case isFalse => cases h
  rename_i hz
  cases h
  have e : ((z.toNat : Nat) : Int) = z := by omega
  refine ⟨by omega, by omega, fun ρ s B c hinv vs hvs ρ' => ?_⟩
  obtain ⟨v, rfl, hv⟩ := hvs.one
  rw [e]
  exact .cons (int_rel hv) .nil
noncomputable def facF (n : Nat) : List (List Int) := (rowsAt (facR n)).map fun ps => ps.map (Sy.den fun _ => 0)
theorem fac_all {n : Nat} (h2 : 1 ≤ n) (h6 : n ≤ 6) : rowsIs (rowsAt (facR n)) (facR n) = true ∧ (rowsAt (facR n)).length = n ∧ ∀ ps, ps ∈ rowsAt (facR n) → ps.length = n := by
  have C : facC n = true := six (Q := fun n => facC n = true) fac_1 fac_2 fac_3 fac_4 fac_5 fac_6 h2 h6
  unfold facC at C
  simp only [bite_eq] at C
  split at C
  case isFalse => cases C
  rename_i c1
  split at C
  case isFalse => cases C
  rename_i c2
  exact ⟨c1, Nat.eq_of_beq_eq_true c2, lens_all C⟩
theorem facF_len {n : Nat} (h1 : 1 ≤ n) (h6 : n ≤ 6) : (facF n).length = n ∧ ∀ z, z ∈ facF n → z.length = n := by
  obtain ⟨_, c2, c3⟩ := fac_all h1 h6
  refine ⟨by simp [facF, c2], fun z hz => ?_⟩
  obtain ⟨ps, hps, rfl⟩ := List.mem_map.1 hz
  simpa using c3 ps hps
noncomputable def facK : Ctr := telK 53 (dLen 1) (fun n => rowsR (facF n)) (fun n => rowsO (facF n))
theorem facK_ok (ρ : Nat → Int) (s : Sms) (B : Nat) : COk Try.prog ⟨Sy.den ρ, s⟩ B facK :=
  telK_ok (body_of Try.func53 rfl) (fun args sto n h => ⟨_, tells_rows (fac_all (dLen_rel h).1 (dLen_rel h).2.1).1 (fun R S hRS s B' => run_goodK noCount mixed (fun _ _ _ => noK_ok) _ hRS B') (fun _ _ _ _ h => h), (dLen_rel h).2.2⟩)

theorem c_den (ρ : Nat → Int) (z : Int) : (Sy.c z).den ρ = (Sy.c z).den (fun _ => 0) := rfl
noncomputable def uniF (n : Nat) : List Int × List Int := ((e0S n).map (Sy.den fun _ => 0), (e1S n).map (Sy.den fun _ => 0))
noncomputable def uniK : Ctr := telK 55 (dLen 2) (fun n => unR (uniF n)) (fun n => unO (uniF n))
theorem uniK_ok (ρ : Nat → Int) (s : Sms) (B : Nat) : COk Try.prog ⟨Sy.den ρ, s⟩ B uniK :=
  telK_ok (body_of Try.func55 rfl) (fun args sto n h => ⟨_, tells_un (ps := e0S n) (qs := e1S n) (r := uniR n) (five (Q := fun n => uniC n = true) uni_2 uni_3 uni_4 uni_5 uni_6 (dLen_rel h).1 (dLen_rel h).2.1) (fun R S hRS s B' => run_goodK noCount mixed (fun _ _ _ => summK_ok Summs.tab_ok) _ hRS B') (fun _ _ _ _ h => h), (dLen_rel h).2.2⟩)

def e0 (n : Nat) : List Int := 1 :: List.replicate (n - 1) 0
theorem e0_den (ρ : Nat → Int) (n : Nat) : (e0S n).map (Sy.den ρ) = e0 n := by
  simp only [e0S, e0, List.map_cons, List.map_replicate]
  rfl
theorem e0_len {n : Nat} (h : 1 ≤ n) : (e0 n).length = n := by simp [e0]; omega
open Classical in
noncomputable def dLin : List (V Sy) → Sto Sy → Option Nat
  | [.int .i64 (.c z), .int .i64 (.c 0)], _ => if ((1 : Int) ≤ z ∧ z ≤ 6) then some z.toNat else none
  | _, _ => none
theorem dLin_eq {n : Nat} {sto : Sto Sy} (h1 : 1 ≤ n) (h6 : n ≤ 6) : dLin [.int .i64 (.c n), .int .i64 (.c 0)] sto = some n := by
  simp only [dLin, if_pos (show (1 : Int) ≤ (n : Int) ∧ (n : Int) ≤ 6 by omega)]; simp
theorem dLin_rel {n : Nat} {args : List (V Sy)} {sto : Sto Sy} (h : dLin args sto = some n) : 1 ≤ n ∧ n ≤ 6 ∧ ∀ (ρ : Nat → Int) (s : Sms) (B : Nat) (c : Cx), SInv ⟨Sy.den ρ, s⟩ B c sto → ∀ vs, VRs ⟨Sy.den ρ, s⟩ B c args vs → ∀ ρ', VRs ⟨Sy.den ρ', s⟩ c.w.heap.size ⟨c.w, fun _ => none⟩ [.int .i64 (.c n), .int .i64 (.c 0)] vs := by
  unfold dLin at h
  split at h
  case h_2 => cases h
  rename_i z
  split at h
  case isFalse => cases h
  rename_i hz
  cases h
  have e : ((z.toNat : Nat) : Int) = z := by omega
  refine ⟨by omega, by omega, fun ρ s B c hinv vs hvs ρ' => ?_⟩
  obtain ⟨v, w, rfl, hv, hw⟩ := hvs.two
  rw [e]
  exact .cons (int_rel hv) (.cons (int_rel hw) .nil)

open Classical in
noncomputable def dEql : List (V Sy) → Sto Sy → Option (List Int)
  | [x, y], sto => match constsOf sto x, constsOf sto y with
    | some a, some b => if (a = b ∧ 1 ≤ a.length ∧ a.length ≤ 6 ∧ ∀ z, z ∈ a → IntKind.i64.wrap z = z) then some a else none
    | _, _ => none
  | _, _ => none
theorem dEql_eq {sto : Sto Sy} {x y : V Sy} {a : List Int} (ha : constsOf sto x = some a) (hb : constsOf sto y = some a) (h1 : 1 ≤ a.length) (h6 : a.length ≤ 6) (hw : ∀ z, z ∈ a → IntKind.i64.wrap z = z) : dEql [x, y] sto = some a := by
  simp only [dEql, ha, hb]
  rw [if_pos ⟨trivial, h1, h6, hw⟩]
noncomputable def eqlK : Ctr := telK 7 dEql (fun _ _ => .bool true) (fun _ _ => [])
theorem eqlK_ok (ρ : Nat → Int) (s : Sms) (B : Nat) : COk Try.prog ⟨Sy.den ρ, s⟩ B eqlK := by
  refine telK_ok (body_of Try.func7 rfl) (fun args sto a h => ?_)
  unfold dEql at h
  split at h
  case h_2 => cases h
  rename_i x y
  split at h
  case h_2 => cases h
  rename_i a b ha hb
  split at h
  case isFalse => cases h
  rename_i hp
  cases h
  obtain ⟨rfl, h1, h6, hw⟩ := hp
  have ga := gP_den (b := []) rfl h6 hw
  refine ⟨[patL a, patL a], tells_boo (ρ' := rhoP a []) (six (Q := fun n => eqlC n = true) eql_1 eql_2 eql_3 eql_4 eql_5 eql_6 h1 h6) (fun R S hRS s B' => run_goodK noCount mixed (fun _ _ _ => noK_ok) _ hRS B') (fun s B c vs hvs => ?_), fun ρ s B c hinv vs hvs ρ' => ?_⟩
  · obtain ⟨v, w, rfl, hv, hw⟩ := hvs.two
    exact .cons (ints_sym ga (ne_len h1) hv) (.cons (ints_sym ga (ne_len h1) hw) .nil)
  · obtain ⟨v, w, rfl, hv, hw⟩ := hvs.two
    exact .cons (patL_rel ha (by omega) hinv hv) (.cons (patL_rel hb (by omega) hinv hw) .nil)
end Go.Proofs.Ytobdnpnohaonkaa.Tel

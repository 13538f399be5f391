import Derived.Test.YtpjenggjcpahaaaRows
import Derived.Test.YtpjenggjcpahaaaSym
import Derived.Test.YtpjenggjcpahaaaSymD
import Derived.Test.YtpjenggjcpahaaaSymE
import Derived.Test.YtpjenggjcpahaaaSymF
import Derived.Test.YtpjenggjcpahaaaIds
import Derived.Test.YtpjenggjcpahaaaSumm
import Derived.Test.YtpjenggjcpahaaaNp
import Derived.Test.YtpjenggjcpahaaaSeq
import Derived.Test.YtpjenggjcpahaaaSeqB
import Derived.Test.YtpjenggjcpahaaaSeqG
import Derived.Test.YtpjenggjcpahaaaRep
import Derived.Test.YtpjenggjcpahaaaRepB
import Derived.Test.YtpjenggjcpahaaaTel
import Derived.Test.YtpjenggjcpahaaaTelB
import Derived.Test.YtpjenggjcpahaaaTelC
import Derived.Test.YtpjenggjcpahaaaPr
import Derived.Test.YtpjenggjcpahaaaPrM
import Derived.Test.YtpjenggjcpahaaaPrF
import Derived.Test.YtpjenggjcpahaaaPrG
import Derived.Test.YtpjenggjcpahaaaPrH
import Derived.Test.YtpjenggjcpahaaaPrN
import Derived.Test.YtpjenggjcpahaaaPl
import Derived.WalkKit
import Derived.ProofKit
import Derived.OpenShut
namespace Go.Proofs.Ytpjenggjcpahaaa.Pl
open Go.ChangeShapes Go.WideShapes Go.ChangeAt Go.RowKit Go.Sx Go.Proofs.Ytpjenggjcpahaaa.Ids Go.Proofs.Ytpjenggjcpahaaa.Seq Go.Proofs.Ytpjenggjcpahaaa.Tel
open Go.Proofs.Ytpjenggjcpahaaa.Pr (arrQ gS fS patZ rowsZ rowZ rhoZ rhoQ col quo PairP Sq gS_den fS_den col_len quo_len pF pairR pairO pF_yes pF_no implPair_tells specPair_tells)
set_option linter.unusedVariables false
set_option linter.unusedSimpArgs false

theorem evm_low {ρ ρ' : Nat → Int} : ∀ (f i m k : Nat), k < 256 ^ m → (∀ j, i ≤ j → j < i + m → ρ j = ρ' j) → evm ρ f i k = evm ρ' f i k := by
  intro f
  induction f with
  | zero => intro i m k _ _; rfl
  | succ f ih =>
    intro i m k hk hρ
    simp only [evm]
    cases m with
    | zero =>
      have : k = 0 := by simpa using hk
      subst this
      rw [show 0 % 256 = 0 from rfl, show 0 / 256 = 0 from rfl, ih (i + 1) 0 0 (by simp) (fun j h1 h2 => by omega)]
      simp
    | succ m =>
      rw [hρ i (Nat.le_refl _) (by omega), ih (i + 1) m (k / 256) (by rw [Nat.pow_succ] at hk; omega) (fun j h1 h2 => hρ j (by omega) (by omega))]
theorem lowP_ok {ρ ρ' : Nat → Int} (hρ : ∀ j, j < 12 → ρ j = ρ' j) : ∀ {l : Poly}, lowP l = true → peval ρ l = peval ρ' l
  | [], _ => rfl
  | (k, a) :: r, h => by
    simp only [lowP, bite_eq] at h
    split at h
    case isFalse => cases h
    rename_i hk
    rw [Nat.blt_eq] at hk
    simp only [peval]
    rw [lowP_ok hρ h, show ev ρ k = ev ρ' k from evm_low 40 0 12 k hk (fun j _ hj => hρ j (by omega))]
theorem lowS_ok {ρ ρ' : Nat → Int} (hρ : ∀ j, j < 12 → ρ j = ρ' j) {s : Sy} (h : lowS s = true) : s.den ρ = s.den ρ' := by
  cases s with
  | c n => rfl
  | p l => simp only [Sy.den]; rw [lowP_ok hρ h]
theorem lowL_ok {ρ ρ' : Nat → Int} (hρ : ∀ j, j < 12 → ρ j = ρ' j) {l : List (List Sy)} (h : lowL l = true) : l.map (fun ps => ps.map (Sy.den ρ)) = l.map (fun ps => ps.map (Sy.den ρ')) := by
  refine List.map_congr_left (fun ps hps => List.map_congr_left (fun s hs => lowS_ok hρ ?_))
  exact List.all_eq_true.1 (List.all_eq_true.1 h ps hps) s hs
theorem arr_at {L : Nat} (h2 : 2 ≤ L) (h6 : L ≤ 6) {a b : Int} (ha : a = 1 ∨ a = -1) (hb : b = 1 ∨ b = -1) : arrI L a b = true := by
  have C : arr4 L = true := five (Q := fun L => arr4 L = true) arr4_2 arr4_3 arr4_4 arr4_5 arr4_6 h2 h6
  unfold arr4 at C
  simp only [bite_eq] at C
  split at C
  case isFalse => cases C
  rename_i c1
  split at C
  case isFalse => cases C
  rename_i c2
  split at C
  case isFalse => cases C
  rename_i c3
  rcases ha with rfl | rfl <;> rcases hb with rfl | rfl
  · exact c1
  · exact c2
  · exact c3
  · exact C
def PairN (zss : List (List Int)) : Prop := PairP zss ∧ ∀ r, r ∈ zss → ∀ z, z ∈ r → IntKind.i64.wrap z = z
theorem PairN.sq {zss : List (List Int)} (h : PairN zss) : Sq zss := ⟨h.1.1, h.1.2.1, h.1.2.2.1, h.2⟩
theorem rows_one {zss zss' : List (List Int)} (h : PairN zss) (h' : PairN zss') (e1 : col zss 0 = col zss' 0) (e2 : quo zss = quo zss') : zss = zss' := by
  have hl : zss.length = zss'.length := by rw [← col_len (zss := zss) 0, ← col_len (zss := zss') 0, e1]
  obtain ⟨⟨h2, h6, _, hu, _, _, _, hv, l, hl1, he⟩, _⟩ := h
  obtain ⟨⟨_, _, _, _, _, _, _, _, l', hl1', he'⟩, _⟩ := h'
  rw [e1, e2, hl] at hl1
  rw [hl1] at hl1'
  cases hl1'
  have C := arr_at (L := zss'.length) (by omega) (by omega) (by rw [e1] at hu; exact hu) (by rw [e2] at hv; exact hv)
  unfold arrI at C
  rw [hl1] at C
  simp only [bite_eq] at C
  split at C
  case isFalse => cases C
  split at C
  case isFalse => cases C
  rename_i hlow
  rw [← he, ← he']
  refine lowL_ok (fun j hj => ?_) hlow
  unfold rhoQ
  by_cases h6' : j < 6
  · rw [if_pos h6', if_pos h6', e1]
  · rw [if_neg h6', if_neg h6', if_pos hj, if_pos hj, e2]
open Classical in
noncomputable def dCol : List (V Sy) → Sto Sy → Option (List (List Int))
  | [.agg [x, y]], sto => match constsOf sto x, constsOf sto y with
    | some a, some b => if h : ∃ zss, PairN zss ∧ col zss 0 = a ∧ quo zss = b then some (Classical.choose h) else none
    | _, _ => none
  | _, _ => none
theorem dCol_eq {sto : Sto Sy} {x y : V Sy} {zss : List (List Int)} (ha : constsOf sto x = some (col zss 0)) (hb : constsOf sto y = some (quo zss)) (h : PairN zss) : dCol [.agg [x, y]] sto = some zss := by
  simp only [dCol, ha, hb]
  have hx : ∃ zss', PairN zss' ∧ col zss' 0 = col zss 0 ∧ quo zss' = quo zss := ⟨zss, h, rfl, rfl⟩
  rw [dif_pos hx]
  have hc := Classical.choose_spec hx
  rw [rows_one hc.1 h hc.2.1 hc.2.2]
theorem dCol_rel {args : List (V Sy)} {sto : Sto Sy} {zss : List (List Int)} (h : dCol args sto = some zss) : PairN zss ∧ ∀ (ρ : Nat → Int) (s : Sms) (B : Nat) (c : Cx), SInv ⟨Sy.den ρ, s⟩ B c sto → ∀ vs, VRs ⟨Sy.den ρ, s⟩ B c args vs → ∀ ρ', VRs ⟨Sy.den ρ', s⟩ c.w.heap.size ⟨c.w, fun _ => none⟩ [.agg [patL (col zss 0), patL (quo zss)]] vs := by
  unfold dCol at h
  split at h
  case h_2 => cases h
  rename_i x y
  split at h
  case h_2 => cases h
  rename_i a b ha hb
  split at h
  case isFalse => cases h
  rename_i hx
  cases h
  obtain ⟨hP, e1, e2⟩ := Classical.choose_spec hx
  refine ⟨hP, fun ρ s B c hinv vs hvs ρ' => ?_⟩
  rw [e1, e2]
  have l1 := col_len (zss := Classical.choose hx) 0
  have l2 := quo_len (zss := Classical.choose hx)
  rw [e1] at l1
  rw [e2] at l2
  have h6 := hP.1.2.1
  obtain ⟨v, rfl, hv⟩ := hvs.one
  obtain ⟨u, w, rfl, hu, hw⟩ := vr_agg2 hv
  exact .cons (VRs.agg (.cons (patL_rel ha (by omega) hinv hu) (.cons (patL_rel hb (by omega) hinv hw) .nil))) .nil
section
variable {zss : List (List Int)}
theorem fac_ok (h : PairN zss) : ∀ f, f ∈ facQ zss.length ((col zss 0).getD 0 0) ((quo zss).getD 1 0) → f.Ok (rhoQ zss) := by
  have hs := h.sq
  obtain ⟨⟨h2, h6, _, hu, hvg, hvf, hf0, hv, _⟩, _⟩ := h
  intro f hf
  rcases List.mem_append.1 hf with hf | hf
  · exact rngF_ok (fun z hz => hvg.1 z (by rwa [gS_den hs rfl] at hz)) f hf
  · exact rngF_ok (fun z hz => hvf.1 z (by rwa [fS_den hs (fun _ => hf0) (fun _ => rfl)] at hz)) f hf
theorem vt_ok (h : PairN zss) : ∀ e, e ∈ vtQ zss.length ((col zss 0).getD 0 0) ((quo zss).getD 1 0) → e.Ok (rhoQ zss) := by
  have hs := h.sq
  obtain ⟨⟨h2, h6, _, hu, hvg, hvf, hf0, hv, _⟩, _⟩ := h
  intro e he
  simp only [vtQ, List.mem_cons, List.not_mem_nil, or_false] at he
  rcases he with rfl | rfl
  · unfold VEnt.Ok; simp only [gS_den hs rfl]; exact decide_eq_true hvg
  · unfold VEnt.Ok; simp only [fS_den hs (fun _ => hf0) (fun _ => rfl)]; exact decide_eq_true hvf
theorem pQ_pat (h : PairN zss) : ∀ (s : Sms) (B : Nat) (c : Cx) (vs : List Value), VRs ⟨Sy.den (rhoQ zss), s⟩ B c [.agg [patL (col zss 0), patL (quo zss)]] vs → VRs ⟨Sy.den (rhoQ zss), s⟩ B c [pQ zss.length ((col zss 0).getD 0 0) ((quo zss).getD 1 0)] vs := by
  have hs := h.sq
  obtain ⟨⟨h2, h6, _, hu, hvg, hvf, hf0, hv, _⟩, _⟩ := h
  intro s B c vs hvs
  obtain ⟨v, rfl, hv'⟩ := hvs.one
  obtain ⟨u, w, rfl, hu', hw⟩ := vr_agg2 hv'
  exact .cons (VRs.agg (.cons (ints_sym (gS_den hs rfl) (ne_len (by rw [col_len]; omega)) hu') (.cons (ints_sym (fS_den hs (fun _ => hf0) (fun _ => rfl)) (ne_len (by rw [quo_len]; omega)) hw) .nil))) .nil
theorem arrI_at (h : PairN zss) : arrI zss.length ((col zss 0).getD 0 0) ((quo zss).getD 1 0) = true := arr_at h.1.1 h.1.2.1 h.1.2.2.2.1 h.1.2.2.2.2.2.2.2.1
theorem arr_tells (h : PairN zss) : Tells Try.prog 16 [.agg [patL (col zss 0), patL (quo zss)]] (rowsR zss) (rowsO zss) ∧ Tells Try.prog 17 [.agg [patL (col zss 0), patL (quo zss)]] (fun _ => .bool true) (fun _ => []) := by
  have C := arrI_at h
  have hF := fac_ok h
  have hV := vt_ok h
  have hp := pQ_pat h
  obtain ⟨l, hl, he⟩ := h.1.2.2.2.2.2.2.2.2
  unfold arrI at C
  rw [hl] at C
  simp only [bite_eq] at C
  split at C
  case isFalse => cases C
  rename_i c1
  split at C
  case isFalse => cases C
  have T := tells_rows c1 (fun R S hRS s B' => (symRun_ok noCount mixed hF (symK_ok noCount mixed ids_ok (t := Summs.tab) Summs.tab_ok hF hV) 60 _ _ _ _ _ hRS).1) hp
  rw [he] at T
  exact ⟨T, tells_boo C (fun R S hRS s B' => (symRun_ok noCount mixed hF (symK_ok noCount mixed ids_ok (t := Summs.tab) Summs.tab_ok hF hV) 60 _ _ _ _ _ hRS).1) hp⟩
end
noncomputable def arK : Ctr := telK 16 dCol (fun zss => rowsR zss) (fun zss => rowsO zss)
theorem arK_ok (ρ : Nat → Int) (s : Sms) (B : Nat) : COk Try.prog ⟨Sy.den ρ, s⟩ B arK :=
  telK_ok (body_of Try.func16 rfl) (fun args sto p h => ⟨_, (arr_tells (dCol_rel h).1).1, (dCol_rel h).2⟩)
noncomputable def vaK : Ctr := telK 17 dCol (fun zss _ => .bool true) (fun zss _ => [])
theorem vaK_ok (ρ : Nat → Int) (s : Sms) (B : Nat) : COk Try.prog ⟨Sy.den ρ, s⟩ B vaK :=
  telK_ok (body_of Try.func17 rfl) (fun args sto p h => ⟨_, (arr_tells (dCol_rel h).1).2, (dCol_rel h).2⟩)

open Classical in
noncomputable def dEqp : List (V Sy) → Sto Sy → Option (List Int × List Int)
  | [.agg [x, y], .agg [u, v]], sto => match constsOf sto x, constsOf sto y, constsOf sto u, constsOf sto v with
    | some a, some b, some a', some b' => if PairL a b ∧ a' = a ∧ b' = b then some (a, b) else none
    | _, _, _, _ => none
  | _, _ => none
theorem dEqp_eq {sto : Sto Sy} {x y u v : V Sy} {a b : List Int} (h1 : constsOf sto x = some a) (h2 : constsOf sto y = some b) (h3 : constsOf sto u = some a) (h4 : constsOf sto v = some b) (h : PairL a b) : dEqp [.agg [x, y], .agg [u, v]] sto = some (a, b) := by
  simp only [dEqp, h1, h2, h3, h4]
  rw [if_pos ⟨h, rfl, rfl⟩]
noncomputable def eqpK : Ctr := telK 14 dEqp (fun _ _ => .bool true) (fun _ _ => [])
theorem eqpK_ok (ρ : Nat → Int) (s : Sms) (B : Nat) : COk Try.prog ⟨Sy.den ρ, s⟩ B eqpK := by
  refine telK_ok (body_of Try.func14 rfl) (fun args sto p h => ?_)
  unfold dEqp at h
  split at h
  case h_2 => cases h
  rename_i x y u v
  split at h
  case h_2 => cases h
  rename_i a b a' b' h1 h2 h3 h4
  split at h
  case isFalse => cases h
  rename_i hp
  cases h
  obtain ⟨hp, rfl, rfl⟩ := hp
  have hpat := pP_pat hp
  obtain ⟨l1, l2, l6, wa, wb⟩ := hp
  refine ⟨[.agg [patL a', patL b'], .agg [patL a', patL b']], tells_boo (ρ' := rhoP a' b') (five (Q := fun L => eqpR L = true) eqp_2 eqp_3 eqp_4 eqp_5 eqp_6 l2 l6) (fun R S hRS s B' => run_goodK noCount mixed (fun _ _ _ => noK_ok) _ hRS B') (fun s B c vs hvs => ?_), fun ρ s B c hinv vs hvs ρ' => ?_⟩
  · obtain ⟨v1, v2, rfl, hv1, hv2⟩ := hvs.two
    obtain ⟨z1, e1, k1⟩ := (hpat s B c [v1] (.cons hv1 .nil)).one
    obtain ⟨z2, e2, k2⟩ := (hpat s B c [v2] (.cons hv2 .nil)).one
    cases e1
    cases e2
    exact .cons k1 (.cons k2 .nil)
  · obtain ⟨v1, v2, rfl, hv1, hv2⟩ := hvs.two
    obtain ⟨p1, q1, rfl, hp1, hq1⟩ := vr_agg2 hv1
    obtain ⟨p2, q2, rfl, hp2, hq2⟩ := vr_agg2 hv2
    exact .cons (VRs.agg (.cons (patL_rel h1 (by omega) hinv hp1) (.cons (patL_rel h2 (by omega) hinv hq1) .nil))) (.cons (VRs.agg (.cons (patL_rel h3 (by omega) hinv hp2) (.cons (patL_rel h4 (by omega) hinv hq2) .nil))) .nil)
def dNil : List (V Sy) → Sto Sy → Option Unit
  | [.agg [.nil, .nil], .agg [.nil, .nil]], _ => some ()
  | _, _ => none
noncomputable def eqnK : Ctr := telK 14 dNil (fun _ _ => .bool true) (fun _ _ => [])
theorem vr_nil {ρ ρ' : Nat → Int} {s : Sms} {B B' : Nat} {c c' : Cx} {v : Value} (h : VR ⟨Sy.den ρ, s⟩ B c .nil v) : VR ⟨Sy.den ρ', s⟩ B' c' .nil v := by
  cases h with
  | nil => exact .nil
theorem eqnK_ok (ρ : Nat → Int) (s : Sms) (B : Nat) : COk Try.prog ⟨Sy.den ρ, s⟩ B eqnK := by
  refine telK_ok (body_of Try.func14 rfl) (fun args sto p h => ?_)
  unfold dNil at h
  split at h
  case h_2 => cases h
  refine ⟨[.agg [.nil, .nil], .agg [.nil, .nil]], tells_boo (ρ' := fun _ => 0) eqp_0 (fun R S hRS s B' => run_goodK noCount mixed (fun _ _ _ => noK_ok) _ hRS B') (fun s B c vs hvs => hvs), fun ρ s B c hinv vs hvs ρ' => ?_⟩
  obtain ⟨v1, v2, rfl, hv1, hv2⟩ := hvs.two
  obtain ⟨p1, q1, rfl, hp1, hq1⟩ := vr_agg2 hv1
  obtain ⟨p2, q2, rfl, hp2, hq2⟩ := vr_agg2 hv2
  exact .cons (VRs.agg (.cons (vr_nil hp1) (.cons (vr_nil hq1) .nil))) (.cons (VRs.agg (.cons (vr_nil hp2) (.cons (vr_nil hq2) .nil))) .nil)
open Classical in
noncomputable def dRr : List (V Sy) → Sto Sy → Option (List (List Int))
  | [x, y], sto => match rowsOf sto x, rowsOf sto y with
    | some a, some b => if Sq a ∧ b = a then some a else none
    | _, _ => none
  | _, _ => none
theorem dRr_eq {sto : Sto Sy} {x y : V Sy} {a : List (List Int)} (h1 : rowsOf sto x = some a) (h2 : rowsOf sto y = some a) (h : Sq a) : dRr [x, y] sto = some a := by
  simp only [dRr, h1, h2]
  rw [if_pos ⟨h, rfl⟩]
noncomputable def eqlK2 : Ctr := telK 15 dRr (fun _ _ => .bool true) (fun _ _ => [])
theorem eqlK2_ok (ρ : Nat → Int) (s : Sms) (B : Nat) : COk Try.prog ⟨Sy.den ρ, s⟩ B eqlK2 := by
  refine telK_ok (body_of Try.func15 rfl) (fun args sto p h => ?_)
  unfold dRr at h
  split at h
  case h_2 => cases h
  rename_i x y
  split at h
  case h_2 => cases h
  rename_i a b h1 h2
  split at h
  case isFalse => cases h
  rename_i hp
  cases h
  obtain ⟨hp, rfl⟩ := hp
  have hl : ∀ zs, zs ∈ b → zs.length ≤ 1048576 := fun zs hz => by rw [hp.row zs hz]; have := hp.hi; omega
  refine ⟨[patS b, patS b], tells_boo (ρ' := rhoZ b) (five (Q := fun L => eqlR L = true) eqll_2 eqll_3 eqll_4 eqll_5 eqll_6 hp.lo hp.hi) (fun R S hRS s B' => run_goodK noCount mixed (fun _ _ _ => noK_ok) _ hRS B') (fun s B c vs hvs => ?_), fun ρ s B c hinv vs hvs ρ' => ?_⟩
  · obtain ⟨v1, v2, rfl, hv1, hv2⟩ := hvs.two
    obtain ⟨z1, e1, k1⟩ := (Pr.patZ_rel hp s B c [v1] (.cons hv1 .nil)).one
    obtain ⟨z2, e2, k2⟩ := (Pr.patZ_rel hp s B c [v2] (.cons hv2 .nil)).one
    cases e1
    cases e2
    exact .cons k1 (.cons k2 .nil)
  · obtain ⟨v1, v2, rfl, hv1, hv2⟩ := hvs.two
    exact .cons (patS_rel h1 hl hinv hv1) (.cons (patS_rel h2 hl hinv hv2) .nil)
open Classical in
noncomputable def dAny : List (V Sy) → Sto Sy → Option (List (List Int))
  | [x], sto => match rowsOf sto x with
    | some zss => if (zss.length ≤ 6 ∧ (∀ r, r ∈ zss → r.length ≤ 6) ∧ ∀ r, r ∈ zss → ∀ z, z ∈ r → IntKind.i64.wrap z = z) then some zss else none
    | none => none
  | _, _ => none
theorem dAny_eq {sto : Sto Sy} {x : V Sy} {zss : List (List Int)} (ha : rowsOf sto x = some zss) (h : zss.length ≤ 6 ∧ (∀ r, r ∈ zss → r.length ≤ 6) ∧ ∀ r, r ∈ zss → ∀ z, z ∈ r → IntKind.i64.wrap z = z) : dAny [x] sto = some zss := by
  simp only [dAny, ha]
  rw [if_pos h]
noncomputable def poK (k : FuncId) : Ctr := telK k dAny (fun zss => pairR (pF zss)) (fun zss => pairO (pF zss))
theorem poK_ok {k : FuncId} (hb : ∃ fn, Try.prog.funcs[k]? = some fn ∧ fn.body.isSome = true) (hT : ∀ zss : List (List Int), zss.length ≤ 1048576 → (∀ r, r ∈ zss → ∀ z, z ∈ r → IntKind.i64.wrap z = z) → Tells Try.prog k [patS zss] (pairR (pF zss)) (pairO (pF zss))) (ρ : Nat → Int) (s : Sms) (B : Nat) : COk Try.prog ⟨Sy.den ρ, s⟩ B (poK k) := by
  refine telK_ok hb (fun args sto zss h => ?_)
  unfold dAny at h
  split at h
  case h_2 => cases h
  rename_i x
  split at h
  case h_2 => cases h
  rename_i zss' ha
  split at h
  case isFalse => cases h
  rename_i hp
  cases h
  refine ⟨[patS zss], hT zss (by omega) hp.2.2, fun ρ s B c hinv vs hvs ρ' => ?_⟩
  obtain ⟨v, rfl, hv⟩ := hvs.one
  exact .cons (patS_rel ha (fun r hr => by have := hp.2.1 r hr; omega) hinv hv) .nil
end Go.Proofs.Ytpjenggjcpahaaa.Pl

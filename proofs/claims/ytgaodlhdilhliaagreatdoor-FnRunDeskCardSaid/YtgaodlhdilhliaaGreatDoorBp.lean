/-
  What the two sides make of a series: the same; contracts. No condition.
-/
import Derived.Test.YtgaodlhdilhliaaGreatDoorRows
import Derived.Test.YtgaodlhdilhliaaGreatDoorSym
import Derived.Test.YtgaodlhdilhliaaGreatDoorSymD
import Derived.Test.YtgaodlhdilhliaaGreatDoorSymE
import Derived.Test.YtgaodlhdilhliaaGreatDoorSymF
import Derived.Test.YtgaodlhdilhliaaGreatDoorIds
import Derived.Test.YtgaodlhdilhliaaGreatDoorSumm
import Derived.Test.YtgaodlhdilhliaaGreatDoorTel
import Derived.Test.YtgaodlhdilhliaaGreatDoorBo
import Derived.Test.YtgaodlhdilhliaaGreatDoorBoA
import Derived.Test.YtgaodlhdilhliaaGreatDoorBoB
import Derived.Test.YtgaodlhdilhliaaGreatDoorBoC
import Derived.Test.YtgaodlhdilhliaaGreatDoorBoE
import Derived.Test.YtgaodlhdilhliaaGreatDoorBoF
import Derived.WalkKit
import Derived.ProofKit
import Derived.OpenShut
namespace Go.Proofs.YtgaodlhdilhliaaGreatDoor.Bo
open Go.ChangeShapes Go.WideShapes Go.ChangeAt Go.RowKit Go.Sx Go.Proofs.YtgaodlhdilhliaaGreatDoor.Ids Go.Proofs.YtgaodlhdilhliaaGreatDoor.Tel
set_option linter.unusedVariables false
set_option linter.unusedSimpArgs false

theorem six {Q : Nat → Prop} (h1 : Q 1) (h2 : Q 2) (h3 : Q 3) (h4 : Q 4) (h5 : Q 5) (h6 : Q 6) {L : Nat} (hl : 1 ≤ L) (hu : L ≤ 6) : Q L := by
  have h : L = 1 ∨ L = 2 ∨ L = 3 ∨ L = 4 ∨ L = 5 ∨ L = 6 := by omega
  rcases h with rfl | rfl | rfl | rfl | rfl | rfl
  · exact h1
  · exact h2
  · exact h3
  · exact h4
  · exact h5
  · exact h6
def Bnd (ys : List Int) : Prop := ∀ y, y ∈ ys → -9223372036854775807 ≤ y ∧ y ≤ 9223372036854775807
theorem abvB_ok {ρ : Nat → Int} {Γ : List Fact} (hΓ : ∀ f, f ∈ Γ → f.Ok ρ) : ∀ {ps : List Sy}, abvB Γ ps = true → Bnd (ps.map (Sy.den ρ))
  | [], _, y, hy => by simp at hy
  | p :: r, h, y, hy => by
    have hN := symNum_ok hΓ (⟨fun _ _ => ByteArray.empty, fun _ => [], fun _ => True⟩ : Sms)
    unfold abvB at h
    split at h
    case h_2 => cases h
    rename_i a b ha hb
    simp only [bite_eq] at h
    split at h
    · cases h
    split at h
    · cases h
    rename_i h1 h2
    have e1 := hN.cmp _ _ _ _ ha
    have e2 := hN.cmp _ _ _ _ hb
    rcases List.mem_cons.1 hy with rfl | hy
    · have h1' : a = false := by simpa using h1
      have h2' : b = false := by simpa using h2
      subst h1' h2'
      have e1' : some (decide (p.den ρ < -9223372036854775807)) = some false := e1
      have e2' : some (decide ((9223372036854775807 : Int) < p.den ρ)) = some false := e2
      have f1 := of_decide_eq_false (Option.some.inj e1')
      have f2 := of_decide_eq_false (Option.some.inj e2')
      omega
    · exact abvB_ok hΓ h y hy
/-- What both sides make of a list: the same. -/
def Both (kS kI : FuncId) (ex : List Int) (zs : List Int) (o : Option (List Int)) : Prop := Tells Tryz.prog kS (patL zs :: exV ex) (ansR o) (ansO o) ∧ Tells Tryz.prog kI (patL zs :: exV ex) (ansR o) (ansO o) ∧ ∀ ys, o = some ys → ys.length = zs.length ∧ Bnd ys
theorem wrap600 {zs : List Int} (h : validP 600 zs) : ∀ z, z ∈ zs → IntKind.i64.wrap z = z := fun z hz => by have := h.1 z hz; exact wrap_in (by omega) (by omega)
theorem ne_of_valid {zs : List Int} (h : validP 600 zs) : zs ≠ [] := fun e => by subst e; have := h.2.1; simp at this
theorem exV_rel {ρ ρ' : Nat → Int} {s : Sms} {B B' : Nat} {c c' : Cx} : ∀ (ex : List Int) (vs : List Value), VRs ⟨Sy.den ρ, s⟩ B c (exV ex) vs → VRs ⟨Sy.den ρ', s⟩ B' c' (exV ex) vs
  | [], vs, h => by
    cases vs with
    | nil => exact .nil
    | cons v r => have := h.1; simp [exV] at this
  | z :: r, vs, h => by
    cases vs with
    | nil => have := h.1; simp [exV] at this
    | cons v vr =>
      have h1 : VR ⟨Sy.den ρ, s⟩ B c (.int .i64 (.c z)) v := h.2 0 _ _ rfl rfl
      have h2 : VRs ⟨Sy.den ρ, s⟩ B c (exV r) vr := ⟨by have := h.1; simpa [exV] using this, fun i a b ha hb => h.2 (i + 1) a b (by simpa [exV] using ha) (by simpa using hb)⟩
      refine .cons ?_ (exV_rel r vr h2)
      cases h1 with
      | int k n => exact VR.int (Δ := ⟨Sy.den ρ', s⟩) .i64 (.c z)
theorem pat_rel {ρ : Nat → Int} {xs : List Sy} {zs : List Int} (hx : xs.map (Sy.den ρ) = zs) (hne : zs ≠ []) (ex : List Int) (s : Sms) (B : Nat) (c : Cx) (vs : List Value) (h : VRs ⟨Sy.den ρ, s⟩ B c (patL zs :: exV ex) vs) : VRs ⟨Sy.den ρ, s⟩ B c (.slice (ints xs) :: exV ex) vs := by
  cases vs with
  | nil => have := h.1; simp at this
  | cons v vr =>
    have h1 : VR ⟨Sy.den ρ, s⟩ B c (patL zs) v := h.2 0 _ _ rfl rfl
    have h2 : VRs ⟨Sy.den ρ, s⟩ B c (exV ex) vr := ⟨by have := h.1; simpa using this, fun i a b ha hb => h.2 (i + 1) a b (by simpa using ha) (by simpa using hb)⟩
    exact .cons (ints_sym hx hne h1) h2
theorem facts_ok {ρ : Nat → Int} {xs : List Sy} {zs : List Int} {Γ : List Fact} {Vt : List VEnt} (hv : validP 600 zs) (hx : xs.map (Sy.den ρ) = zs) (hΓ : ∀ f, f ∈ Γ → f.Ok ρ) (hV : ∀ e, e ∈ Vt → e.Ok ρ) : (∀ f, f ∈ bndF 600 xs ++ Γ → f.Ok ρ) ∧ ∀ e, e ∈ (⟨600, xs, true⟩ :: Vt : List VEnt) → e.Ok ρ := by
  have h0 : VEnt.Ok ρ ⟨600, xs, true⟩ := by
    show decide (validP 600 (xs.map (Sy.den ρ))) = true
    rw [hx]; exact decide_eq_true hv
  refine ⟨fun f hf => (List.mem_append.1 hf).elim (bndF_ok h0 f) (hΓ f), fun e he => ?_⟩
  rcases List.mem_cons.1 he with rfl | he
  · exact h0
  · exact hV e he
theorem bt_good {ρ : Nat → Int} {k : FuncId} {ex : List Int} {xs : List Sy} {Γ : List Fact} {Vt : List VEnt} (h1 : ∀ f, f ∈ bndF 600 xs ++ Γ → f.Ok ρ) (h2 : ∀ e, e ∈ (⟨600, xs, true⟩ :: Vt : List VEnt) → e.Ok ρ) :
    ∀ (R : V Sy) (S : Sto Sy), btR k ex xs Γ Vt = some (R, S) → ∀ (s : Sms) (B' : Nat), Go.Sx.Good Tryz.prog ⟨Sy.den ρ, s⟩ B' k (.slice (ints xs) :: exV ex) ⟨0, [], 0⟩ R S := fun R S h s B' =>
  (symRun_ok (ρ := ρ) (s := s) (B := B') noCount mixed h1 (symK_ok noCount mixed ids_ok Summs.tab_ok h1 h2) 60 k _ _ R S h).1
theorem both_ok {kS kI : FuncId} {ex : List Int} {n : Nat} {t : Sp} (h : chk (btAt kS kI ex n) t (vxs n) [] [] = true) {zs : List Int} (hv : validP 600 zs) (hn : zs.length = n) : ∃ o, Both kS kI ex zs o := by
  subst hn
  refine chk_ok (ρ := fun i => zs.getD i 0) (zs := zs) (fun xs Γ Vt hr hx hΓ hV => ?_) t (vxs zs.length) [] [] h (vxs_den (by have := hv.2.2; omega) (wrap600 hv)) (by simp) (by simp)
  obtain ⟨f1, f2⟩ := facts_ok hv hx hΓ hV
  unfold btAt at hr
  split at hr
  case h_2 => cases hr
  rename_i o ho
  simp only [bite_eq] at hr
  split at hr
  case isFalse => cases hr
  rename_i h1
  split at hr
  case isFalse => cases hr
  rename_i h2
  refine ⟨o.map fun ps => ps.map (Sy.den fun i => zs.getD i 0), tells_ans h1 (bt_good f1 f2) (pat_rel hx (ne_of_valid hv) ex), tells_ans h2 (bt_good f1 f2) (pat_rel hx (ne_of_valid hv) ex), fun ys hy => ?_⟩
  cases o with
  | none => cases hy
  | some ps =>
    cases hy
    simp only at hr
    split at hr
    case isFalse => cases hr
    rename_i h3
    exact ⟨by rw [List.length_map]; exact Nat.eq_of_beq_eq_true h3, abvB_ok f1 hr⟩
def Both1 (kS kI : FuncId) (zs ys : List Int) : Prop := Tells Tryz.prog kS (patL zs :: exV []) (lstR ys) (lstO ys) ∧ Tells Tryz.prog kI (patL zs :: exV []) (lstR ys) (lstO ys) ∧ 1 ≤ ys.length ∧ ys.length ≤ 6 ∧ Bnd ys
theorem han_ok {n : Nat} (h : hanC n = true) {zs : List Int} (hv : validP 600 zs) (hn : zs.length = n) : ∃ ys, Both1 42 53 zs ys := by
  subst hn
  have hx := vxs_den (zs := zs) (by have := hv.2.2; omega) (wrap600 hv)
  obtain ⟨f1, f2⟩ := facts_ok (Γ := []) (Vt := []) hv hx (by simp) (by simp)
  unfold hanC hanAt at h
  split at h
  case h_2 => cases h
  rename_i ps hps
  simp only [bite_eq] at h
  split at h
  case isFalse => cases h
  rename_i h1
  split at h
  case isFalse => cases h
  rename_i h2
  split at h
  case isFalse => cases h
  rename_i h3
  split at h
  case isFalse => cases h
  rename_i h4
  rw [Nat.ble_eq] at h3 h4
  exact ⟨ps.map (Sy.den fun i => zs.getD i 0), tells_lst h1 (bt_good f1 f2) (pat_rel hx (ne_of_valid hv) []), tells_lst h2 (bt_good f1 f2) (pat_rel hx (ne_of_valid hv) []), by rw [List.length_map]; exact h4, by rw [List.length_map]; exact h3, abvB_ok f1 h⟩
theorem zig_6 : zigC 6 = true := by
  unfold zigC
  refine chkN_ok _ _ _ _ (fun j hj => ?_)
  have hc : (zigT 6).count = 11 := by kernel_rfl
  rw [hc] at hj
  have h : j = 0 ∨ j = 1 ∨ j = 2 ∨ j = 3 ∨ j = 4 ∨ j = 5 ∨ j = 6 ∨ j = 7 ∨ j = 8 ∨ j = 9 ∨ j = 10 := by omega
  rcases h with rfl | rfl | rfl | rfl | rfl | rfl | rfl | rfl | rfl | rfl | rfl
  · exact zig_6_0
  · exact zig_6_1
  · exact zig_6_2
  · exact zig_6_3
  · exact zig_6_4
  · exact zig_6_5
  · exact zig_6_6
  · exact zig_6_7
  · exact zig_6_8
  · exact zig_6_9
  · exact zig_6_10
theorem exp_all {zs : List Int} (hv : validP 600 zs) : ∃ o, Both 36 45 [] zs o :=
  six (Q := fun n => zs.length = n → ∃ o, Both 36 45 [] zs o) (fun h => both_ok exp_1 hv h) (fun h => both_ok exp_2 hv h) (fun h => both_ok exp_3 hv h) (fun h => both_ok exp_4 hv h) (fun h => both_ok exp_5 hv h) (fun h => both_ok exp_6 hv h) hv.2.1 hv.2.2 rfl
theorem log_all {zs : List Int} (hv : validP 600 zs) : ∃ o, Both 37 46 [] zs o :=
  six (Q := fun n => zs.length = n → ∃ o, Both 37 46 [] zs o) (fun h => both_ok log_1 hv h) (fun h => both_ok log_2 hv h) (fun h => both_ok log_3 hv h) (fun h => both_ok log_4 hv h) (fun h => both_ok log_5 hv h) (fun h => both_ok log_6 hv h) hv.2.1 hv.2.2 rfl
theorem inv_all {zs : List Int} (hv : validP 600 zs) : ∃ o, Both 38 47 [] zs o :=
  six (Q := fun n => zs.length = n → ∃ o, Both 38 47 [] zs o) (fun h => both_ok inv_1 hv h) (fun h => both_ok inv_2 hv h) (fun h => both_ok inv_3 hv h) (fun h => both_ok inv_4 hv h) (fun h => both_ok inv_5 hv h) (fun h => both_ok inv_6 hv h) hv.2.1 hv.2.2 rfl
theorem rev_all {zs : List Int} (hv : validP 600 zs) : ∃ o, Both 39 48 [] zs o :=
  six (Q := fun n => zs.length = n → ∃ o, Both 39 48 [] zs o) (fun h => both_ok rev_1 hv h) (fun h => both_ok rev_2 hv h) (fun h => both_ok rev_3 hv h) (fun h => both_ok rev_4 hv h) (fun h => both_ok rev_5 hv h) (fun h => both_ok rev_6 hv h) hv.2.1 hv.2.2 rfl
theorem bin_all {zs : List Int} (hv : validP 600 zs) : ∃ o, Both 40 50 [1] zs o :=
  six (Q := fun n => zs.length = n → ∃ o, Both 40 50 [1] zs o) (fun h => both_ok bin_1 hv h) (fun h => both_ok bin_2 hv h) (fun h => both_ok bin_3 hv h) (fun h => both_ok bin_4 hv h) (fun h => both_ok bin_5 hv h) (fun h => both_ok bin_6 hv h) hv.2.1 hv.2.2 rfl
theorem zig_all {zs : List Int} (hv : validP 600 zs) : ∃ o, Both 41 51 [] zs o :=
  six (Q := fun n => zs.length = n → ∃ o, Both 41 51 [] zs o) (fun h => both_ok zig_1 hv h) (fun h => both_ok zig_2 hv h) (fun h => both_ok zig_3 hv h) (fun h => both_ok zig_4 hv h) (fun h => both_ok zig_5 hv h) (fun h => both_ok zig_6 hv h) hv.2.1 hv.2.2 rfl
theorem han_all {zs : List Int} (hv : validP 600 zs) : ∃ ys, Both1 42 53 zs ys :=
  six (Q := fun n => zs.length = n → ∃ ys, Both1 42 53 zs ys) (fun h => han_ok han_1 hv h) (fun h => han_ok han_2 hv h) (fun h => han_ok han_3 hv h) (fun h => han_ok han_4 hv h) (fun h => han_ok han_5 hv h) (fun h => han_ok han_6 hv h) hv.2.1 hv.2.2 rfl

/-! ## The contracts -/
open Classical in
/-- What both sides answer. -/
noncomputable def bothF (kS kI : FuncId) (ex zs : List Int) : Option (List Int) := if h : ∃ o, Both kS kI ex zs o then Classical.choose h else none
theorem bothF_ok {kS kI : FuncId} {ex zs : List Int} (h : ∃ o, Both kS kI ex zs o) : Both kS kI ex zs (bothF kS kI ex zs) := by
  unfold bothF
  rw [dif_pos h]
  exact Classical.choose_spec h
open Classical in
noncomputable def bothL (kS kI : FuncId) (zs : List Int) : List Int := if h : ∃ ys, Both1 kS kI zs ys then Classical.choose h else []
theorem bothL_ok {kS kI : FuncId} {zs : List Int} (h : ∃ ys, Both1 kS kI zs ys) : Both1 kS kI zs (bothL kS kI zs) := by
  unfold bothL
  rw [dif_pos h]
  exact Classical.choose_spec h
def intsOf : List (V Sy) → Option (List Int)
  | [] => some []
  | .int .i64 (.c z) :: r => match intsOf r with
    | some l => some (z :: l)
    | none => none
  | _ => none
theorem intsOf_ex : ∀ ex : List Int, intsOf (exV ex) = some ex
  | [] => rfl
  | z :: r => by
    show (match intsOf (exV r) with | some l => some (z :: l) | none => none) = _
    rw [intsOf_ex r]
theorem ex_of_ints : ∀ {l : List (V Sy)} {ex : List Int}, intsOf l = some ex → l = exV ex
  | [], ex, h => by simp [intsOf] at h; subst h; rfl
  | v :: r, ex, h => by
    unfold intsOf at h
    split at h
    · cases ‹v :: r = []›
    · rename_i z r' e
      cases e
      split at h
      · rename_i l hl
        cases h
        rw [ex_of_ints hl]; rfl
      · cases h
    · cases h
open Classical in
noncomputable def dBt (ex : List Int) (F : List Int → Option (List Int)) : List (V Sy) → Sto Sy → Option (Option (List Int))
  | x :: r, sto => match constsOf sto x with
    | some zs => if validP 600 zs ∧ intsOf r = some ex then some (F zs) else none
    | none => none
  | _, _ => none
theorem btK_ok {k kS kI : FuncId} {ex : List Int} (hk : k = kS ∨ k = kI) (hb : ∃ fn, Tryz.prog.funcs[k]? = some fn ∧ fn.body.isSome = true) (hall : ∀ zs, validP 600 zs → ∃ o, Both kS kI ex zs o) {ρ : Nat → Int} {s : Sms} {B : Nat} : COk Tryz.prog ⟨Sy.den ρ, s⟩ B (telK k (dBt ex (bothF kS kI ex)) ansR ansO) := by
  refine telK_ok hb (fun args sto a h => ?_)
  unfold dBt at h
  split at h
  case h_2 => cases h
  rename_i x r
  split at h
  case h_2 => cases h
  rename_i zs hc
  split at h
  case isFalse => cases h
  rename_i hz
  cases h
  have hB := bothF_ok (hall zs hz.1)
  have hr := ex_of_ints hz.2
  subst hr
  refine ⟨patL zs :: exV ex, ?_, fun ρ s B c hinv vs hvs ρ' => ?_⟩
  · rcases hk with rfl | rfl
    · exact hB.1
    · exact hB.2.1
  · cases vs with
    | nil => have := hvs.1; simp at this
    | cons v vr => exact .cons (patL_rel hc (by have := hz.1.2.2; omega) hinv (hvs.2 0 _ _ rfl rfl)) (exV_rel ex vr ⟨by have := hvs.1; simpa using this, fun i a b ha hb => hvs.2 (i + 1) a b (by simpa using ha) (by simpa using hb)⟩)
open Classical in
noncomputable def dHn (F : List Int → List Int) : List (V Sy) → Sto Sy → Option (List Int)
  | [x], sto => match constsOf sto x with
    | some zs => if validP 600 zs then some (F zs) else none
    | none => none
  | _, _ => none
theorem hnK_ok {k kS kI : FuncId} (hk : k = kS ∨ k = kI) (hb : ∃ fn, Tryz.prog.funcs[k]? = some fn ∧ fn.body.isSome = true) (hall : ∀ zs, validP 600 zs → ∃ ys, Both1 kS kI zs ys) {ρ : Nat → Int} {s : Sms} {B : Nat} : COk Tryz.prog ⟨Sy.den ρ, s⟩ B (telK k (dHn (bothL kS kI)) lstR lstO) := by
  refine telK_ok hb (fun args sto a h => ?_)
  unfold dHn at h
  split at h
  case h_2 => cases h
  rename_i x
  split at h
  case h_2 => cases h
  rename_i zs hc
  split at h
  case isFalse => cases h
  rename_i hz
  cases h
  have hB := bothL_ok (hall zs hz)
  refine ⟨patL zs :: exV [], ?_, fun ρ s B c hinv vs hvs ρ' => ?_⟩
  · rcases hk with rfl | rfl
    · exact hB.1
    · exact hB.2.1
  · obtain ⟨v, rfl, hv⟩ := hvs.one
    exact .cons (patL_rel hc (by have := hz.2.2; omega) hinv hv) .nil
end Go.Proofs.YtgaodlhdilhliaaGreatDoor.Bo

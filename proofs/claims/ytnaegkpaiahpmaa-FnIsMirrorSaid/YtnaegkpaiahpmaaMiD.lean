/-
  Mirrors: what both sides answer at any lists. No condition.
-/
import Derived.Test.YtnaegkpaiahpmaaRows
import Derived.Test.YtnaegkpaiahpmaaSym
import Derived.Test.YtnaegkpaiahpmaaSymD
import Derived.Test.YtnaegkpaiahpmaaSymE
import Derived.Test.YtnaegkpaiahpmaaSymF
import Derived.Test.YtnaegkpaiahpmaaSymG
import Derived.Test.YtnaegkpaiahpmaaIds
import Derived.Test.YtnaegkpaiahpmaaSumm
import Derived.Test.YtnaegkpaiahpmaaNp
import Derived.Test.YtnaegkpaiahpmaaTel
import Derived.Test.YtnaegkpaiahpmaaIv
import Derived.Test.YtnaegkpaiahpmaaIvA
import Derived.Test.YtnaegkpaiahpmaaDraw
import Derived.Test.YtnaegkpaiahpmaaDrawC
import Derived.Test.YtnaegkpaiahpmaaDrawD
import Derived.Test.YtnaegkpaiahpmaaIvB
import Derived.Test.YtnaegkpaiahpmaaIvC
import Derived.Test.YtnaegkpaiahpmaaIvE
import Derived.Test.YtnaegkpaiahpmaaMi
import Derived.Test.YtnaegkpaiahpmaaMiA
import Derived.Test.YtnaegkpaiahpmaaMiC
import Derived.WalkKit
import Derived.ProofKit
import Derived.OpenShut
namespace Go.Proofs.Ytnaegkpaiahpmaa.Mi
open Go.ChangeShapes Go.WideShapes Go.ChangeAt Go.RowKit Go.Sx Go.Proofs.Ytnaegkpaiahpmaa.Ids
open Go.Proofs.Ytnaegkpaiahpmaa.Iv
open Go.Proofs.Ytnaegkpaiahpmaa.Tel (booIs tells_boo telK telK_ok vr_agg2)
open Go.Proofs.Ytnaegkpaiahpmaa.Draw (fldP0 fldP1 loadS lookN allocP loadP storeP lookW)
set_option linter.unusedVariables false
set_option linter.unusedSimpArgs false

noncomputable instance (g f : List Int) : Decidable (MirP g f) := Classical.propDecidable _
/-! ## A valid pair -/
theorem open1_all {ρ : Nat → Int} : ∀ {l : List Sy}, zeroC l = true → ((∀ x, x ∈ open1 l → x.den ρ = 0) ↔ ∀ x, x ∈ l → x.den ρ = 0)
  | [], _ => by simp [open1]
  | .c z :: r, h => by
    simp only [zeroC, bite_eq] at h
    split at h
    case isFalse => cases h
    rename_i hz
    rw [ieq_eq] at hz
    have hz := eq_of_beq hz
    have ih := open1_all (ρ := ρ) h
    simp only [open1]
    rw [ih]
    constructor
    · intro H x hx
      rcases List.mem_cons.1 hx with rfl | hx
      · exact hz
      · exact H x hx
    · exact fun H x hx => H x (List.mem_cons_of_mem _ hx)
  | .p l :: r, h => by
    simp only [zeroC] at h
    have ih := open1_all (ρ := ρ) h
    simp only [open1]
    constructor
    · intro H x hx
      rcases List.mem_cons.1 hx with rfl | hx
      · exact H _ (List.mem_cons_self ..)
      · exact ih.1 (fun y hy => H y (List.mem_cons_of_mem _ hy)) x hx
    · intro H x hx
      rcases List.mem_cons.1 hx with rfl | hx
      · exact H _ (List.mem_cons_self ..)
      · exact ih.2 (fun y hy => H y (List.mem_cons_of_mem _ hy)) x hx
theorem zeroC_app : ∀ {l m : List Sy}, zeroC l = true → zeroC m = true → zeroC (l ++ m) = true
  | [], m, _, h => h
  | .c z :: r, m, h, h' => by
    simp only [zeroC, bite_eq, List.cons_append] at h ⊢
    split at h
    case isFalse => cases h
    rename_i hz
    rw [if_pos hz]
    exact zeroC_app h h'
  | .p l :: r, m, h, h' => by
    simp only [zeroC, List.cons_append] at h ⊢
    exact zeroC_app h h'
/-- All are 0, or there is a first one that isn't. -/
theorem first_ne {ρ : Nat → Int} : ∀ l : List Sy, (∀ x, x ∈ l → x.den ρ = 0) ∨ ∃ j, j < l.length ∧ (l.getD j (.c 0)).den ρ ≠ 0 ∧ ∀ x, x ∈ l.take j → x.den ρ = 0
  | [] => .inl (by simp)
  | a :: r => by
    by_cases h : a.den ρ = 0
    · rcases first_ne (ρ := ρ) r with h1 | ⟨j, h1, h2, h3⟩
      · refine .inl (fun x hx => ?_)
        rcases List.mem_cons.1 hx with rfl | hx
        · exact h
        · exact h1 x hx
      · refine .inr ⟨j + 1, by simpa using h1, by simpa [List.getD] using h2, fun x hx => ?_⟩
        rw [List.take_succ_cons] at hx
        rcases List.mem_cons.1 hx with rfl | hx
        · exact h
        · exact h3 x hx
    · exact .inr ⟨0, by simp, by simpa [List.getD] using h, by simp⟩
section
variable {g f : List Int}
theorem sgn_at {k : FuncId} {xs : Nat → Int → Int → List Sy} (pp : ∀ L, 2 ≤ L → L ≤ 6 → mirAll k xs L 1 1 = true) (pm : ∀ L, 2 ≤ L → L ≤ 6 → mirAll k xs L 1 (-1) = true) (mp : ∀ L, 2 ≤ L → L ≤ 6 → mirAll k xs L (-1) 1 = true) (mm : ∀ L, 2 ≤ L → L ≤ 6 → mirAll k xs L (-1) (-1) = true) (h : PairV g f) : mirAll k xs g.length (g.getD 0 0) (f.getD 1 0) = true :=
  four (Q := mirAll k xs) pp pm mp mm h.2.2.2.1 h.1.2.2 h.2.2.2.2.1 h.2.2.2.2.2.2
theorem drop_zero {ρ : Nat → Int} {l : List Sy} {j L : Nat} (hl : l.length = L) : (∀ x, x ∈ l.drop j → x.den ρ = 0) ↔ ∀ n, j ≤ n → n < L → (l.map (Sy.den ρ)).getD n 0 = 0 := by
  constructor
  · intro H n h1 h2
    have e : (l.map (Sy.den ρ)).getD n 0 = (l.getD n (.c 0)).den ρ := (getD_den ρ l n).symm
    rw [e]
    refine H _ (List.mem_iff_getElem?.2 ⟨n - j, ?_⟩)
    rw [List.getElem?_drop, show j + (n - j) = n by omega]
    simp [List.getD, show n < l.length by omega]
  · intro H x hx
    obtain ⟨i, hi⟩ := List.mem_iff_getElem?.1 hx
    rw [List.getElem?_drop] at hi
    have hlt := (List.getElem?_eq_some_iff.1 hi).1
    have e := H (j + i) (by omega) (by omega)
    rw [← getD_den] at e
    have e2 : l.getD (j + i) (.c 0) = x := by simp [List.getD, hi]
    rwa [e2] at e
theorem take_den {ρ : Nat → Int} {l m : List Sy} (h : sames (l.take m.length) m = true) {n : Nat} (hn : n < m.length) : (l.map (Sy.den ρ)).getD n 0 = (m.getD n (.c 0)).den ρ := by
  have e := sames_eq h
  rw [← getD_den]
  congr 1
  have h2 : (l.take m.length)[n]? = l[n]? := by rw [List.getElem?_take]; rw [if_pos hn]
  simp only [List.getD, ← h2, e]
theorem dl_ne2 {n k : Nat} (h : n ≠ k) : dl n k = 0 := by
  unfold dl
  rw [bite_eq, if_neg (fun e => h (Nat.eq_of_beq_eq_true e))]
/-- The square is the unit if what is open is 0. -/
theorem mir_eq (h : PairV g f) {xs : List Sy} (hx : xs = xsI g.length (g.getD 0 0) (f.getD 1 0) ∨ xs = xsS g.length (g.getD 0 0) (f.getD 1 0)) : (∀ x, x ∈ xs → x.den (rhoP g f) = 0) ↔ (∀ n, n < g.length → (sfZ g f).getD n 0 = dl n 1) ∧ ∀ n, n < g.length → (sgZ g f).getD n 0 = dl n 0 := by
  have D := andB_ok (hd_at h)
  have l2 : (sgS g.length (g.getD 0 0) (f.getD 1 0)).length = g.length := Nat.eq_of_beq_eq_true (D _ (by simp))
  have l3 : (sfS g.length (f.getD 1 0)).length = g.length := Nat.eq_of_beq_eq_true (D _ (by simp))
  have t1 : ∀ n, n < 2 → (sfZ g f).getD n 0 = dl n 1 := fun n hn => by
    have := take_den (ρ := rhoP g f) (l := sfS g.length (f.getD 1 0)) (m := [.c 0, .c 1]) (D _ (by simp)) (n := n) hn
    have e : (sfZ g f).getD n 0 = _ := this
    rw [e]
    match n, hn with
    | 0, _ => rfl
    | 1, _ => rfl
  have t2 : (sgZ g f).getD 0 0 = dl 0 0 := by
    have := take_den (ρ := rhoP g f) (l := sgS g.length (g.getD 0 0) (f.getD 1 0)) (m := [.c 1]) (D _ (by simp)) (n := 0) (by simp)
    exact this
  have z1 : zeroC ((sfS g.length (f.getD 1 0)).drop 2) = true := D _ (by simp)
  have z2 : zeroC ((sgS g.length (g.getD 0 0) (f.getD 1 0)).drop 1) = true := D _ (by simp)
  have key : (∀ x, x ∈ xs → x.den (rhoP g f) = 0) ↔ (∀ x, x ∈ (sfS g.length (f.getD 1 0)).drop 2 → x.den (rhoP g f) = 0) ∧ ∀ x, x ∈ (sgS g.length (g.getD 0 0) (f.getD 1 0)).drop 1 → x.den (rhoP g f) = 0 := by
    rcases hx with rfl | rfl
    · unfold xsI
      rw [open1_all (zeroC_app z1 z2)]
      exact ⟨fun H => ⟨fun x hx => H x (List.mem_append.2 (.inl hx)), fun x hx => H x (List.mem_append.2 (.inr hx))⟩, fun H x hx => (List.mem_append.1 hx).elim (H.1 x) (H.2 x)⟩
    · unfold xsS
      rw [open1_all (zeroC_app z2 z1)]
      exact ⟨fun H => ⟨fun x hx => H x (List.mem_append.2 (.inr hx)), fun x hx => H x (List.mem_append.2 (.inl hx))⟩, fun H x hx => (List.mem_append.1 hx).elim (H.2 x) (H.1 x)⟩
  rw [key, drop_zero l3, drop_zero l2]
  constructor
  · rintro ⟨H1, H2⟩
    refine ⟨fun n hn => ?_, fun n hn => ?_⟩
    · by_cases h2 : n < 2
      · exact t1 n h2
      · rw [dl_ne2 (by omega)]; exact H1 n (by omega) hn
    · by_cases h2 : n < 1
      · obtain rfl : n = 0 := by omega
        exact t2
      · rw [dl_ne2 (by omega)]; exact H2 n (by omega) hn
  · rintro ⟨H1, H2⟩
    refine ⟨fun n h1 h2 => ?_, fun n h1 h2 => ?_⟩
    · have := H1 n h2; rw [dl_ne2 (by omega)] at this; exact this
    · have := H2 n h2; rw [dl_ne2 (by omega)] at this; exact this
theorem mir_at {k : FuncId} {xs : Nat → Int → Int → List Sy} (hC : PairV g f → mirAll k xs g.length (g.getD 0 0) (f.getD 1 0) = true) (hx : xs = xsI ∨ xs = xsS) (h : PairV g f) : Tells Try.prog k [.agg [patL g, patL f]] (fun _ => .bool (decide (MirP g f))) (fun _ => []) := by
  have C := andB_ok (hC h)
  have cA1 := C _ (List.mem_cons_self ..)
  have cA0 := C _ (List.mem_cons_of_mem _ (List.mem_cons_self ..))
  have cB1 := C _ (List.mem_cons_of_mem _ (List.mem_cons_of_mem _ (List.mem_cons_self ..)))
  have cB0 := C _ (List.mem_cons_of_mem _ (List.mem_cons_of_mem _ (List.mem_cons_of_mem _ (List.mem_cons_self ..))))
  have cC := C _ (List.mem_cons_of_mem _ (List.mem_cons_of_mem _ (List.mem_cons_of_mem _ (List.mem_cons_of_mem _ (List.mem_cons_self ..)))))
  have cD := C _ (List.mem_cons_of_mem _ (List.mem_cons_of_mem _ (List.mem_cons_of_mem _ (List.mem_cons_of_mem _ (List.mem_cons_of_mem _ (List.mem_cons_self ..))))))
  clear C
  have hF := h.fac
  have hV := h.vt
  have hp := h.pat1
  have E := mir_eq h (xs := xs g.length (g.getD 0 0) (f.getD 1 0)) (by rcases hx with rfl | rfl; exact .inl rfl; exact .inr rfl)
  have I1 : inZ g f = (inS g.length (g.getD 0 0) (f.getD 1 0)).map (Sy.den (rhoP g f)) := rfl
  have I2 : sgZ g f = (sgS g.length (g.getD 0 0) (f.getD 1 0)).map (Sy.den (rhoP g f)) := rfl
  have I3 : sfZ g f = (sfS g.length (f.getD 1 0)).map (Sy.den (rhoP g f)) := rfl
  have hM : ∀ {b : Bool}, (MirP g f ↔ b = true) → decide (MirP g f) = b := fun {b} hb => by
    cases b with
    | true => exact decide_eq_true (hb.2 rfl)
    | false => exact decide_eq_false (fun h => by have := hb.1 h; cases this)
  generalize g.getD 0 0 = a at *
  generalize f.getD 1 0 = b at *
  have G : ∀ (Γ : List Fact) (Vt : List VEnt), (∀ x, x ∈ Γ → x.Ok (rhoP g f)) → (∀ e, e ∈ Vt → e.Ok (rhoP g f)) → ∀ (R : V Sy) (S : Sto Sy), mirR k g.length a b Γ Vt = some (R, S) → ∀ (s : Sms) (B' : Nat), Go.Sx.Good Try.prog ⟨Sy.den (rhoP g f), s⟩ B' k [pQ g.length a b] ⟨0, [], 0⟩ R S := fun Γ Vt hΓ hVt R S hRS s B' => by
    have hΓ2 : ∀ x, x ∈ Γ ++ facQ g.length a b → x.Ok (rhoP g f) := fun x hx => (List.mem_append.1 hx).elim (hΓ x) (hF x)
    exact (symRun_ok noCount mixed hΓ2 (symK_ok noCount mixed ids_ok (t := Summs.tab) Summs.tab_ok hΓ2 (fun e he => (List.mem_append.1 he).elim (hVt e) (hV e))) 60 _ _ _ _ _ hRS).1
  have say : ∀ (q : Bool) (Γ : List Fact) (Vt : List VEnt), (∀ x, x ∈ Γ → x.Ok (rhoP g f)) → (∀ e, e ∈ Vt → e.Ok (rhoP g f)) → booIs q (mirR k g.length a b Γ Vt) = true → (MirP g f ↔ q = true) → Tells Try.prog k [.agg [patL g, patL f]] (fun _ => .bool (decide (MirP g f))) (fun _ => []) := fun q Γ Vt hΓ hVt hn hq => by
    rw [hM hq]
    exact tells_boo (ρ' := rhoP g f) hn (G Γ Vt hΓ hVt) hp
  by_cases v1 : validP 600 (inZ g f)
  case neg =>
    obtain ⟨q, hq⟩ : ∃ q, decide (validP 600 (sfZ g f)) = q := ⟨_, rfl⟩
    have cA : mA k g.length a b q = true := by cases q; exact cA0; exact cA1
    rcases orB_ok cA with h1 | h1
    · exact (v1 (by rw [I1]; exact known_ok hV h1)).elim
    rcases orB_ok h1 with h2 | h2
    · cases q with
      | true => cases h2
      | false =>
        rw [bite_false] at h2
        exact (of_decide_eq_false hq (by rw [I3]; exact known_ok hV h2)).elim
    · refine say false _ _ (by simp) (fun e he => ?_) h2 ⟨fun hm => (v1 hm.2.1).elim, fun hh => by cases hh⟩
      simp only [List.mem_cons, List.not_mem_nil, or_false] at he
      rcases he with rfl | rfl
      · exact vent (by rw [← I1]; exact decide_eq_false v1)
      · exact vent (by rw [← I3]; exact hq)
  have hV1 : ∀ e, e ∈ (⟨600, inS g.length a b, true⟩ : VEnt) :: vtQ g.length a b → e.Ok (rhoP g f) := fun e he => by
    rcases List.mem_cons.1 he with rfl | he
    · exact vent (by rw [← I1]; exact decide_eq_true v1)
    · exact hV e he
  by_cases v2 : validP 600 (sgZ g f)
  case neg =>
    obtain ⟨q, hq⟩ : ∃ q, decide (validP 600 (sfZ g f)) = q := ⟨_, rfl⟩
    have cB : mB k g.length a b q = true := by cases q; exact cB0; exact cB1
    rcases orB_ok cB with h1 | h1
    · exact (v2 (by rw [I2]; exact known_ok hV1 h1)).elim
    rcases orB_ok h1 with h2 | h2
    · cases q with
      | true => cases h2
      | false =>
        rw [bite_false] at h2
        exact (of_decide_eq_false hq (by rw [I3]; exact known_ok hV h2)).elim
    · refine say false _ _ (by simp) (fun e he => ?_) h2 ⟨fun hm => (v2 hm.2.2.1).elim, fun hh => by cases hh⟩
      simp only [List.mem_cons, List.not_mem_nil, or_false] at he
      rcases he with rfl | rfl | rfl
      · exact vent (by rw [← I1]; exact decide_eq_true v1)
      · exact vent (by rw [← I2]; exact decide_eq_false v2)
      · exact vent (by rw [← I3]; exact hq)
  have hV2 : ∀ e, e ∈ (⟨600, inS g.length a b, true⟩ : VEnt) :: ⟨600, sgS g.length a b, true⟩ :: vtQ g.length a b → e.Ok (rhoP g f) := fun e he => by
    rcases List.mem_cons.1 he with rfl | he
    · exact vent (by rw [← I1]; exact decide_eq_true v1)
    rcases List.mem_cons.1 he with rfl | he
    · exact vent (by rw [← I2]; exact decide_eq_true v2)
    · exact hV e he
  by_cases v3 : validP 600 (sfZ g f)
  case neg =>
    rcases orB_ok cC with h1 | h1
    · exact (v3 (by rw [I3]; exact known_ok hV2 h1)).elim
    · refine say false _ _ (by simp) (fun e he => ?_) h1 ⟨fun hm => (v3 hm.2.2.2.1).elim, fun hh => by cases hh⟩
      simp only [List.mem_cons, List.not_mem_nil, or_false] at he
      rcases he with rfl | rfl | rfl
      · exact vent (by rw [← I1]; exact decide_eq_true v1)
      · exact vent (by rw [← I2]; exact decide_eq_true v2)
      · exact vent (by rw [← I3]; exact decide_eq_false v3)
  have hVM : ∀ e, e ∈ vtM g.length a b → e.Ok (rhoP g f) := fun e he => by
    simp only [vtM, List.mem_cons, List.not_mem_nil, or_false] at he
    rcases he with rfl | rfl | rfl
    · exact vent (by rw [← I1]; exact decide_eq_true v1)
    · exact vent (by rw [← I2]; exact decide_eq_true v2)
    · exact vent (by rw [← I3]; exact decide_eq_true v3)
  have eq : ∀ {x : Sy}, x.den (rhoP g f) = 0 → (eqF x 0).Ok (rhoP g f) := fun {x} e => Fact.eq_yes (by rw [e]; rfl)
  have ne : ∀ {x : Sy}, ¬ x.den (rhoP g f) = 0 → (neF x 0).Ok (rhoP g f) := fun {x} e => Fact.eq_no e
  unfold mD at cD
  rw [bite_eq] at cD
  split at cD
  case isFalse => cases cD
  rename_i d1
  rcases first_ne (ρ := rhoP g f) (xs g.length a b) with hz | ⟨j, j1, j2, j3⟩
  · refine say true _ _ (fun x hx => ?_) hVM d1 ⟨fun _ => rfl, fun _ => ⟨h, v1, v2, v3, E.1 hz⟩⟩
    obtain ⟨y, hy, rfl⟩ := List.mem_map.1 hx
    exact eq (hz y hy)
  · refine say false _ _ (fun x hx => ?_) hVM (allTo_ok cD j j1) ⟨fun hm => ?_, fun hh => by cases hh⟩
    · rcases List.mem_cons.1 hx with rfl | hx
      · exact ne j2
      · obtain ⟨y, hy, rfl⟩ := List.mem_map.1 hx
        exact eq (j3 y hy)
    · have := E.2 ⟨hm.2.2.2.2.1, hm.2.2.2.2.2⟩ ((xs g.length a b).getD j (.c 0)) (List.mem_iff_getElem?.2 ⟨j, by simp [List.getD, j1]⟩)
      exact (j2 this).elim
end

/-! ## Any lists -/
open Classical in
noncomputable def dMn : List (V Sy) → Sto Sy → Option (List Int × List Int)
  | [.agg [x, y], .agg [u, v]], sto => match constsOf sto x, constsOf sto y, constsOf sto u, constsOf sto v with
    | some a, some b, some a', some b' => if ((a.length ≤ 1048576 ∧ Nm a) ∧ b.length ≤ 1048576 ∧ Nm b) ∧ a' = a ∧ b' = b ∧ ¬ PairV a b then some (a, b) else none
    | _, _, _, _ => none
  | _, _ => none
theorem dMn_eq {sto : Sto Sy} {x y u v : V Sy} {a b : List Int} (h1 : constsOf sto x = some a) (h2 : constsOf sto y = some b) (h3 : constsOf sto u = some a) (h4 : constsOf sto v = some b) (h : ((a.length ≤ 1048576 ∧ Nm a) ∧ b.length ≤ 1048576 ∧ Nm b) ∧ ¬ PairV a b) : dMn [.agg [x, y], .agg [u, v]] sto = some (a, b) := by
  simp only [dMn, h1, h2, h3, h4]
  rw [if_pos ⟨h.1, rfl, rfl, h.2⟩]
section
attribute [local simp] aops wants aop apure St.eval setTm_some setTm_none Tr.get_set evals pevals apureB tiS tiI tiB abin aint isCmp sym_lt sym_eqs sym_neqs sym_eq sym_neq sym_gtr sym_leq sym_geq sym_add sym_sub sym_mul aeff aeffB idx? ofV aindexAddr aggDesc aifc_int aun fldP0 fldP1
set_option maxRecDepth 10000 in
theorem mun_run (g f : List Int) (hlg : g.length ≤ 1048576) (hlf : f.length ≤ 1048576) (hg : Nm g) (hf : Nm f) (h : ¬ PairV g f) : ∃ r, symRun Try.prog (vpK 13) [] 22 36 [.agg [patL g, patL f], .agg [patL g, patL f]] ⟨0, [], 0⟩ = some r ∧ r.1 = .tup [.agg [.nil, .nil], .bool false] := by
  refine own_run2 (n := 21) (by rfl) Try.func36 rfl rfl ?_
  simp only [Try.f36]
  obtain ⟨S1, e1⟩ : ∃ S1 : Sto Sy, S1 = (⟨0, [], 0⟩ : Sto Sy).new [patL g, patL f] := ⟨_, rfl⟩
  obtain ⟨S2, e2⟩ : ∃ S2 : Sto Sy, S2 = S1.new [patL g, patL f] := ⟨_, rfl⟩
  obtain ⟨S3, e3⟩ : ∃ S3 : Sto Sy, S3 = S2.new [V.nil, V.nil] := ⟨_, rfl⟩
  have bx1 : abox (⟨0, [], 0⟩ : Sto Sy) 25 (.agg [patL g, patL f]) = some (.ptr 0 0, S1) := by rw [e1]; exact bxP _ g f
  have n1 : S1.next = 1 := by rw [e1]; rfl
  have n2 : S2.next = 2 := by rw [e2]; show S1.next + 1 = 2; rw [n1]
  have bx2 : abox S1 25 (.agg [patL g, patL f]) = some (.ptr 1 0, S2) := by rw [e2, ← n1]; exact bxP _ g f
  have al : aalloc (symNum []) (tiOf Try.prog) S2 25 = some (.ptr 2 0, S3) := by rw [e3, ← n2]; exact allocP S2
  have k0 : Go.Sx.look S3.obs 0 = some [patL g, patL f] := by
    rw [e3]
    show Go.Sx.look ((S2.next, _) :: S2.obs) 0 = _
    rw [look_cons, if_neg (by omega), e2]
    show Go.Sx.look ((S1.next, _) :: S1.obs) 0 = _
    rw [look_cons, if_neg (by omega), e1]
    exact look_pair g f ⟨0, [], 0⟩
  have l0 := loadP k0
  have m1 : Go.Sx.look S3.obs 2 = some [V.nil, V.nil] := by rw [e3, ← n2]; exact lookN S2 V.nil V.nil
  have low3 : S3.low ≤ S3.next := by
    rw [e3, e2, e1]; exact Nat.zero_le _
  have c1 := boolC (K := vpK 13) (S := S3) low3 (fun _ _ => rfl) (dP_eq (consts_pat _ g) (consts_pat _ f) ⟨⟨hlg, hg⟩, hlf, hf⟩) 21 (by omega)
  rw [decide_eq_false h] at c1
  have st := storeP (v := V.nil) (w := V.nil) m1 rfl rfl
  have ld := loadP (lookW (a := V.nil) (b := V.nil) m1)
  generalize S3.write 2 [V.nil, V.nil] = S4 at *
  clear e1 e2 e3 k0 m1 low3
  generalize patL g = x at *
  generalize patL f = y at *
  repeat' (first | refine Wp.seq ?_ | refine Wp.block ?_ | (apply Wp.region; focus ((try simp [setArgs, bx1, bx2, al, l0, c1, bld0, st]) <;> rfl)) | (refine Wp.cond_t ?_ ?_; focus (simp [setArgs, bx1, bx2, al, l0, c1, bld0, st]; done)) | (refine Wp.cond_f ?_ ?_; focus (simp [setArgs, bx1, bx2, al, l0, c1, bld0, st]; done)) | refine Wp.skip ?_ | refine Wp.ret ?_ | refine Wp.exit ?_ | refine Blk.here ?_ | (refine Blk.past ?_ ?_; focus (simp; done)))
  exact ⟨rfl, ⟨_, by simp [answer, aresults, aresult, ld]; rfl, rfl⟩⟩
noncomputable def munK : Ctr := telK 36 dMn (fun _ => prR none) (fun _ => prO none)
theorem munK_ok (ρ : Nat → Int) (s : Sms) (B : Nat) : COk Try.prog ⟨Sy.den ρ, s⟩ B munK := by
  refine telK_ok (body_of Try.func36 rfl) (fun args sto p h => ?_)
  unfold dMn at h
  split at h
  case h_2 => cases h
  rename_i x y u v
  split at h
  case h_2 => cases h
  rename_i a b a' b' h1 h2 h3 h4
  split at h
  case isFalse => cases h
  rename_i hp
  cases h
  obtain ⟨⟨⟨q1, q2⟩, q3, q4⟩, rfl, rfl, hn⟩ := hp
  refine ⟨_, tells_noR vpKI_ok (mun_run _ _ q1 q3 q2 q4 hn), fun ρ s B c hinv vs hvs ρ' => ?_⟩
  obtain ⟨v1, v2, rfl, hv1, hv2⟩ := hvs.two
  obtain ⟨p1, q1', rfl, hp1, hq1⟩ := vr_agg2 hv1
  obtain ⟨p2, q2', rfl, hp2, hq2⟩ := vr_agg2 hv2
  exact .cons (VRs.agg (.cons (patL_rel h1 q1 hinv hp1) (.cons (patL_rel h2 q3 hinv hq1) .nil))) (.cons (VRs.agg (.cons (patL_rel h3 q1 hinv hp2) (.cons (patL_rel h4 q3 hinv hq2) .nil))) .nil)
set_option maxRecDepth 10000 in
theorem nmI_run (g f : List Int) (hlg : g.length ≤ 1048576) (hlf : f.length ≤ 1048576) (hg : Nm g) (hf : Nm f) (h : ¬ PairV g f) : ∃ r, symRun Try.prog munK [] 22 15 [.agg [patL g, patL f]] ⟨0, [], 0⟩ = some r ∧ r.1 = .bool false := by
  refine own_run2 (n := 21) (by rfl) Try.func15 rfl rfl ?_
  simp only [Try.f15]
  obtain ⟨S1, e1⟩ : ∃ S1 : Sto Sy, S1 = (⟨0, [], 0⟩ : Sto Sy).new [patL g, patL f] := ⟨_, rfl⟩
  have bx1 : abox (⟨0, [], 0⟩ : Sto Sy) 25 (.agg [patL g, patL f]) = some (.ptr 0 0, S1) := by rw [e1]; exact bxP _ g f
  have k0 : Go.Sx.look S1.obs 0 = some [patL g, patL f] := by rw [e1]; exact look_pair g f ⟨0, [], 0⟩
  have l0 := loadP k0
  have w1 : Ws S1 := by rw [e1]; exact ⟨⟨Nat.lt_succ_self _, trivial⟩, Nat.zero_le _⟩
  obtain ⟨S2, c1, w2, n2, o2, k2⟩ := telP (K := munK) w1 (fun _ _ => rfl) (dMn_eq (consts_pat _ g) (consts_pat _ f) (consts_pat _ g) (consts_pat _ f) ⟨⟨⟨hlg, hg⟩, hlf, hf⟩, h⟩) 21 (by omega)
  simp only [prR] at c1
  obtain ⟨S3, st3, w3, n3, m3, k3⟩ := cellW w2 (a := V.nil) (b := V.nil) rfl rfl
  have al := allocP S2
  have htk : takeNew S3.next S3.obs = [] := takeNew_id w3.desc
  clear e1 k0 o2
  generalize patL g = x at *
  generalize patL f = y at *
  repeat' (first | refine Wp.seq ?_ | refine Wp.block ?_ | (apply Wp.region; focus ((try simp [setArgs, bx1, l0, c1, al, st3]) <;> rfl)) | (refine Wp.cond_t ?_ ?_; focus (simp [setArgs, bx1, l0, c1, al, st3]; done)) | (refine Wp.cond_f ?_ ?_; focus (simp [setArgs, bx1, l0, c1, al, st3]; done)) | refine Wp.skip ?_ | refine Wp.ret ?_ | refine Wp.exit ?_ | refine Blk.here ?_ | (refine Blk.past ?_ ?_; focus (simp; done)))
  (apply Wp.drawn2 7; (focus kernel_rfl); (focus kernel_rfl); (focus intro F; simp [dhead, seenBy, keepOnly, looks, joinN, addN, bite_eq, Op.operands, htk, Call.operands]; exact ⟨rfl, rfl, rfl⟩); (focus (try simp [allN, htk, Call.operands]) <;> rfl))
  repeat' (first | refine Wp.seq ?_ | refine Wp.block ?_ | (apply Wp.region; focus ((try simp []) <;> rfl)) | (refine Wp.cond_t ?_ ?_; focus (simp []; done)) | (refine Wp.cond_f ?_ ?_; focus (simp []; done)) | refine Wp.skip ?_ | refine Wp.ret ?_ | refine Wp.exit ?_ | refine Blk.here ?_ | (refine Blk.past ?_ ?_; focus (simp; done)))
  exact ⟨rfl, ans1 (v := .bool false) (by simp) (by simp)⟩
set_option maxRecDepth 10000 in
theorem nmS_run (g f : List Int) (hlg : g.length ≤ 1048576) (hlf : f.length ≤ 1048576) (hg : Nm g) (hf : Nm f) (h : ¬ PairV g f) : ∃ r, symRun Try.prog (vpK 22) [] 22 16 [.agg [patL g, patL f]] ⟨0, [], 0⟩ = some r ∧ r.1 = .bool false := by
  refine own_run2 (n := 21) (by rfl) Try.func16 rfl rfl ?_
  simp only [Try.f16]
  obtain ⟨S1, e1⟩ : ∃ S1 : Sto Sy, S1 = (⟨0, [], 0⟩ : Sto Sy).new [patL g, patL f] := ⟨_, rfl⟩
  have bx1 : abox (⟨0, [], 0⟩ : Sto Sy) 25 (.agg [patL g, patL f]) = some (.ptr 0 0, S1) := by rw [e1]; exact bxP _ g f
  have k0 : Go.Sx.look S1.obs 0 = some [patL g, patL f] := by rw [e1]; exact look_pair g f ⟨0, [], 0⟩
  have l0 := loadP k0
  have low1 : S1.low ≤ S1.next := by rw [e1]; exact Nat.zero_le _
  have c1 := boolC (K := vpK 22) (S := S1) low1 (fun _ _ => rfl) (dP_eq (consts_pat _ g) (consts_pat _ f) ⟨⟨hlg, hg⟩, hlf, hf⟩) 21 (by omega)
  rw [decide_eq_false h] at c1
  clear e1 k0
  generalize patL g = x at *
  generalize patL f = y at *
  repeat' (first | refine Wp.seq ?_ | refine Wp.block ?_ | (apply Wp.region; focus ((try simp [setArgs, bx1, l0, c1]) <;> rfl)) | (refine Wp.cond_t ?_ ?_; focus (simp [setArgs, bx1, l0, c1]; done)) | (refine Wp.cond_f ?_ ?_; focus (simp [setArgs, bx1, l0, c1]; done)) | refine Wp.skip ?_ | refine Wp.ret ?_ | refine Wp.exit ?_ | refine Blk.here ?_ | (refine Blk.past ?_ ?_; focus (simp; done)))
  exact ⟨rfl, ans1 (v := .bool false) (by simp) (by simp)⟩
end
theorem no_mir {g f : List Int} (h : ¬ PairV g f) : decide (MirP g f) = false := decide_eq_false (fun hm => h hm.1)
theorem miI_tells {g f : List Int} (hlg : g.length ≤ 1048576) (hlf : f.length ≤ 1048576) (hg : Nm g) (hf : Nm f) : Tells Try.prog 15 [.agg [patL g, patL f]] (fun _ => .bool (decide (MirP g f))) (fun _ => []) := by
  by_cases h : PairV g f
  · exact mir_at (xs := xsI) (sgn_at (fun L h2 h6 => five (Q := fun L => mirAll 15 xsI L 1 1 = true) mi_2_pp mi_3_pp mi_4_pp mi_5_pp mi_6_pp h2 h6) (fun L h2 h6 => five (Q := fun L => mirAll 15 xsI L 1 (-1) = true) mi_2_pm mi_3_pm mi_4_pm mi_5_pm mi_6_pm h2 h6) (fun L h2 h6 => five (Q := fun L => mirAll 15 xsI L (-1) 1 = true) mi_2_mp mi_3_mp mi_4_mp mi_5_mp mi_6_mp h2 h6) (fun L h2 h6 => five (Q := fun L => mirAll 15 xsI L (-1) (-1) = true) mi_2_mm mi_3_mm mi_4_mm mi_5_mm mi_6_mm h2 h6)) (.inl rfl) h
  · rw [no_mir h]
    exact tells_run munK_ok (nmI_run g f hlg hlf hg hf h)
theorem miS_tells {g f : List Int} (hlg : g.length ≤ 1048576) (hlf : f.length ≤ 1048576) (hg : Nm g) (hf : Nm f) : Tells Try.prog 16 [.agg [patL g, patL f]] (fun _ => .bool (decide (MirP g f))) (fun _ => []) := by
  by_cases h : PairV g f
  · exact mir_at (xs := xsS) (sgn_at (fun L h2 h6 => five (Q := fun L => mirAll 16 xsS L 1 1 = true) ms_2_pp ms_3_pp ms_4_pp ms_5_pp ms_6_pp h2 h6) (fun L h2 h6 => five (Q := fun L => mirAll 16 xsS L 1 (-1) = true) ms_2_pm ms_3_pm ms_4_pm ms_5_pm ms_6_pm h2 h6) (fun L h2 h6 => five (Q := fun L => mirAll 16 xsS L (-1) 1 = true) ms_2_mp ms_3_mp ms_4_mp ms_5_mp ms_6_mp h2 h6) (fun L h2 h6 => five (Q := fun L => mirAll 16 xsS L (-1) (-1) = true) ms_2_mm ms_3_mm ms_4_mm ms_5_mm ms_6_mm h2 h6)) (.inr rfl) h
  · rw [no_mir h]
    exact tells_run vpKS_ok (nmS_run g f hlg hlf hg hf h)
noncomputable def miB (p : List Int × List Int) : Bool := decide (MirP p.1 p.2)
noncomputable def miK (k : FuncId) : Ctr := telK k dP (fun p _ => .bool (miB p)) (fun _ _ => [])
theorem miKI_ok (ρ : Nat → Int) (s : Sms) (B : Nat) : COk Try.prog ⟨Sy.den ρ, s⟩ B (miK 15) :=
  telK_ok (body_of Try.func15 rfl) (fun args sto p h => ⟨_, miI_tells (dP_rel h).1.1.1 (dP_rel h).1.2.1 (dP_rel h).1.1.2 (dP_rel h).1.2.2, (dP_rel h).2⟩)
theorem miKS_ok (ρ : Nat → Int) (s : Sms) (B : Nat) : COk Try.prog ⟨Sy.den ρ, s⟩ B (miK 16) :=
  telK_ok (body_of Try.func16 rfl) (fun args sto p h => ⟨_, miS_tells (dP_rel h).1.1.1 (dP_rel h).1.2.1 (dP_rel h).1.1.2 (dP_rel h).1.2.2, (dP_rel h).2⟩)
end Go.Proofs.Ytnaegkpaiahpmaa.Mi

/-
  Pairs of arrays: the second series of rows, and what the symbols stand for. No condition.
-/
import Derived.Test.YtobdnpnohaonkaaPr
namespace Go.Proofs.Ytobdnpnohaonkaa.Pr
open Go.ChangeShapes Go.WideShapes Go.ChangeAt Go.RowKit Go.Sx Go.Proofs.Ytobdnpnohaonkaa.Ids
set_option linter.unusedVariables false
set_option linter.unusedSimpArgs false

/-- The sum of the first k products of two series for the number n. -/
def convI (g f : List Int) (n : Nat) : Nat → Int
  | 0 => 0
  | k + 1 => convI g f n k + (chs n k : Nat) * (g.getD k 0 * f.getD (n - k) 0)
theorem getD_den (ρ : Nat → Int) (l : List Sy) (k : Nat) : (l.getD k (.c 0)).den ρ = (l.map (Sy.den ρ)).getD k 0 := by
  simp only [List.getD, List.getElem?_map]
  cases l[k]? <;> rfl
theorem convO_den (ρ : Nat → Int) (g f : List Sy) (n : Nat) : ∀ (k : Nat) (s : Sy), convO g f n k = some s → cg (s.den ρ) (convI (g.map (Sy.den ρ)) (f.map (Sy.den ρ)) n k) := by
  intro k
  induction k with
  | zero => intro s h; cases h; exact cg.refl _
  | succ k ih =>
    intro s h
    simp only [convO] at h
    split at h
    · rename_i s0 h0
      split at h
      · rename_i p hp
        split at h
        · rename_i q hq
          cases h
          have e1 := (Option.some.inj (symArith_ok (ρ := ρ) hp)).symm
          have e2 := (Option.some.inj (symArith_ok (ρ := ρ) hq)).symm
          rw [plusS_den, e2, e1, getD_den, getD_den]
          refine (cg_wrap _).trans ((ih _ h0).add ((cg_wrap _).trans ?_))
          show cg ((chs n k : Nat) * _) _
          exact (cg.refl _).mul (cg_wrap _)
        · cases h
      · cases h
    · cases h
noncomputable def convOk (L : Nat) (a : Int) (m : Nat) (b : Int) : Bool := allTo (fun n => (convO (gS L a) (fS L m b) n (n + 1)).isSome) L
theorem conv_den {ρ : Nat → Int} {L : Nat} {a : Int} {m : Nat} {b : Int} (h : convOk L a m b = true) {n : Nat} (hn : n < L) : (conv (gS L a) (fS L m b) n).den ρ = IntKind.i64.wrap (convI ((gS L a).map (Sy.den ρ)) ((fS L m b).map (Sy.den ρ)) n (n + 1)) := by
  have h1 := allTo_ok h n hn
  unfold conv
  cases hc : convO (gS L a) (fS L m b) n (n + 1) with
  | none => rw [hc] at h1; cases h1
  | some s =>
    simp only [Option.getD_some]
    have hcg := convO_den ρ _ _ _ _ _ hc
    simp only [convO] at hc
    split at hc
    · split at hc
      · split at hc
        · cases hc
          rw [plusS_den] at hcg ⊢
          exact wrap_cg ((cg_wrap _).symm.trans hcg)
        · cases hc
      · cases hc
    · cases hc
theorem chs_zero (n : Nat) : chs n 0 = 1 := by cases n <;> rfl
theorem convI_head (a : Int) (t f : List Int) (n : Nat) : ∀ k, convI (a :: t) f n (k + 1) = a * f.getD n 0 + convI (0 :: t) f n (k + 1)
  | 0 => by simp [convI, chs_zero]
  | k + 1 => by
    have h := convI_head a t f n k
    simp only [convI] at h ⊢
    simp only [getD_cons_succ'] at h ⊢
    omega
theorem convI_same (t f f' : List Int) (n : Nat) (h : ∀ i, i < n → f.getD i 0 = f'.getD i 0) : ∀ k, convI (0 :: t) f n k = convI (0 :: t) f' n k
  | 0 => rfl
  | k + 1 => by
    simp only [convI, convI_same t f f' n h k]
    cases k with
    | zero => simp
    | succ k =>
      rcases Nat.lt_or_ge k n with hk | hk
      · rw [h _ (by omega)]
      · have e : chs n (k + 1) = 0 := by
          have key : ∀ n k, n ≤ k → chs n (k + 1) = 0 := by
            intro n
            induction n with
            | zero => intro k _; rfl
            | succ n ih =>
              intro k hk
              cases k with
              | zero => omega
              | succ k => simp only [chs, ih k (by omega), ih (k + 1) (by omega)]
          exact key n k hk
        rw [e]; simp
/-- The series whose product with a series is given, number by number. -/
def quoL (a : Int) (t y : List Int) : Nat → List Int
  | 0 => []
  | n + 1 => quoL a t y n ++ [IntKind.i64.wrap (a * (y.getD n 0 - convI (0 :: t) (quoL a t y n) n (n + 1)))]
theorem quoL_len (a : Int) (t y : List Int) : ∀ n, (quoL a t y n).length = n
  | 0 => rfl
  | n + 1 => by simp [quoL, quoL_len a t y n]
theorem quoL_get (a : Int) (t y : List Int) (i : Nat) : ∀ n, i < n → (quoL a t y n).getD i 0 = IntKind.i64.wrap (a * (y.getD i 0 - convI (0 :: t) (quoL a t y i) i (i + 1)))
  | 0, h => by omega
  | n + 1, h => by
    simp only [quoL]
    rcases Nat.lt_or_ge i n with hi | hi
    · rw [← quoL_get a t y i n hi]
      simp [List.getD, List.getElem?_append_left (show i < (quoL a t y n).length by rw [quoL_len]; exact hi)]
    · have : i = n := by omega
      subst this
      simp [List.getD, List.getElem?_append_right, quoL_len]
theorem quo_conv {a : Int} (ha : a = 1 ∨ a = -1) (t y : List Int) {n L : Nat} (hn : n < L) (hy : IntKind.i64.wrap (y.getD n 0) = y.getD n 0) : IntKind.i64.wrap (convI (a :: t) (quoL a t y L) n (n + 1)) = y.getD n 0 := by
  rw [← hy]
  refine wrap_cg ?_
  rw [convI_head, convI_same t (quoL a t y L) (quoL a t y n) n (fun i hi => by rw [quoL_get a t y i L (by omega), quoL_get a t y i n hi]), quoL_get a t y n L hn]
  generalize convI (0 :: t) (quoL a t y n) n (n + 1) = c
  generalize y.getD n 0 = z
  have h1 : cg (a * IntKind.i64.wrap (a * (z - c)) + c) (a * (a * (z - c)) + c) := ((cg.refl a).mul (cg_wrap _)).add (cg.refl c)
  have h2 : a * (a * (z - c)) + c = z := by
    rcases ha with rfl | rfl <;> omega
  rwa [h2] at h1
theorem quoL_wrap (a : Int) (t y : List Int) (L : Nat) : ∀ z, z ∈ quoL a t y L → IntKind.i64.wrap z = z := by
  intro z hz
  obtain ⟨i, hi, rfl⟩ := List.mem_iff_getElem.1 hz
  have := quoL_get a t y i L (by rw [quoL_len] at hi; exact hi)
  simp only [List.getD, List.getElem?_eq_getElem hi, Option.getD_some] at this
  rw [this]
  exact wrap_cg (cg_wrap _)

/-! ## What the symbols stand for -/
def col (zss : List (List Int)) (k : Nat) : List Int := zss.map fun r => r.getD k 0
def quo (zss : List (List Int)) : List Int := quoL ((col zss 0).getD 0 0) (col zss 0).tail (col zss 1) zss.length
def rhoQ (zss : List (List Int)) (k : Nat) : Int := if k < 6 then (col zss 0).getD k 0 else if k < 12 then (quo zss).getD (k - 6) 0 else (zss.getD ((k - 12) / 4) []).getD (2 + (k - 12) % 4) 0
/-- Rows of one length, from two to six of them, their numbers as a machine has them. -/
structure Sq (zss : List (List Int)) : Prop where
  lo : 2 ≤ zss.length
  hi : zss.length ≤ 6
  row : ∀ r, r ∈ zss → r.length = zss.length
  nrm : ∀ r, r ∈ zss → ∀ z, z ∈ r → IntKind.i64.wrap z = z
section
variable {zss : List (List Int)}
theorem Sq.get (h : Sq zss) {n k : Nat} (hn : n < zss.length) (hk : k < zss.length) : (zss.getD n [])[k]? = some ((zss.getD n []).getD k 0) ∧ IntKind.i64.wrap ((zss.getD n []).getD k 0) = (zss.getD n []).getD k 0 := by
  have e : zss.getD n [] = zss[n] := by simp [List.getD, hn]
  have hl := h.row _ (List.getElem_mem hn)
  rw [← e] at hl
  have hw := h.nrm _ (List.getElem_mem hn)
  rw [← e] at hw
  generalize zss.getD n [] = w at hl hw
  have e2 : w[k]? = some (w.getD k 0) := by simp [List.getD, show k < w.length by omega]
  exact ⟨e2, hw _ (List.mem_of_getElem? e2)⟩
theorem col_len (k : Nat) : (col zss k).length = zss.length := by simp [col]
theorem col_get (k n : Nat) : (col zss k).getD n 0 = (zss.getD n []).getD k 0 := by
  simp only [col, List.getD, List.getElem?_map]
  cases zss[n]? <;> simp
theorem quo_len : (quo zss).length = zss.length := quoL_len _ _ _ _
theorem col_wrap (h : Sq zss) {k n : Nat} (hk : k < zss.length) (hn : n < zss.length) : IntKind.i64.wrap ((col zss k).getD n 0) = (col zss k).getD n 0 := by rw [col_get]; exact (h.get hn hk).2
theorem vxg (h : Sq zss) {i : Nat} (hi : i < zss.length) : (vx i).den (rhoQ zss) = (col zss 0).getD i 0 := by
  have h6 := h.hi
  have e : rhoQ zss i = (col zss 0).getD i 0 := by unfold rhoQ; rw [if_pos (by omega)]
  rw [vx_den _ i (by omega) (by rw [e]; exact col_wrap h (by have := h.lo; omega) hi), e]
theorem vxf (h : Sq zss) {i : Nat} (hi : i < zss.length) : (vx (6 + i)).den (rhoQ zss) = (quo zss).getD i 0 := by
  have h6 := h.hi
  have e : rhoQ zss (6 + i) = (quo zss).getD i 0 := by unfold rhoQ; rw [if_neg (by omega), if_pos (by omega), Nat.add_sub_cancel_left]
  have hm : (quo zss).getD i 0 ∈ quo zss := by
    have : i < (quo zss).length := by rw [quo_len]; exact hi
    simp [List.getD, this]
  rw [vx_den _ _ (by omega) (by rw [e]; exact quoL_wrap _ _ _ _ _ hm), e]
theorem vxe (h : Sq zss) {n k : Nat} (hn : n < zss.length) (hk : k + 2 < zss.length) : (vx (12 + 4 * n + k)).den (rhoQ zss) = (zss.getD n []).getD (k + 2) 0 := by
  have h6 := h.hi
  have e : rhoQ zss (12 + 4 * n + k) = (zss.getD n []).getD (k + 2) 0 := by
    unfold rhoQ
    rw [if_neg (by omega), if_neg (by omega), show (12 + 4 * n + k - 12) / 4 = n by omega, show 2 + (12 + 4 * n + k - 12) % 4 = k + 2 by omega]
  rw [vx_den _ _ (by omega) (by rw [e]; exact (h.get hn hk).2), e]
theorem gS_den (h : Sq zss) {a : Int} (ha : (col zss 0).getD 0 0 = a) : (gS zss.length a).map (Sy.den (rhoQ zss)) = col zss 0 := by
  apply List.ext_getElem?
  intro i
  have hlo := h.lo
  rw [List.getElem?_map]
  rcases Nat.lt_or_ge i zss.length with hi | hi
  · have e2 : (col zss 0)[i]? = some ((col zss 0).getD i 0) := by simp [List.getD, show i < (col zss 0).length by rw [col_len]; exact hi]
    rw [e2]
    cases i with
    | zero => simp only [gS, List.getElem?_cons_zero, Option.map_some, Sy.den, ha]
    | succ i =>
      simp only [gS, List.getElem?_cons_succ, List.getElem?_map, List.getElem?_range (show i < zss.length - 1 by omega), Option.map_some, vxg h hi]
  · rw [List.getElem?_eq_none (by simp [gS]; omega), List.getElem?_eq_none (by rw [col_len]; omega)]; rfl
theorem fS_den (h : Sq zss) {m : Nat} {b : Int} (h1 : 1 ≤ m → (quo zss).getD 0 0 = 0) (h2 : 2 ≤ m → (quo zss).getD 1 0 = b) : (fS zss.length m b).map (Sy.den (rhoQ zss)) = quo zss := by
  have hlo := h.lo
  apply List.ext_getElem?
  intro i
  rw [List.getElem?_map]
  have hq := quo_len (zss := zss)
  rcases Nat.lt_or_ge i zss.length with hi | hi
  · have e2 : (quo zss)[i]? = some ((quo zss).getD i 0) := by simp [List.getD, show i < (quo zss).length by omega]
    rw [e2]
    match m, i, h1, h2 with
    | 0, i, _, _ =>
      simp only [fS, List.getElem?_map, List.getElem?_range hi, Option.map_some, vxf h hi]
    | 1, 0, h1, _ => simp only [fS, List.getElem?_cons_zero, Option.map_some, Sy.den, h1 (Nat.le_refl _)]
    | 1, i + 1, _, _ =>
      simp only [fS, List.getElem?_cons_succ, List.getElem?_map, List.getElem?_range (show i < zss.length - 1 by omega), Option.map_some]
      rw [show 7 + i = 6 + (i + 1) by omega, vxf h hi]
    | m + 2, 0, h1, _ => simp only [fS, List.getElem?_cons_zero, Option.map_some, Sy.den, h1 (by omega)]
    | m + 2, 1, _, h2 => simp only [fS, List.getElem?_cons_succ, List.getElem?_cons_zero, Option.map_some, Sy.den, h2 (by omega)]
    | m + 2, i + 2, _, _ =>
      simp only [fS, List.getElem?_cons_succ, List.getElem?_map, List.getElem?_range (show i < zss.length - 2 by omega), Option.map_some]
      rw [show 8 + i = 6 + (i + 2) by omega, vxf h hi]
  · rw [List.getElem?_eq_none (l := fS zss.length m b) (by
      match m with
      | 0 => simp [fS]; omega
      | 1 => simp [fS]; omega
      | m + 2 => simp [fS]; omega), List.getElem?_eq_none (by omega)]; rfl
theorem cvQ (h : Sq zss) {a : Int} (ha : (col zss 0).getD 0 0 = a) (hu : a = 1 ∨ a = -1) {m : Nat} {b : Int} (h1 : 1 ≤ m → (quo zss).getD 0 0 = 0) (h2 : 2 ≤ m → (quo zss).getD 1 0 = b) (hc : convOk zss.length a m b = true) {n : Nat} (hn : n < zss.length) :
    (conv (gS zss.length a) (fS zss.length m b) n).den (rhoQ zss) = (col zss 1).getD n 0 := by
  have hlo := h.lo
  rw [conv_den hc hn, gS_den h ha, fS_den h h1 h2]
  have e : col zss 0 = a :: (col zss 0).tail := by
    have := col_len (zss := zss) 0
    cases hcol : col zss 0 with
    | nil => rw [hcol] at this; simp at this; omega
    | cons x r => rw [hcol] at ha; simp [List.getD] at ha; simp [ha]
  rw [e]
  have := quo_conv hu (col zss 0).tail (col zss 1) hn (col_wrap h (by omega) hn)
  unfold quo
  rw [ha]
  exact this
theorem rowsQ_den (h : Sq zss) {a : Int} (ha : (col zss 0).getD 0 0 = a) (hu : a = 1 ∨ a = -1) {m : Nat} {b : Int} (h1 : 1 ≤ m → (quo zss).getD 0 0 = 0) (h2 : 2 ≤ m → (quo zss).getD 1 0 = b) (hc : convOk zss.length a m b = true) :
    (rowsQ zss.length a m b).map (fun ps => ps.map (Sy.den (rhoQ zss))) = zss := by
  have hlo := h.lo
  apply List.ext_getElem?
  intro n
  unfold rowsQ
  rw [List.map_map, List.getElem?_map]
  rcases Nat.lt_or_ge n zss.length with hn | hn
  · rw [List.getElem?_range hn]
    simp only [Option.map_some, Function.comp]
    rw [List.getElem?_eq_getElem hn]
    congr 1
    have hrow := h.row _ (List.getElem_mem hn)
    have e0 : zss.getD n [] = zss[n] := by simp [List.getD, hn]
    apply List.ext_getElem?
    intro k
    rw [List.getElem?_map]
    rcases Nat.lt_or_ge k zss.length with hk | hk
    · have e2 := (h.get hn hk).1
      rw [e0] at e2
      rw [e2, ← e0]
      match k, hk with
      | 0, _ =>
        simp only [rowQ, List.getElem?_cons_zero, Option.map_some]
        rw [getD_den, gS_den h ha, col_get]
      | 1, _ =>
        simp only [rowQ, List.getElem?_cons_succ, List.getElem?_cons_zero, Option.map_some]
        rw [cvQ h ha hu h1 h2 hc hn, col_get]
      | k + 2, hk =>
        simp only [rowQ, rowE, List.getElem?_cons_succ, List.getElem?_map, List.getElem?_range (show k < zss.length - 2 by omega), Option.map_some]
        rw [vxe h hn hk]
    · rw [List.getElem?_eq_none (by simp [rowQ, rowE]; omega), List.getElem?_eq_none (by omega)]; rfl
  · rw [List.getElem?_eq_none (by simp; omega), List.getElem?_eq_none (by omega)]; rfl
end
set_option maxRecDepth 1000000 in
theorem convOk_ok : allTo (fun i => bite (convOk (i + 2) 1 0 0) (bite (convOk (i + 2) (-1) 0 0) (bite (convOk (i + 2) 1 1 0) (bite (convOk (i + 2) (-1) 1 0) (bite (convOk (i + 2) 1 2 1) (bite (convOk (i + 2) 1 2 (-1)) (bite (convOk (i + 2) (-1) 2 1) (convOk (i + 2) (-1) 2 (-1)) false) false) false) false) false) false) false) 5 = true := by kernel_rfl
end Go.Proofs.Ytobdnpnohaonkaa.Pr

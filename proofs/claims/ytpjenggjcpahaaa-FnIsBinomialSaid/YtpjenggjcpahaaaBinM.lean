/-
  Binomial sequences: what the code compares is 0 exactly where what the document's model compares is. No condition.
-/
import Derived.Test.YtpjenggjcpahaaaBin
namespace Go.Proofs.Ytpjenggjcpahaaa.Bin
open Go.ChangeShapes Go.WideShapes Go.ChangeAt Go.RowKit Go.Sx Go.Proofs.Ytpjenggjcpahaaa.Ids Go.Proofs.Ytpjenggjcpahaaa.Rep
set_option linter.unusedVariables false
set_option linter.unusedSimpArgs false

/-- A polynomial's value, by its numbers. -/
def lin (c : Int) : List Int → Int
  | [] => 0
  | d :: r => d + c * lin c r
noncomputable def linO (c : Int) : List Sy → Option Sy
  | [] => some (.c 0)
  | a :: r => match linO c r with
    | some q => match symArith .mul .i64 (.c c) q with
      | some p => some (plusS a p)
      | none => none
    | none => none
theorem linO_ok (ρ : Nat → Int) (c : Int) : ∀ (l : List Sy) (q : Sy), linO c l = some q → cg (q.den ρ) (lin c (l.map (Sy.den ρ))) := by
  intro l
  induction l with
  | nil => intro q h; cases h; exact cg.refl _
  | cons a r ih =>
    intro q h
    simp only [linO] at h
    split at h
    · rename_i q0 h0
      split at h
      · rename_i p hp
        cases h
        have h1 := symArith_ok (ρ := ρ) hp
        have h2 : p.den ρ = IntKind.i64.wrap (c * q0.den ρ) := (Option.some.inj h1).symm
        rw [plusS_den, h2]
        refine (cg_wrap _).trans ?_
        simp only [List.map_cons, lin]
        exact (cg.refl _).add ((cg_wrap _).trans ((cg.refl c).mul (ih _ h0)))
      · cases h
    · cases h
theorem vand (l : List Int) (h6 : l.length ≤ 6) (h : ∀ c : Nat, c < l.length → lin c l = 0) : ∀ d, d ∈ l → d = 0 := by
  match l, h6, h with
  | [], _, _ => simp
  | [a], _, h => have h0 := h 0 (by simp); simp [lin] at h0; simp [h0]
  | [a, b], _, h =>
    have h0 := h 0 (by simp); have h1 := h 1 (by simp)
    simp only [lin] at h0 h1
    intro d hd; simp at hd; omega
  | [a, b, c], _, h =>
    have h0 := h 0 (by simp); have h1 := h 1 (by simp); have h2 := h 2 (by simp)
    simp only [lin] at h0 h1 h2
    intro d hd; simp at hd; omega
  | [a, b, c, e], _, h =>
    have h0 := h 0 (by simp); have h1 := h 1 (by simp); have h2 := h 2 (by simp); have h3 := h 3 (by simp)
    simp only [lin] at h0 h1 h2 h3
    intro d hd; simp at hd; omega
  | [a, b, c, e, f], _, h =>
    have h0 := h 0 (by simp); have h1 := h 1 (by simp); have h2 := h 2 (by simp); have h3 := h 3 (by simp); have h4 := h 4 (by simp)
    simp only [lin] at h0 h1 h2 h3 h4
    intro d hd; simp at hd; omega
  | [a, b, c, e, f, g], _, h =>
    have h0 := h 0 (by simp); have h1 := h 1 (by simp); have h2 := h 2 (by simp); have h3 := h 3 (by simp); have h4 := h 4 (by simp); have h5 := h 5 (by simp)
    simp only [lin] at h0 h1 h2 h3 h4 h5
    intro d hd; simp at hd; omega
  | _ :: _ :: _ :: _ :: _ :: _ :: _ :: _, h6, _ => simp at h6
theorem lin_zero (c : Int) : ∀ (l : List Int), (∀ d, d ∈ l → d = 0) → lin c l = 0
  | [], _ => rfl
  | d :: r, h => by simp only [lin, h d (by simp), lin_zero c r (fun x hx => h x (by simp [hx]))]; simp
theorem lin_bound (c : Nat) (hc : c ≤ 5) : ∀ (n : Nat) (l : List Int), l.length ≤ n → n ≤ 6 → (∀ d, d ∈ l → -100000000000000 ≤ d ∧ d ≤ 100000000000000) → -(100000000000000 * (6 ^ n : Nat) : Int) ≤ lin c l ∧ lin c l ≤ 100000000000000 * (6 ^ n : Nat) := by
  intro n
  induction n with
  | zero =>
    intro l hl _ _
    have : l = [] := List.eq_nil_of_length_eq_zero (by omega)
    subst this
    simp [lin]
  | succ n ih =>
    intro l hl hn h
    have hp : 1 ≤ 6 ^ n := Nat.one_le_pow _ _ (by omega)
    have e : (6 ^ (n + 1) : Nat) = 6 * 6 ^ n := by rw [Nat.pow_succ]; omega
    rw [e]
    cases l with
    | nil =>
      generalize (6 ^ n : Nat) = P at hp
      simp only [lin]; constructor <;> omega
    | cons d r =>
      have h1 := ih r (by simpa using hl) (by omega) (fun x hx => h x (by simp [hx]))
      have h2 := h d (by simp)
      simp only [lin]
      generalize (6 ^ n : Nat) = P at h1 hp
      generalize lin c r = y at h1
      have hc' : c = 0 ∨ c = 1 ∨ c = 2 ∨ c = 3 ∨ c = 4 ∨ c = 5 := by omega
      rcases hc' with rfl | rfl | rfl | rfl | rfl | rfl <;> push_cast <;> omega
theorem lin_small (c : Nat) (hc : c ≤ 5) (l : List Int) (hl : l.length ≤ 6) (h : ∀ d, d ∈ l → -100000000000000 ≤ d ∧ d ≤ 100000000000000) : -4665600000000000000 ≤ lin c l ∧ lin c l ≤ 4665600000000000000 := by
  have := lin_bound c hc 6 l hl (by omega) h
  have e : (6 ^ 6 : Nat) = 46656 := by decide
  rw [e] at this
  omega

noncomputable def dI (n i : Nat) : List Sy := (List.range (n + 1 - i)).map fun j => minusS (bI n i j) (aI n i j)
noncomputable def varB : List Fact := rngF 1000000 (vxs 21)
noncomputable def bndOk (x : Sy) : Bool := match ivM varB x with
  | some (lo, hi) => bite (ilt lo (-50000000000000)) false (bite (ilt 50000000000000 hi) false true)
  | none => false
/-- What has to hold of the numbers compared, for the polynomial n. -/
noncomputable def okI (n i : Nat) : Bool := allTo (fun j => bite (bndOk (aI n i j)) (bndOk (bI n i j)) false) (n + 1 - i)
noncomputable def okS (n i c : Nat) : Bool := bite (aS n c i).fits (bite (bS n c i).fits (match linO c (dI n i) with
  | some q => (minusS (aS n c i) (bS n c i)).same q
  | none => false) false) false
noncomputable def okN (n : Nat) : Bool := allTo (fun i => bite (okI n i) (allTo (okS n i) (n + 1)) false) (n + 1)
set_option maxRecDepth 1000000 in
theorem okN_ok : allTo okN 6 = true := by kernel_rfl

theorem bndOk_ok {ρ : Nat → Int} (hv : ∀ f, f ∈ varB → f.Ok ρ) {x : Sy} (h : bndOk x = true) : -50000000000000 ≤ x.den ρ ∧ x.den ρ ≤ 50000000000000 := by
  unfold bndOk at h
  split at h
  · rename_i lo hi hiv
    have := ivM_ok hv hiv
    simp only [bite_eq, ilt_eq, decide_eq_true_eq] at h
    split at h
    · cases h
    · split at h
      · cases h
      · omega
  · cases h
theorem fits_in {ρ : Nat → Int} {x : Sy} (h : x.fits = true) : -9223372036854775808 ≤ x.den ρ ∧ x.den ρ ≤ 9223372036854775807 := by
  rw [← fits_wrap ρ h]; exact wrap_range _
theorem n_eqv {ρ : Nat → Int} (hv : ∀ f, f ∈ varB → f.Ok ρ) {n : Nat} (hn : n < 6) :
    (∀ i, i < n + 1 → ∀ j, j < n + 1 - i → (aI n i j).den ρ = (bI n i j).den ρ) ↔ ∀ i, i < n + 1 → ∀ c, c < n + 1 → (aS n c i).den ρ = (bS n c i).den ρ := by
  have h0 := allTo_ok okN_ok n hn
  have main : ∀ i, i < n + 1 → ∃ l : List Int, l.length = n + 1 - i ∧ (∀ d, d ∈ l → -100000000000000 ≤ d ∧ d ≤ 100000000000000) ∧ ((∀ j, j < n + 1 - i → (aI n i j).den ρ = (bI n i j).den ρ) ↔ ∀ d, d ∈ l → d = 0) ∧ ∀ c : Nat, c < n + 1 → ((aS n c i).den ρ = (bS n c i).den ρ ↔ lin c l = 0) := by
    intro i hi
    have h1 := allTo_ok h0 i hi
    simp only [bite_eq] at h1
    split at h1
    case isFalse => cases h1
    rename_i h2
    have hb : ∀ j, j < n + 1 - i → (-50000000000000 ≤ (aI n i j).den ρ ∧ (aI n i j).den ρ ≤ 50000000000000) ∧ (-50000000000000 ≤ (bI n i j).den ρ ∧ (bI n i j).den ρ ≤ 50000000000000) := by
      intro j hj
      have := allTo_ok h2 j hj
      simp only [bite_eq] at this
      split at this
      · rename_i h3; exact ⟨bndOk_ok hv h3, bndOk_ok hv this⟩
      · cases this
    have hd : ∀ j, j < n + 1 - i → (minusS (bI n i j) (aI n i j)).den ρ = (bI n i j).den ρ - (aI n i j).den ρ := fun j hj => by
      have := hb j hj
      rw [minusS_den, wrap_in (by omega) (by omega)]
    have hmem : ∀ d, d ∈ (dI n i).map (Sy.den ρ) → ∃ j, j < n + 1 - i ∧ d = (bI n i j).den ρ - (aI n i j).den ρ := by
      intro d hd'
      obtain ⟨x, hx, rfl⟩ := List.mem_map.1 hd'
      obtain ⟨j, hj, rfl⟩ := List.mem_map.1 hx
      rw [List.mem_range] at hj
      exact ⟨j, hj, hd j hj⟩
    have hlen : ((dI n i).map (Sy.den ρ)).length = n + 1 - i := by simp [dI]
    have hbd : ∀ d, d ∈ (dI n i).map (Sy.den ρ) → -100000000000000 ≤ d ∧ d ≤ 100000000000000 := by
      intro d hd'
      obtain ⟨j, hj, rfl⟩ := hmem d hd'
      have := hb j hj
      omega
    refine ⟨(dI n i).map (Sy.den ρ), hlen, hbd, ⟨fun h d hd' => ?_, fun h j hj => ?_⟩, fun c hc => ?_⟩
    · obtain ⟨j, hj, rfl⟩ := hmem d hd'
      rw [h j hj]; omega
    · have := h ((minusS (bI n i j) (aI n i j)).den ρ) (List.mem_map_of_mem (List.mem_map.2 ⟨j, List.mem_range.2 hj, rfl⟩))
      rw [hd j hj] at this
      omega
    · have h3 := allTo_ok h1 c hc
      unfold okS at h3
      simp only [bite_eq] at h3
      split at h3
      case isFalse => cases h3
      rename_i f1
      split at h3
      case isFalse => cases h3
      rename_i f2
      split at h3
      case h_2 => cases h3
      rename_i q hq
      have hs := Sy.same_eq h3
      have hcg := linO_ok ρ c _ q hq
      rw [← hs, minusS_den] at hcg
      have b1 := fits_in (ρ := ρ) f1
      have b2 := fits_in (ρ := ρ) f2
      have hsm := lin_small c (by omega) _ (by rw [hlen]; omega) hbd
      generalize lin c ((dI n i).map (Sy.den ρ)) = y at hcg hsm
      generalize (aS n c i).den ρ = a at b1 hcg
      generalize (bS n c i).den ρ = b at b2 hcg
      have h5 := (cg_wrap (a - b)).symm.trans hcg
      obtain ⟨k, hk⟩ := h5
      constructor
      · rintro rfl; omega
      · rintro rfl; omega
  constructor
  · intro h i hi c hc
    obtain ⟨l, h1, h2, h3, h4⟩ := main i hi
    exact (h4 c hc).2 (lin_zero c l (h3.1 (h i hi)))
  · intro h i hi
    obtain ⟨l, h1, h2, h3, h4⟩ := main i hi
    refine h3.2 (vand l (by omega) (fun c hc => (h4 c (by omega)).1 (h i hi c (by omega))))
end Go.Proofs.Ytpjenggjcpahaaa.Bin

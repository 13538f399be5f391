import Derived.Test.YtpjenggjcpahaaaBin
import Derived.Test.YtpjenggjcpahaaaBinF
import Derived.Test.YtpjenggjcpahaaaPr
import Derived.Test.YtpjenggjcpahaaaPrM
import Derived.Test.YtpjenggjcpahaaaPrF
namespace Go.Proofs.Ytpjenggjcpahaaa.Ib
open Go.ChangeShapes Go.WideShapes Go.ChangeAt Go.RowKit Go.Sx Go.Proofs.Ytpjenggjcpahaaa.Ids Go.Proofs.Ytpjenggjcpahaaa.Seq Go.Proofs.Ytpjenggjcpahaaa.Rep Go.Proofs.Ytpjenggjcpahaaa.Bin
open Go.Proofs.Ytpjenggjcpahaaa.Pr (arrQ gS fS rhoQ col quo PairP Sq)
set_option linter.unusedVariables false
set_option linter.unusedSimpArgs false

noncomputable def hasV : Nat → Nat → Bool
  | 0, _ => false
  | m + 1, k => bite (Nat.beq (Nat.mod (Nat.div k (Nat.pow 256 (Nat.succ m))) 256) 0) (hasV m k) true
theorem evm_zero (ρ : Nat → Int) : ∀ (f i j k : Nat), j < f → ρ (i + j) = 0 → (k / 256 ^ j) % 256 ≠ 0 → evm ρ f i k = 0 := by
  intro f
  induction f with
  | zero => intro i j k h; omega
  | succ f ih =>
    intro i j k hj hρ hk
    simp only [evm]
    cases j with
    | zero =>
      rw [Nat.add_zero] at hρ
      rw [Nat.pow_zero, Nat.div_one] at hk
      rw [hρ, Int.zero_pow hk, Int.zero_mul]
    | succ j =>
      rw [ih (i + 1) j (k / 256) (by omega) (by rw [show i + 1 + j = i + (j + 1) by omega]; exact hρ) (by rw [Nat.div_div_eq_div_mul, show 256 * 256 ^ j = 256 ^ (j + 1) by rw [Nat.pow_succ]; omega]; exact hk), Int.mul_zero]
theorem hasV_zero {ρ : Nat → Int} {k : Nat} : ∀ {m : Nat}, m < 40 → hasV m k = true → (∀ i, 1 ≤ i → i ≤ m → ρ i = 0) → ev ρ k = 0
  | 0, _, h, _ => by cases h
  | m + 1, hm, h, hρ => by
    simp only [hasV, bite_eq] at h
    split at h
    · exact hasV_zero (m := m) (by omega) h (fun i h1 h2 => hρ i h1 (by omega))
    · rename_i hb
      refine evm_zero ρ 40 0 (m + 1) k hm (by rw [Nat.zero_add]; exact hρ _ (by omega) (by omega)) (fun e => hb ?_)
      show Nat.beq ((k / 256 ^ (m + 1)) % 256) 0 = true
      rw [e]; rfl
noncomputable def killP (m : Nat) : Poly → Poly
  | [] => []
  | t :: r => bite (hasV m t.1) (killP m r) (t :: killP m r)
theorem killP_ok {ρ : Nat → Int} {m : Nat} (hm : m < 40) (hρ : ∀ i, 1 ≤ i → i ≤ m → ρ i = 0) : ∀ l : Poly, peval ρ (killP m l) = peval ρ l
  | [] => rfl
  | (k, a) :: r => by
    simp only [killP, bite_eq]
    split
    · rename_i h
      rw [killP_ok hm hρ r]
      simp only [peval]
      rw [hasV_zero hm h hρ]; omega
    · simp only [peval]
      rw [killP_ok hm hρ r]
noncomputable def eqP : Poly → Poly → Bool
  | [], [] => true
  | (k, a) :: r, (l, b) :: s => bite (Nat.beq k l) (bite (Nat.beq a b) (eqP r s) false) false
  | _, _ => false
theorem eqP_ok : ∀ {p q : Poly}, eqP p q = true → p = q
  | [], [], _ => rfl
  | [], _ :: _, h => by cases h
  | _ :: _, [], h => by cases h
  | (k, a) :: r, (l, b) :: s, h => by
    simp only [eqP, bite_eq] at h
    split at h
    case isFalse => cases h
    rename_i h1
    split at h
    case isFalse => cases h
    rename_i h2
    rw [Nat.eq_of_beq_eq_true h1, Nat.eq_of_beq_eq_true h2, eqP_ok h]

noncomputable def trm (E : Nat → Nat → Sy) (n i j k : Nat) : Option Sy := match symArith .mul .i64 (E k i) (E (n - k) j) with
  | some p => symArith .mul .i64 (.c (chs n k : Nat)) p
  | none => none
noncomputable def sumO : List (Option Sy) → Option Sy
  | [] => some (.c 0)
  | a :: r => match a, sumO r with
    | some x, some y => some (plusS x y)
    | _, _ => none
noncomputable def aO (E : Nat → Nat → Sy) (n i j : Nat) : Option Sy := sumO ((List.range (n + 1)).map (trm E n i j))
noncomputable def bO (E : Nat → Nat → Sy) (n i j : Nat) : Option Sy := symArith .mul .i64 (.c (chs (i + j) i : Nat)) (E n (i + j))
def sumZ : List Int → Int
  | [] => 0
  | a :: r => a + sumZ r
def aZ (e : Nat → Nat → Int) (n i j : Nat) : Int := sumZ ((List.range (n + 1)).map fun k => (chs n k : Nat) * (e k i * e (n - k) j))
theorem mul_cg {ρ : Nat → Int} {x y z : Sy} (h : symArith .mul .i64 x y = some z) : cg (z.den ρ) (x.den ρ * y.den ρ) := by
  have e := (Option.some.inj (symArith_ok (ρ := ρ) h)).symm
  rw [e]; exact cg_wrap _
theorem trm_cg {ρ : Nat → Int} {E : Nat → Nat → Sy} {n i j k : Nat} {s : Sy} (h : trm E n i j k = some s) : cg (s.den ρ) ((chs n k : Nat) * ((E k i).den ρ * (E (n - k) j).den ρ)) := by
  unfold trm at h
  split at h
  · rename_i p hp
    exact (mul_cg h).trans ((cg.refl _).mul (mul_cg hp))
  · cases h
theorem sumO_cg {ρ : Nat → Int} {f : Nat → Option Sy} {g : Nat → Int} (hf : ∀ k s, f k = some s → cg (s.den ρ) (g k)) : ∀ (l : List Nat) (s : Sy), sumO (l.map f) = some s → cg (s.den ρ) (sumZ (l.map g))
  | [], s, h => by simp [sumO] at h; subst h; exact cg.refl _
  | a :: r, s, h => by
    simp only [List.map_cons, sumO] at h
    split at h
    · rename_i x y hx hy
      cases h
      rw [plusS_den]
      exact (cg_wrap _).trans ((hf _ _ hx).add (sumO_cg hf r _ hy))
    · cases h
theorem aO_cg {ρ : Nat → Int} {E : Nat → Nat → Sy} {n i j : Nat} {s : Sy} (h : aO E n i j = some s) : cg (s.den ρ) (aZ (fun k i => (E k i).den ρ) n i j) := sumO_cg (fun k s hs => trm_cg hs) _ _ h
theorem bO_cg {ρ : Nat → Int} {E : Nat → Nat → Sy} {n i j : Nat} {s : Sy} (h : bO E n i j = some s) : cg (s.den ρ) ((chs (i + j) i : Nat) * (E n (i + j)).den ρ) := mul_cg h
theorem sumZ_congr {f g : Nat → Int} : ∀ l : List Nat, (∀ k, k ∈ l → f k = g k) → sumZ (l.map f) = sumZ (l.map g)
  | [], _ => rfl
  | a :: r, h => by
    simp only [List.map_cons, sumZ]
    rw [h a (by simp), sumZ_congr r (fun k hk => h k (by simp [hk]))]

noncomputable def okE : Bool := allTo (fun n => allTo (fun i => allTo (fun j => match aO ent n i j, bO ent n i j with
  | some x, some y => sames [x, y] [aI n i j, bI n i j]
  | _, _ => false) (n + 1 - i)) (n + 1)) 6
set_option maxRecDepth 1000000 in
theorem okE_ok : okE = true := by kernel_rfl
theorem ent_at {n i j : Nat} (hn : n < 6) (hi : i < n + 1) (hj : j < n + 1 - i) : aO ent n i j = some (aI n i j) ∧ bO ent n i j = some (bI n i j) := by
  have h := allTo_ok (allTo_ok (allTo_ok okE_ok n hn) i hi) j hj
  split at h
  · rename_i x y hx hy
    have e := sames_eq h
    simp only [List.cons.injEq, and_true] at e
    rw [hx, hy, e.1, e.2]
    exact ⟨rfl, rfl⟩
  · cases h
noncomputable def eQ (L : Nat) (a b : Int) (n i : Nat) : Sy := (((arrQ L a b).getD []).getD n []).getD i (.c 0)
noncomputable def bwd (L : Nat) (b : Int) : Bool := allTo (fun n => allTo (fun i => allTo (fun j => match aO (eQ L 1 b) n i j, bO (eQ L 1 b) n i j with
  | some x, some y => eqP (killP (L - 1) x.poly) (killP (L - 1) y.poly)
  | _, _ => false) (n + 1 - i)) (n + 1)) L
noncomputable def fwd (L : Nat) (b : Int) : Bool := allTo (fun m => match aO (eQ L 1 b) (m + 1) 0 0, bO (eQ L 1 b) (m + 1) 0 0 with
  | some x, some y => bite (eqP (killP m x.poly) [(Nat.pow 256 (Nat.succ m), 2)]) (eqP (killP m y.poly) [(Nat.pow 256 (Nat.succ m), 1)]) false
  | _, _ => false) (L - 1)
noncomputable def neg1 (L : Nat) (b : Int) : Bool := match aO (eQ L (-1) b) 0 0 0, bO (eQ L (-1) b) 0 0 0 with
  | some x, some y => bite (eqP x.poly [(0, 1)]) (eqP y.poly [(0, 18446744073709551615)]) false
  | _, _ => false
noncomputable def allL (L : Nat) (b : Int) : Bool := bite (bwd L b) (bite (fwd L b) (neg1 L b) false) false
set_option maxRecDepth 1000000 in
theorem all_ok : allTo (fun i => bite (allL (i + 2) 1) (allL (i + 2) (-1)) false) 5 = true := by kernel_rfl
end Go.Proofs.Ytpjenggjcpahaaa.Ib

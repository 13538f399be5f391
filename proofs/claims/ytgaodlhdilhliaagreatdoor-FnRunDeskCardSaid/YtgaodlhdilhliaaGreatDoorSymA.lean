/-
  Numbers that are polynomials modulo two to the sixty-fourth, and runs of the machine over them, first part.
-/
import Derived.Test.YtgaodlhdilhliaaGreatDoorMach
import Derived.ProofKit
import Derived.OpenShut
set_option linter.unusedVariables false
set_option linter.unusedSimpArgs false
/-
  NUMBERS THAT ARE POLYNOMIALS MODULO 2^64, and what is assumed of them.
-/
namespace Go.Sx

abbrev Poly := List (Nat × Nat)

/-! ## Congruence -/
def cg (a b : Int) : Prop := ∃ k : Int, a = b + k * 18446744073709551616
theorem cg.refl (a : Int) : cg a a := ⟨0, by omega⟩
theorem cg.symm {a b : Int} (h : cg a b) : cg b a := by obtain ⟨k, h⟩ := h; exact ⟨-k, by omega⟩
theorem cg.trans {a b c : Int} (h : cg a b) (h' : cg b c) : cg a c := by obtain ⟨k, h⟩ := h; obtain ⟨l, h'⟩ := h'; exact ⟨k + l, by omega⟩
theorem cg.add {a b c d : Int} (h : cg a b) (h' : cg c d) : cg (a + c) (b + d) := by obtain ⟨k, h⟩ := h; obtain ⟨l, h'⟩ := h'; exact ⟨k + l, by omega⟩
theorem cg.neg {a b : Int} (h : cg a b) : cg (-a) (-b) := by obtain ⟨k, h⟩ := h; exact ⟨-k, by omega⟩
theorem cg.mul {a b c d : Int} (h : cg a b) (h' : cg c d) : cg (a * c) (b * d) := by
  obtain ⟨k, h⟩ := h; obtain ⟨l, h'⟩ := h'
  subst h; subst h'
  exact ⟨b * l + k * d + k * l * 18446744073709551616, by grind⟩
theorem cg_wrap (a : Int) : cg (IntKind.i64.wrap a) a := by
  have h : (2 ^ IntKind.i64.bits : Int) = 18446744073709551616 := by decide
  have h2 : (2 ^ (IntKind.i64.bits - 1) : Int) = 9223372036854775808 := by decide
  have h3 : IntKind.i64.signed = true := by rfl
  simp only [IntKind.wrap, h, h2, h3, Bool.true_and]
  split
  · exact ⟨-(a / 18446744073709551616) - 1, by omega⟩
  · exact ⟨-(a / 18446744073709551616), by omega⟩
theorem wrap_cg {a b : Int} (h : cg a b) : IntKind.i64.wrap a = IntKind.i64.wrap b := by
  obtain ⟨k, h⟩ := h
  have h1 : (2 ^ IntKind.i64.bits : Int) = 18446744073709551616 := by decide
  have : a % 18446744073709551616 = b % 18446744073709551616 := by omega
  simp only [IntKind.wrap, h1, this]

/-! ## Monomials: the exponents of forty variables, a byte each -/
def evm (ρ : Nat → Int) : Nat → Nat → Nat → Int
  | 0, _, _ => 1
  | f + 1, i, k => ρ i ^ (k % 256) * evm ρ f (i + 1) (k / 256)

def lowMask : Nat → Nat
  | 0 => 0
  | f + 1 => 128 + 256 * lowMask f

theorem low_succ {k f : Nat} (h : k &&& lowMask (f + 1) = 0) : k % 256 < 128 ∧ (k / 256) &&& lowMask f = 0 := by
  have hb : ∀ i, (k.testBit i && (lowMask (f + 1)).testBit i) = false := by
    intro i; rw [← Nat.testBit_and, h, Nat.zero_testBit]
  constructor
  · have h7 := hb 7
    have : (lowMask (f + 1)).testBit 7 = true := by
      rw [Nat.testBit_eq_decide_div_mod_eq]; simp only [lowMask]; simp; omega
    rw [this, Bool.and_true, Nat.testBit_eq_decide_div_mod_eq] at h7
    have h7' : ¬ (k / 2 ^ 7 % 2 = 1) := by simpa using h7
    omega
  · apply Nat.eq_of_testBit_eq
    intro i
    rw [Nat.testBit_and, Nat.zero_testBit]
    have h8 := hb (i + 8)
    have e1 : (k / 256).testBit i = k.testBit (i + 8) := by
      rw [show (256 : Nat) = 2 ^ 8 by rfl, Nat.testBit_div_two_pow]
    have e2 : (lowMask f).testBit i = (lowMask (f + 1)).testBit (i + 8) := by
      have : lowMask f = lowMask (f + 1) / 2 ^ 8 := by simp only [lowMask]; omega
      rw [this, Nat.testBit_div_two_pow]
    rw [e1, e2]; exact h8

theorem evm_add (ρ : Nat → Int) : ∀ (f i k l : Nat), k &&& lowMask f = 0 → l &&& lowMask f = 0 → evm ρ f i (k + l) = evm ρ f i k * evm ρ f i l := by
  intro f
  induction f with
  | zero => intro i k l _ _; simp [evm]
  | succ f ih =>
    intro i k l hk hl
    obtain ⟨k1, k2⟩ := low_succ hk
    obtain ⟨l1, l2⟩ := low_succ hl
    simp only [evm]
    rw [show (k + l) % 256 = k % 256 + l % 256 by omega, show (k + l) / 256 = k / 256 + l / 256 by omega, ih _ _ _ k2 l2, Int.pow_add]
    grind

theorem evm_zero (ρ : Nat → Int) : ∀ (f i : Nat), evm ρ f i 0 = 1 := by
  intro f
  induction f with
  | zero => intro i; rfl
  | succ f ih => intro i; simp [evm, ih]

def mask : Nat := lowMask 40
def ev (ρ : Nat → Int) (k : Nat) : Int := evm ρ 40 0 k

/-! ## Polynomials -/
def peval (ρ : Nat → Int) : Poly → Int
  | [] => 0
  | (k, a) :: r => (a : Int) * ev ρ k + peval ρ r

/-- A term ahead of the rest, if it is none. -/
noncomputable def tcons (k a : Nat) (r : Poly) : Poly := bite (Nat.beq a 0) r ((k, a) :: r)

noncomputable def padd1 (k a : Nat) (rest : Poly → Poly) (q : Poly) : Poly :=
  @List.rec (Nat × Nat) (fun _ => Poly) ((k, a) :: rest []) (fun t q' ih =>
    bite (Nat.blt k t.1) ((k, a) :: rest (t :: q')) (bite (Nat.beq k t.1) (tcons k (Nat.mod (Nat.add a t.2) 18446744073709551616) (rest q')) (t :: ih))) q

noncomputable def padd (p : Poly) : Poly → Poly :=
  @List.rec (Nat × Nat) (fun _ => Poly → Poly) (fun q => q) (fun t _ ih q => padd1 t.1 t.2 ih q) p

noncomputable def pscale (k a : Nat) (q : Poly) : Poly :=
  @List.rec (Nat × Nat) (fun _ => Poly) [] (fun t _ ih => tcons (Nat.add k t.1) (Nat.mod (Nat.mul a t.2) 18446744073709551616) ih) q

noncomputable def pmul (p q : Poly) : Poly :=
  @List.rec (Nat × Nat) (fun _ => Poly) [] (fun t _ ih => padd (pscale t.1 t.2 q) ih) p

noncomputable def plow (p : Poly) : Bool :=
  @List.rec (Nat × Nat) (fun _ => Bool) true (fun t _ ih => bite (Nat.beq (Nat.land t.1 mask) 0) ih false) p

theorem cg_mod (a : Nat) (x : Int) : cg (((a % 18446744073709551616 : Nat) : Int) * x) ((a : Int) * x) := by
  refine ⟨-((a / 18446744073709551616 : Nat) : Int) * x, ?_⟩
  have h : (a : Int) = ((a % 18446744073709551616 : Nat) : Int) + 18446744073709551616 * ((a / 18446744073709551616 : Nat) : Int) := by omega
  generalize ((a % 18446744073709551616 : Nat) : Int) = r at *
  generalize ((a / 18446744073709551616 : Nat) : Int) = d at *
  rw [h]; grind

theorem peval_tcons (ρ : Nat → Int) (k a : Nat) (r : Poly) : peval ρ (tcons k a r) = (a : Int) * ev ρ k + peval ρ r := by
  unfold tcons
  rw [bite_eq]
  split
  · rename_i h
    have : a = 0 := Nat.eq_of_beq_eq_true h
    subst this; simp
  · rfl

theorem peval_padd1 (ρ : Nat → Int) (k a : Nat) (rest : Poly → Poly) (P : Int) (hrest : ∀ q, cg (peval ρ (rest q)) (P + peval ρ q)) : ∀ q, cg (peval ρ (padd1 k a rest q)) ((a : Int) * ev ρ k + P + peval ρ q) := by
  intro q
  induction q with
  | nil =>
    show cg (peval ρ ((k, a) :: rest [])) _
    have := hrest []
    simp only [peval] at this ⊢
    have h := (cg.refl ((a : Int) * ev ρ k)).add this
    simpa [Int.add_assoc] using h
  | cons t q ih =>
    obtain ⟨k', a'⟩ := t
    show cg (peval ρ (bite (Nat.blt k k') ((k, a) :: rest ((k', a') :: q)) (bite (Nat.beq k k') (tcons k (Nat.mod (Nat.add a a') 18446744073709551616) (rest q)) ((k', a') :: padd1 k a rest q)))) _
    simp only [bite_eq]
    split
    · simp only [peval]
      have := hrest ((k', a') :: q)
      simp only [peval] at this
      have h := (cg.refl ((a : Int) * ev ρ k)).add this
      simpa [Int.add_assoc] using h
    · split
      · rename_i h
        have : k = k' := Nat.eq_of_beq_eq_true h
        subst this
        rw [peval_tcons]
        simp only [peval]
        have h1 := cg_mod (a + a') (ev ρ k)
        have h2 := h1.add (hrest q)
        have e : (((a + a' : Nat) : Int) * ev ρ k + (P + peval ρ q)) = (a : Int) * ev ρ k + P + ((a' : Int) * ev ρ k + peval ρ q) := by push_cast; grind
        rw [← e]; exact h2
      · simp only [peval]
        have h := (cg.refl ((a' : Int) * ev ρ k')).add ih
        have e : ((a' : Int) * ev ρ k' + ((a : Int) * ev ρ k + P + peval ρ q)) = (a : Int) * ev ρ k + P + ((a' : Int) * ev ρ k' + peval ρ q) := by omega
        rw [← e]; exact h

theorem peval_padd (ρ : Nat → Int) : ∀ p q, cg (peval ρ (padd p q)) (peval ρ p + peval ρ q) := by
  intro p
  induction p with
  | nil => intro q; show cg (peval ρ q) (0 + peval ρ q); rw [Int.zero_add]; exact cg.refl _
  | cons t p ih =>
    intro q
    obtain ⟨k, a⟩ := t
    show cg (peval ρ (padd1 k a (padd p) q)) _
    have := peval_padd1 ρ k a (padd p) (peval ρ p) ih q
    simpa only [peval] using this

theorem plow_cons {k a : Nat} {p : Poly} (h : plow ((k, a) :: p) = true) : k &&& mask = 0 ∧ plow p = true := by
  have h' : bite (Nat.beq (Nat.land k mask) 0) (plow p) false = true := h
  rw [bite_eq] at h'
  split at h'
  · rename_i hb; exact ⟨Nat.eq_of_beq_eq_true hb, h'⟩
  · cases h'

theorem peval_pscale (ρ : Nat → Int) {k a : Nat} (hk : k &&& mask = 0) : ∀ q, plow q = true → cg (peval ρ (pscale k a q)) ((a : Int) * ev ρ k * peval ρ q) := by
  intro q
  induction q with
  | nil => intro _; show cg 0 ((a : Int) * ev ρ k * 0); rw [Int.mul_zero]; exact cg.refl _
  | cons t q ih =>
    obtain ⟨k', a'⟩ := t
    intro h
    obtain ⟨h1, h2⟩ := plow_cons h
    show cg (peval ρ (tcons (Nat.add k k') (Nat.mod (Nat.mul a a') 18446744073709551616) (pscale k a q))) _
    rw [peval_tcons]
    have e1 : ev ρ (Nat.add k k') = ev ρ k * ev ρ k' := evm_add ρ 40 0 k k' hk h1
    rw [e1]
    have h3 := (cg_mod (a * a') (ev ρ k * ev ρ k')).add (ih h2)
    simp only [peval]
    have e2 : (((a * a' : Nat) : Int) * (ev ρ k * ev ρ k') + (a : Int) * ev ρ k * peval ρ q) = (a : Int) * ev ρ k * ((a' : Int) * ev ρ k' + peval ρ q) := by push_cast; grind
    rw [← e2]; exact h3

theorem peval_pmul (ρ : Nat → Int) : ∀ p q, plow p = true → plow q = true → cg (peval ρ (pmul p q)) (peval ρ p * peval ρ q) := by
  intro p
  induction p with
  | nil => intro q _ _; show cg 0 (0 * peval ρ q); rw [Int.zero_mul]; exact cg.refl _
  | cons t p ih =>
    obtain ⟨k, a⟩ := t
    intro q h hq
    obtain ⟨h1, h2⟩ := plow_cons h
    show cg (peval ρ (padd (pscale k a q) (pmul p q))) _
    refine (peval_padd ρ _ _).trans ?_
    have h3 := (peval_pscale ρ (a := a) h1 q hq).add (ih q h2 hq)
    simp only [peval]
    rw [Int.add_mul]; exact h3

/-! ## Symbols -/
inductive Sy where
  | c (n : Int)
  | p (l : Poly)

def Sy.den (ρ : Nat → Int) : Sy → Int
  | .c n => n
  | .p l => IntKind.i64.wrap (peval ρ l)

def Sy.poly : Sy → Poly
  | .c n => match n % 18446744073709551616 with
    | .ofNat 0 => []
    | .ofNat (k + 1) => [(0, k + 1)]
    | .negSucc _ => []
  | .p l => l

def mkSy : Poly → Sy
  | [] => .c 0
  | [(0, a)] => .c (IntKind.i64.wrap a)
  | l => .p l

theorem poly_den (ρ : Nat → Int) (s : Sy) : cg (peval ρ s.poly) (s.den ρ) := by
  cases s with
  | p l => exact (cg_wrap _).symm
  | c n =>
    simp only [Sy.poly, Sy.den]
    have hm : 0 ≤ n % 18446744073709551616 := Int.emod_nonneg _ (by decide)
    have hk : n = n % 18446744073709551616 + (n / 18446744073709551616) * 18446744073709551616 := by omega
    split
    · rename_i h; exact ⟨-(n / 18446744073709551616), by simp only [peval]; have : n % 18446744073709551616 = 0 := h; omega⟩
    · rename_i k h
      have h' : n % 18446744073709551616 = ((k + 1 : Nat) : Int) := h
      refine ⟨-(n / 18446744073709551616), ?_⟩
      simp only [peval, ev, evm_zero]
      omega
    · rename_i k h
      rw [h] at hm
      exact absurd hm (by simp [Int.negSucc_lt_zero])

theorem mkSy_den (ρ : Nat → Int) (l : Poly) : (mkSy l).den ρ = IntKind.i64.wrap (peval ρ l) := by
  unfold mkSy
  split
  · simp [Sy.den, peval]; rfl
  · simp [Sy.den, peval, ev, evm_zero]
  · rfl

structure Fact where
  lt : Bool
  a : Sy
  b : Sy
  q : Bool

def Fact.Ok (ρ : Nat → Int) (f : Fact) : Prop := (if f.lt then decide (f.a.den ρ < f.b.den ρ) else (f.a.den ρ == f.b.den ρ)) = f.q

def ieq : Int → Int → Bool
  | .ofNat a, .ofNat b => Nat.beq a b
  | .negSucc a, .negSucc b => Nat.beq a b
  | _, _ => false
def ilt : Int → Int → Bool
  | .ofNat a, .ofNat b => Nat.blt a b
  | .negSucc a, .negSucc b => Nat.blt b a
  | .negSucc _, .ofNat _ => true
  | .ofNat _, .negSucc _ => false

theorem ieq_eq (a b : Int) : ieq a b = (a == b) := by
  cases a <;> cases b <;> simp [ieq] <;> (rw [beq_dec] <;> try rfl) <;> (try (rw [Bool.eq_iff_iff]; simp; try omega))
theorem ilt_eq (a b : Int) : ilt a b = decide (a < b) := by
  cases a <;> cases b <;> rw [Bool.eq_iff_iff] <;> simp [ilt, Nat.blt_eq] <;> omega

noncomputable def peq (p : Poly) : Poly → Bool :=
  @List.rec (Nat × Nat) (fun _ => Poly → Bool) (fun q => @List.rec (Nat × Nat) (fun _ => Bool) true (fun _ _ _ => false) q)
    (fun t _ ih q => @List.rec (Nat × Nat) (fun _ => Bool) false (fun t' q' _ => bite (Nat.beq t.1 t'.1) (bite (Nat.beq t.2 t'.2) (ih q') false) false) q) p

theorem peq_eq : ∀ p q, peq p q = true → p = q := by
  intro p
  induction p with
  | nil => intro q h; cases q with
    | nil => rfl
    | cons t q => cases (show false = true from h)
  | cons t p ih =>
    intro q h
    cases q with
    | nil => cases (show false = true from h)
    | cons t' q =>
      have h' : bite (Nat.beq t.1 t'.1) (bite (Nat.beq t.2 t'.2) (peq p q) false) false = true := h
      simp only [bite_eq] at h'
      split at h'
      · rename_i h1
        split at h'
        · rename_i h2
          rw [ih q h', Prod.ext (Nat.eq_of_beq_eq_true h1) (Nat.eq_of_beq_eq_true h2)]
        · cases h'
      · cases h'

noncomputable def Sy.same : Sy → Sy → Bool
  | .c a, .c b => ieq a b
  | .p l, .p m => peq l m
  | _, _ => false

theorem Sy.same_eq {a b : Sy} (h : a.same b = true) : a = b := by
  cases a <;> cases b <;> simp only [Sy.same] at h
  · rw [ieq_eq] at h; have := eq_of_beq h; rw [this]
  · cases h
  · cases h
  · rw [peq_eq _ _ h]

noncomputable def findF (lt : Bool) (a b : Sy) : List Fact → Option Bool
  | [] => none
  | f :: r => bite (f.lt == lt) (bite (f.a.same a) (bite (f.b.same b) (some f.q) (findF lt a b r)) (findF lt a b r)) (findF lt a b r)

theorem findF_ok {ρ : Nat → Int} {lt : Bool} {a b : Sy} {q : Bool} : ∀ {Γ : List Fact}, (∀ f, f ∈ Γ → f.Ok ρ) → findF lt a b Γ = some q → Fact.Ok ρ ⟨lt, a, b, q⟩ := by
  intro Γ
  induction Γ with
  | nil => intro _ h; cases h
  | cons f r ih =>
    intro hok h
    have ih' := ih (fun g hg => hok g (by simp [hg]))
    simp only [findF, bite_eq] at h
    split at h
    · rename_i h1
      split at h
      · rename_i h2
        split at h
        · rename_i h3
          cases h
          have := hok f (by simp)
          obtain ⟨lt', a', b', q'⟩ := f
          simp only at h1 h2 h3
          have e1 : lt' = lt := eq_of_beq h1
          rw [← e1, ← Sy.same_eq h2, ← Sy.same_eq h3]
          exact this
        · exact ih' h
      · exact ih' h
    · exact ih' h

/-! ### Between what a polynomial lies -/
/-- What is told from below: x is not less than a number. -/
noncomputable def ivLo (x : Sy) : List Fact → Option Int
  | [] => none
  | f :: r => match f.lt, f.q, f.b with
    | true, false, .c n => bite (f.a.same x) (some n) (ivLo x r)
    | _, _, _ => ivLo x r
noncomputable def ivHi (x : Sy) : List Fact → Option Int
  | [] => none
  | f :: r => match f.lt, f.q, f.a with
    | true, false, .c n => bite (f.b.same x) (some n) (ivHi x r)
    | _, _, _ => ivHi x r

/-- A coefficient with its sign. -/
def sgn (a : Nat) : Int := if Nat.ble a 9223372036854775807 then (a : Int) else (a : Int) - 18446744073709551616

noncomputable def ivl (Γ : List Fact) : Poly → Option (Int × Int)
  | [] => some (0, 0)
  | (k, a) :: r => match ivl Γ r with
    | none => none
    | some (lo, hi) => bite (Nat.beq k 0) (some (sgn a + lo, sgn a + hi)) (match ivLo (.p [(k, 1)]) Γ, ivHi (.p [(k, 1)]) Γ with
      | some l, some h => bite (ilt (sgn a) 0) (some (sgn a * h + lo, sgn a * l + hi)) (some (sgn a * l + lo, sgn a * h + hi))
      | _, _ => none)

def in64 (lo hi : Int) : Bool := !(ilt lo (-9223372036854775808)) && !(ilt 9223372036854775807 hi)

noncomputable def ivS (Γ : List Fact) : Sy → Option (Int × Int)
  | .c n => some (n, n)
  | .p l => match ivl Γ l with
    | some (lo, hi) => bite (in64 lo hi) (some (lo, hi)) none
    | none => none

noncomputable def ivLt (Γ : List Fact) (a b : Sy) : Option Bool :=
  match ivS Γ a, ivS Γ b with
  | some (la, ha), some (lb, hb) => bite (ilt ha lb) (some true) (bite (ilt la hb) none (some false))
  | _, _ => none

/-! ### How great a polynomial is at most, by its variables -/
noncomputable def vmag (Γ : List Fact) (i : Nat) : Option Nat :=
  match ivLo (.p [(Nat.pow 256 i, 1)]) Γ, ivHi (.p [(Nat.pow 256 i, 1)]) Γ with
  | some l, some h => some (bite (Nat.ble l.natAbs h.natAbs) h.natAbs l.natAbs)
  | _, _ => none
noncomputable def mmag (Γ : List Fact) : Nat → Nat → Nat → Option Nat
  | 0, _, _ => some 1
  | f + 1, i, k => bite (Nat.beq k 0) (some 1) (match mmag Γ f (Nat.succ i) (Nat.div k 256) with
    | some m => bite (Nat.beq (Nat.mod k 256) 0) (some m) (match vmag Γ i with
      | some B => some (Nat.mul (Nat.pow B (Nat.mod k 256)) m)
      | none => none)
    | none => none)
noncomputable def pmag (Γ : List Fact) : Poly → Option Nat
  | [] => some 0
  | (k, a) :: r => match pmag Γ r with
    | some n => match mmag Γ 40 0 k with
      | some m => some (Nat.add (Nat.mul (sgn a).natAbs m) n)
      | none => none
    | none => none
noncomputable def ivM (Γ : List Fact) : Sy → Option (Int × Int)
  | .c n => some (n, n)
  | .p l => match pmag Γ l with
    | some M => bite (Nat.ble M 9223372036854775807) (some (-(M : Int), (M : Int))) none
    | none => none
noncomputable def ivLtM (Γ : List Fact) (a b : Sy) : Option Bool :=
  match ivM Γ a, ivM Γ b with
  | some (la, ha), some (lb, hb) => bite (ilt ha lb) (some true) (bite (ilt la hb) none (some false))
  | _, _ => none
noncomputable def pneg (l : Poly) : Poly := pscale 0 18446744073709551615 l
/-- Is p less than n, by a fact of another bound? -/
noncomputable def scanL (p : Sy) (n : Int) : List Fact → Option Bool
  | [] => none
  | f :: r => match f.lt, f.a, f.b with
    | true, .p l, .c m => bite (Sy.same (.p l) p) (bite f.q (bite (ilt n m) (scanL p n r) (some true)) (bite (ilt m n) (scanL p n r) (some false))) (scanL p n r)
    | true, .c m, .p l => bite (Sy.same (.p l) p) (bite f.q (bite (ilt (m + 1) n) (scanL p n r) (some false)) (bite (ilt m n) (some true) (scanL p n r))) (scanL p n r)
    | _, _, _ => scanL p n r
/-- A bound from above, from below, by the first fact that tells one. -/
noncomputable def hiB (x : Sy) : List Fact → Option Int
  | [] => none
  | f :: r => match f.lt, f.q, f.a, f.b with
    | true, true, .p l, .c m => bite (Sy.same (.p l) x) (some (m - 1)) (hiB x r)
    | true, false, .c m, .p l => bite (Sy.same (.p l) x) (some m) (hiB x r)
    | _, _, _, _ => hiB x r
noncomputable def loB (x : Sy) : List Fact → Option Int
  | [] => none
  | f :: r => match f.lt, f.q, f.a, f.b with
    | true, true, .c m, .p l => bite (Sy.same (.p l) x) (some (m + 1)) (loB x r)
    | true, false, .p l, .c m => bite (Sy.same (.p l) x) (some m) (loB x r)
    | _, _, _, _ => loB x r
noncomputable def scanLt (Γ : List Fact) : Sy → Sy → Option Bool
  | .p l, .c n => scanL (.p l) n Γ
  | .c n, .p l => (scanL (.p l) (n + 1) Γ).map not
  | .p l, .p m => match hiB (.p l) Γ, loB (.p m) Γ with
    | some h, some o => bite (ilt h o) (some true) none
    | _, _ => none
  | _, _ => none
/-- By what is told of the polynomial with the other sign. -/
noncomputable def negLt (Γ : List Fact) : Sy → Sy → Option Bool
  | .c n, .p l => match scanL (.p (pneg l)) (-n) Γ with
    | some q => match ivM Γ (.p l) with
      | some _ => some q
      | none => none
    | none => none
  | .p l, .c n => match scanL (.p (pneg l)) (-n + 1) Γ with
    | some q => match ivM Γ (.p l) with
      | some _ => some (!q)
      | none => none
    | none => none
  | _, _ => none

noncomputable def ltSy (Γ : List Fact) : Sy → Sy → Option Bool
  | .c a, .c b => some (ilt a b)
  | a, b => match findF true a b Γ with
    | some q => some q
    | none => match scanLt Γ a b with
      | some q => some q
      | none => match ivLt Γ a b with
        | some q => some q
        | none => match negLt Γ a b with
          | some q => some q
          | none => ivLtM Γ a b
noncomputable def eqSy (Γ : List Fact) : Sy → Sy → Option Bool
  | .c a, .c b => some (ieq a b)
  | a, b => bite (a.same b) (some true) (match findF false a b Γ with
    | some q => some q
    | none => match findF false b a Γ with
      | some q => some q
      | none => match findF true a b Γ with
        | some true => some false
        | _ => match findF true b a Γ with
          | some true => some false
          | _ => none)

theorem ivLo_ok {ρ : Nat → Int} {x : Sy} {n : Int} : ∀ {Γ : List Fact}, (∀ f, f ∈ Γ → f.Ok ρ) → ivLo x Γ = some n → n ≤ x.den ρ := by
  intro Γ
  induction Γ with
  | nil => intro _ h; cases h
  | cons f r ih =>
    intro hok h
    have ih' := ih (fun g hg => hok g (by simp [hg]))
    simp only [ivLo] at h
    split at h
    · rename_i m h1 h2 h3
      rw [bite_eq] at h
      split at h
      · rename_i hs
        cases h
        have := hok f (by simp)
        unfold Fact.Ok at this
        rw [h1, h2, h3, if_pos rfl] at this
        rw [← Sy.same_eq hs]
        exact Int.not_lt.1 (of_decide_eq_false this)
      · exact ih' h
    · exact ih' h
theorem ivHi_ok {ρ : Nat → Int} {x : Sy} {n : Int} : ∀ {Γ : List Fact}, (∀ f, f ∈ Γ → f.Ok ρ) → ivHi x Γ = some n → x.den ρ ≤ n := by
  intro Γ
  induction Γ with
  | nil => intro _ h; cases h
  | cons f r ih =>
    intro hok h
    have ih' := ih (fun g hg => hok g (by simp [hg]))
    simp only [ivHi] at h
    split at h
    · rename_i m h1 h2 h3
      rw [bite_eq] at h
      split at h
      · rename_i hs
        cases h
        have := hok f (by simp)
        unfold Fact.Ok at this
        rw [h1, h2, h3, if_pos rfl] at this
        rw [← Sy.same_eq hs]
        exact Int.not_lt.1 (of_decide_eq_false this)
      · exact ih' h
    · exact ih' h

theorem sgn_cg (a : Nat) (x : Int) : cg (sgn a * x) ((a : Int) * x) := by
  unfold sgn
  split
  · exact cg.refl _
  · exact ⟨-x, by grind⟩
theorem mono_den (ρ : Nat → Int) (k : Nat) : cg ((Sy.p [(k, 1)]).den ρ) (ev ρ k) := by
  have h := cg_wrap (peval ρ [(k, 1)])
  have e : peval ρ [(k, 1)] = ev ρ k := by simp [peval]
  rw [e] at h
  show cg (IntKind.i64.wrap (peval ρ [(k, 1)])) _
  rw [e]; exact h

theorem ivl_ok {ρ : Nat → Int} {Γ : List Fact} (hΓ : ∀ f, f ∈ Γ → f.Ok ρ) : ∀ {l : Poly} {lo hi : Int}, ivl Γ l = some (lo, hi) → ∃ s, cg s (peval ρ l) ∧ lo ≤ s ∧ s ≤ hi := by
  intro l
  induction l with
  | nil => intro lo hi h; simp only [ivl] at h; cases h; exact ⟨0, cg.refl _, Int.le_refl _, Int.le_refl _⟩
  | cons t r ih =>
    obtain ⟨k, a⟩ := t
    intro lo hi h
    simp only [ivl] at h
    split at h
    · cases h
    · rename_i lo1 hi1 h1
      obtain ⟨s, e1, e2, e3⟩ := ih h1
      rw [bite_eq] at h
      split at h
      · rename_i hk
        have hk := Nat.eq_of_beq_eq_true hk
        subst hk
        cases h
        refine ⟨sgn a + s, ?_, by omega, by omega⟩
        simp only [peval, ev, evm_zero, Int.mul_one]
        have := sgn_cg a 1
        rw [Int.mul_one, Int.mul_one] at this
        exact this.add e1
      · split at h
        · rename_i lx hx hl hh
          have b1 := ivLo_ok hΓ hl
          have b2 := ivHi_ok hΓ hh
          have hc : cg (sgn a * (Sy.p [(k, 1)]).den ρ + s) (peval ρ ((k, a) :: r)) := by
            simp only [peval]
            exact (((cg.refl (sgn a)).mul (mono_den ρ k)).trans (sgn_cg a _)).add e1
          rw [bite_eq, ilt_eq] at h
          generalize (Sy.p [(k, 1)]).den ρ = y at *
          generalize sgn a = g at *
          split at h
          · rename_i hneg
            have hneg : g < 0 := of_decide_eq_true hneg
            cases h
            have m1 : g * hx ≤ g * y := Int.mul_le_mul_of_nonpos_left (Int.le_of_lt hneg) b2
            have m2 : g * y ≤ g * lx := Int.mul_le_mul_of_nonpos_left (Int.le_of_lt hneg) b1
            exact ⟨_, hc, by omega, by omega⟩
          · rename_i hneg
            have hneg : ¬ g < 0 := fun h => hneg (decide_eq_true h)
            cases h
            have m1 : g * lx ≤ g * y := Int.mul_le_mul_of_nonneg_left b1 (by omega)
            have m2 : g * y ≤ g * hx := Int.mul_le_mul_of_nonneg_left b2 (by omega)
            exact ⟨_, hc, by omega, by omega⟩
        · cases h

theorem wrap_in64 {a : Int} (h1 : -9223372036854775808 ≤ a) (h2 : a ≤ 9223372036854775807) : IntKind.i64.wrap a = a := by
  have e1 : (2 ^ IntKind.i64.bits : Int) = 18446744073709551616 := by decide
  have e2 : (2 ^ (IntKind.i64.bits - 1) : Int) = 9223372036854775808 := by decide
  have e3 : IntKind.i64.signed = true := by rfl
  simp only [IntKind.wrap, e1, e2, e3, Bool.true_and]
  split <;> (rename_i hh; simp at hh; omega)

theorem ivS_ok {ρ : Nat → Int} {Γ : List Fact} (hΓ : ∀ f, f ∈ Γ → f.Ok ρ) {a : Sy} {lo hi : Int} (h : ivS Γ a = some (lo, hi)) : lo ≤ a.den ρ ∧ a.den ρ ≤ hi := by
  cases a with
  | c n => simp only [ivS] at h; cases h; exact ⟨Int.le_refl _, Int.le_refl _⟩
  | p l =>
    simp only [ivS] at h
    split at h
    · rename_i lo1 hi1 h1
      rw [bite_eq] at h
      split at h
      · rename_i h2
        cases h
        obtain ⟨s, e1, e2, e3⟩ := ivl_ok hΓ h1
        simp only [in64, ilt_eq, Bool.and_eq_true, Bool.not_eq_true', decide_eq_false_iff_not] at h2
        have hs : IntKind.i64.wrap s = s := wrap_in64 (by omega) (by omega)
        have : (Sy.p l).den ρ = s := by
          show IntKind.i64.wrap (peval ρ l) = s
          rw [← wrap_cg e1, hs]
        rw [this]; exact ⟨e2, e3⟩
      · cases h
    · cases h

theorem ivLt_ok {ρ : Nat → Int} {Γ : List Fact} (hΓ : ∀ f, f ∈ Γ → f.Ok ρ) {a b : Sy} {q : Bool} (h : ivLt Γ a b = some q) : decide (a.den ρ < b.den ρ) = q := by
  unfold ivLt at h
  split at h
  · rename_i la ha lb hb h1 h2
    obtain ⟨a1, a2⟩ := ivS_ok hΓ h1
    obtain ⟨b1, b2⟩ := ivS_ok hΓ h2
    simp only [bite_eq, ilt_eq] at h
    split at h
    · rename_i hc
      cases h
      have hc := of_decide_eq_true hc
      exact decide_eq_true (by omega)
    · split at h
      · cases h
      · rename_i hc
        cases h
        have hc : ¬ la < hb := fun h => hc (decide_eq_true h)
        exact decide_eq_false (by omega)
  · cases h

theorem abs_mul_le {x y : Int} {m n : Nat} (h1 : -(m : Int) ≤ x ∧ x ≤ m) (h2 : -(n : Int) ≤ y ∧ y ≤ n) : -((m * n : Nat) : Int) ≤ x * y ∧ x * y ≤ (m * n : Nat) := by
  have hx : x.natAbs ≤ m := by omega
  have hy : y.natAbs ≤ n := by omega
  have := Nat.mul_le_mul hx hy
  rw [← Int.natAbs_mul] at this
  omega
theorem abs_pow_le {x : Int} {m : Nat} (h1 : -(m : Int) ≤ x ∧ x ≤ m) : ∀ e : Nat, -((m ^ e : Nat) : Int) ≤ x ^ e ∧ x ^ e ≤ (m ^ e : Nat) := by
  intro e
  induction e with
  | zero => simp
  | succ e ih => rw [Int.pow_succ, Nat.pow_succ]; exact abs_mul_le ih h1
theorem cg.pow {a b : Int} (h : cg a b) : ∀ e : Nat, cg (a ^ e) (b ^ e) := by
  intro e
  induction e with
  | zero => rw [Int.pow_zero, Int.pow_zero]; exact cg.refl _
  | succ e ih => rw [Int.pow_succ, Int.pow_succ]; exact ih.mul h

theorem evm_var1 (ρ : Nat → Int) : ∀ (f i j : Nat), j < f → evm ρ f i (256 ^ j) = ρ (i + j) := by
  intro f
  induction f with
  | zero => intro i j h; omega
  | succ f ih =>
    intro i j h
    simp only [evm]
    cases j with
    | zero =>
      have e1 : 256 ^ 0 % 256 = 1 := rfl
      have e2 : 256 ^ 0 / 256 = 0 := rfl
      rw [e1, e2, evm_zero, Int.mul_one, Nat.add_zero, Int.pow_succ, Int.pow_zero, Int.one_mul]
    | succ j =>
      have e1 : 256 ^ (j + 1) % 256 = 0 := by rw [Nat.pow_succ]; omega
      have e2 : 256 ^ (j + 1) / 256 = 256 ^ j := by rw [Nat.pow_succ]; omega
      rw [e1, e2, ih (i + 1) j (by omega)]
      simp [Nat.add_assoc, Nat.add_comm 1 j]

theorem vmag_ok {ρ : Nat → Int} {Γ : List Fact} (hΓ : ∀ f, f ∈ Γ → f.Ok ρ) {i B : Nat} (hi : i < 40) (h : vmag Γ i = some B) : ∃ s : Int, cg s (ρ i) ∧ -(B : Int) ≤ s ∧ s ≤ B := by
  unfold vmag at h
  split at h
  · rename_i l u hl hu
    have b1 := ivLo_ok hΓ hl
    have b2 := ivHi_ok hΓ hu
    have hc := mono_den ρ (Nat.pow 256 i)
    have e : ev ρ (Nat.pow 256 i) = ρ i := by
      show evm ρ 40 0 (256 ^ i) = _
      rw [evm_var1 ρ 40 0 i hi, Nat.zero_add]
    rw [e] at hc
    refine ⟨_, hc, ?_⟩
    generalize (Sy.p [(Nat.pow 256 i, 1)]).den ρ = y at *
    simp only [bite_eq] at h
    split at h
    · rename_i hb
      have hb := Nat.le_of_ble_eq_true hb
      cases h
      omega
    · rename_i hb
      have hb : ¬ l.natAbs ≤ u.natAbs := fun h => hb (Nat.ble_eq_true_of_le h)
      cases h
      omega
  · cases h

theorem mmag_ok {ρ : Nat → Int} {Γ : List Fact} (hΓ : ∀ f, f ∈ Γ → f.Ok ρ) : ∀ (f i k m : Nat), f + i ≤ 40 → mmag Γ f i k = some m → ∃ s : Int, cg s (evm ρ f i k) ∧ -(m : Int) ≤ s ∧ s ≤ m := by
  intro f
  induction f with
  | zero => intro i k m _ h; simp only [mmag] at h; cases h; exact ⟨1, cg.refl _, by omega, by omega⟩
  | succ f ih =>
    intro i k m hf h
    simp only [mmag, bite_eq] at h
    split at h
    · rename_i hk
      have hk := Nat.eq_of_beq_eq_true hk
      subst hk
      cases h
      rw [evm_zero]
      exact ⟨1, cg.refl _, by omega, by omega⟩
    · split at h
      · rename_i m1 h1
        obtain ⟨s, hs, hb⟩ := ih (i + 1) (k / 256) m1 (by omega) h1
        split at h
        · rename_i he
          have he : k % 256 = 0 := Nat.eq_of_beq_eq_true he
          cases h
          refine ⟨s, ?_, hb⟩
          simp only [evm, he, Int.pow_zero, Int.one_mul]
          exact hs
        · split at h
          · rename_i B hB
            cases h
            obtain ⟨y, hy, hyb⟩ := vmag_ok hΓ (by omega) hB
            refine ⟨y ^ (k % 256) * s, ?_, ?_⟩
            · simp only [evm]; exact (hy.pow _).mul hs
            · exact abs_mul_le (abs_pow_le hyb (k % 256)) hb
          · cases h
      · cases h

theorem pmag_ok {ρ : Nat → Int} {Γ : List Fact} (hΓ : ∀ f, f ∈ Γ → f.Ok ρ) : ∀ {l : Poly} {M : Nat}, pmag Γ l = some M → ∃ s : Int, cg s (peval ρ l) ∧ -(M : Int) ≤ s ∧ s ≤ M := by
  intro l
  induction l with
  | nil => intro M h; simp only [pmag] at h; cases h; exact ⟨0, cg.refl _, by omega, by omega⟩
  | cons t r ih =>
    obtain ⟨k, a⟩ := t
    intro M h
    simp only [pmag] at h
    split at h
    · rename_i n h1
      obtain ⟨s, e1, e2⟩ := ih h1
      split at h
      · rename_i m h2
        cases h
        obtain ⟨y, hy, hyb⟩ := mmag_ok hΓ 40 0 k m (by omega) h2
        refine ⟨sgn a * y + s, ?_, ?_⟩
        · simp only [peval]
          exact (((cg.refl (sgn a)).mul hy).trans (sgn_cg a _)).add e1
        · have hg : -((sgn a).natAbs : Int) ≤ sgn a ∧ sgn a ≤ ((sgn a).natAbs : Int) := by omega
          have := abs_mul_le hg hyb
          show -((((sgn a).natAbs * m + n : Nat)) : Int) ≤ _ ∧ _ ≤ ((((sgn a).natAbs * m + n : Nat)) : Int)
          generalize (sgn a).natAbs * m = q at *
          omega
      · cases h
    · cases h

theorem ivM_p {ρ : Nat → Int} {Γ : List Fact} (hΓ : ∀ f, f ∈ Γ → f.Ok ρ) {l : Poly} {r : Int × Int} (h : ivM Γ (.p l) = some r) : ∃ s : Int, cg s (peval ρ l) ∧ -9223372036854775807 ≤ s ∧ s ≤ 9223372036854775807 ∧ r.1 ≤ s ∧ s ≤ r.2 := by
  simp only [ivM] at h
  split at h
  · rename_i M h1
    rw [bite_eq] at h
    split at h
    · rename_i h2
      have h2 := Nat.le_of_ble_eq_true h2
      cases h
      obtain ⟨s, e1, e2, e3⟩ := pmag_ok hΓ h1
      exact ⟨s, e1, by omega, by omega, e2, e3⟩
    · cases h
  · cases h
theorem ivM_ok {ρ : Nat → Int} {Γ : List Fact} (hΓ : ∀ f, f ∈ Γ → f.Ok ρ) {a : Sy} {lo hi : Int} (h : ivM Γ a = some (lo, hi)) : lo ≤ a.den ρ ∧ a.den ρ ≤ hi := by
  cases a with
  | c n => simp only [ivM] at h; cases h; exact ⟨Int.le_refl _, Int.le_refl _⟩
  | p l =>
    obtain ⟨s, e1, e2, e3, e4, e5⟩ := ivM_p hΓ h
    have : (Sy.p l).den ρ = s := by
      show IntKind.i64.wrap (peval ρ l) = s
      rw [← wrap_cg e1, wrap_in64 (by omega) (by omega)]
    rw [this]; exact ⟨e4, e5⟩
theorem ivLtM_ok {ρ : Nat → Int} {Γ : List Fact} (hΓ : ∀ f, f ∈ Γ → f.Ok ρ) {a b : Sy} {q : Bool} (h : ivLtM Γ a b = some q) : decide (a.den ρ < b.den ρ) = q := by
  unfold ivLtM at h
  split at h
  · rename_i la ha lb hb h1 h2
    obtain ⟨a1, a2⟩ := ivM_ok hΓ h1
    obtain ⟨b1, b2⟩ := ivM_ok hΓ h2
    simp only [bite_eq, ilt_eq] at h
    split at h
    · rename_i hc
      cases h
      have hc := of_decide_eq_true hc
      exact decide_eq_true (by omega)
    · split at h
      · cases h
      · rename_i hc
        cases h
        have hc : ¬ la < hb := fun h => hc (decide_eq_true h)
        exact decide_eq_false (by omega)
  · cases h

theorem peval_pneg (ρ : Nat → Int) : ∀ l : Poly, cg (peval ρ (pneg l)) (-(peval ρ l)) := by
  intro l
  induction l with
  | nil => show cg 0 (-0); exact cg.refl _
  | cons t r ih =>
    obtain ⟨k, a⟩ := t
    have e : pneg ((k, a) :: r) = tcons (0 + k) ((18446744073709551615 * a) % 18446744073709551616) (pneg r) := rfl
    rw [e, peval_tcons, Nat.zero_add]
    have h1 := (cg_mod (18446744073709551615 * a) (ev ρ k)).add ih
    refine h1.trans ⟨(a : Int) * ev ρ k, ?_⟩
    simp only [peval, Int.natCast_mul]
    have : ((18446744073709551615 : Nat) : Int) = 18446744073709551615 := rfl
    rw [this]
    grind
theorem neg_den {ρ : Nat → Int} {Γ : List Fact} (hΓ : ∀ f, f ∈ Γ → f.Ok ρ) {l : Poly} {r : Int × Int} (h : ivM Γ (.p l) = some r) : (Sy.p (pneg l)).den ρ = -(Sy.p l).den ρ := by
  obtain ⟨s, e1, e2, e3, _⟩ := ivM_p hΓ h
  have h1 : (Sy.p l).den ρ = s := by
    show IntKind.i64.wrap (peval ρ l) = s
    rw [← wrap_cg e1, wrap_in64 (by omega) (by omega)]
  have h2 : (Sy.p (pneg l)).den ρ = -s := by
    show IntKind.i64.wrap (peval ρ (pneg l)) = -s
    rw [wrap_cg ((peval_pneg ρ l).trans e1.symm.neg), wrap_in64 (by omega) (by omega)]
  rw [h1, h2]
theorem scanL_ok {ρ : Nat → Int} {p : Sy} {n : Int} {q : Bool} : ∀ {Γ : List Fact}, (∀ f, f ∈ Γ → f.Ok ρ) → scanL p n Γ = some q → decide (p.den ρ < n) = q := by
  intro Γ
  induction Γ with
  | nil => intro _ h; cases h
  | cons f r ih =>
    intro hok h
    have ih' := ih (fun g hg => hok g (by simp [hg]))
    have hf := hok f (by simp)
    obtain ⟨lt, fa, fb, fq⟩ := f
    simp only [scanL] at h
    split at h
    · rename_i l m
      simp only [bite_eq, ilt_eq] at h
      split at h
      · rename_i hs
        have e := Sy.same_eq hs
        subst e
        have hf0 : decide ((Sy.p l).den ρ < (Sy.c m).den ρ) = fq := by simpa [Fact.Ok] using hf
        have hf' : decide ((Sy.p l).den ρ < m) = fq := hf0
        cases fq with
        | true =>
          have hf' := of_decide_eq_true hf'
          simp only [if_true] at h
          split at h
          · exact ih' h
          · rename_i hc
            cases h
            have hc : ¬ n < m := fun e => hc (decide_eq_true e)
            exact decide_eq_true (by omega)
        | false =>
          have hf' := of_decide_eq_false hf'
          simp only [Bool.false_eq_true, if_false] at h
          split at h
          · exact ih' h
          · rename_i hc
            cases h
            have hc : ¬ m < n := fun e => hc (decide_eq_true e)
            exact decide_eq_false (by omega)
      · exact ih' h
    · rename_i m l
      simp only [bite_eq, ilt_eq] at h
      split at h
      · rename_i hs
        have e := Sy.same_eq hs
        subst e
        have hf0 : decide ((Sy.c m).den ρ < (Sy.p l).den ρ) = fq := by simpa [Fact.Ok] using hf
        have hf' : decide (m < (Sy.p l).den ρ) = fq := hf0
        cases fq with
        | true =>
          have hf' := of_decide_eq_true hf'
          simp only [if_true] at h
          split at h
          · exact ih' h
          · rename_i hc
            cases h
            have hc : ¬ m + 1 < n := fun e => hc (decide_eq_true e)
            exact decide_eq_false (by omega)
        | false =>
          have hf' := of_decide_eq_false hf'
          simp only [Bool.false_eq_true, if_false] at h
          split at h
          · rename_i hc
            cases h
            have hc := of_decide_eq_true hc
            exact decide_eq_true (by omega)
          · exact ih' h
      · exact ih' h
    · exact ih' h
theorem negLt_ok {ρ : Nat → Int} {Γ : List Fact} (hΓ : ∀ f, f ∈ Γ → f.Ok ρ) {a b : Sy} {q : Bool} (h : negLt Γ a b = some q) : decide (a.den ρ < b.den ρ) = q := by
  unfold negLt at h
  split at h
  · rename_i n l
    split at h
    · rename_i q' hq
      split at h
      · rename_i r hr
        cases h
        have e := scanL_ok hΓ hq
        rw [← e, neg_den hΓ hr]
        simp only [Sy.den]
        exact decide_eq_decide.2 ⟨fun h => by omega, fun h => by omega⟩
      · cases h
    · cases h
  · rename_i l n
    split at h
    · rename_i q' hq
      split at h
      · rename_i r hr
        cases h
        have e := scanL_ok hΓ hq
        rw [← e, neg_den hΓ hr, ← decide_not]
        simp only [Sy.den]
        exact decide_eq_decide.2 ⟨fun h => by omega, fun h => by omega⟩
      · cases h
    · cases h
  · cases h
theorem hiB_ok {ρ : Nat → Int} {x : Sy} {n : Int} : ∀ {Γ : List Fact}, (∀ f, f ∈ Γ → f.Ok ρ) → hiB x Γ = some n → x.den ρ ≤ n := by
  intro Γ
  induction Γ with
  | nil => intro _ h; cases h
  | cons f r ih =>
    intro hok h
    have ih' := ih (fun g hg => hok g (by simp [hg]))
    have hf := hok f (by simp)
    obtain ⟨lt, fa, fb, fq⟩ := f
    simp only [hiB] at h
    split at h
    · rename_i l m
      rw [bite_eq] at h
      split at h
      · rename_i hs
        cases h
        have e := Sy.same_eq hs
        subst e
        have hf0 : decide ((Sy.p l).den ρ < (Sy.c m).den ρ) = true := by simpa [Fact.Ok] using hf
        have hf1 : (Sy.p l).den ρ < m := of_decide_eq_true hf0
        omega
      · exact ih' h
    · rename_i m l
      rw [bite_eq] at h
      split at h
      · rename_i hs
        cases h
        have e := Sy.same_eq hs
        subst e
        have hf0 : decide ((Sy.c n).den ρ < (Sy.p l).den ρ) = false := by simpa [Fact.Ok] using hf
        have hf1 : ¬ n < (Sy.p l).den ρ := of_decide_eq_false hf0
        omega
      · exact ih' h
    · exact ih' h
theorem loB_ok {ρ : Nat → Int} {x : Sy} {n : Int} : ∀ {Γ : List Fact}, (∀ f, f ∈ Γ → f.Ok ρ) → loB x Γ = some n → n ≤ x.den ρ := by
  intro Γ
  induction Γ with
  | nil => intro _ h; cases h
  | cons f r ih =>
    intro hok h
    have ih' := ih (fun g hg => hok g (by simp [hg]))
    have hf := hok f (by simp)
    obtain ⟨lt, fa, fb, fq⟩ := f
    simp only [loB] at h
    split at h
    · rename_i m l
      rw [bite_eq] at h
      split at h
      · rename_i hs
        cases h
        have e := Sy.same_eq hs
        subst e
        have hf0 : decide ((Sy.c m).den ρ < (Sy.p l).den ρ) = true := by simpa [Fact.Ok] using hf
        have hf1 : m < (Sy.p l).den ρ := of_decide_eq_true hf0
        omega
      · exact ih' h
    · rename_i l m
      rw [bite_eq] at h
      split at h
      · rename_i hs
        cases h
        have e := Sy.same_eq hs
        subst e
        have hf0 : decide ((Sy.p l).den ρ < (Sy.c n).den ρ) = false := by simpa [Fact.Ok] using hf
        have hf1 : ¬ (Sy.p l).den ρ < n := of_decide_eq_false hf0
        omega
      · exact ih' h
    · exact ih' h
theorem scanLt_ok {ρ : Nat → Int} {Γ : List Fact} (hΓ : ∀ f, f ∈ Γ → f.Ok ρ) {a b : Sy} {q : Bool} (h : scanLt Γ a b = some q) : decide (a.den ρ < b.den ρ) = q := by
  unfold scanLt at h
  split at h
  · exact scanL_ok hΓ h
  · rename_i n l
    rw [Option.map_eq_some_iff] at h
    obtain ⟨q', hq, rfl⟩ := h
    rw [← scanL_ok hΓ hq, ← decide_not]
    simp only [Sy.den]
    exact decide_eq_decide.2 ⟨fun h => by omega, fun h => by omega⟩
  · rename_i l m
    split at h
    · rename_i hh oo h1 h2
      rw [bite_eq, ilt_eq] at h
      split at h
      · rename_i hc
        cases h
        have hc := of_decide_eq_true hc
        have b1 := hiB_ok hΓ h1
        have b2 := loB_ok hΓ h2
        exact decide_eq_true (by omega)
      · cases h
    · cases h
  · cases h

theorem ltSy_ok {ρ : Nat → Int} {Γ : List Fact} (hΓ : ∀ f, f ∈ Γ → f.Ok ρ) {a b : Sy} {q : Bool} (h : ltSy Γ a b = some q) : decide (a.den ρ < b.den ρ) = q := by
  unfold ltSy at h
  split at h
  · cases h; rw [ilt_eq]; rfl
  · split at h
    · rename_i q' hq
      cases h
      exact findF_ok hΓ hq
    · split at h
      · rename_i q' hq
        cases h
        exact scanLt_ok hΓ hq
      · split at h
        · rename_i q' hq
          cases h
          exact ivLt_ok hΓ hq
        · split at h
          · rename_i q' hq
            cases h
            exact negLt_ok hΓ hq
          · exact ivLtM_ok hΓ h

theorem eqSy_ok {ρ : Nat → Int} {Γ : List Fact} (hΓ : ∀ f, f ∈ Γ → f.Ok ρ) {a b : Sy} {q : Bool} (h : eqSy Γ a b = some q) : (a.den ρ == b.den ρ) = q := by
  unfold eqSy at h
  split at h
  · cases h; simp only [Sy.den]; rw [ieq_eq]
  · rw [bite_eq] at h
    split at h
    · rename_i hs; cases h; rw [Sy.same_eq hs]; simp
    · split at h
      · rename_i q' hf
        cases h
        have := findF_ok hΓ hf
        simpa [Fact.Ok] using this
      · split at h
        · rename_i q' hf
          cases h
          have := findF_ok hΓ hf
          simp only [Fact.Ok, Bool.false_eq_true, if_false] at this
          rw [← this, Bool.eq_iff_iff]; simp; exact ⟨fun h => h.symm, fun h => h.symm⟩
        · split at h
          · rename_i hf
            cases h
            have : a.den ρ < b.den ρ := of_decide_eq_true (findF_ok hΓ hf)
            simp; omega
          · split at h
            · rename_i hf
              cases h
              have : b.den ρ < a.den ρ := of_decide_eq_true (findF_ok hΓ hf)
              simp; omega
            · cases h

noncomputable def symArith (op : BinOp) (k : IntKind) (x y : Sy) : Option Sy :=
  match x, y with
  | .c a, .c b => match aritOk op k a b with
    | some n => some (.c n)
    | none => none
  | x, y => match k with
    | .i64 => match op with
      | .add => some (mkSy (padd x.poly y.poly))
      | .sub => some (mkSy (padd x.poly (pscale 0 18446744073709551615 y.poly)))
      | .mul => bite (plow x.poly) (bite (plow y.poly) (some (mkSy (pmul x.poly y.poly))) none) none
      | _ => none
    | _ => none

noncomputable def symCmp (Γ : List Fact) (op : BinOp) (x y : Sy) : Option Bool :=
  match op with
  | .eql => eqSy Γ x y
  | .neq => (eqSy Γ x y).map not
  | .lss => ltSy Γ x y
  | .gtr => ltSy Γ y x
  | .leq => (ltSy Γ y x).map not
  | .geq => (ltSy Γ x y).map not
  | _ => none

/-- Each term by a number that divides it. -/
noncomputable def pquo (d : Int) : Poly → Option Poly
  | [] => some []
  | (k, a) :: r => match pquo d r with
    | some r' => bite (ieq (sgn a % d) 0) (some (tcons k ((sgn a / d) % 18446744073709551616).toNat r')) none
    | none => none

/-- A polynomial by a number that divides it, where nothing wraps. -/
noncomputable def symQuo (Γ : List Fact) (op : BinOp) (k : IntKind) (x y : Sy) : Option Sy :=
  match op, k, x, y with
  | .quo, .i64, .p l, .c d => bite (ilt 0 d) (match ivS Γ (.p l), pquo d l with
    | some _, some l' => some (mkSy l')
    | _, _ => none) none
  | _, _, _, _ => none

def symConv (k k' : IntKind) (x : Sy) : Option Sy :=
  match x with
  | .c n => some (.c (k'.wrap n))
  | .p l => match k, k' with
    | .i64, .i64 => some (.p l)
    | _, _ => none

noncomputable def symNum (Γ : List Fact) : Num Sy := ⟨.c, fun x => match x with | .c n => some n | .p _ => none, fun op k x y => match symArith op k x y with | some z => some z | none => symQuo Γ op k x y, symCmp Γ, symConv⟩

theorem pquo_ok {ρ : Nat → Int} {Γ : List Fact} (hΓ : ∀ f, f ∈ Γ → f.Ok ρ) {d : Int} (hd : 0 < d) : ∀ {l l' : Poly} {lo hi : Int}, ivl Γ l = some (lo, hi) → pquo d l = some l' → ∃ s q, cg s (peval ρ l) ∧ lo ≤ s ∧ s ≤ hi ∧ s = d * q ∧ cg q (peval ρ l') := by
  intro l
  induction l with
  | nil => intro l' lo hi h h'; simp only [ivl] at h; cases h; simp only [pquo] at h'; cases h'; exact ⟨0, 0, cg.refl _, Int.le_refl _, Int.le_refl _, by simp, cg.refl _⟩
  | cons t r ih =>
    obtain ⟨k, a⟩ := t
    intro l' lo hi h h'
    simp only [pquo] at h'
    split at h'
    · rename_i r' hr'
      rw [bite_eq] at h'
      split at h'
      · rename_i hdv
        rw [ieq_eq] at hdv
        have hdv : sgn a % d = 0 := eq_of_beq hdv
        cases h'
        simp only [ivl] at h
        split at h
        · cases h
        · rename_i lo1 hi1 h1
          obtain ⟨s, q, e1, e2, e3, e4, e5⟩ := ih h1 hr'
          have hsd : sgn a = d * (sgn a / d) := by
            have := Int.mul_ediv_add_emod (sgn a) d
            rw [hdv] at this; omega
          have hco : ∀ x : Int, cg ((sgn a / d) * x) ((((sgn a / d) % 18446744073709551616).toNat : Int) * x) := by
            intro x
            have h0 : (((sgn a / d) % 18446744073709551616).toNat : Int) = (sgn a / d) % 18446744073709551616 := Int.toNat_of_nonneg (Int.emod_nonneg _ (by decide))
            rw [h0]
            refine ⟨(sgn a / d) / 18446744073709551616 * x, ?_⟩
            have h2 : sgn a / d = (sgn a / d) % 18446744073709551616 + 18446744073709551616 * ((sgn a / d) / 18446744073709551616) := by omega
            generalize (sgn a / d) % 18446744073709551616 = u at *
            generalize (sgn a / d) / 18446744073709551616 = v at *
            rw [h2]; grind
          rw [bite_eq] at h
          split at h
          · rename_i hk
            have hk := Nat.eq_of_beq_eq_true hk
            subst hk
            cases h
            refine ⟨sgn a + s, sgn a / d + q, ?_, by omega, by omega, ?_, ?_⟩
            · simp only [peval, ev, evm_zero, Int.mul_one]
              have := sgn_cg a 1
              rw [Int.mul_one, Int.mul_one] at this
              exact this.add e1
            · rw [Int.mul_add, ← hsd, e4]
            · rw [peval_tcons]
              have := (hco (ev ρ 0)).add e5
              simpa only [ev, evm_zero, Int.mul_one] using this
          · split at h
            · rename_i lx hx hl hh
              have b1 := ivLo_ok hΓ hl
              have b2 := ivHi_ok hΓ hh
              have hc : cg (sgn a * (Sy.p [(k, 1)]).den ρ + s) (peval ρ ((k, a) :: r)) := by
                simp only [peval]
                exact (((cg.refl (sgn a)).mul (mono_den ρ k)).trans (sgn_cg a _)).add e1
              have hq : cg ((sgn a / d) * (Sy.p [(k, 1)]).den ρ + q) (peval ρ (tcons k ((sgn a / d) % 18446744073709551616).toNat r')) := by
                rw [peval_tcons]
                exact (((cg.refl (sgn a / d)).mul (mono_den ρ k)).trans (hco _)).add e5
              have hm : sgn a * (Sy.p [(k, 1)]).den ρ + s = d * ((sgn a / d) * (Sy.p [(k, 1)]).den ρ + q) := by
                rw [Int.mul_add, ← Int.mul_assoc, ← hsd, e4]
              rw [bite_eq, ilt_eq] at h
              generalize (Sy.p [(k, 1)]).den ρ = y at *
              generalize sgn a = g at *
              split at h
              · rename_i hneg
                have hneg : g < 0 := of_decide_eq_true hneg
                cases h
                have m1 : g * hx ≤ g * y := Int.mul_le_mul_of_nonpos_left (Int.le_of_lt hneg) b2
                have m2 : g * y ≤ g * lx := Int.mul_le_mul_of_nonpos_left (Int.le_of_lt hneg) b1
                exact ⟨_, _, hc, by omega, by omega, hm, hq⟩
              · rename_i hneg
                have hneg : ¬ g < 0 := fun h => hneg (decide_eq_true h)
                cases h
                have m1 : g * lx ≤ g * y := Int.mul_le_mul_of_nonneg_left b1 (by omega)
                have m2 : g * y ≤ g * hx := Int.mul_le_mul_of_nonneg_left b2 (by omega)
                exact ⟨_, _, hc, by omega, by omega, hm, hq⟩
            · cases h
      · cases h'
    · cases h'

theorem symQuo_ok {ρ : Nat → Int} {Γ : List Fact} (hΓ : ∀ f, f ∈ Γ → f.Ok ρ) {op : BinOp} {k : IntKind} {x y z : Sy} (h : symQuo Γ op k x y = some z) : aritOk op k (x.den ρ) (y.den ρ) = some (z.den ρ) := by
  unfold symQuo at h
  split at h
  · rename_i l d
    rw [bite_eq] at h
    split at h
    · rename_i hd
      rw [ilt_eq] at hd
      have hd : 0 < d := of_decide_eq_true hd
      split at h
      · rename_i iv l' hiv hq
        cases h
        obtain ⟨lo, hi⟩ := iv
        simp only [ivS] at hiv
        split at hiv
        · rename_i lo1 hi1 h1
          rw [bite_eq] at hiv
          split at hiv
          · rename_i h2
            cases hiv
            obtain ⟨s, q, e1, e2, e3, e4, e5⟩ := pquo_ok hΓ hd h1 hq
            simp only [in64, ilt_eq, Bool.and_eq_true, Bool.not_eq_true', decide_eq_false_iff_not] at h2
            have hs : IntKind.i64.wrap s = s := wrap_in64 (by omega) (by omega)
            have hden : (Sy.p l).den ρ = s := by
              show IntKind.i64.wrap (peval ρ l) = s
              rw [← wrap_cg e1, hs]
            have hdd : (Sy.c d).den ρ = d := rfl
            rw [hden, hdd, mkSy_den, ← wrap_cg e5]
            have ht : s.tdiv d = q := by rw [e4]; exact Int.mul_tdiv_cancel_left q (by omega)
            simp only [aritOk]
            rw [if_neg (by omega), ht]
          · cases hiv
        · cases hiv
      · cases h
    · cases h
  · cases h


theorem symArith_ok {ρ : Nat → Int} {op : BinOp} {k : IntKind} {x y z : Sy} (h : symArith op k x y = some z) : aritOk op k (x.den ρ) (y.den ρ) = some (z.den ρ) := by
  unfold symArith at h
  split at h
  · split at h
    · rename_i n hn; cases h; simpa [Sy.den] using hn
    · cases h
  · split at h
    · split at h
      · cases h
        show some (IntKind.i64.wrap (x.den ρ + y.den ρ)) = some ((mkSy _).den ρ)
        rw [mkSy_den]
        exact congrArg some (wrap_cg (((peval_padd ρ _ _).trans ((poly_den ρ x).add (poly_den ρ y))).symm))
      · cases h
        show some (IntKind.i64.wrap (x.den ρ - y.den ρ)) = some ((mkSy _).den ρ)
        rw [mkSy_den]
        refine congrArg some (wrap_cg ?_)
        have h0 : ∀ l : Poly, cg (peval ρ (pscale 0 18446744073709551615 l)) (-(peval ρ l)) := by
          intro l
          induction l with
          | nil => exact cg.refl 0
          | cons t l ih =>
            obtain ⟨k', a'⟩ := t
            show cg (peval ρ (tcons (Nat.add 0 k') (Nat.mod (Nat.mul 18446744073709551615 a') 18446744073709551616) (pscale 0 18446744073709551615 l))) _
            rw [peval_tcons]
            simp only [peval]
            have h1 := (cg_mod (18446744073709551615 * a') (ev ρ k')).add ih
            have e0 : Nat.add 0 k' = k' := Nat.zero_add k'
            rw [e0]
            refine h1.trans ?_
            refine ⟨(a' : Int) * ev ρ k', ?_⟩
            have e1 : ((18446744073709551615 * a' : Nat) : Int) = 18446744073709551615 * (a' : Int) := by omega
            rw [e1]
            generalize ev ρ k' = e
            generalize (a' : Int) = a
            grind
        have h1 := (peval_padd ρ x.poly (pscale 0 18446744073709551615 y.poly)).trans ((poly_den ρ x).add ((h0 y.poly).trans (poly_den ρ y).neg))
        rw [← Int.sub_eq_add_neg] at h1
        exact h1.symm
      · simp only [bite_eq] at h
        split at h
        · rename_i h1
          split at h
          · rename_i h2
            cases h
            show some (IntKind.i64.wrap (x.den ρ * y.den ρ)) = some ((mkSy _).den ρ)
            rw [mkSy_den]
            exact congrArg some (wrap_cg (((peval_pmul ρ _ _ h1 h2).trans ((poly_den ρ x).mul (poly_den ρ y))).symm))
          · cases h
        · cases h
      · cases h
    · cases h

theorem symNum_ok {ρ : Nat → Int} {Γ : List Fact} (hΓ : ∀ f, f ∈ Γ → f.Ok ρ) (s : Sms) : (symNum Γ).Ok ⟨Sy.den ρ, s⟩ := by
  refine ⟨fun n => rfl, fun x n h => ?_, fun op k x y z h => ?_, fun op x y q h => ?_, fun k k' x z h => ?_⟩
  · cases x with
    | c m => simp only [symNum] at h; cases h; rfl
    | p l => simp [symNum] at h
  · simp only [symNum] at h
    split at h
    · rename_i z' hz
      cases h
      exact symArith_ok hz
    · exact symQuo_ok hΓ h
  · simp only [symNum] at h
    unfold symCmp at h
    have hnot : ∀ {o : Option Bool} {q : Bool}, o.map not = some q → o = some (!q) := by
      intro o q ho
      cases o with
      | none => cases ho
      | some b => simp at ho; subst ho; simp
    split at h
    · simp only [cmpOk]; rw [eqSy_ok hΓ h]
    · have := eqSy_ok hΓ (hnot h)
      simp only [cmpOk, bne, this, Bool.not_not]
    · simp only [cmpOk]; rw [ltSy_ok hΓ h]
    · simp only [cmpOk]; exact congrArg some (ltSy_ok hΓ h)
    · have := ltSy_ok hΓ (hnot h)
      simp only [cmpOk]
      refine congrArg some ?_
      cases q <;> simp at this ⊢ <;> omega
    · have := ltSy_ok hΓ (hnot h)
      simp only [cmpOk]
      refine congrArg some ?_
      cases q <;> simp at this ⊢ <;> omega
    · cases h
  · simp only [symNum] at h
    unfold symConv at h
    split at h
    · cases h; rfl
    · split at h
      · cases h
        exact (wrap_cg (cg_wrap _)).symm
      · cases h

end Go.Sx

/-
  FROM A RUN OF THE MACHINE TO A CALL OF THE PROGRAM.
-/
namespace Go.Sx
open Go.RowKit

/-- The types of a program, as it tells them. -/
noncomputable def tiOf (P : Program) (t : TypeId) : Option Ti :=
  match P.underlying t, P.info? t with
  | some d, some i => match i.zero with
    | some z => some ⟨d, i.size, i.bytes, z, !P.stoodInHeld t && !P.eqGuardType P.depth t⟩
    | none => none
  | _, _ => none

theorem tiOf_ok (P : Program) : TOk P (tiOf P) := by
  intro t ti h
  unfold tiOf at h
  split at h
  · rename_i d i h1 h2
    split at h
    · rename_i z h3
      cases h
      exact ⟨h1, i, h2, rfl, rfl, h3, fun h => by simpa using h⟩
    · cases h
  · cases h

def noCountB (P : Program) : Bool := P.funcs.toList.all fun fn => !(fn.name == "runtime.NumGoroutine")

theorem noCount_of {P : Program} (h : noCountB P = true) : NoCount P := by
  intro k fn hk hn
  unfold noCountB at h
  rw [List.all_eq_true] at h
  have := h fn (List.mem_of_getElem? (i := k) (by simpa using hk))
  simp [hn] at this

/-- What is known of functions beside their own code. -/
structure Known (P : Program) (Δ : Den Sy) (Γ : List Fact) where
  K : FuncId → List (V Sy) → Sto Sy → Option (V Sy × Sto Sy)
  ok : ∀ B, COk P Δ B K

noncomputable def symX (P : Program) (Γ : List Fact) : (FuncId → List (V Sy) → Sto Sy → Option (V Sy × Sto Sy)) → Nat → FuncId → List (V Sy) → Sto Sy → Option (V Sy × Sto Sy) :=
  xcall (symNum Γ) (tiOf P) P (fun C nt ops st => adraw (symNum Γ) (tiOf P) C nt ops st)
theorem symX_ok {P : Program} (hG : NoCount P) (hm : P.follows .mixedOrders = true) {ρ : Nat → Int} {Γ : List Fact} (hΓ : ∀ f, f ∈ Γ → f.Ok ρ) {s : Sms} {B : Nat} : XOk P ⟨Sy.den ρ, s⟩ B (symX P Γ) :=
  xcall_ok (symNum_ok hΓ s) hG (tiOf_ok P) hm (fun C hC nt => adraw_sound (symNum_ok hΓ s) hG (tiOf_ok P) hm hC nt)

/-- The machine over numbers, with all that its oracle answers. -/
noncomputable def symIn (P : Program) (K : FuncId → List (V Sy) → Sto Sy → Option (V Sy × Sto Sy)) (Γ : List Fact) (n : Nat) : FuncId → List (V Sy) → Sto Sy → Option (V Sy × Sto Sy) :=
  acallN (symNum Γ) (tiOf P) P K (fun C nt ops st => adraw (symNum Γ) (tiOf P) C nt ops st) (fun _ _ => none) (symX P Γ) n
/-- A function's run. -/
noncomputable def symRun (P : Program) (K : FuncId → List (V Sy) → Sto Sy → Option (V Sy × Sto Sy)) (Γ : List Fact) (n : Nat) (k : FuncId) (args : List (V Sy)) (sto : Sto Sy) : Option (V Sy × Sto Sy) :=
  bite (Nat.blt k 1000000) (symIn P K Γ n k args sto) none

theorem symRun_ok {P : Program} (hG : NoCount P) (hm : P.follows .mixedOrders = true) {ρ : Nat → Int} {Γ : List Fact} (hΓ : ∀ f, f ∈ Γ → f.Ok ρ) {s : Sms} {B : Nat}
    {K : FuncId → List (V Sy) → Sto Sy → Option (V Sy × Sto Sy)} (hK : COk P ⟨Sy.den ρ, s⟩ B K) (n : Nat) : COk P ⟨Sy.den ρ, s⟩ B (symRun P K Γ n) := by
  intro k args sto r sto' h
  unfold symRun at h
  rw [bite_eq] at h
  split at h
  · rename_i hk
    exact (acallN_sound (symNum_ok hΓ s) hG (tiOf_ok P) hK (fun C hC nt => adraw_sound (symNum_ok hΓ s) hG (tiOf_ok P) hm hC nt) (symX_ok hG hm hΓ) n).fn k args sto r sto' h (by simpa [Nat.blt_eq] using hk)
  · cases h

def noK (_ : FuncId) (_ : List (V Sy)) (_ : Sto Sy) : Option (V Sy × Sto Sy) := none
theorem noK_ok {P : Program} {Δ : Den Sy} {B : Nat} : COk P Δ B noK := by intro k args sto r sto' h; cases h

def saysTrue : Option (V Sy × Sto Sy) → Bool
  | some (.bool true, _) => true
  | _ => false

theorem saysTrue_iff {o : Option (V Sy × Sto Sy)} (h : saysTrue o = true) : ∃ s, o = some (.bool true, s) := by
  unfold saysTrue at h
  split at h
  · exact ⟨_, rfl⟩
  · cases h

/-- A law that the machine finds true is true: nothing that was there before is turned. -/
theorem calls_true {P : Program} {Δ : Den Sy} {k : FuncId} {args : List (V Sy)} {rargs : Array Value} {w : World} {C : FuncId → List (V Sy) → Sto Sy → Option (V Sy × Sto Sy)}
    (hC : COk P Δ w.heap.size C) (hargs : VRs Δ w.heap.size ⟨w, fun _ => none⟩ args rargs.toList) (hrun : saysTrue (C k args ⟨0, [], 0⟩) = true) (hg : ∀ w', KeepC w.heap.size w w' → Δ.s.g w' := by intros; trivial) :
    Calls P k rargs w fun e w' => e = .returned (.bool true) ∧ Below w.heap.size w w' ∧ ∀ a : Addr, a.block < w.heap.size → w'.frozen? a = w.frozen? a := by
  obtain ⟨s, hs⟩ := saysTrue_iff hrun
  have hinv : SInv Δ w.heap.size ⟨w, fun _ => none⟩ (⟨0, [], 0⟩ : Sto Sy) :=
    ⟨Nat.le_refl _, fun _ _ => rfl, fun o b n h => (by cases h), fun o x h => (by cases h), fun o o' x x' b n n' h => (by cases h), trivial, hg⟩
  refine Calls.mono ((hC k args _ _ _ hs).1 ⟨w, fun _ => none⟩ rargs hinv hargs) ?_
  rintro e w' ⟨rv, c', rfl, rfl, h1, h2⟩
  cases h2
  exact ⟨rfl, h1.below, h1.frz⟩

/-- A variable. -/
def vx (i : Nat) : Sy := .p [(256 ^ i, 1)]

theorem evm_var (ρ : Nat → Int) : ∀ (f i j : Nat), j < f → evm ρ f i (256 ^ j) = ρ (i + j) := by
  intro f
  induction f with
  | zero => intro i j h; omega
  | succ f ih =>
    intro i j h
    simp only [evm]
    cases j with
    | zero =>
      have e1 : 256 ^ 0 % 256 = 1 := rfl
      have e2 : 256 ^ 0 / 256 = 0 := rfl
      rw [e1, e2, evm_zero, Int.mul_one, Nat.add_zero, Int.pow_succ, Int.pow_zero, Int.one_mul]
    | succ j =>
      have e1 : 256 ^ (j + 1) % 256 = 0 := by rw [Nat.pow_succ]; omega
      have e2 : 256 ^ (j + 1) / 256 = 256 ^ j := by rw [Nat.pow_succ]; omega
      rw [e1, e2, ih (i + 1) j (by omega)]
      simp [Nat.add_assoc, Nat.add_comm 1 j]

theorem vx_den (ρ : Nat → Int) (i : Nat) (hi : i < 40) (hw : IntKind.i64.wrap (ρ i) = ρ i) : (vx i).den ρ = ρ i := by
  simp only [vx, Sy.den, peval, ev, evm_var ρ 40 0 i hi]
  simpa using hw

theorem beq_false_of_ne' {a b : Int} (h : ¬ a = b) : (a == b) = false := by simp [h]

theorem wrap_of_wf {a : Int} (h : (Lit.int .i64 a).wf = true) : IntKind.i64.wrap a = a := by
  have h0 : IntKind.i64.min = -9223372036854775808 := by decide
  have h9 : IntKind.i64.max = 9223372036854775807 := by decide
  have h1 : (2 ^ IntKind.i64.bits : Int) = 18446744073709551616 := by decide
  have h2 : (2 ^ (IntKind.i64.bits - 1) : Int) = 9223372036854775808 := by decide
  have h3 : IntKind.i64.signed = true := by rfl
  simp only [Lit.wf, h0, h9, Bool.and_eq_true, decide_eq_true_eq] at h
  simp only [IntKind.wrap, h1, h2, h3, Bool.true_and]
  split <;> rename_i hh <;> simp at hh <;> omega

theorem Fact.lt_yes {ρ : Nat → Int} {a b : Sy} (h : a.den ρ < b.den ρ) : Fact.Ok ρ ⟨true, a, b, true⟩ := by
  show decide (a.den ρ < b.den ρ) = true; exact decide_eq_true h
theorem Fact.lt_no {ρ : Nat → Int} {a b : Sy} (h : ¬ a.den ρ < b.den ρ) : Fact.Ok ρ ⟨true, a, b, false⟩ := by
  show decide (a.den ρ < b.den ρ) = false; exact decide_eq_false h
theorem Fact.eq_yes {ρ : Nat → Int} {a b : Sy} (h : a.den ρ = b.den ρ) : Fact.Ok ρ ⟨false, a, b, true⟩ := by
  show (a.den ρ == b.den ρ) = true; rw [h]; exact beq_self_eq_true _
theorem Fact.eq_no {ρ : Nat → Int} {a b : Sy} (h : ¬ a.den ρ = b.den ρ) : Fact.Ok ρ ⟨false, a, b, false⟩ := by
  show (a.den ρ == b.den ρ) = false; exact beq_false_of_ne' h

end Go.Sx

/-
  WHAT A RUN OVER SYMBOLS TELLS OF EVERY CALL: patterns, their values put in.
-/
namespace Go.Sx
open Go.RowKit

/-! ## Values for variables -/
abbrev Subst := List (Nat × Sy)

def sget (σ : Subst) (i : Nat) : Sy :=
  match look σ i with
  | some s => s
  | none => .c 0

noncomputable def spow (q : Poly) : Nat → Poly → Option Poly
  | 0, acc => some acc
  | e + 1, acc => bite (plow q) (bite (plow acc) (spow q e (pmul q acc)) none) none

noncomputable def smono (σ : Subst) : Nat → Nat → Nat → Poly → Option Poly
  | 0, _, _, acc => some acc
  | f + 1, i, k, acc => bite (Nat.beq k 0) (some acc) (match spow (sget σ i).poly (Nat.mod k 256) acc with
    | some acc' => smono σ f (i + 1) (Nat.div k 256) acc'
    | none => none)

noncomputable def psub (σ : Subst) : Poly → Option Poly
  | [] => some []
  | (k, a) :: r => match smono σ 40 0 k [(0, a)], psub σ r with
    | some p, some q => some (padd p q)
    | _, _ => none

noncomputable def Sy.sub (σ : Subst) : Sy → Option Sy
  | .c n => some (.c n)
  | .p l => match psub σ l with
    | some q => some (mkSy q)
    | none => none

theorem spow_ok (ρ : Nat → Int) (q : Poly) : ∀ (e : Nat) (acc r : Poly), spow q e acc = some r → cg (peval ρ r) (peval ρ q ^ e * peval ρ acc) := by
  intro e
  induction e with
  | zero => intro acc r h; simp only [spow] at h; cases h; rw [Int.pow_zero, Int.one_mul]; exact cg.refl _
  | succ e ih =>
    intro acc r h
    simp only [spow, bite_eq] at h
    split at h
    · rename_i h1
      split at h
      · rename_i h2
        refine (ih _ r h).trans ?_
        have h3 := (cg.refl (peval ρ q ^ e)).mul (peval_pmul ρ q acc h1 h2)
        rw [Int.pow_succ]
        have : peval ρ q ^ e * (peval ρ q * peval ρ acc) = peval ρ q ^ e * peval ρ q * peval ρ acc := by grind
        rw [← this]; exact h3
      · cases h
    · cases h

theorem cg_pow {a b : Int} (h : cg a b) : ∀ e : Nat, cg (a ^ e) (b ^ e) := by
  intro e
  induction e with
  | zero => rw [Int.pow_zero, Int.pow_zero]; exact cg.refl _
  | succ e ih => rw [Int.pow_succ, Int.pow_succ]; exact ih.mul h

/-- What the variables of a pattern stand for. -/
def rhoOf (ρ : Nat → Int) (σ : Subst) (i : Nat) : Int := (sget σ i).den ρ

theorem smono_ok (ρ : Nat → Int) (σ : Subst) : ∀ (f i k : Nat) (acc r : Poly), smono σ f i k acc = some r → cg (peval ρ r) (peval ρ acc * evm (rhoOf ρ σ) f i k) := by
  intro f
  induction f with
  | zero => intro i k acc r h; simp only [smono] at h; cases h; simp only [evm]; rw [Int.mul_one]; exact cg.refl _
  | succ f ih =>
    intro i k acc r h
    simp only [smono, bite_eq] at h
    split at h
    · rename_i hk
      have : k = 0 := Nat.eq_of_beq_eq_true hk
      subst this
      cases h
      rw [evm_zero, Int.mul_one]; exact cg.refl _
    · split at h
      · rename_i acc' hp
        refine (ih _ _ _ r h).trans ?_
        have h1 := spow_ok ρ _ _ _ _ hp
        have h2 := cg_pow (poly_den ρ (sget σ i)) (k % 256)
        have h3 : cg (peval ρ acc') (rhoOf ρ σ i ^ (k % 256) * peval ρ acc) := h1.trans (h2.mul (cg.refl _))
        have h4 := h3.mul (cg.refl (evm (rhoOf ρ σ) f (i + 1) (k / 256)))
        refine h4.trans ?_
        simp only [evm]
        have e : rhoOf ρ σ i ^ (k % 256) * peval ρ acc * evm (rhoOf ρ σ) f (i + 1) (k / 256) = peval ρ acc * (rhoOf ρ σ i ^ (k % 256) * evm (rhoOf ρ σ) f (i + 1) (k / 256)) := by grind
        rw [e]; exact cg.refl _
      · cases h

theorem psub_ok (ρ : Nat → Int) (σ : Subst) : ∀ (l r : Poly), psub σ l = some r → cg (peval ρ r) (peval (rhoOf ρ σ) l) := by
  intro l
  induction l with
  | nil => intro r h; simp only [psub] at h; cases h; exact cg.refl _
  | cons t l ih =>
    obtain ⟨k, a⟩ := t
    intro r h
    simp only [psub] at h
    split at h
    · rename_i p q hp hq
      cases h
      refine (peval_padd ρ p q).trans ?_
      have h1 := smono_ok ρ σ 40 0 k _ p hp
      have h2 := h1.add (ih q hq)
      simp only [peval, ev, evm_zero] at h2 ⊢
      have e : ((a : Int) * 1 + 0) * evm (rhoOf ρ σ) 40 0 k = (a : Int) * evm (rhoOf ρ σ) 40 0 k := by rw [Int.mul_one, Int.add_zero]
      rw [e] at h2
      exact h2
    · cases h

theorem sub_den (ρ : Nat → Int) (σ : Subst) {s t : Sy} (h : s.sub σ = some t) : t.den ρ = s.den (rhoOf ρ σ) := by
  cases s with
  | c n => simp only [Sy.sub] at h; cases h; rfl
  | p l =>
    simp only [Sy.sub] at h
    split at h
    · rename_i q hq
      cases h
      rw [mkSy_den]
      exact wrap_cg (psub_ok ρ σ l q hq)
    · cases h

/-- Within sixty-four bits. -/
noncomputable def Sy.fits : Sy → Bool
  | .c n => bite (ilt n (-9223372036854775808)) false (ilt n 9223372036854775808)
  | .p _ => true

theorem wrap_wrap (a : Int) : IntKind.i64.wrap (IntKind.i64.wrap a) = IntKind.i64.wrap a := wrap_cg (cg_wrap a)

theorem fits_wrap (ρ : Nat → Int) {s : Sy} (h : s.fits = true) : IntKind.i64.wrap (s.den ρ) = s.den ρ := by
  cases s with
  | p l => exact wrap_wrap _
  | c n =>
    simp only [Sy.fits, bite_eq, ilt_eq] at h
    split at h
    · cases h
    · rename_i h1
      have h1 : ¬ n < -9223372036854775808 := by simpa using h1
      have h2 : n < 9223372036854775808 := by simpa using h
      simp only [Sy.den]
      have e1 : (2 ^ IntKind.i64.bits : Int) = 18446744073709551616 := by decide
      have e2 : (2 ^ (IntKind.i64.bits - 1) : Int) = 9223372036854775808 := by decide
      have e3 : IntKind.i64.signed = true := by rfl
      simp only [IntKind.wrap, e1, e2, e3, Bool.true_and]
      split <;> rename_i hh <;> simp at hh <;> omega

/-! ## Patterns -/
/-- The number of a variable that stands alone. -/
noncomputable def varOf (s : Sy) : Option Nat :=
  match s with
  | .p [(k, 1)] => bite (Nat.beq k (256 ^ (Nat.log2 k / 8))) (bite (Nat.blt (Nat.log2 k / 8) 40) (some (Nat.log2 k / 8)) none) none
  | _ => none

theorem varOf_eq {s : Sy} {i : Nat} (h : varOf s = some i) : s = vx i ∧ i < 40 := by
  unfold varOf at h
  split at h
  · rename_i k
    simp only [bite_eq] at h
    split at h
    · rename_i h1
      split at h
      · rename_i h2
        cases h
        have h1 := Nat.eq_of_beq_eq_true h1
        exact ⟨by rw [vx, ← h1], by simpa [Nat.blt_eq] using h2⟩
      · cases h
    · cases h
  · cases h

/-- A pattern's number against an argument's: a variable has its value there, a constant is the same. -/
noncomputable def okI (σ : Subst) (p s : Sy) : Bool :=
  match p, s with
  | .c m, .c n => ieq m n
  | .c _, .p _ => false
  | .p l, s => match varOf (.p l) with
    | some i => bite ((sget σ i).same s) s.fits false
    | none => false

theorem okI_den (ρ : Nat → Int) {σ : Subst} {p s : Sy} (h : okI σ p s = true) : p.den (rhoOf ρ σ) = s.den ρ := by
  unfold okI at h
  split at h
  · rw [ieq_eq] at h; have := eq_of_beq h; rw [this]; rfl
  · cases h
  · rename_i l
    split at h
    · rename_i i hi
      rw [bite_eq] at h
      split at h
      · rename_i hs
        have hs := Sy.same_eq hs
        obtain ⟨hv, hlt⟩ := varOf_eq hi
        rw [hv, vx_den (rhoOf ρ σ) i hlt]
        · rw [← hs]; rfl
        · simp only [rhoOf, hs]; exact fits_wrap ρ h
      · cases h
    · cases h

/-- A list of numbers against another one. -/
noncomputable def okIs (σ : Subst) : List (V Sy) → List (V Sy) → Bool
  | [], [] => true
  | .int k p :: r, .int k' s :: r' => bite (decide (k = k')) (bite (okI σ p s) (okIs σ r r') false) false
  | _, _ => false

/-- A pattern's argument against one: numbers, aggregates of numbers, slices of numbers. -/
noncomputable def okA0 (σ : Subst) (sto : Sto Sy) (p x : V Sy) : Bool :=
  match p, x with
  | .int k p, .int k' s => bite (decide (k = k')) (okI σ p s) false
  | .str a, .str b => a.toList == b.toList
  | .agg cs, .agg ds => okIs σ cs ds
  | .slice xs, .rsl o off len cap => match sto.cells o off len with
    | some ys => match cap with
      | some cp => bite (Nat.ble len cp) (okIs σ xs ys) false
      | none => okIs σ xs ys
    | none => false
  | .slice xs, .slice ys => match ys with
    | [] => false
    | _ => okIs σ xs ys
  | _, _ => false

noncomputable def okAs0 (σ : Subst) (sto : Sto Sy) : List (V Sy) → List (V Sy) → Bool
  | [], [] => true
  | p :: r, x :: r' => bite (okA0 σ sto p x) (okAs0 σ sto r r') false
  | _, _ => false

/-- As above; aggregates of slices too. -/
noncomputable def okA (σ : Subst) (sto : Sto Sy) (p x : V Sy) : Bool :=
  bite (okA0 σ sto p x) true (match p, x with
  | .agg cs, .agg ds => okAs0 σ sto cs ds
  | _, _ => false)

noncomputable def okAs (σ : Subst) (sto : Sto Sy) : List (V Sy) → List (V Sy) → Bool
  | [], [] => true
  | p :: r, x :: r' => bite (okA σ sto p x) (okAs σ sto r r') false
  | _, _ => false

section
variable {ρ : Nat → Int} {s : Sms} {B : Nat} {c : Cx} {sto : Sto Sy} {σ : Subst}

theorem VR_int' {Δ : Den Sy} {k : IntKind} {p : Sy} {n : Int} (h : Δ.d p = n) : VR Δ B c (.int k p) (.int k n) := by
  rw [← h]; exact .int k p

theorem okIs_rel (σ : Subst) {c' : Cx} {B' : Nat} : ∀ (ps xs : List (V Sy)) (vs : List Value), okIs σ ps xs = true → VRs ⟨Sy.den ρ, s⟩ B c xs vs → VRs ⟨Sy.den (rhoOf ρ σ), s⟩ B' c' ps vs ∧ ps.length = xs.length := by
  intro ps
  induction ps with
  | nil =>
    intro xs vs h hv
    cases xs with
    | nil => exact ⟨⟨hv.1, by simp⟩, rfl⟩
    | cons x r => simp [okIs] at h
  | cons p r ih =>
    intro xs vs h hv
    cases xs with
    | nil => cases p <;> simp [okIs] at h
    | cons x rx =>
      cases vs with
      | nil => simp [VRs] at hv
      | cons v rv =>
        cases p with
        | int k p =>
          cases x with
          | int k' t =>
            simp only [okIs, bite_eq, decide_eq_true_eq] at h
            split at h
            · rename_i hk
              subst hk
              split at h
              · rename_i hi
                obtain ⟨h1, h2⟩ := ih rx rv h hv.tail
                have h0 := hv.head
                cases h0
                exact ⟨.cons (VR_int' (okI_den ρ hi)) h1, by simp [h2]⟩
              · cases h
            · cases h
          | _ => simp [okIs] at h
        | _ => simp [okIs] at h

theorem okA0_rel (hinv : SInv ⟨Sy.den ρ, s⟩ B c sto) {p x : V Sy} {v : Value} (h : okA0 σ sto p x = true) (hx : VR ⟨Sy.den ρ, s⟩ B c x v) :
    VR ⟨Sy.den (rhoOf ρ σ), s⟩ c.w.heap.size ⟨c.w, fun _ => none⟩ p v := by
  have own : ∀ {xs ys : List (V Sy)} {o off len b n cap : Nat}, c.κ o = some (b, n) → sto.cells o off len = some ys → len ≤ cap → okIs σ xs ys = true →
      VR ⟨Sy.den (rhoOf ρ σ), s⟩ c.w.heap.size ⟨c.w, fun _ => none⟩ (.slice xs) (.slice (some ⟨b, off, none⟩) len cap) := by
    intro xs ys o off len b n cap hk hc hle hok
    simp only [Sto.cells] at hc
    split at hc
    · rename_i blk hblk
      split at hc
      · rename_i hl
        cases hc
        obtain ⟨us, hlen, hcell, hvr, _⟩ := hinv.cells hblk hk
        obtain ⟨h1, h2⟩ := okIs_rel (ρ := ρ) (s := s) (B := B) (c := c) (c' := ⟨c.w, fun _ => none⟩) (B' := c.w.heap.size) σ xs _ _ hok (hvr.sub off len)
        have hll : ((blk.drop off).take len).length = len := by simp [List.length_take, List.length_drop]; omega
        have hxl : xs.length = len := by rw [h2, hll]
        have := VR.slice (Δ := ⟨Sy.den (rhoOf ρ σ), s⟩) (B := c.w.heap.size) (c := ⟨c.w, fun _ => none⟩) (xs := xs) (b := b) (off := off) (cap := cap) ((us.drop off).take len) h1.1.symm (by omega)
          (hinv.blk _ _ _ hk).2 (fun j u hj => by
            rw [List.getElem?_take] at hj
            split at hj
            · rw [List.getElem?_drop] at hj; exact hcell _ _ hj
            · cases hj) h1.2
        rwa [hxl] at this
      · cases hc
    · cases hc
  unfold okA0 at h
  split at h
  · rw [bite_eq] at h
    split at h
    · rename_i hk
      have hk := of_decide_eq_true hk
      subst hk
      cases hx
      exact VR_int' (okI_den ρ h)
    · cases h
  · rename_i a b
    cases hx
    have h2 : a.toList = b.toList := eq_of_beq h
    rw [ByteArray.toList_eq, ByteArray.toList_eq] at h2
    have e : a = b := by
      obtain ⟨⟨x⟩⟩ := a
      obtain ⟨⟨y⟩⟩ := b
      simp at h2
      rw [h2]
    subst e
    exact .str _
  · cases hx with
    | @agg _ vs hl he =>
    obtain ⟨h1, h2⟩ := okIs_rel (ρ := ρ) (s := s) (B := B) (c := c) (c' := ⟨c.w, fun _ => none⟩) (B' := c.w.heap.size) σ _ _ vs.toList h ⟨by simpa using hl, fun i x v hx hv => he i x v hx (by simpa using hv)⟩
    exact .agg (by simpa using h1.1) (fun i x v hx hv => h1.2 i x v hx (by simpa using hv))
  · split at h
    · rename_i ys hys
      split at h
      · rename_i cp
        rw [bite_eq] at h
        split at h
        · rename_i hle
          cases hx with
          | rsl hk => exact own hk hys (by simpa [Nat.ble_eq] using hle) h
        · cases h
      · cases hx with
        | rslo hk hlc hn => exact own hk hys (by omega) h
    · cases h
  · split at h
    · cases h
    · rename_i xs ys hne
      cases hx with
      | snil => exact (hne rfl).elim
      | slice us h1 h2 h3 h4 h5 =>
      obtain ⟨g1, g2⟩ := okIs_rel (ρ := ρ) (s := s) (B := B) (c := c) (c' := ⟨c.w, fun _ => none⟩) (B' := c.w.heap.size) σ _ _ us h ⟨h1.symm, h5⟩
      have := VR.slice (Δ := ⟨Sy.den (rhoOf ρ σ), s⟩) (B := c.w.heap.size) (c := ⟨c.w, fun _ => none⟩) us g1.1.symm (by rw [g2]; exact h2) (Nat.lt_of_lt_of_le h3 hinv.base) h4 g1.2
      rwa [g2] at this
  · cases h

theorem okAs0_rel (hinv : SInv ⟨Sy.den ρ, s⟩ B c sto) : ∀ (ps xs : List (V Sy)) (vs : List Value), okAs0 σ sto ps xs = true → VRs ⟨Sy.den ρ, s⟩ B c xs vs →
    VRs ⟨Sy.den (rhoOf ρ σ), s⟩ c.w.heap.size ⟨c.w, fun _ => none⟩ ps vs := by
  intro ps
  induction ps with
  | nil =>
    intro xs vs h hv
    cases xs with
    | nil => exact ⟨hv.1, by simp⟩
    | cons x r => simp [okAs0] at h
  | cons p r ih =>
    intro xs vs h hv
    cases xs with
    | nil => simp [okAs0] at h
    | cons x rx =>
      cases vs with
      | nil => simp [VRs] at hv
      | cons v rv =>
        simp only [okAs0, bite_eq] at h
        split at h
        · rename_i h1
          exact .cons (okA0_rel hinv h1 hv.head) (ih rx rv h hv.tail)
        · cases h
theorem okA_rel (hinv : SInv ⟨Sy.den ρ, s⟩ B c sto) {p x : V Sy} {v : Value} (h : okA σ sto p x = true) (hx : VR ⟨Sy.den ρ, s⟩ B c x v) :
    VR ⟨Sy.den (rhoOf ρ σ), s⟩ c.w.heap.size ⟨c.w, fun _ => none⟩ p v := by
  simp only [okA, bite_eq] at h
  split at h
  · rename_i h1; exact okA0_rel hinv h1 hx
  · split at h
    · rename_i cs ds
      cases hx with
      | @agg _ vs hl he =>
      have := okAs0_rel hinv _ _ vs.toList h ⟨by simpa using hl, fun i x v hx hv => he i x v hx (by simpa using hv)⟩
      exact .agg (by simpa using this.1) (fun i x v hx hv => this.2 i x v hx (by simpa using hv))
    · cases h

theorem okAs_rel (hinv : SInv ⟨Sy.den ρ, s⟩ B c sto) : ∀ (ps xs : List (V Sy)) (vs : List Value), okAs σ sto ps xs = true → VRs ⟨Sy.den ρ, s⟩ B c xs vs →
    VRs ⟨Sy.den (rhoOf ρ σ), s⟩ c.w.heap.size ⟨c.w, fun _ => none⟩ ps vs := by
  intro ps
  induction ps with
  | nil =>
    intro xs vs h hv
    cases xs with
    | nil => exact ⟨hv.1, by simp⟩
    | cons x r => simp [okAs] at h
  | cons p r ih =>
    intro xs vs h hv
    cases xs with
    | nil => simp [okAs] at h
    | cons x rx =>
      cases vs with
      | nil => simp [VRs] at hv
      | cons v rv =>
        simp only [okAs, bite_eq] at h
        split at h
        · rename_i h1
          exact .cons (okA_rel hinv h1 hv.head) (ih rx rv h hv.tail)
        · cases h
end

/-! ## Answers put in their place -/
mutual
/-- An answer with the values put in, its objects n further on. -/
noncomputable def V.reloc (σ : Subst) (n : Nat) : V Sy → Option (V Sy)
  | .int k s => match s.sub σ with
    | some t => some (.int k t)
    | none => none
  | .bool b => some (.bool b)
  | .str s => some (.str s)
  | .nil => some .nil
  | .emp => some .emp
  | .nilPtr => some .nilPtr
  | .nilFunc => some .nilFunc
  | .nilIface => some .nilIface
  | .rsl o off len cap => some (.rsl (n + o) off len cap)
  | .ptr o off => some (.ptr (n + o) off)
  | .agg cs => match relocs σ n cs with
    | some ds => some (.agg ds)
    | none => none
  | .tup cs => match relocs σ n cs with
    | some ds => some (.tup ds)
    | none => none
  | _ => none
noncomputable def relocs (σ : Subst) (n : Nat) : List (V Sy) → Option (List (V Sy))
  | [] => some []
  | x :: r => match x.reloc σ n, relocs σ n r with
    | some y, some s => some (y :: s)
    | _, _ => none
end

noncomputable def relocO (σ : Subst) (n : Nat) : List (Nat × Ob Sy) → Option (List (Nat × Ob Sy))
  | [] => some []
  | (o, b) :: r => match relocs σ n b, relocO σ n r with
    | some b', some s => some ((n + o, b') :: s)
    | _, _ => none

theorem relocs_rel {σ : Subst} {n : Nat} : ∀ {xs ys : List (V Sy)}, relocs σ n xs = some ys → xs.length = ys.length ∧ ∀ (i : Nat) (y : V Sy), ys[i]? = some y → ∃ x, xs[i]? = some x ∧ x.reloc σ n = some y := by
  intro xs
  induction xs with
  | nil => intro ys h; simp only [relocs] at h; cases h; exact ⟨rfl, by simp⟩
  | cons x r ih =>
    intro ys h
    simp only [relocs] at h
    split at h
    · rename_i y s hy hs
      cases h
      obtain ⟨e1, e2⟩ := ih hs
      refine ⟨by simp [e1], fun i z hz => ?_⟩
      cases i with
      | zero => simp at hz; subst hz; exact ⟨x, rfl, hy⟩
      | succ i => simp at hz; simpa using e2 i z hz
    · cases h

theorem reloc_rel {ρ : Nat → Int} {s : Sms} {σ : Subst} {n B B' : Nat} {c' c'' : Cx} (hκ : ∀ o b, c'.κ o = some b → c''.κ (n + o) = some b) {x : V Sy} {v : Value}
    (h : VR ⟨Sy.den (rhoOf ρ σ), s⟩ B' c' x v) : ∀ y, x.reloc σ n = some y → VR ⟨Sy.den ρ, s⟩ B c'' y v := by
  induction h with
  | any v => intro y h; simp [V.reloc] at h
  | bool b => intro y h; simp only [V.reloc] at h; cases h; exact .bool b
  | int k t =>
    intro y h
    simp only [V.reloc] at h
    split at h
    · rename_i t' ht
      cases h
      exact VR_int' (sub_den ρ σ ht)
    · cases h
  | str t => intro y h; simp only [V.reloc] at h; cases h; exact .str t
  | sst j xs => intro y h; simp [V.reloc] at h
  | nilIface => intro y h; simp only [V.reloc] at h; cases h; exact .nilIface
  | nilPtr => intro y h; simp only [V.reloc] at h; cases h; exact .nilPtr
  | nilFunc => intro y h; simp only [V.reloc] at h; cases h; exact .nilFunc
  | nil => intro y h; simp only [V.reloc] at h; cases h; exact .nil
  | emp ad cap hq => intro y h; simp only [V.reloc] at h; cases h; exact .emp ad cap hq
  | slice => intro y h; simp [V.reloc] at h
  | snil => intro y h; simp [V.reloc] at h
  | bc => intro y h; simp [V.reloc] at h
  | aint => intro y h; simp [V.reloc] at h
  | bsl => intro y h; simp [V.reloc] at h
  | bsl0 => intro y h; simp [V.reloc] at h
  | bys => intro y h; simp [V.reloc] at h
  | bys0 => intro y h; simp [V.reloc] at h
  | brs => intro y h; simp [V.reloc] at h
  | rsl hk => intro y h; simp only [V.reloc] at h; cases h; exact .rsl (hκ _ _ hk)
  | rslo hk hlc hn => intro y h; simp only [V.reloc] at h; cases h; exact .rslo (hκ _ _ hk) hlc hn
  | ptr hk => intro y h; simp only [V.reloc] at h; cases h; exact .ptr (hκ _ _ hk)
  | cel => intro y h; simp [V.reloc] at h
  | func => intro y h; simp [V.reloc] at h
  | yld => intro y h; simp [V.reloc] at h
  | mp => intro y h; simp [V.reloc] at h
  | mpc => intro y h; simp [V.reloc] at h
  | iface => intro y h; simp [V.reloc] at h
  | agg hl he ih =>
    intro y h
    simp only [V.reloc] at h
    split at h
    · rename_i ds hd
      cases h
      obtain ⟨e1, e2⟩ := relocs_rel hd
      exact .agg (by rw [← e1]; exact hl) (fun i z v hz hv => by obtain ⟨x, hx, hr⟩ := e2 i z hz; exact ih i x v hx hv z hr)
    · cases h
  | tup hl he ih =>
    intro y h
    simp only [V.reloc] at h
    split at h
    · rename_i ds hd
      cases h
      obtain ⟨e1, e2⟩ := relocs_rel hd
      exact .tup (by rw [← e1]; exact hl) (fun i z v hz hv => by obtain ⟨x, hx, hr⟩ := e2 i z hz; exact ih i x v hx hv z hr)
    · cases h

theorem relocs_VRs {ρ : Nat → Int} {s : Sms} {σ : Subst} {n B B' : Nat} {c' c'' : Cx} (hκ : ∀ o b, c'.κ o = some b → c''.κ (n + o) = some b) {xs ys : List (V Sy)} {vs : List Value}
    (h : VRs ⟨Sy.den (rhoOf ρ σ), s⟩ B' c' xs vs) (hr : relocs σ n xs = some ys) : VRs ⟨Sy.den ρ, s⟩ B c'' ys vs := by
  obtain ⟨e1, e2⟩ := relocs_rel hr
  exact ⟨by rw [← e1]; exact h.1, fun i y v hy hv => by obtain ⟨x, hx, hr⟩ := e2 i y hy; exact reloc_rel hκ (h.2 i x v hx hv) y hr⟩

theorem relocs_bc {σ : Subst} {n : Nat} {xs : List (V Sy)} {j : Nat} (h : relocs σ n xs = some [.bc j]) : False := by
  obtain ⟨_, e2⟩ := relocs_rel h
  obtain ⟨x, _, hr⟩ := e2 0 _ rfl
  cases x <;> simp [V.reloc] at hr <;> (first | (split at hr <;> simp at hr) | skip)

theorem relocs_nm {σ : Subst} {n : Nat} {xs : List (V Sy)} {ks vs : List (V Sy)} (h : relocs σ n xs = some [.mpc ks vs]) : False := by
  obtain ⟨_, e2⟩ := relocs_rel h
  obtain ⟨x, _, hr⟩ := e2 0 _ rfl
  cases x <;> simp [V.reloc] at hr <;> (first | (split at hr <;> simp at hr) | skip)
theorem relocs_isMp {σ : Subst} {n : Nat} {xs ys : List (V Sy)} (h : relocs σ n xs = some ys) : isMp xs = false := by
  cases hm : isMp xs with
  | false => rfl
  | true =>
    unfold isMp at hm
    split at hm
    · simp [relocs, V.reloc] at h
    · cases hm

theorem relocO_rel {σ : Subst} {n : Nat} : ∀ {m : Nat} {l l' : List (Nat × Ob Sy)}, relocO σ n l = some l' → Desc m l → Desc (n + m) l' ∧ (∀ q, q ∈ l' → n ≤ q.1) ∧
    ∀ o y, look l' o = some y → ∃ x, look l (o - n) = some x ∧ n ≤ o ∧ relocs σ n x = some y := by
  intro m l
  induction l generalizing m with
  | nil => intro l' h _; simp only [relocO] at h; cases h; exact ⟨trivial, by simp, by simp [look]⟩
  | cons p r ih =>
    obtain ⟨o, b⟩ := p
    intro l' h hd
    simp only [relocO] at h
    split at h
    · rename_i b' t hb ht
      cases h
      obtain ⟨e1, e2, e3⟩ := ih ht hd.2
      refine ⟨⟨by have := hd.1; omega, e1⟩, fun q hq => ?_, fun o' y hy => ?_⟩
      · rcases List.mem_cons.1 hq with rfl | hq
        · exact Nat.le_add_right _ _
        · exact e2 q hq
      · rw [look_cons] at hy
        split at hy
        · rename_i he
          cases hy
          subst he
          exact ⟨b, by rw [Nat.add_sub_cancel_left, look_cons, if_pos rfl], Nat.le_add_right _ _, hb⟩
        · obtain ⟨x, k1, k2, k3⟩ := e3 o' y hy
          exact ⟨x, by rw [look_cons, if_neg (by omega)]; exact k1, k2, k3⟩
    · cases h

/-! ## Summaries -/
structure Summ where
  k : FuncId
  pat : List (V Sy)
  r : V Sy
  s : Sto Sy

noncomputable def collI : List (V Sy) → List (V Sy) → Subst → Subst
  | .int _ p :: r, .int _ t :: r', acc => match varOf p with
    | some i => collI r r' ((i, t) :: acc)
    | none => collI r r' acc
  | _, _, acc => acc

noncomputable def coll0 (sto : Sto Sy) : List (V Sy) → List (V Sy) → Subst → Subst
  | p :: r, x :: r', acc => coll0 sto r r' (match p, x with
    | .int k p, .int k' t => collI [.int k p] [.int k' t] acc
    | .agg cs, .agg ds => collI cs ds acc
    | .slice xs, .rsl o off len _ => match sto.cells o off len with
      | some ys => collI xs ys acc
      | none => acc
    | .slice xs, .slice ys => collI xs ys acc
    | _, _ => acc)
  | _, _, acc => acc

noncomputable def coll (sto : Sto Sy) : List (V Sy) → List (V Sy) → Subst → Subst
  | p :: r, x :: r', acc => coll sto r r' (match p, x with
    | .agg cs, .agg ds => coll0 sto cs ds acc
    | p, x => coll0 sto [p] [x] acc)
  | _, _, acc => acc

noncomputable def Summ.call (e : Summ) (args : List (V Sy)) (sto : Sto Sy) : Option (V Sy × Sto Sy) :=
  bite (okAs (coll sto e.pat args []) sto e.pat args)
    (match e.r.reloc (coll sto e.pat args []) sto.next, relocO (coll sto e.pat args []) sto.next e.s.obs with
    | some y, some obs => some (y, ⟨sto.next + e.s.next, obs ++ sto.obs, sto.low⟩)
    | _, _ => none) none

noncomputable def summK : List Summ → FuncId → List (V Sy) → Sto Sy → Option (V Sy × Sto Sy)
  | [], _, _, _ => none
  | e :: r, k, args, sto => bite (Nat.beq e.k k) (match e.call args sto with
    | some z => some z
    | none => summK r k args sto) (summK r k args sto)

def Summ.Ok (P : Program) (e : Summ) : Prop := (∀ (ρ : Nat → Int) (s : Sms) (B : Nat), Good P ⟨Sy.den ρ, s⟩ B e.k e.pat ⟨0, [], 0⟩ e.r e.s) ∧ ∃ fn, P.funcs[e.k]? = some fn ∧ fn.body.isSome = true

theorem Summ.good {P : Program} {e : Summ} (he : e.Ok P) {ρ : Nat → Int} {s : Sms} {B : Nat} {args : List (V Sy)} {sto : Sto Sy} {r : V Sy} {sto' : Sto Sy} (h : e.call args sto = some (r, sto')) :
    Good P ⟨Sy.den ρ, s⟩ B e.k args sto r sto' := by
  intro c rargs hinv hargs
  unfold Summ.call at h
  rw [bite_eq] at h
  split at h
  · rename_i hok
    split at h
    · rename_i y obs hy hobs
      cases h
      generalize coll sto e.pat args [] = σ at hok hy hobs
      have hp := okAs_rel hinv _ _ _ hok hargs
      have hinv0 : SInv ⟨Sy.den (rhoOf ρ σ), s⟩ c.w.heap.size ⟨c.w, fun _ => none⟩ (⟨0, [], 0⟩ : Sto Sy) :=
        ⟨Nat.le_refl _, fun _ _ => rfl, fun o b n h => (by cases h), fun o x h => (by cases h), fun o o' x x' b n n' h => (by cases h), trivial, hinv.at0⟩
      refine Calls.mono (he.1 (rhoOf ρ σ) s c.w.heap.size ⟨c.w, fun _ => none⟩ rargs hinv0 hp) ?_
      rintro ev w' ⟨rv, c', rfl, rfl, hst, hv⟩
      have hbe : Below c.w.heap.size c.w c'.w := hst.below
      let c'' : Cx := ⟨c'.w, fun o => if o < sto.next then c.κ o else c'.κ (o - sto.next)⟩
      have hκ : ∀ o b, c'.κ o = some b → c''.κ (sto.next + o) = some b := by
        intro o b hb
        simp only [c'']
        rw [if_neg (by omega), Nat.add_sub_cancel_left]; exact hb
      have hold : ∀ o x, c.κ o = some x → c''.κ o = some x := by
        intro o x hx
        have : o < sto.next := by
          rcases Nat.lt_or_ge o sto.next with h1 | h1
          · exact h1
          · rw [hinv.fresh o h1] at hx; cases hx
        simp only [c'']; rw [if_pos this]; exact hx
      have hle : Cx.le B c c'' := ⟨fun b hb => hbe.block b (Nat.lt_of_lt_of_le hb hinv.base), hold, hst.oth⟩
      obtain ⟨r1, r2, r3⟩ := relocO_rel hobs hst.inv.desc
      have hnew : ∀ o b n, c'.κ o = some (b, n) → c.w.heap.size ≤ b ∧ b < c'.w.heap.size := fun o b n hk => hst.inv.blk o b n hk
      -- an object of the new ones, or of the old
      have hcase : ∀ o x, look (obs ++ sto.obs) o = some x → (∃ x0, look e.s.obs (o - sto.next) = some x0 ∧ sto.next ≤ o ∧ relocs σ sto.next x0 = some x) ∨ (o < sto.next ∧ look sto.obs o = some x) := by
        intro o x hx
        rw [look_append] at hx
        split at hx
        · rename_i z hz
          cases hx
          exact .inl (r3 o _ hz)
        · exact .inr ⟨hinv.desc.look_lt hx, hx⟩
      refine ⟨rv, c'', rfl, rfl, ⟨⟨Nat.le_trans hinv.base hbe.size, fun o ho => ?_, fun o b n hk => ?_, fun o x hx => ?_, fun o o' x x' b n n' hx hx' hk hk' => ?_, ?_, fun w hb => hinv.g w ((hbe.mono hinv.base).keepC.trans hb)⟩, hold,
        hbe.mono hinv.base, Nat.le_add_right _ _, Nat.le_refl _, fun b hb _ => hbe.block b hb, fun o b n hk hn hb => ?_, fun o x hk hn => ?_, hst.frz, hst.oth⟩, reloc_rel hκ hv _ hy⟩
      · simp only at ho
        simp only [c'']
        rw [if_neg (by omega)]
        exact hst.inv.fresh _ (by omega)
      · simp only [c''] at hk
        split at hk
        · have := hinv.blk o b n hk
          exact ⟨this.1, Nat.lt_of_lt_of_le this.2 hbe.size⟩
        · have := hnew _ _ _ hk
          exact ⟨Nat.le_trans hinv.base this.1, this.2⟩
      · rcases hcase o x hx with ⟨x0, k1, k2, k3⟩ | ⟨k1, k2⟩
        · obtain ⟨b, cur, el, e1, e2, e3, e4⟩ := hst.inv.obc _ x0 (lookC_iff.2 ⟨k1, relocs_isMp k3⟩)
          have hl := (relocs_rel k3).1
          refine ⟨b, _, cur.size, by simp only [c'']; rw [if_neg (by omega)]; exact e1, e2, .cells el (by rw [← hl]; exact e3) ?_ (fun ks vs hm => by subst hm; exact (relocs_nm k3).elim)⟩
          exact ⟨by rw [← hl]; exact relocs_VRs hκ e4.vrs k3, fun j hj => by subst hj; exact (relocs_bc k3).elim⟩
        · obtain ⟨b, cur, el, e1, e2, e4⟩ := hinv.ob o x k2
          refine ⟨b, cur, el, hold _ _ e1, ?_, e4.mono hle⟩
          show c'.w.heap[b]? = _
          rw [hbe.block b (hinv.blk _ _ _ e1).2]; exact e2
      · simp only [c''] at hk hk'
        rcases hcase o x hx with ⟨x0, k1, k2, k3⟩ | ⟨k1, k2⟩ <;> rcases hcase o' x' hx' with ⟨x0', k1', k2', k3'⟩ | ⟨k1', k2'⟩
        · rw [if_neg (by omega)] at hk hk'
          have := hst.inv.inj _ _ _ _ b n n' k1 k1' hk hk'
          omega
        · rw [if_neg (by omega)] at hk
          rw [if_pos k1'] at hk'
          have h1 := (hnew _ _ _ hk).1
          have h2 := (hinv.blk _ _ _ hk').2
          omega
        · rw [if_pos k1] at hk
          rw [if_neg (by omega)] at hk'
          have h1 := (hnew _ _ _ hk').1
          have h2 := (hinv.blk _ _ _ hk).2
          omega
        · rw [if_pos k1] at hk
          rw [if_pos k1'] at hk'
          exact hinv.inj o o' x x' b n n' k2 k2' hk hk'
      · exact Desc.append (Nat.le_add_right _ _) r1 r2 hinv.desc
      · simp only [c''] at hk
        split at hk
        · rw [hn] at hk; cases hk
        · have := (hnew _ _ _ hk).1; omega
      · simp only [c''] at hk
        split at hk
        · rw [hn] at hk; cases hk
        · omega
    · cases h
  · cases h

theorem summK_ok {P : Program} {ρ : Nat → Int} {s : Sms} {B : Nat} : ∀ {t : List Summ}, (∀ e, e ∈ t → e.Ok P) → COk P ⟨Sy.den ρ, s⟩ B (summK t) := by
  intro t
  induction t with
  | nil => intro _ k args sto r sto' h; cases h
  | cons e t ih =>
    intro ht k args sto r sto' h
    have ih' := ih (fun e he => ht e (by simp [he]))
    simp only [summK, bite_eq] at h
    split at h
    · rename_i hk
      have hk := Nat.eq_of_beq_eq_true hk
      subst hk
      split at h
      · rename_i z hz
        cases h
        exact ⟨Summ.good (ht e (by simp)) hz, (ht e (by simp)).2⟩
      · exact ih' _ args sto r sto' h
    · exact ih' k args sto r sto' h

/-- A run over a pattern is a summary. -/
theorem Summ.of_run {P : Program} (hG : NoCount P) (hm : P.follows .mixedOrders = true) {t : List Summ} (ht : ∀ e, e ∈ t → e.Ok P) {n : Nat} {e : Summ} (h : symRun P (summK t) [] n e.k e.pat ⟨0, [], 0⟩ = some (e.r, e.s)) : e.Ok P :=
  ⟨fun ρ s B => (symRun_ok hG hm (Γ := []) (by simp) (summK_ok ht) n e.k e.pat _ e.r e.s h).1, (symRun_ok (ρ := fun _ => 0) (s := ⟨fun _ _ => ByteArray.empty, fun _ => [], fun _ => True⟩) (B := 0) hG hm (Γ := []) (by simp) (summK_ok ht) n e.k e.pat _ e.r e.s h).2⟩

end Go.Sx

/-
  RUNS OF THE MACHINE BY HAND: trees with room, loops by an invariant.
-/
namespace Go.Sx

section
variable {I : Type} {N : Num I} {T : TypeId → Option Ti} {C : FuncId → List (V I) → Sto I → Option (V I × Sto I)} {nt : Nat} {D : List Oper → St I → Option (St I)} {kp : Code → Option (List Nat)} {fresh : Tr (V I)}

/-- The temporaries behind a value's storing, for slots that there are. -/
theorem setTm_some {tm : Tr (V I)} {d : Nat} {v : V I} (h : d < nt) : setTm nt tm (some d) v = tm.set .any v d := by
  simp only [setTm, bite_eq]
  rw [if_neg]
  simp [Nat.ble_eq]; omega

end
end Go.Sx

/-
  Words for runs by hand.
-/
namespace Go.Sx

@[simp] theorem sym_lit (Γ : List Fact) (n : Int) : (symNum Γ).lit n = .c n := rfl
@[simp] theorem sym_conc (Γ : List Fact) (n : Int) : (symNum Γ).conc (.c n) = some n := rfl
theorem sym_lt (Γ : List Fact) (a b : Int) : (symNum Γ).cmp .lss (.c a) (.c b) = some (decide (a < b)) := by
  show some (ilt a b) = _; rw [ilt_eq]
theorem sym_eq (Γ : List Fact) (a b : Int) : (symNum Γ).cmp .eql (.c a) (.c b) = some (a == b) := by
  show some (ieq a b) = _; rw [ieq_eq]
theorem peq_self : ∀ p : Poly, peq p p = true := by
  intro p
  induction p with
  | nil => rfl
  | cons t r ih =>
    have : peq (t :: r) (t :: r) = bite (Nat.beq t.1 t.1) (bite (Nat.beq t.2 t.2) (peq r r) false) false := rfl
    rw [this, ih]; simp [bite_eq]
theorem eqSy_self (Γ : List Fact) (x : Sy) : eqSy Γ x x = some true := by
  cases x with
  | c a => simp [eqSy, ieq_eq]
  | p l => simp [eqSy, Sy.same, peq_self, bite_eq]
theorem sym_eqs (Γ : List Fact) (x : Sy) : (symNum Γ).cmp .eql x x = some true := eqSy_self Γ x
theorem sym_neqs (Γ : List Fact) (x : Sy) : (symNum Γ).cmp .neq x x = some false := by show (eqSy Γ x x).map not = _; rw [eqSy_self]; rfl
theorem sym_neq (Γ : List Fact) (a b : Int) : (symNum Γ).cmp .neq (.c a) (.c b) = some (!(a == b)) := by
  show (some (ieq a b)).map not = _; rw [ieq_eq]; rfl
theorem sym_gtr (Γ : List Fact) (a b : Int) : (symNum Γ).cmp .gtr (.c a) (.c b) = some (decide (b < a)) := by
  show some (ilt b a) = _; rw [ilt_eq]
theorem sym_leq (Γ : List Fact) (a b : Int) : (symNum Γ).cmp .leq (.c a) (.c b) = some (!decide (b < a)) := by
  show (some (ilt b a)).map not = _; rw [ilt_eq]; rfl
theorem sym_geq (Γ : List Fact) (a b : Int) : (symNum Γ).cmp .geq (.c a) (.c b) = some (!decide (a < b)) := by
  show (some (ilt a b)).map not = _; rw [ilt_eq]; rfl
theorem sym_add (Γ : List Fact) (a b : Int) : (symNum Γ).arith .add .i64 (.c a) (.c b) = some (.c (IntKind.i64.wrap (a + b))) := rfl
theorem wrap_in {a : Int} (h1 : -9223372036854775808 ≤ a) (h2 : a ≤ 9223372036854775807) : IntKind.i64.wrap a = a := by
  apply wrap_of_wf
  have h0 : IntKind.i64.min = -9223372036854775808 := by decide
  have h9 : IntKind.i64.max = 9223372036854775807 := by decide
  simp only [Lit.wf, h0, h9, Bool.and_eq_true, decide_eq_true_eq]
  exact ⟨h1, h2⟩

section
variable {P : Program} {K : FuncId → List (V Sy) → Sto Sy → Option (V Sy × Sto Sy)} {Γ : List Fact}

/-- A call by the function's own code. -/
theorem symRun_own {n : Nat} {k : FuncId} {args : List (V Sy)} {sto : Sto Sy} {fn : Func} {c : Code} {r : V Sy} {sto' : Sto Sy} {e : AExit} {st : St Sy} (hK : K k args sto = none) (hf : P.funcs[k]? = some fn) (hb : fn.body = some c)
    (hlen : args.length ≤ fn.ntmps)
    (hx : aexec (symNum Γ) (tiOf P) (symIn P K Γ n) fn.ntmps (adraw (symNum Γ) (tiOf P) (symIn P K Γ n) fn.ntmps)
      (aloopN (symNum Γ) (tiOf P) (symIn P K Γ n) fn.ntmps (adraw (symNum Γ) (tiOf P) (symIn P K Γ n) fn.ntmps) (fun _ => none) (Tr.full .any (depthFor fn.ntmps)) n) c ⟨setArgs args 0 (Tr.full .any (depthFor fn.ntmps)), sto⟩ = some (e, st))
    (he : e = .normal ∨ e = .ret) (ha : answer (tiOf P) st sto.next fn.results.toList = some (r, sto')) (hk : Nat.blt k 1000000 = true := by rfl) : symRun P K Γ (n + 1) k args sto = some (r, sto') := by
  have hb' : Nat.ble args.length fn.ntmps = true := by simpa [Nat.ble_eq] using hlen
  unfold symRun symIn
  unfold symIn at hx
  simp only [acallN, hk, hK, hf, hb, hb', bite_true]
  rw [hx]
  rcases he with rfl | rfl <;> exact ha
end

/-- Numbers are no interfaces. -/
theorem aifc_int {I : Type} {T : TypeId → Option Ti} {op : BinOp} {t : TypeId} {ox oy : Operand} {k l : IntKind} {m n : I} : aifc T op t ox oy (.int k m) (.int l n) = none := rfl

/-- A function that is called. -/
theorem acallV_func {I : Type} {C : FuncId → List (V I) → Sto I → Option (V I × Sto I)} {sto : Sto I} {g : FuncId} {first cap args : List (V I)} (hg : (g : Nat) < 1000000) : acallV C sto (.func g first cap) args = match C g (first ++ args ++ cap) ⟨sto.next, sto.obs, sto.next⟩ with
    | some (r, sto') => some (r, ⟨sto'.next, sto'.obs, if Nat.blt sto'.low sto.low then sto'.low else sto.low⟩)
    | none => none := by
  have : Nat.blt g 1000000 = true := by simpa [Nat.blt_eq] using hg
  simp only [acallV, this, bite_true]
  rfl
theorem symIn_run {P : Program} {K : FuncId → List (V Sy) → Sto Sy → Option (V Sy × Sto Sy)} {Γ : List Fact} {n : Nat} {k : FuncId} {args : List (V Sy)} {sto : Sto Sy} (hk : (k : Nat) < 1000000) : symIn P K Γ n k args sto = symRun P K Γ n k args sto := by
  have : Nat.blt k 1000000 = true := by simpa [Nat.blt_eq] using hk
  simp only [symRun, this, bite_true]

/-! ## What a piece of code ends in -/
section
variable {I : Type} {N : Num I} {T : TypeId → Option Ti} {C : FuncId → List (V I) → Sto I → Option (V I × Sto I)} {nt : Nat} {D : List Oper → St I → Option (St I)} {kp : Code → Option (List Nat)} {fresh : Tr (V I)}
  {L : Code → St I → Option (AExit × St I)} {Qn : St I → Prop} {Qx : AExit → St I → Prop}

/-- What holds behind a piece: 'Qn' where it goes on, 'Qx' where it leaves. -/
def Both (Qn : St I → Prop) (Qx : AExit → St I → Prop) : AExit → St I → Prop
  | .normal, st => Qn st
  | e, st => Qx e st

structure Wp (N : Num I) (T : TypeId → Option Ti) (C : FuncId → List (V I) → Sto I → Option (V I × Sto I)) (nt : Nat) (D : List Oper → St I → Option (St I)) (L : Code → St I → Option (AExit × St I)) (c : Code) (st : St I) (Qn : St I → Prop) (Qx : AExit → St I → Prop) : Prop where
  run : ∃ e st', aexec N T C nt D L c st = some (e, st') ∧ Both Qn Qx e st'

theorem Wp.skip {st : St I} (h : Qn st) : Wp N T C nt D L .skip st Qn Qx := ⟨⟨_, _, rfl, h⟩⟩
theorem Wp.ret {st : St I} (h : Qx .ret st) : Wp N T C nt D L .ret st Qn Qx := ⟨⟨_, _, rfl, h⟩⟩
theorem Wp.exit {id : Nat} {st : St I} (h : Qx (.exit id) st) : Wp N T C nt D L (.exit id) st Qn Qx := ⟨⟨_, _, rfl, h⟩⟩
theorem Wp.region {id : Nat} {ops : Array Oper} {st st' : St I} (h1 : aops N T C nt ops.toList ops.toList st = some st') (h : Qn st') : Wp N T C nt D L (.region id ops false) st Qn Qx :=
  ⟨⟨.normal, st', by simp only [aexec, Bool.false_eq_true, if_false, h1], h⟩⟩
theorem Wp.drawn {id : Nat} {ops : Array Oper} {st st' : St I} (h1 : D ops.toList st = some st') (h : Qn st') : Wp N T C nt D L (.region id ops true) st Qn Qx :=
  ⟨⟨.normal, st', by simp only [aexec, if_true, h1], h⟩⟩
theorem Wp.drawn1 {id : Nat} {ops : Array Oper} {st st' : St I} {F : List (List Nat)} {p : Nat} {tm : Tr (V I)} {acc : List (Nat × List (Nat × Ob I))} {nx : Nat} (h0 : okDraw ops.toList = some (F, p)) (h1 : dstsOk nt (ops.toList.take p) = true)
    (h2 : dhead N T C nt ops.toList F st.sto 0 st.sto.next (ops.toList.take p) st.tm [] = some (tm, acc, nx)) (h3 : aops N T C nt ops.toList (ops.toList.drop p) ⟨tm, ⟨nx, allN acc ++ st.sto.obs, st.sto.low⟩⟩ = some st') (h : Qn st') :
    Wp N T C nt (adraw N T C nt) L (.region id ops true) st Qn Qx :=
  Wp.drawn (by simp only [adraw, adraw0, h0, h1, bite_true, h2, h3]) h
theorem Wp.drawn2 {id : Nat} {ops : Array Oper} {st st' : St I} {tm : Tr (V I)} {acc : List (Nat × List (Nat × Ob I))} {nx : Nat} (p : Nat) (h0 : (okDraw ops.toList).map (·.2) = some p) (h1 : dstsOk nt (ops.toList.take p) = true)
    (h2 : ∀ F, dhead N T C nt ops.toList F st.sto 0 st.sto.next (ops.toList.take p) st.tm [] = some (tm, acc, nx)) (h3 : aops N T C nt ops.toList (ops.toList.drop p) ⟨tm, ⟨nx, allN acc ++ st.sto.obs, st.sto.low⟩⟩ = some st') (h : Qn st') :
    Wp N T C nt (adraw N T C nt) L (.region id ops true) st Qn Qx := by
  cases he : okDraw ops.toList with
  | none => rw [he] at h0; cases h0
  | some Fp =>
    obtain ⟨F, q⟩ := Fp
    rw [he] at h0
    cases h0
    exact Wp.drawn1 he h1 (h2 F) h3 h
theorem Wp.seq {a b : Code} {st : St I} (h : Wp N T C nt D L a st (fun st' => Wp N T C nt D L b st' Qn Qx) Qx) : Wp N T C nt D L (.seq a b) st Qn Qx := by
  obtain ⟨e, st', h1, h2⟩ := h.run
  cases e with
  | normal =>
    obtain ⟨e2, st2, h3, h4⟩ := Wp.run h2
    exact ⟨⟨e2, st2, by simp only [aexec, h1, h3], h4⟩⟩
  | exit id => exact ⟨⟨.exit id, st', by simp only [aexec, h1], h2⟩⟩
  | goto l => exact ⟨⟨.goto l, st', by simp only [aexec, h1], h2⟩⟩
  | ret => exact ⟨⟨.ret, st', by simp only [aexec, h1], h2⟩⟩
theorem Wp.mono {c : Code} {st : St I} {Qn' : St I → Prop} {Qx' : AExit → St I → Prop} (hn : ∀ st, Qn st → Qn' st) (hx : ∀ e st, Qx e st → Qx' e st) (h : Wp N T C nt D L c st Qn Qx) : Wp N T C nt D L c st Qn' Qx' := by
  obtain ⟨e, st', h1, h2⟩ := h.run
  refine ⟨⟨e, st', h1, ?_⟩⟩
  cases e with
  | normal => exact hn _ h2
  | exit id => exact hx _ _ h2
  | goto l => exact hx _ _ h2
  | ret => exact hx _ _ h2
theorem Wp.cond_t {c : Operand} {a b : Code} {st : St I} (hc : st.eval N c = .bool true) (h : Wp N T C nt D L a st Qn Qx) : Wp N T C nt D L (.cond c a b) st Qn Qx := by
  obtain ⟨e, st', h1, h2⟩ := h.run
  exact ⟨⟨e, st', by simp only [aexec, hc, if_true, h1], h2⟩⟩
theorem Wp.cond_f {c : Operand} {a b : Code} {st : St I} (hc : st.eval N c = .bool false) (h : Wp N T C nt D L b st Qn Qx) : Wp N T C nt D L (.cond c a b) st Qn Qx := by
  obtain ⟨e, st', h1, h2⟩ := h.run
  exact ⟨⟨e, st', by simp only [aexec, hc, Bool.false_eq_true, if_false, h1], h2⟩⟩
/-- What holds behind a block. -/
def Blk (id : Nat) (Qn : St I → Prop) (Qx : AExit → St I → Prop) : AExit → St I → Prop := fun e st => if e = .exit id then Qn st else Qx e st
theorem Wp.block {id : Nat} {c : Code} {st : St I} (h : Wp N T C nt D L c st Qn (Blk id Qn Qx)) : Wp N T C nt D L (.block id c) st Qn Qx := by
  obtain ⟨e, st', h1, h2⟩ := h.run
  cases e with
  | normal => exact ⟨⟨.normal, st', by simp only [aexec, h1], h2⟩⟩
  | ret => exact ⟨⟨.ret, st', by simp only [aexec, h1], by simpa [Both, Blk] using h2⟩⟩
  | goto l => exact ⟨⟨.goto l, st', by simp only [aexec, h1], by simpa [Both, Blk] using h2⟩⟩
  | exit id' =>
    by_cases he : id' = id
    · subst he; exact ⟨⟨.normal, st', by simp only [aexec, h1, if_true], by simpa [Both, Blk] using h2⟩⟩
    · exact ⟨⟨.exit id', st', by simp only [aexec, h1, if_neg he], by simpa [Both, Blk, he] using h2⟩⟩
theorem Blk.here {id : Nat} {st : St I} (h : Qn st) : Blk id Qn Qx (.exit id) st := by simpa [Blk] using h
theorem Blk.past {id : Nat} {e : AExit} {st : St I} (he : e ≠ .exit id) (h : Qx e st) : Blk id Qn Qx e st := by simpa [Blk, he] using h
theorem scopeOf_none {B : Code} (h : isScope B = false) : scopeOf B = none := by cases B <;> first | rfl | cases h
theorem rangeOf_none {B : Code} (h : isScope B = false) : rangeOf B = none := by cases B <;> first | rfl | cases h
theorem Wp.loop {B : Code} (hk : kp B = none) (his : isScope B = false) (Inv : Nat → St I → Prop) (n : Nat) {m : Nat} (hn : n < m) {st : St I} (h0 : Inv 0 st)
    (hstep : ∀ f i st, i < n → Inv i st → Wp N T C nt D (aloopN N T C nt D kp fresh f) B st (Inv (i + 1)) Qx)
    (hend : ∀ f st, Inv n st → Wp N T C nt D (aloopN N T C nt D kp fresh f) B st (fun _ => False) Qx) :
    Wp N T C nt D (aloopN N T C nt D kp fresh m) (.loop B) st Qn Qx := by
  have hsc := scopeOf_none his
  have hro := rangeOf_none his
  have key : ∀ k i st, i + k = n → Inv i st → ∀ m, ∃ e st', aloopN N T C nt D kp fresh (k + 1 + m) B st = some (e, st') ∧ e ≠ .normal ∧ Qx e st' := by
    intro k
    induction k with
    | zero =>
      intro i st hi h m
      have : i = n := by omega
      subst this
      obtain ⟨e, st', he, h2⟩ := (hend (0 + m) st h).run
      rw [show 0 + 1 + m = (0 + m) + 1 by omega]
      cases e with
      | normal => exact h2.elim
      | exit id => exact ⟨.exit id, st', by simp only [aloopN, hsc, hro, hk, havoc, he], by simp, h2⟩
      | goto l => exact ⟨.goto l, st', by simp only [aloopN, hsc, hro, hk, havoc, he], by simp, h2⟩
      | ret => exact ⟨.ret, st', by simp only [aloopN, hsc, hro, hk, havoc, he], by simp, h2⟩
    | succ k ih =>
      intro i st hi h m
      obtain ⟨e1, st1, h1, h2⟩ := (hstep (k + 1 + m) i st (by omega) h).run
      rw [show k + 1 + 1 + m = (k + 1 + m) + 1 by omega]
      cases e1 with
      | normal =>
        obtain ⟨e, st', h3, h4⟩ := ih (i + 1) st1 (by omega) h2 m
        exact ⟨e, st', by simp only [aloopN, hsc, hro, hk, havoc, h1]; exact h3, h4⟩
      | exit id => exact ⟨.exit id, st1, by simp only [aloopN, hsc, hro, hk, havoc, h1], by simp, h2⟩
      | goto l => exact ⟨.goto l, st1, by simp only [aloopN, hsc, hro, hk, havoc, h1], by simp, h2⟩
      | ret => exact ⟨.ret, st1, by simp only [aloopN, hsc, hro, hk, havoc, h1], by simp, h2⟩
  obtain ⟨e, st', h1, h2, h3⟩ := key n 0 st (by omega) h0 (m - n - 1)
  rw [show n + 1 + (m - n - 1) = m by omega] at h1
  refine ⟨⟨e, st', by simp only [aexec, his, bite_false, h1], ?_⟩⟩
  cases e with
  | normal => exact (h2 rfl).elim
  | exit id => exact h3
  | goto l => exact h3
  | ret => exact h3
end

theorem own_run {P : Program} {K : FuncId → List (V Sy) → Sto Sy → Option (V Sy × Sto Sy)} {Γ : List Fact} {n : Nat} {k : FuncId} {args : List (V Sy)} {sto : Sto Sy} {fn : Func} {c : Code} {r : V Sy × Sto Sy} (hK : K k args sto = none)
    (hf : P.funcs[k]? = some fn) (hb : fn.body = some c) (hlen : Nat.ble args.length fn.ntmps = true)
    (hx : Wp (symNum Γ) (tiOf P) (symIn P K Γ n) fn.ntmps (adraw (symNum Γ) (tiOf P) (symIn P K Γ n) fn.ntmps)
      (aloopN (symNum Γ) (tiOf P) (symIn P K Γ n) fn.ntmps (adraw (symNum Γ) (tiOf P) (symIn P K Γ n) fn.ntmps) (fun _ => none) (Tr.full .any (depthFor fn.ntmps)) n) c ⟨setArgs args 0 (Tr.full .any (depthFor fn.ntmps)), sto⟩
      (fun st => answer (tiOf P) st sto.next fn.results.toList = some r) (fun e st => e = .ret ∧ answer (tiOf P) st sto.next fn.results.toList = some r)) (hk : Nat.blt k 1000000 = true := by rfl) : symRun P K Γ (n + 1) k args sto = some r := by
  obtain ⟨e, st, h1, h2⟩ := hx.run
  cases e with
  | normal => exact symRun_own hK hf hb (by simpa [Nat.ble_eq] using hlen) h1 (.inl rfl) h2 hk
  | exit id => exact absurd h2.1 (by simp)
  | goto l => exact absurd h2.1 (by simp)
  | ret => exact symRun_own hK hf hb (by simpa [Nat.ble_eq] using hlen) h1 (.inr rfl) h2.2 hk

theorem own_run2 {P : Program} {K : FuncId → List (V Sy) → Sto Sy → Option (V Sy × Sto Sy)} {Γ : List Fact} {n : Nat} {k : FuncId} {args : List (V Sy)} {sto : Sto Sy} {fn : Func} {c : Code} {Q : V Sy × Sto Sy → Prop} (hK : K k args sto = none)
    (hf : P.funcs[k]? = some fn) (hb : fn.body = some c) (hlen : Nat.ble args.length fn.ntmps = true)
    (hx : Wp (symNum Γ) (tiOf P) (symIn P K Γ n) fn.ntmps (adraw (symNum Γ) (tiOf P) (symIn P K Γ n) fn.ntmps)
      (aloopN (symNum Γ) (tiOf P) (symIn P K Γ n) fn.ntmps (adraw (symNum Γ) (tiOf P) (symIn P K Γ n) fn.ntmps) (fun _ => none) (Tr.full .any (depthFor fn.ntmps)) n) c ⟨setArgs args 0 (Tr.full .any (depthFor fn.ntmps)), sto⟩
      (fun st => ∃ r, answer (tiOf P) st sto.next fn.results.toList = some r ∧ Q r) (fun e st => e = .ret ∧ ∃ r, answer (tiOf P) st sto.next fn.results.toList = some r ∧ Q r)) (hk : Nat.blt k 1000000 = true := by rfl) : ∃ r, symRun P K Γ (n + 1) k args sto = some r ∧ Q r := by
  obtain ⟨e, st, h1, h2⟩ := hx.run
  cases e with
  | normal => obtain ⟨r, h3, h4⟩ := h2; exact ⟨r, symRun_own hK hf hb (by simpa [Nat.ble_eq] using hlen) h1 (.inl rfl) h3 hk, h4⟩
  | exit id => exact absurd h2.1 (by simp)
  | goto l => exact absurd h2.1 (by simp)
  | ret => obtain ⟨r, h3, h4⟩ := h2.2; exact ⟨r, symRun_own hK hf hb (by simpa [Nat.ble_eq] using hlen) h1 (.inr rfl) h3 hk, h4⟩

end Go.Sx

/-
  Lists of numbers of any length.
-/
namespace Go.Sx

/-- The cells of a list of numbers. -/
def ints (ns : List Sy) : List (V Sy) := ns.map (V.int .i64)
@[simp] theorem ints_length (ns : List Sy) : (ints ns).length = ns.length := List.length_map ..
@[simp] theorem ints_get (ns : List Sy) (i : Nat) : (ints ns)[i]? = ns[i]?.map (V.int .i64) := List.getElem?_map ..
theorem ints_nm (ns : List Sy) (ks vs : List (V Sy)) : ints ns ≠ [.mpc ks vs] := by
  intro h
  cases ns with
  | nil => simp [ints] at h
  | cons x r => simp [ints] at h
theorem isMp_ints (ns : List Sy) : isMp (ints ns) = false := by
  cases h : isMp (ints ns) with
  | false => rfl
  | true =>
    unfold isMp at h
    split at h
    · rename_i ks vs he; exact (ints_nm ns ks vs he).elim
    · cases h
@[simp] theorem lookC_ints {l : List (Nat × Ob Sy)} {o : Nat} {ns : List Sy} (h : look l o = some (ints ns)) : lookC l o = some (ints ns) := lookC_iff.2 ⟨h, isMp_ints ns⟩
@[simp] theorem noBc_ints (ns : List Sy) : noBc (ints ns) = ints ns := by
  apply noBc_one
  · intro j h
    cases ns with
    | nil => simp [ints] at h
    | cons x r => simp [ints] at h
  · exact ints_nm ns
@[simp] theorem setRange_nil {α : Type} (cs : List α) (off : Nat) : setRange cs off [] = cs := rfl
@[simp] theorem setRange_cons {α : Type} (cs : List α) (off : Nat) (v : α) (r : List α) : setRange cs off (v :: r) = setRange (cs.set off v) (off + 1) r := rfl
@[simp] theorem cells_int (k : IntKind) (x : Sy) : (V.int k x).cells = some [V.int k x] := rfl
@[simp] theorem oneCell_int (k : IntKind) (x : Sy) : (V.int k x).oneCell = true := rfl


/-- Half done: the first numbers of one list, the others of another. -/
def half (i : Nat) (as bs : List Sy) : List Sy := as.take i ++ bs.drop i
@[simp] theorem half_length (i : Nat) (as bs : List Sy) (h : as.length = bs.length) : (half i as bs).length = as.length := by simp [half]; omega
theorem ints_set (ns : List Sy) (i : Nat) (x : Sy) : (ints ns).set i (.int .i64 x) = ints (ns.set i x) := by simp [ints, List.map_set]
theorem ints_replicate (n : Nat) (x : Sy) : List.replicate n (V.int .i64 x) = ints (List.replicate n x) := by simp [ints]

@[simp] theorem ints_getElem (ns : List Sy) (i : Nat) (h : i < (ints ns).length) : (ints ns)[i] = .int .i64 (ns[i]'(by simpa using h)) := by simp [ints]
theorem dropNew_id {I : Type} {n : Nat} {l : List (Nat × Ob I)} (h : Desc n l) : dropNew n l = l := by
  cases l with
  | nil => rfl
  | cons p r => obtain ⟨o, b⟩ := p; simp only [dropNew]; rw [if_pos]; simpa [Nat.blt_eq] using h.1
theorem keepNew_id {I : Type} {n : Nat} {ks : List Nat} {l : List (Nat × Ob I)} (h : Desc n l) : keepNew n ks l = l := by
  cases l with
  | nil => rfl
  | cons p r => obtain ⟨o, b⟩ := p; simp only [keepNew]; rw [if_pos]; simpa [Nat.blt_eq] using h.1
theorem takeNew_id {I : Type} {n : Nat} {l : List (Nat × Ob I)} (h : Desc n l) : takeNew n l = [] := by
  cases l with
  | nil => rfl
  | cons p r => obtain ⟨o, b⟩ := p; have : ¬ n ≤ o := by have := h.1; omega
                simp [takeNew, bite_eq, Nat.ble_eq, this]
theorem trim_plain {sto : Sto Sy} {r : V Sy} (hd : Desc sto.next sto.obs) (hr : r.refs = []) : Sto.trim sto.next r sto = sto := by
  unfold Sto.trim
  split
  · rfl
  · rw [hr]; simp [dropNew_id hd]
theorem setTm_none {I : Type} (nt : Nat) (tm : Tr (V I)) (v : V I) : setTm nt tm none v = tm := rfl

end Go.Sx

/-
  WHAT A RUN AT THE VALUES THEMSELVES TELLS OF EVERY CALL: lists of any length, one run for each.
-/
namespace Go.Sx
open Go.RowKit

/-- One value of two stores: the same under either reading, its objects n further on. -/
inductive DR (ρ' ρ : Nat → Int) (n : Nat) : V Sy → V Sy → Prop
  | bool (b : Bool) : DR ρ' ρ n (.bool b) (.bool b)
  | int (k : IntKind) {s t : Sy} : t.den ρ = s.den ρ' → DR ρ' ρ n (.int k s) (.int k t)
  | str (s : ByteArray) : DR ρ' ρ n (.str s) (.str s)
  | nil : DR ρ' ρ n .nil .nil
  | emp : DR ρ' ρ n .emp .emp
  | nilPtr : DR ρ' ρ n .nilPtr .nilPtr
  | nilFunc : DR ρ' ρ n .nilFunc .nilFunc
  | nilIface : DR ρ' ρ n .nilIface .nilIface
  | rsl (o off len : Nat) (cap : Option Nat) : DR ρ' ρ n (.rsl o off len cap) (.rsl (n + o) off len cap)
  | ptr (o off : Nat) : DR ρ' ρ n (.ptr o off) (.ptr (n + o) off)
  | agg {cs ds : List (V Sy)} : cs.length = ds.length → (∀ (i : Nat) (x y : V Sy), cs[i]? = some x → ds[i]? = some y → DR ρ' ρ n x y) → DR ρ' ρ n (.agg cs) (.agg ds)
  | tup {cs ds : List (V Sy)} : cs.length = ds.length → (∀ (i : Nat) (x y : V Sy), cs[i]? = some x → ds[i]? = some y → DR ρ' ρ n x y) → DR ρ' ρ n (.tup cs) (.tup ds)

def DRs (ρ' ρ : Nat → Int) (n : Nat) (xs ys : List (V Sy)) : Prop := xs.length = ys.length ∧ ∀ (i : Nat) (x y : V Sy), xs[i]? = some x → ys[i]? = some y → DR ρ' ρ n x y

/-- Objects of two stores. -/
structure DO (ρ' ρ : Nat → Int) (n m : Nat) (l l' : List (Nat × Ob Sy)) : Prop where
  desc : Desc (n + m) l'
  ge : ∀ q, q ∈ l' → n ≤ q.1
  get : ∀ o y, look l' o = some y → ∃ x, look l (o - n) = some x ∧ n ≤ o ∧ DRs ρ' ρ n x y

theorem DO.none (ρ' ρ : Nat → Int) (n m : Nat) (l : List (Nat × Ob Sy)) : DO ρ' ρ n m l [] := ⟨trivial, by simp, by simp [look]⟩

theorem get_of_len {α : Type} {xs ys : List α} {i : Nat} {y : α} (h : xs.length = ys.length) (hy : ys[i]? = some y) : ∃ x, xs[i]? = some x :=
  ⟨_, List.getElem?_eq_getElem (Nat.lt_of_lt_of_eq (List.getElem?_eq_some_iff.1 hy).1 h.symm)⟩

theorem dr_VR {ρ ρ' : Nat → Int} {s : Sms} {n B B' : Nat} {c' c'' : Cx} (hκ : ∀ o b, c'.κ o = some b → c''.κ (n + o) = some b) {x : V Sy} {v : Value}
    (h : VR ⟨Sy.den ρ', s⟩ B' c' x v) : ∀ {y}, DR ρ' ρ n x y → VR ⟨Sy.den ρ, s⟩ B c'' y v := by
  induction h with
  | any v => intro y h; cases h
  | bool b => intro y h; cases h; exact .bool b
  | int k t => intro y h; cases h with | int _ h => exact VR_int' h
  | str t => intro y h; cases h; exact .str t
  | sst j xs => intro y h; cases h
  | nilIface => intro y h; cases h; exact .nilIface
  | nilPtr => intro y h; cases h; exact .nilPtr
  | nilFunc => intro y h; cases h; exact .nilFunc
  | nil => intro y h; cases h; exact .nil
  | emp ad cap hq => intro y h; cases h; exact .emp ad cap hq
  | slice => intro y h; cases h
  | snil => intro y h; cases h
  | bc => intro y h; cases h
  | aint => intro y h; cases h
  | bsl => intro y h; cases h
  | bsl0 => intro y h; cases h
  | bys => intro y h; cases h
  | bys0 => intro y h; cases h
  | brs => intro y h; cases h
  | rsl hk => intro y h; cases h; exact .rsl (hκ _ _ hk)
  | rslo hk hlc hn => intro y h; cases h; exact .rslo (hκ _ _ hk) hlc hn
  | ptr hk => intro y h; cases h; exact .ptr (hκ _ _ hk)
  | cel => intro y h; cases h
  | func => intro y h; cases h
  | yld => intro y h; cases h
  | mp => intro y h; cases h
  | mpc => intro y h; cases h
  | iface => intro y h; cases h
  | agg hl he ih =>
    intro y h
    cases h with
    | agg e1 e2 =>
    refine .agg (by rw [← e1]; exact hl) (fun i z v hz hv => ?_)
    obtain ⟨x, hx⟩ := get_of_len e1 hz
    exact ih i x v hx hv (e2 i x z hx hz)
  | tup hl he ih =>
    intro y h
    cases h with
    | tup e1 e2 =>
    refine .tup (by rw [← e1]; exact hl) (fun i z v hz hv => ?_)
    obtain ⟨x, hx⟩ := get_of_len e1 hz
    exact ih i x v hx hv (e2 i x z hx hz)

theorem drs_VRs {ρ ρ' : Nat → Int} {s : Sms} {n B B' : Nat} {c' c'' : Cx} (hκ : ∀ o b, c'.κ o = some b → c''.κ (n + o) = some b) {xs ys : List (V Sy)} {vs : List Value}
    (h : VRs ⟨Sy.den ρ', s⟩ B' c' xs vs) (hr : DRs ρ' ρ n xs ys) : VRs ⟨Sy.den ρ, s⟩ B c'' ys vs := by
  refine ⟨by rw [← hr.1]; exact h.1, fun i y v hy hv => ?_⟩
  obtain ⟨x, hx⟩ := get_of_len hr.1 hy
  exact dr_VR hκ (h.2 i x v hx hv) (hr.2 i x y hx hy)

theorem lift_good {P : Program} {ρ ρ' : Nat → Int} {s : Sms} {k : FuncId} {pat : List (V Sy)} {R : V Sy} {S : Sto Sy} (hG : ∀ B', Good P ⟨Sy.den ρ', s⟩ B' k pat ⟨0, [], 0⟩ R S)
    {B : Nat} {args : List (V Sy)} {sto : Sto Sy} {y : V Sy} {obs : List (Nat × Ob Sy)}
    (hargs : ∀ (c : Cx), SInv ⟨Sy.den ρ, s⟩ B c sto → ∀ vs, VRs ⟨Sy.den ρ, s⟩ B c args vs → VRs ⟨Sy.den ρ', s⟩ c.w.heap.size ⟨c.w, fun _ => none⟩ pat vs)
    (hy : DR ρ' ρ sto.next R y) (ro : DO ρ' ρ sto.next S.next S.obs obs) :
    Good P ⟨Sy.den ρ, s⟩ B k args sto y ⟨sto.next + S.next, obs ++ sto.obs, sto.low⟩ := by
  intro c rargs hinv hra
  have hp := hargs c hinv _ hra
  have hinv0 : SInv ⟨Sy.den ρ', s⟩ c.w.heap.size ⟨c.w, fun _ => none⟩ (⟨0, [], 0⟩ : Sto Sy) :=
    ⟨Nat.le_refl _, fun _ _ => rfl, fun o b n h => (by cases h), fun o x h => (by cases h), fun o o' x x' b n n' h => (by cases h), trivial, hinv.at0⟩
  refine Calls.mono (hG c.w.heap.size ⟨c.w, fun _ => none⟩ rargs hinv0 hp) ?_
  rintro ev w' ⟨rv, c', rfl, rfl, hst, hv⟩
  have hbe : Below c.w.heap.size c.w c'.w := hst.below
  let c'' : Cx := ⟨c'.w, fun o => if o < sto.next then c.κ o else c'.κ (o - sto.next)⟩
  have hκ : ∀ o b, c'.κ o = some b → c''.κ (sto.next + o) = some b := by
    intro o b hb
    simp only [c'']
    rw [if_neg (by omega), Nat.add_sub_cancel_left]; exact hb
  have hold : ∀ o x, c.κ o = some x → c''.κ o = some x := by
    intro o x hx
    have : o < sto.next := by
      rcases Nat.lt_or_ge o sto.next with h1 | h1
      · exact h1
      · rw [hinv.fresh o h1] at hx; cases hx
    simp only [c'']; rw [if_pos this]; exact hx
  have hle : Cx.le B c c'' := ⟨fun b hb => hbe.block b (Nat.lt_of_lt_of_le hb hinv.base), hold, hst.oth⟩
  obtain ⟨r1, r2, r3⟩ := ro
  have hnew : ∀ o b n, c'.κ o = some (b, n) → c.w.heap.size ≤ b ∧ b < c'.w.heap.size := fun o b n hk => hst.inv.blk o b n hk
  -- an object of the new ones, or of the old
  have hcase : ∀ o x, look (obs ++ sto.obs) o = some x → (∃ x0, look S.obs (o - sto.next) = some x0 ∧ sto.next ≤ o ∧ DRs ρ' ρ sto.next x0 x) ∨ (o < sto.next ∧ look sto.obs o = some x) := by
    intro o x hx
    rw [look_append] at hx
    split at hx
    · rename_i z hz
      cases hx
      exact .inl (r3 o _ hz)
    · exact .inr ⟨hinv.desc.look_lt hx, hx⟩
  refine ⟨rv, c'', rfl, rfl, ⟨⟨Nat.le_trans hinv.base hbe.size, fun o ho => ?_, fun o b n hk => ?_, fun o x hx => ?_, fun o o' x x' b n n' hx hx' hk hk' => ?_, ?_, fun w hb => hinv.g w ((hbe.mono hinv.base).keepC.trans hb)⟩, hold,
    hbe.mono hinv.base, Nat.le_add_right _ _, Nat.le_refl _, fun b hb _ => hbe.block b hb, fun o b n hk hn hb => ?_, fun o x hk hn => ?_, hst.frz, hst.oth⟩, dr_VR hκ hv hy⟩
  · simp only at ho
    simp only [c'']
    rw [if_neg (by omega)]
    exact hst.inv.fresh _ (by omega)
  · simp only [c''] at hk
    split at hk
    · have := hinv.blk o b n hk
      exact ⟨this.1, Nat.lt_of_lt_of_le this.2 hbe.size⟩
    · have := hnew _ _ _ hk
      exact ⟨Nat.le_trans hinv.base this.1, this.2⟩
  · rcases hcase o x hx with ⟨x0, k1, k2, k3⟩ | ⟨k1, k2⟩
    · have hl := k3.1
      have hm0 : isMp x0 = false := by
        cases hm : isMp x0 with
        | false => rfl
        | true =>
          unfold isMp at hm
          split at hm
          · cases x with
            | nil => simp at hl
            | cons y0 r => exact nomatch (k3.2 0 _ y0 rfl rfl)
          · cases hm
      obtain ⟨b, cur, el, e1, e2, e3, e4⟩ := hst.inv.obc _ x0 (lookC_iff.2 ⟨k1, hm0⟩)
      refine ⟨b, _, cur.size, by simp only [c'']; rw [if_neg (by omega)]; exact e1, e2, .cells el (by rw [← hl]; exact e3) ?_ (fun ks vs hm => by
          subst hm
          cases x0 with
          | nil => simp at hl
          | cons y0 r => exact nomatch (k3.2 0 y0 _ rfl rfl))⟩
      exact ⟨by rw [← hl]; exact drs_VRs hκ e4.vrs k3, fun j hj => by
          subst hj
          obtain ⟨_, e2⟩ := k3
          cases x0 with
          | nil => simp at hl
          | cons y0 r => exact nomatch (e2 0 y0 _ rfl rfl)⟩
    · obtain ⟨b, cur, el, e1, e2, e4⟩ := hinv.ob o x k2
      refine ⟨b, cur, el, hold _ _ e1, ?_, e4.mono hle⟩
      show c'.w.heap[b]? = _
      rw [hbe.block b (hinv.blk _ _ _ e1).2]; exact e2
  · simp only [c''] at hk hk'
    rcases hcase o x hx with ⟨x0, k1, k2, k3⟩ | ⟨k1, k2⟩ <;> rcases hcase o' x' hx' with ⟨x0', k1', k2', k3'⟩ | ⟨k1', k2'⟩
    · rw [if_neg (by omega)] at hk hk'
      have := hst.inv.inj _ _ _ _ b n n' k1 k1' hk hk'
      omega
    · rw [if_neg (by omega)] at hk
      rw [if_pos k1'] at hk'
      have h1 := (hnew _ _ _ hk).1
      have h2 := (hinv.blk _ _ _ hk').2
      omega
    · rw [if_pos k1] at hk
      rw [if_neg (by omega)] at hk'
      have h1 := (hnew _ _ _ hk').1
      have h2 := (hinv.blk _ _ _ hk).2
      omega
    · rw [if_pos k1] at hk
      rw [if_pos k1'] at hk'
      exact hinv.inj o o' x x' b n n' k2 k2' hk hk'
  · exact Desc.append (Nat.le_add_right _ _) r1 r2 hinv.desc
  · simp only [c''] at hk
    split at hk
    · rw [hn] at hk; cases hk
    · have := (hnew _ _ _ hk).1; omega
  · simp only [c''] at hk
    split at hk
    · rw [hn] at hk; cases hk
    · omega

/-! ## Arguments: the same values -/
/-- An argument of a store against one given as data. -/
inductive AR (ρ' ρ : Nat → Int) (sto : Sto Sy) : V Sy → V Sy → Prop
  | bool (b : Bool) : AR ρ' ρ sto (.bool b) (.bool b)
  | int (k : IntKind) {s t : Sy} : s.den ρ' = t.den ρ → AR ρ' ρ sto (.int k s) (.int k t)
  | str (s : ByteArray) : AR ρ' ρ sto (.str s) (.str s)
  | nil : AR ρ' ρ sto .nil .nil
  | emp : AR ρ' ρ sto .emp .emp
  | rsl {ns ts : List Sy} {o off len : Nat} {cap : Option Nat} : sto.cells o off len = some (ints ts) → (∀ cp, cap = some cp → len ≤ cp) → ns.map (Sy.den ρ') = ts.map (Sy.den ρ) → AR ρ' ρ sto (.slice (ints ns)) (.rsl o off len cap)
  | slice {ns ts : List Sy} : ns.map (Sy.den ρ') = ts.map (Sy.den ρ) → AR ρ' ρ sto (.slice (ints ns)) (.slice (ints ts))

theorem ints_rel {ρ ρ' : Nat → Int} {s : Sms} {B B' : Nat} {c c' : Cx} : ∀ {ns ts : List Sy} {vs : List Value}, ns.map (Sy.den ρ') = ts.map (Sy.den ρ) → VRs ⟨Sy.den ρ, s⟩ B c (ints ts) vs → VRs ⟨Sy.den ρ', s⟩ B' c' (ints ns) vs := by
  intro ns
  induction ns with
  | nil => intro ts vs h hv; cases ts with
    | nil => exact ⟨hv.1, by simp [ints]⟩
    | cons t r => cases h
  | cons p r ih =>
    intro ts vs h hv
    cases ts with
    | nil => cases h
    | cons t rt =>
      cases vs with
      | nil => simp [VRs, ints] at hv
      | cons v rv =>
        simp only [List.map_cons, List.cons.injEq] at h
        have h0 : VR ⟨Sy.den ρ, s⟩ B c (.int .i64 t) v := VRs.head hv
        cases h0
        exact .cons (VR_int' h.1) (ih h.2 (VRs.tail hv))

theorem AR.rel {ρ ρ' : Nat → Int} {s : Sms} {B : Nat} {c : Cx} {sto : Sto Sy} (hinv : SInv ⟨Sy.den ρ, s⟩ B c sto) {p x : V Sy} {v : Value} (h : AR ρ' ρ sto p x) (hx : VR ⟨Sy.den ρ, s⟩ B c x v) :
    VR ⟨Sy.den ρ', s⟩ c.w.heap.size ⟨c.w, fun _ => none⟩ p v := by
  cases h with
  | bool b => cases hx; exact .bool b
  | str b => cases hx; exact .str b
  | nil => cases hx; exact .nil
  | emp => cases hx with | emp ad cap hq => exact .emp ad cap hq
  | int k h => cases hx; exact VR_int' h
  | @rsl ns ts o off len cap hc hcap hd =>
    have own : ∀ {b n cp : Nat}, c.κ o = some (b, n) → len ≤ cp → VR ⟨Sy.den ρ', s⟩ c.w.heap.size ⟨c.w, fun _ => none⟩ (.slice (ints ns)) (.slice (some ⟨b, off, none⟩) len cp) := by
      intro b n cp hk hle
      simp only [Sto.cells] at hc
      split at hc
      · rename_i blk hblk
        split at hc
        · rename_i hl
          have hc := Option.some.inj hc
          obtain ⟨us, hlen, hcell, hvr, _⟩ := hinv.cells hblk hk
          have h1 := hvr.sub off len
          rw [hc] at h1
          have h2 := ints_rel (ρ' := ρ') (B' := c.w.heap.size) (c' := ⟨c.w, fun _ => none⟩) hd h1
          have hll : (ints ts).length = len := by rw [← hc]; simp [List.length_take, List.length_drop]; omega
          have hxl : (ints ns).length = len := by
            have := congrArg List.length hd
            simp at this hll ⊢
            omega
          have := VR.slice (Δ := ⟨Sy.den ρ', s⟩) (B := c.w.heap.size) (c := ⟨c.w, fun _ => none⟩) (xs := ints ns) (b := b) (off := off) (cap := cp) ((us.drop off).take len) h2.1.symm (by omega)
            (hinv.blk _ _ _ hk).2 (fun j u hj => by
              rw [List.getElem?_take] at hj
              split at hj
              · rw [List.getElem?_drop] at hj; exact hcell _ _ hj
              · cases hj) h2.2
          rwa [hxl] at this
        · cases hc
      · cases hc
    cases hx with
    | rsl hk => exact own hk (hcap _ rfl)
    | rslo hk hlc hn => exact own hk hlc
  | @slice ns ts hd =>
    have hl : ns.length = ts.length := by simpa using congrArg List.length hd
    generalize hg : ints ts = ys at hx
    cases hx with
    | snil =>
      have : ns = [] := by
        have := congrArg List.length hg
        simp at this
        cases ns with
        | nil => rfl
        | cons a r => simp [this] at hl
      subst this
      exact .snil
    | slice us h1 h2 h3 h4 h5 =>
      subst hg
      have h6 := ints_rel (ρ' := ρ') (B' := c.w.heap.size) (c' := ⟨c.w, fun _ => none⟩) hd ⟨h1.symm, h5⟩
      have hx : (ints ns).length = (ints ts).length := by simp [hl]
      have := VR.slice (Δ := ⟨Sy.den ρ', s⟩) (B := c.w.heap.size) (c := ⟨c.w, fun _ => none⟩) us h6.1.symm (by rw [hx]; exact h2) (Nat.lt_of_lt_of_le h3 hinv.base) h4 h6.2
      rwa [hx] at this

end Go.Sx

/-
  Contracts for answers that are no memory.
-/
namespace Go.Sx
open Go.RowKit

/-- An answer that reaches no memory. -/
def V.plain : V Sy → Bool
  | .bool _ | .int _ _ | .str _ | .nil | .nilPtr | .nilFunc | .nilIface => true
  | _ => false

theorem DR_plain {ρ' ρ : Nat → Int} {s : Sms} {B B' n : Nat} {c c' : Cx} {x y : V Sy} {v : Value} (h : y.plain = true) (hd : DR ρ' ρ n x y) (hv : VR ⟨Sy.den ρ', s⟩ B' c' x v) : VR ⟨Sy.den ρ, s⟩ B c y v := by
  cases hd with
  | bool b => cases hv; exact .bool _
  | int k he => cases hv; exact VR_int' he
  | str b => cases hv; exact .str _
  | nil => cases hv; exact .nil
  | nilPtr => cases hv; exact .nilPtr
  | nilFunc => cases hv; exact .nilFunc
  | nilIface => cases hv; exact .nilIface
  | _ => simp [V.plain] at h

/-- Behind a call over data whose answer reaches no memory, the store is the one before. -/
theorem lift_plain {P : Program} {ρ ρ' : Nat → Int} {s : Sms} {k : FuncId} {pat : List (V Sy)} {R : V Sy} {S : Sto Sy} (hG : ∀ B', Good P ⟨Sy.den ρ', s⟩ B' k pat ⟨0, [], 0⟩ R S)
    {B : Nat} {args : List (V Sy)} {sto : Sto Sy} {y : V Sy}
    (hargs : ∀ (c : Cx), SInv ⟨Sy.den ρ, s⟩ B c sto → ∀ vs, VRs ⟨Sy.den ρ, s⟩ B c args vs → VRs ⟨Sy.den ρ', s⟩ c.w.heap.size ⟨c.w, fun _ => none⟩ pat vs)
    (hp : y.plain = true) (hy : DR ρ' ρ sto.next R y) :
    Good P ⟨Sy.den ρ, s⟩ B k args sto y sto := by
  intro c rargs hinv hra
  have hinv0 : SInv ⟨Sy.den ρ', s⟩ c.w.heap.size ⟨c.w, fun _ => none⟩ (⟨0, [], 0⟩ : Sto Sy) :=
    ⟨Nat.le_refl _, fun _ _ => rfl, fun o b n h => (by cases h), fun o x h => (by cases h), fun o o' x x' b n n' h => (by cases h), trivial, hinv.at0⟩
  refine Calls.mono (hG c.w.heap.size ⟨c.w, fun _ => none⟩ rargs hinv0 (hargs c hinv _ hra)) ?_
  rintro ev w' ⟨rv, c', rfl, rfl, hst, hv⟩
  have hbe : Below c.w.heap.size c.w c'.w := hst.below
  let c'' : Cx := ⟨c'.w, c.κ⟩
  have hle : Cx.le B c c'' := ⟨fun b hb => hbe.block b (Nat.lt_of_lt_of_le hb hinv.base), fun _ _ h => h, hst.oth⟩
  refine ⟨rv, c'', rfl, rfl, ⟨⟨Nat.le_trans hinv.base hbe.size, hinv.fresh, fun o b n hk => ?_, fun o x hx => ?_, hinv.inj, hinv.desc, fun w hb => hinv.g w ((hbe.mono hinv.base).keepC.trans hb)⟩, fun _ _ h => h,
    hbe.mono hinv.base, Nat.le_refl _, Nat.le_refl _, fun b hb _ => hbe.block b hb, fun o b n hk hn hb => ?_, fun o x hk hn => ?_, hst.frz, hst.oth⟩, DR_plain hp hy hv⟩
  · have := hinv.blk o b n hk
    exact ⟨this.1, Nat.lt_of_lt_of_le this.2 hbe.size⟩
  · obtain ⟨b, cur, el, e1, e2, e4⟩ := hinv.ob o x hx
    refine ⟨b, cur, el, e1, ?_, e4.mono hle⟩
    show c'.w.heap[b]? = _
    rw [hbe.block b (hinv.blk _ _ _ e1).2]; exact e2
  · rw [hn] at hk; cases hk
  · rw [hn] at hk; cases hk

end Go.Sx

/-
  A list of numbers among a row's arguments.
-/
namespace Go.Sx
open Go.ChangeShapes Go.WideShapes Go.ChangeAt Go.RowKit

/-- The numbers themselves. -/
def nums (zs : List Int) : List Sy := zs.map Sy.c
@[simp] theorem nums_length (zs : List Int) : (nums zs).length = zs.length := List.length_map ..
@[simp] theorem nums_get (zs : List Int) (i : Nat) : (nums zs)[i]? = zs[i]?.map Sy.c := List.getElem?_map ..
@[simp] theorem nums_getElem (zs : List Int) (i : Nat) (h : i < (nums zs).length) : (nums zs)[i] = .c (zs[i]'(by simpa using h)) := by simp [nums]

theorem has_plain {P : Program} {t e : TypeId} {r : Reach} {base : Nat} {W : World} {a : Addr} {len cap : Nat} (ht : P.underlying t = some (.slice e)) (hval : Value.okWide P W r base t (.slice (some a) len cap)) : a.spot = none ∧ a.block < W.heap.size := by
  simp only [Value.okWide, ht, Cell.okWide, Cell.ok] at hval
  obtain ⟨_, _, _, hs, row, cells, hsh, _⟩ := hval
  refine ⟨hs, ?_⟩
  rcases Nat.lt_or_ge a.block W.heap.size with h | h
  · exact h
  · simp [World.shape?, Array.getElem?_eq_none h] at hsh

end Go.Sx

/-
  Lists of any length as symbols: what holds of them is told of the numbers themselves.
-/
namespace Go.Sx
open Go.RowKit

theorem look_put_self {α : Type} {l : List (Nat × α)} {o : Nat} {x y : α} (h : look l o = some x) : look (put l o y) o = some y := by
  induction l with
  | nil => cases h
  | cons p r ih =>
    obtain ⟨k, z⟩ := p
    simp only [put, beq_dec]
    rw [look_cons] at h
    by_cases hk : k = o
    · subst hk; simp [look_cons]
    · rw [if_neg hk] at h
      simp only [hk, decide_false, Bool.false_eq_true, if_false, look_cons]
      exact ih h

/-- A mark, step by step. -/
def kk (x : Int) : Nat → Int
  | 0 => x
  | i + 1 => IntKind.i64.wrap (kk x i + 1)
theorem look_put_some {α : Type} {l : List (Nat × α)} {o o' : Nat} {y x' : α} (h : look (put l o y) o' = some x') : ∃ z, look l o' = some z := by
  induction l with
  | nil => cases h
  | cons p r ih =>
    obtain ⟨k, z⟩ := p
    simp only [put, beq_dec] at h
    by_cases hk : k = o
    · subst hk
      simp only [decide_true, if_true, look_cons] at h
      rw [look_cons]
      split at h
      · rename_i e; exact ⟨z, by rw [if_pos e]⟩
      · rename_i e; exact ⟨x', by rw [if_neg e]; exact h⟩
    · simp only [hk, decide_false, Bool.false_eq_true, if_false, look_cons] at h
      rw [look_cons]
      split at h
      · rename_i e; exact ⟨z, by rw [if_pos e]⟩
      · rename_i e; rw [if_neg e]; exact ih h

section
variable {I : Type} {Δ : Den I} {B : Nat} {c c' : Cx} {sto sto' : Sto I}

/-- What is known of an object is told otherwise. -/
theorem SInv.reput (h : SInv Δ B c sto) {o : Nat} {x y : Ob I} (hl : look sto.obs o = some x) (hm : isMp x = false) (hn : ∀ ks vs, y ≠ [.mpc ks vs]) (hy : ∀ cur : Array Value, x.length ≤ cur.size → Blk2 Δ B c x cur → y.length ≤ cur.size ∧ Blk2 Δ B c y cur) :
    SInv Δ B c ⟨sto.next, put sto.obs o y, sto.low⟩ := by
  refine ⟨h.base, h.fresh, h.blk, fun o' x' hx' => ?_, fun o1 o2 x1 x2 b n n' h1 h2 => ?_, h.desc.put o y, h.g⟩
  · rcases look_put hx' with ⟨rfl, rfl⟩ | ⟨_, hx'⟩
    · obtain ⟨b, cur, e, e1, e2, e3, e4⟩ := h.obc _ x (lookC_iff.2 ⟨hl, hm⟩)
      obtain ⟨e5, e6⟩ := hy cur e3 e4
      exact ⟨b, _, cur.size, e1, e2, .cells e e5 e6 hn⟩
    · exact h.ob o' x' hx'
  · obtain ⟨y1, hy1⟩ := look_put_some h1
    obtain ⟨y2, hy2⟩ := look_put_some h2
    exact h.inj o1 o2 y1 y2 b n n' hy1 hy2

/-- The end of a step is told otherwise. -/
theorem Step.retell (h : Step Δ B c sto c' sto') {s2 : Sto I} (hi : SInv Δ B c' s2) (h1 : s2.next = sto'.next) (h2 : s2.low = sto'.low) : Step Δ B c sto c' s2 :=
  ⟨hi, h.κ, h.below, by rw [h1]; exact h.next, by rw [h2]; exact h.low, by rw [h2]; exact h.keep, by rw [h2]; exact h.old, h.new, h.frz, h.oth⟩

/-- The beginning of a step is told otherwise. -/
theorem Step.refrom {s0 : Sto I} (h : Step Δ B c sto c' sto') (h1 : s0.next = sto.next) (h2 : s0.low = sto.low) : Step Δ B c s0 c' sto' :=
  ⟨h.inv, h.κ, h.below, by rw [h1]; exact h.next, by rw [h2]; exact h.low, h.keep, h.old, by rw [h1]; exact h.new, h.frz, h.oth⟩

/-- A call's contract told otherwise, before and behind. -/
theorem Good.retell {P : Program} {k : FuncId} {args args' : List (V I)} {r r' : V I} {s0 s0' : Sto I} (hg : Good P Δ B k args sto r sto')
    (hpre : ∀ c, SInv Δ B c s0 → SInv Δ B c sto) (hargs : ∀ c, SInv Δ B c s0 → ∀ vs, VRs Δ B c args' vs → VRs Δ B c args vs) (h1 : s0.next = sto.next) (h2 : s0.low = sto.low)
    (hpost : ∀ c0 c, SInv Δ B c0 s0 → Step Δ B c0 s0 c sto' → Step Δ B c0 s0 c s0') (hr : ∀ c v, SInv Δ B c sto' → VR Δ B c r v → VR Δ B c r' v) : Good P Δ B k args' s0 r' s0' := by
  intro c rargs hinv hra
  refine Calls.mono (hg c rargs (hpre c hinv) (hargs c hinv _ hra)) ?_
  rintro e w' ⟨rv, c', rfl, rfl, hst, hv⟩
  exact ⟨rv, c', rfl, rfl, hpost c c' hinv (hst.refrom h1 h2), hr c' rv hst.inv hv⟩
end

section
variable {ρ : Nat → Int} {s : Sms} {B : Nat} {c : Cx} {sto : Sto Sy} {j o : Nat} {m : Sy} {v : Value}

theorem VRs_intVs {zs : List Int} {B : Nat} {c : Cx} : VRs ⟨Sy.den ρ, s⟩ B c (ints (nums zs)) (intVs zs) := by
  refine ⟨by simp [intVs], fun i x v hx hv => ?_⟩
  rw [ints_get, nums_get] at hx
  rw [intVs, List.getElem?_map] at hv
  cases hz : zs[i]? with
  | none => rw [hz] at hx; simp at hx
  | some z =>
    rw [hz] at hx hv
    simp at hx hv
    subst hx; subst hv
    exact VR_int' rfl

theorem intVs_of {zs : List Int} {B : Nat} {c : Cx} : ∀ {vs : List Value}, VRs ⟨Sy.den ρ, s⟩ B c (ints (nums zs)) vs → vs = intVs zs := by
  intro vs h
  apply List.ext_getElem?
  intro i
  cases hz : zs[i]? with
  | none =>
    have h1 : zs.length ≤ i := List.getElem?_eq_none_iff.1 hz
    have h2 : vs.length = zs.length := by rw [← h.1]; simp
    rw [List.getElem?_eq_none (by omega), List.getElem?_eq_none (by simp [intVs]; omega)]
  | some z =>
    have hi : i < zs.length := (List.getElem?_eq_some_iff.1 hz).1
    have hi' : i < vs.length := by rw [← h.1]; simpa using hi
    have := h.2 i (.int .i64 (.c z)) vs[i] (by simp [hz]) (List.getElem?_eq_getElem hi')
    rw [List.getElem?_eq_getElem hi', intVs, List.getElem?_map, hz]
    generalize vs[i] = u at this ⊢
    cases this
    rfl

theorem bsl_slice (h : VR ⟨Sy.den ρ, s⟩ B c (.bsl j m) v) : VR ⟨Sy.den ρ, s⟩ B c (.slice (ints (nums (s.l j)))) v ∧ m.den ρ = ((s.l j).length : Int) := by
  cases h with
  | @bsl _ b off cap _ h0 h1 h2 h3 =>
    refine ⟨?_, h0⟩
    have hl : (ints (nums (s.l j))).length = (s.l j).length := by simp
    have := VR.slice (Δ := ⟨Sy.den ρ, s⟩) (B := B) (c := c) (xs := ints (nums (s.l j))) (b := b) (off := off) (cap := cap) (intVs (s.l j)) (by rw [hl]; simp [intVs]) (by rw [hl]; exact h1) h2
      (fun i u hu => by
        rw [intVs, List.getElem?_map, Option.map_eq_some_iff] at hu
        obtain ⟨z, hz, rfl⟩ := hu
        exact h3 i z hz) (fun i x u hx hu => VRs_intVs.2 i x u hx hu)
    rwa [hl] at this
  | bsl0 h0 h1 =>
    have h0' : m.den ρ = 0 := h0
    have h1' : s.l j = [] := h1
    refine ⟨?_, by rw [h0', h1']; rfl⟩
    rw [h1']
    exact .snil

theorem brs_rsl (h : VR ⟨Sy.den ρ, s⟩ B c (.brs o j m) v) : ∃ cap, (s.l j).length ≤ cap ∧ VR ⟨Sy.den ρ, s⟩ B c (.rsl o 0 (s.l j).length (some cap)) v ∧ m.den ρ = ((s.l j).length : Int) := by
  cases h with
  | brs h0 h2 h1 => exact ⟨_, h2, .rsl h1, h0⟩

theorem rsl_brs {cap : Nat} (hm : m.den ρ = ((s.l j).length : Int)) (hc : (s.l j).length ≤ cap) (h : VR ⟨Sy.den ρ, s⟩ B c (.rsl o 0 (s.l j).length (some cap)) v) : VR ⟨Sy.den ρ, s⟩ B c (.brs o j m) v := by
  cases h with
  | rsl h1 => exact .brs hm hc h1
theorem SInv.unbig (h : SInv ⟨Sy.den ρ, s⟩ B c sto) (hl : look sto.obs o = some [.bc j]) : SInv ⟨Sy.den ρ, s⟩ B c ⟨sto.next, put sto.obs o (ints (nums (s.l j))), sto.low⟩ := by
  refine h.reput hl rfl (ints_nm _) (fun cur h1 h2 => ?_)
  obtain ⟨rest, hr⟩ := h2.big j rfl
  simp only at hr
  have hlen : (ints (nums (s.l j))).length = (s.l j).length := by simp
  have hsz : cur.size = (s.l j).length + rest.length := by
    have := congrArg List.length hr
    simpa [intVs] using this
  refine ⟨by omega, ?_, fun i hi => ?_⟩
  · rw [hr, hlen, List.take_append_of_le_length (by simp [intVs]), List.take_of_length_le (by simp [intVs])]
    exact VRs_intVs
  · cases hz : s.l j with
    | nil => rw [hz] at hi; simp [ints, nums] at hi
    | cons a r => rw [hz] at hi; simp [ints, nums] at hi

theorem SInv.rebig (h : SInv ⟨Sy.den ρ, s⟩ B c sto) (hl : look sto.obs o = some (ints (nums (s.l j)))) (hne : s.l j ≠ []) : SInv ⟨Sy.den ρ, s⟩ B c ⟨sto.next, put sto.obs o [.bc j], sto.low⟩ := by
  refine h.reput hl (isMp_ints _) (by intro ks vs h; simp at h) (fun cur h1 h2 => ?_)
  have hlen : (ints (nums (s.l j))).length = (s.l j).length := by simp
  have h3 := intVs_of h2.vrs
  rw [hlen] at h3 h1
  have hpos : 1 ≤ (s.l j).length := by
    cases hz : s.l j with
    | nil => exact (hne hz).elim
    | cons a r => simp
  refine ⟨by simp; omega, ⟨by simp; omega, fun i x v hx hv => ?_⟩, fun i hi => ?_⟩
  · cases i with
    | zero => simp at hx; subst hx; exact .bc _ _
    | succ i => simp at hx
  · simp at hi
    subst hi
    exact ⟨cur.toList.drop (s.l j).length, by rw [← h3, List.take_append_drop]⟩
end
end Go.Sx

/-
  What is known of lists: whether they are valid; contracts for the functions that test it, and for those that copy, compare and mark lists of any length.
-/
namespace Go.Sx
open Go.RowKit

/-- 1 to 6 numbers, each at most so great. -/
def validP (bd : Int) (zs : List Int) : Prop := (∀ z, z ∈ zs → -bd ≤ z ∧ z ≤ bd) ∧ 1 ≤ zs.length ∧ zs.length ≤ 6
instance (bd : Int) (zs : List Int) : Decidable (validP bd zs) := inferInstanceAs (Decidable (_ ∧ _))

structure VEnt where
  bd : Int
  ps : List Sy
  q : Bool
def VEnt.Ok (ρ : Nat → Int) (e : VEnt) : Prop := decide (validP e.bd (e.ps.map (Sy.den ρ))) = e.q

/-- That the numbers of a list are within bounds. -/
noncomputable def bndF (bd : Int) : List Sy → List Fact
  | [] => []
  | .c _ :: r => bndF bd r
  | p :: r => ⟨true, p, .c (-bd), false⟩ :: ⟨true, .c bd, p, false⟩ :: bndF bd r
theorem bndF_ok {ρ : Nat → Int} {bd : Int} {ps : List Sy} (h : VEnt.Ok ρ ⟨bd, ps, true⟩) : ∀ f, f ∈ bndF bd ps → f.Ok ρ := by
  have hv : ∀ z, z ∈ ps.map (Sy.den ρ) → -bd ≤ z ∧ z ≤ bd := (of_decide_eq_true h).1
  clear h
  induction ps with
  | nil => intro f hf; simp [bndF] at hf
  | cons p r ih =>
    have ih' := ih (fun z hz => hv z (by simp at hz ⊢; exact .inr hz))
    intro f hf
    cases p with
    | c n => exact ih' f hf
    | p l =>
      have hb := hv ((Sy.p l).den ρ) (by simp)
      simp only [bndF, List.mem_cons] at hf
      rcases hf with rfl | rfl | hf
      · show decide ((Sy.p l).den ρ < -bd) = false; exact decide_eq_false (by omega)
      · show decide (bd < (Sy.p l).den ρ) = false; exact decide_eq_false (by omega)
      · exact ih' f hf

noncomputable def sames (ps qs : List Sy) : Bool :=
  match ps, qs with
  | [], [] => true
  | p :: r, q :: s => bite (p.same q) (sames r s) false
  | _, _ => false
theorem sames_eq : ∀ {ps qs : List Sy}, sames ps qs = true → ps = qs := by
  intro ps
  induction ps with
  | nil => intro qs h; cases qs with
    | nil => rfl
    | cons q s => cases h
  | cons p r ih =>
    intro qs h
    cases qs with
    | nil => cases h
    | cons q s =>
      simp only [sames, bite_eq] at h
      split at h
      · rename_i h1; rw [Sy.same_eq h1, ih h]
      · cases h

noncomputable def findV (bd : Int) (ps : List Sy) : List VEnt → Option Bool
  | [] => none
  | e :: r => bite (ieq e.bd bd) (bite (sames e.ps ps) (some e.q) (findV bd ps r)) (findV bd ps r)

theorem findV_ok {ρ : Nat → Int} {bd : Int} {ps : List Sy} {q : Bool} : ∀ {Vt : List VEnt}, (∀ e, e ∈ Vt → e.Ok ρ) → findV bd ps Vt = some q → decide (validP bd (ps.map (Sy.den ρ))) = q := by
  intro Vt
  induction Vt with
  | nil => intro _ h; cases h
  | cons e r ih =>
    intro hok h
    have ih' := ih (fun g hg => hok g (by simp [hg]))
    simp only [findV, bite_eq] at h
    split at h
    · rename_i h1
      split at h
      · rename_i h2
        cases h
        rw [ieq_eq] at h1
        have := hok e (by simp)
        unfold VEnt.Ok at this
        rw [eq_of_beq h1, sames_eq h2] at this
        exact this
      · exact ih' h
    · exact ih' h

noncomputable def anyS (p : Sy) : List Sy → Bool
  | [] => false
  | q :: r => bite (q.same p) true (anyS p r)
theorem anyS_mem {p : Sy} : ∀ {l : List Sy}, anyS p l = true → p ∈ l := by
  intro l
  induction l with
  | nil => intro h; cases h
  | cons q r ih =>
    intro h
    simp only [anyS, bite_eq] at h
    split at h
    · rename_i h1; rw [Sy.same_eq h1]; simp
    · exact List.mem_cons_of_mem _ (ih h)

/-- Is it one of the numbers of a valid list? -/
noncomputable def inV (bd : Int) (p : Sy) : List VEnt → Bool
  | [] => false
  | e :: r => bite e.q (bite (ilt bd e.bd) (inV bd p r) (bite (anyS p e.ps) true (inV bd p r))) (inV bd p r)
theorem inV_ok {ρ : Nat → Int} {bd : Int} {p : Sy} : ∀ {Vt : List VEnt}, (∀ e, e ∈ Vt → e.Ok ρ) → inV bd p Vt = true → -bd ≤ p.den ρ ∧ p.den ρ ≤ bd := by
  intro Vt
  induction Vt with
  | nil => intro _ h; cases h
  | cons e r ih =>
    intro hok h
    have ih' := ih (fun g hg => hok g (by simp [hg]))
    simp only [inV, bite_eq] at h
    split at h
    · rename_i h1
      split at h
      · exact ih' h
      · rename_i h2
        split at h
        · rename_i h3
          have := hok e (by simp)
          unfold VEnt.Ok at this
          rw [h1] at this
          have hv := (of_decide_eq_true this).1 (p.den ρ) (List.mem_map_of_mem (anyS_mem h3))
          rw [ilt_eq] at h2
          have : ¬ bd < e.bd := by simpa using h2
          omega
        · exact ih' h
    · exact ih' h

noncomputable def okIn (Vt : List VEnt) (bd : Int) : Sy → Bool
  | .c n => bite (ilt n (-bd)) false (bite (ilt bd n) false true)
  | .p l => bite (inV bd (.p l) Vt) true (match symArith .sub .i64 (.c 0) (.p l) with
    | some x => inV bd x Vt
    | none => false)

theorem wrap_range (a : Int) : -9223372036854775808 ≤ IntKind.i64.wrap a ∧ IntKind.i64.wrap a ≤ 9223372036854775807 := by
  have h1 : (2 ^ IntKind.i64.bits : Int) = 18446744073709551616 := by decide
  have h2 : (2 ^ (IntKind.i64.bits - 1) : Int) = 9223372036854775808 := by decide
  have h3 : IntKind.i64.signed = true := by rfl
  simp only [IntKind.wrap, h1, h2, h3, Bool.true_and]
  split <;> rename_i hh <;> simp at hh <;> omega

theorem okIn_ok {ρ : Nat → Int} {Vt : List VEnt} (hV : ∀ e, e ∈ Vt → e.Ok ρ) {bd : Int} (hb : bd ≤ 1000000000) {p : Sy} (h : okIn Vt bd p = true) : -bd ≤ p.den ρ ∧ p.den ρ ≤ bd := by
  cases p with
  | c n =>
    simp only [okIn, bite_eq, ilt_eq] at h
    split at h
    · cases h
    · rename_i h1
      split at h
      · cases h
      · rename_i h2
        simp at h1 h2
        simp only [Sy.den]
        omega
  | p l =>
    simp only [okIn, bite_eq] at h
    split at h
    · rename_i h1; exact inV_ok hV h1
    · split at h
      · rename_i x hx
        have h1 := inV_ok hV h
        have h2 : IntKind.i64.wrap (0 - (Sy.p l).den ρ) = x.den ρ := by
          have := symArith_ok (ρ := ρ) hx
          simpa [aritOk, Sy.den] using this
        have h3 := wrap_range (peval ρ l)
        have h4 : (Sy.p l).den ρ = IntKind.i64.wrap (peval ρ l) := rfl
        rw [← h4] at h3
        obtain ⟨k, hk⟩ := cg_wrap (0 - (Sy.p l).den ρ)
        rw [h2] at hk
        generalize (Sy.p l).den ρ = y at *
        generalize x.den ρ = z at *
        omega
      · cases h

noncomputable def allIn (Vt : List VEnt) (bd : Int) : List Sy → Bool
  | [] => true
  | p :: r => bite (okIn Vt bd p) (allIn Vt bd r) false
theorem allIn_ok {ρ : Nat → Int} {Vt : List VEnt} (hV : ∀ e, e ∈ Vt → e.Ok ρ) {bd : Int} (hb : bd ≤ 1000000000) : ∀ {ps : List Sy}, allIn Vt bd ps = true → ∀ z, z ∈ ps.map (Sy.den ρ) → -bd ≤ z ∧ z ≤ bd := by
  intro ps
  induction ps with
  | nil => intro _ z hz; simp at hz
  | cons p r ih =>
    intro h z hz
    simp only [allIn, bite_eq] at h
    split at h
    · rename_i h1
      simp only [List.map_cons, List.mem_cons] at hz
      rcases hz with rfl | hz
      · exact okIn_ok hV hb h1
      · exact ih h z hz
    · cases h

/-- A list as another one, some numbers with the other sign. -/
noncomputable def likeN (p q : Sy) : Bool := bite (p.same q) true (match symArith .sub .i64 (.c 0) q with
  | some x => p.same x
  | none => false)
noncomputable def samesN (ps qs : List Sy) : Bool :=
  match ps, qs with
  | [], [] => true
  | p :: r, q :: s => bite (likeN p q) (samesN r s) false
  | _, _ => false
theorem neg_den_in {ρ : Nat → Int} {p x : Sy} {bd : Int} (hb : bd ≤ 1000000000) (h1 : IntKind.i64.wrap (p.den ρ) = p.den ρ) (hx : symArith .sub .i64 (.c 0) p = some x) : (-bd ≤ x.den ρ ∧ x.den ρ ≤ bd) ↔ (-bd ≤ p.den ρ ∧ p.den ρ ≤ bd) := by
  have h2 : IntKind.i64.wrap (0 - p.den ρ) = x.den ρ := by
    have := symArith_ok (ρ := ρ) hx
    simpa [aritOk, Sy.den] using this
  have h3 := wrap_range (p.den ρ)
  rw [h1] at h3
  have h4 := wrap_range (0 - p.den ρ)
  obtain ⟨k, hk⟩ := cg_wrap (0 - p.den ρ)
  rw [h2] at hk h4
  generalize p.den ρ = y at *
  generalize x.den ρ = z at *
  omega
theorem samesN_ok {ρ : Nat → Int} {bd : Int} (hb : bd ≤ 1000000000) : ∀ {ps qs : List Sy}, (∀ z, z ∈ qs.map (Sy.den ρ) → IntKind.i64.wrap z = z) → samesN ps qs = true → (validP bd (ps.map (Sy.den ρ)) ↔ validP bd (qs.map (Sy.den ρ))) := by
  have main : ∀ {ps qs : List Sy}, (∀ z, z ∈ qs.map (Sy.den ρ) → IntKind.i64.wrap z = z) → samesN ps qs = true → ps.length = qs.length ∧ ((∀ z, z ∈ ps.map (Sy.den ρ) → -bd ≤ z ∧ z ≤ bd) ↔ (∀ z, z ∈ qs.map (Sy.den ρ) → -bd ≤ z ∧ z ≤ bd)) := by
    intro ps
    induction ps with
    | nil => intro qs _ h; cases qs with
      | nil => exact ⟨rfl, Iff.rfl⟩
      | cons q s => cases h
    | cons p r ih =>
      intro qs hw h
      cases qs with
      | nil => cases h
      | cons q s =>
        simp only [samesN] at h
        rw [bite_eq] at h
        split at h
        · rename_i h1
          obtain ⟨e, hi⟩ := ih (fun z hz => hw z (by simp at hz ⊢; exact .inr hz)) h
          have hq : (-bd ≤ p.den ρ ∧ p.den ρ ≤ bd) ↔ (-bd ≤ q.den ρ ∧ q.den ρ ≤ bd) := by
            unfold likeN at h1
            rw [bite_eq] at h1
            split at h1
            · rename_i h2; rw [Sy.same_eq h2]
            · split at h1
              · rename_i x hx; rw [Sy.same_eq h1]; exact neg_den_in hb (hw _ (by simp)) hx
              · cases h1
          refine ⟨by simp [e], ?_⟩
          simp only [List.map_cons, List.mem_cons, forall_eq_or_imp]
          rw [hq, hi]
        · cases h
  intro ps qs hw h
  obtain ⟨e, hi⟩ := main hw h
  unfold validP
  rw [hi, List.length_map, List.length_map, e]
noncomputable def findVN (bd : Int) (ps : List Sy) : List VEnt → Option Bool
  | [] => none
  | e :: r => bite (ieq e.bd bd) (bite (samesN e.ps ps) (some e.q) (findVN bd ps r)) (findVN bd ps r)
theorem findVN_ok {ρ : Nat → Int} {bd : Int} (hb : bd ≤ 1000000000) {ps : List Sy} (hw : ∀ z, z ∈ ps.map (Sy.den ρ) → IntKind.i64.wrap z = z) {q : Bool} : ∀ {Vt : List VEnt}, (∀ e, e ∈ Vt → e.Ok ρ) → findVN bd ps Vt = some q → decide (validP bd (ps.map (Sy.den ρ))) = q := by
  intro Vt
  induction Vt with
  | nil => intro _ h; cases h
  | cons e r ih =>
    intro hok h
    have ih' := ih (fun g hg => hok g (by simp [hg]))
    simp only [findVN, bite_eq] at h
    split at h
    · rename_i h1
      split at h
      · rename_i h2
        cases h
        rw [ieq_eq] at h1
        have h3 := hok e (by simp)
        unfold VEnt.Ok at h3
        rw [eq_of_beq h1] at h3
        rw [← h3]
        exact decide_eq_decide.2 (samesN_ok hb hw h2).symm
      · exact ih' h
    · exact ih' h

/-- Is a list valid? -/
noncomputable def vdec (Vt : List VEnt) (bd : Int) (ps : List Sy) : Option Bool :=
  bite (Nat.beq ps.length 0) (some false) (bite (Nat.blt 6 ps.length) (some false)
    (match findV bd ps Vt with
    | some q => some q
    | none => bite (allIn Vt bd ps) (some true) (findVN bd ps Vt)))

theorem vdec_ok {ρ : Nat → Int} {Vt : List VEnt} (hV : ∀ e, e ∈ Vt → e.Ok ρ) {bd : Int} (hb : bd ≤ 1000000000) {ps : List Sy} (hw : ∀ z, z ∈ ps.map (Sy.den ρ) → IntKind.i64.wrap z = z) {q : Bool} (h : vdec Vt bd ps = some q) : decide (validP bd (ps.map (Sy.den ρ))) = q := by
  simp only [vdec, bite_eq] at h
  split at h
  · rename_i h1
    have : ps.length = 0 := Nat.eq_of_beq_eq_true h1
    cases h
    refine decide_eq_false (fun hv => ?_)
    have := hv.2.1
    simp at this; omega
  · rename_i h0
    split at h
    · rename_i h1
      cases h
      rw [Nat.blt_eq] at h1
      refine decide_eq_false (fun hv => ?_)
      have := hv.2.2
      simp at this; omega
    · rename_i h1
      split at h
      · rename_i q' hq; cases h; exact findV_ok hV hq
      · split at h
        · rename_i h2
          cases h
          refine decide_eq_true ⟨allIn_ok hV hb h2, ?_, ?_⟩
          · rw [beq_dec] at h0; simp at h0 ⊢
            cases ps with
            | nil => exact (h0 rfl).elim
            | cons a r => simp
          · have : ¬ 6 < ps.length := fun h => h1 (by rw [Nat.blt_eq]; exact h)
            simp; omega
        · exact findVN_ok hb hw hV h

/-! ## The contracts -/
def unit (z : Int) : Prop := z = 1 ∨ z = -1
instance (z : Int) : Decidable (unit z) := inferInstanceAs (Decidable (_ ∨ _))

structure UIds where
  isUnit : FuncId
  begins : FuncId

structure UIds.Ok (P : Program) (U : UIds) : Prop where
  body : ∀ k, k = U.isUnit ∨ k = U.begins → ∃ fn, P.funcs[k]? = some fn ∧ fn.body.isSome = true
  isUnit : ∀ z : Int, IntKind.i64.wrap z = z → ∃ (S : Sto Sy), ∀ (ρ : Nat → Int) (s : Sms) (B : Nat), Good P ⟨Sy.den ρ, s⟩ B U.isUnit [.int .i64 (.c z)] ⟨0, [], 0⟩ (.bool (decide (unit z))) S
  begins : ∀ (z : Int) (zs : List Int), (z :: zs).length ≤ 6 → (∀ y, y ∈ z :: zs → IntKind.i64.wrap y = y) → ∃ (S : Sto Sy), ∀ (ρ : Nat → Int) (s : Sms) (B : Nat),
    Good P ⟨Sy.den ρ, s⟩ B U.begins [.slice (ints (nums (z :: zs))), .slice (ints (nums [1, -1]))] ⟨0, [], 0⟩ (.bool (decide (validP 600 (z :: zs) ∧ unit z))) S

/-- The functions that tell whether a list is a way to part things. -/
structure PIds where
  isWay : FuncId
  validPart : FuncId

/-- The first thing is in the part 0, each other one in one that is there already or in the next one. -/
def partFrom (most : Int) : List Int → Bool
  | [] => true
  | z :: r => decide (0 ≤ z) && decide (z ≤ most) && partFrom (if z = most then most + 1 else most) r
def isPart (zs : List Int) : Bool := decide (zs.length ≤ 5) && partFrom 0 zs

structure PIds.Ok (P : Program) (U : PIds) : Prop where
  body : ∀ k, k = U.isWay ∨ k = U.validPart → ∃ fn, P.funcs[k]? = some fn ∧ fn.body.isSome = true
  part : ∀ k, k = U.isWay ∨ k = U.validPart → ∀ zs : List Int, zs.length ≤ 1048576 → (∀ z, z ∈ zs → IntKind.i64.wrap z = z) → ∃ S : Sto Sy, ∀ (ρ : Nat → Int) (s : Sms) (B : Nat), Good P ⟨Sy.den ρ, s⟩ B k [.slice (ints (nums zs))] ⟨0, [], 0⟩ (.bool (isPart zs)) S
  partE : ∀ k, k = U.isWay ∨ k = U.validPart → ∃ n S, symRun P noK [] n k [.emp] ⟨0, [], 0⟩ = some (.bool true, S)

/-- The functions of a program that are known. -/
structure Ids where
  toInt : FuncId
  eqInt : FuncId
  mark : FuncId
  valid : List (FuncId × Int)
  uids : Option UIds := none
  pids : Option PIds := none

structure BEnt where
  bd : Int
  j : Nat
  q : Bool
def BEnt.Ok (s : Sms) (e : BEnt) : Prop := decide (validP e.bd (s.l e.j)) = e.q

noncomputable def boundOf (k : FuncId) : List (FuncId × Int) → Option Int
  | [] => none
  | e :: r => bite (Nat.beq e.1 k) (some e.2) (boundOf k r)
theorem boundOf_mem {k : FuncId} {bd : Int} : ∀ {l : List (FuncId × Int)}, boundOf k l = some bd → (k, bd) ∈ l := by
  intro l
  induction l with
  | nil => intro h; cases h
  | cons e r ih =>
    intro h
    simp only [boundOf, bite_eq] at h
    split at h
    · rename_i h1
      cases h
      have : e.1 = k := Nat.eq_of_beq_eq_true h1
      rw [← this]; simp
    · exact List.mem_cons_of_mem _ (ih h)

noncomputable def findB (bd : Int) (j : Nat) : List BEnt → Option Bool
  | [] => none
  | e :: r => bite (ieq e.bd bd) (bite (Nat.beq e.j j) (some e.q) (findB bd j r)) (findB bd j r)
theorem findB_ok {s : Sms} {bd : Int} {j : Nat} {q : Bool} : ∀ {Vb : List BEnt}, (∀ e, e ∈ Vb → e.Ok s) → findB bd j Vb = some q → decide (validP bd (s.l j)) = q := by
  intro Vt
  induction Vt with
  | nil => intro _ h; cases h
  | cons e r ih =>
    intro hok h
    have ih' := ih (fun g hg => hok g (by simp [hg]))
    simp only [findB, bite_eq] at h
    split at h
    · rename_i h1
      split at h
      · rename_i h2
        cases h
        rw [ieq_eq] at h1
        have := hok e (by simp)
        unfold BEnt.Ok at this
        rw [eq_of_beq h1, Nat.eq_of_beq_eq_true h2] at this
        exact this
      · exact ih' h
    · exact ih' h

/-- An object that holds a list of any length. -/
def isBig (sto : Sto Sy) (o j : Nat) : Bool :=
  match look sto.obs o with
  | some [.bc j'] => Nat.beq j' j
  | _ => false
theorem isBig_look {sto : Sto Sy} {o j : Nat} (h : isBig sto o j = true) : look sto.obs o = some [.bc j] := by
  unfold isBig at h
  split at h
  · rename_i j' hl; rw [hl, Nat.eq_of_beq_eq_true h]
  · cases h

/-- A list's numbers. -/
def numsOf : List (V Sy) → Option (List Sy)
  | [] => some []
  | .int .i64 p :: r => match numsOf r with
    | some l => some (p :: l)
    | none => none
  | _ => none
theorem numsOf_ints : ∀ {xs : List (V Sy)} {ps : List Sy}, numsOf xs = some ps → xs = ints ps := by
  intro xs
  induction xs with
  | nil => intro ps h; simp [numsOf] at h; subst h; rfl
  | cons x r ih =>
    intro ps h
    cases x with
    | int k p =>
      cases k <;> simp [numsOf] at h
      split at h
      · rename_i l hl; simp at h; subst h; rw [ih hl]; rfl
      · cases h
    | _ => simp [numsOf] at h

noncomputable def fitsL : List Sy → Bool
  | [] => true
  | p :: r => bite p.fits (fitsL r) false
theorem fitsL_wrap (ρ : Nat → Int) : ∀ {ps : List Sy}, fitsL ps = true → ∀ z, z ∈ ps.map (Sy.den ρ) → IntKind.i64.wrap z = z := by
  intro ps
  induction ps with
  | nil => intro _ z hz; simp at hz
  | cons p r ih =>
    intro h z hz
    simp only [fitsL, bite_eq] at h
    split at h
    · rename_i h1
      simp only [List.map_cons, List.mem_cons] at hz
      rcases hz with rfl | hz
      · exact fits_wrap ρ h1
      · exact ih h z hz
    · cases h

/-- A slice whose room is no less than its length. -/
def capOk : V Sy → Bool
  | .rsl _ _ len (some cp) => Nat.ble len cp
  | _ => true

/-- Functions of a number that no program has are not known. -/
noncomputable def bigK (D : Ids) (Vt : List VEnt) (Vb : List BEnt) (k : FuncId) (args : List (V Sy)) (sto : Sto Sy) : Option (V Sy × Sto Sy) :=
  bite (Nat.blt 100000 k) none (match args with
  | [.bsl j m] => bite (Nat.beq k D.toInt) (some (.brs sto.next j m, ⟨sto.next + 1, (sto.next, [.bc j]) :: sto.obs, sto.low⟩)) none
  | [.brs o j m] => match boundOf k D.valid with
    | some bd => bite (isBig sto o j) (match findB bd j Vb with
      | some q => some (.bool q, sto)
      | none => none) none
    | none => none
  | [.brs o j m, .brs o' j' m'] => bite (Nat.beq k D.eqInt) (bite (Nat.beq j j') (bite (isBig sto o j) (bite (isBig sto o' j') (some (.bool true, sto)) none) none) none) none
  | [.brs o j m, .int .i64 x] => bite (Nat.beq k D.mark) (bite (isBig sto o j) (match symArith .add .i64 x m with
    | some y => some (.int .i64 y, ⟨sto.next, del sto.obs o, if Nat.blt o sto.low then o else sto.low⟩)
    | none => none) none) none
  | [x] => match boundOf k D.valid with
    | some bd => match sto.elems x with
      | some xs => match numsOf xs with
        | some ps => bite (Nat.ble ps.length 1048576) (bite (capOk x) (bite (fitsL ps) (match vdec Vt bd ps with
          | some q => some (.bool q, sto)
          | none => none) none) none) none
        | none => none
      | none => none
    | none => none
  | _ => none)

/-- What runs by hand tell of the functions. -/
structure Ids.Ok (P : Program) (D : Ids) : Prop where
  body : ∀ k, k ≤ 100000 → k ∈ D.toInt :: D.eqInt :: D.mark :: D.valid.map (·.1) → ∃ fn, P.funcs[k]? = some fn ∧ fn.body.isSome = true
  small : ∀ e, e ∈ D.valid → e.2 ≤ 1000000000
  uok : ∀ U, D.uids = some U → U.Ok P
  pok : ∀ U, D.pids = some U → U.Ok P
  toInt : D.toInt ≤ 100000 → ∀ zs : List Int, zs.length ≤ 1048576 → ∃ n, symRun P noK [] n D.toInt [.slice (ints (nums zs))] ⟨0, [], 0⟩ = some (.rsl 0 0 zs.length (some zs.length), ⟨1, [(0, ints (nums zs))], 0⟩)
  eqInt : D.eqInt ≤ 100000 → ∀ zs : List Int, zs.length ≤ 1048576 → ∃ n S, symRun P noK [] n D.eqInt [.slice (ints (nums zs)), .slice (ints (nums zs))] ⟨0, [], 0⟩ = some (.bool true, S)
  valid : ∀ e, e ∈ D.valid → ∀ zs : List Int, zs.length ≤ 1048576 → (∀ z, z ∈ zs → IntKind.i64.wrap z = z) → ∃ S : Sto Sy, ∀ (ρ : Nat → Int) (s : Sms) (B : Nat), Good P ⟨Sy.den ρ, s⟩ B e.1 [.slice (ints (nums zs))] ⟨0, [], 0⟩ (.bool (decide (validP e.2 zs))) S
  validE : ∀ e, e ∈ D.valid → ∃ n S, symRun P noK [] n e.1 [.emp] ⟨0, [], 0⟩ = some (.bool false, S)
  mark : D.mark ≤ 100000 → ∀ (zs : List Int) (x : Int) (sto : Sto Sy) (o cap : Nat), 1 ≤ zs.length → zs.length ≤ 1048576 → Desc sto.next sto.obs → look sto.obs o = some (ints (nums zs)) →
    ∃ n ys, symRun P noK [] n D.mark [.rsl o 0 zs.length (some cap), .int .i64 (.c x)] sto = some (.int .i64 (.c (IntKind.i64.wrap (x + zs.length))), ⟨sto.next, put sto.obs o ys, if Nat.blt o sto.low then o else sto.low⟩)
end Go.Sx

/-
  The contracts are right.
-/
namespace Go.Sx
open Go.RowKit

section
variable {ρ ρ' : Nat → Int} {s : Sms} {B : Nat} {c : Cx} {sto : Sto Sy} {j o : Nat} {m : Sy} {v : Value}

/-- A list that is there, as data. -/
theorem slice_data {zs : List Int} {b off len cap : Nat} (hl : len = zs.length) (hlen : len ≤ cap) (hb : b < c.w.heap.size) (hcell : ∀ (i : Nat) (n : Int), zs[i]? = some n → c.w.cell? ⟨b, off + i, none⟩ = some (.int .i64 n)) :
    VR ⟨Sy.den ρ', s⟩ c.w.heap.size ⟨c.w, fun _ => none⟩ (.slice (ints (nums zs))) (.slice (some ⟨b, off, none⟩) len cap) := by
  subst hl
  have hl : (ints (nums zs)).length = zs.length := by simp
  have := VR.slice (Δ := ⟨Sy.den ρ', s⟩) (B := c.w.heap.size) (c := ⟨c.w, fun _ => none⟩) (xs := ints (nums zs)) (b := b) (off := off) (cap := cap) (intVs zs) (by rw [hl]; simp [intVs]) (by rw [hl]; exact hlen) hb
    (fun i u hu => by
      rw [intVs, List.getElem?_map, Option.map_eq_some_iff] at hu
      obtain ⟨z, hz, rfl⟩ := hu
      exact hcell i z hz) (fun i x u hx hu => VRs_intVs.2 i x u hx hu)
  rwa [hl] at this

theorem bsl_data (hinv : SInv ⟨Sy.den ρ, s⟩ B c sto) (h : VR ⟨Sy.den ρ, s⟩ B c (.bsl j m) v) : VR ⟨Sy.den ρ', s⟩ c.w.heap.size ⟨c.w, fun _ => none⟩ (.slice (ints (nums (s.l j)))) v := by
  cases h with
  | bsl h0 h1 h2 h3 => exact slice_data rfl h1 (Nat.lt_of_lt_of_le h2 hinv.base) h3
  | bsl0 h0 h1 =>
    have h1' : s.l j = [] := h1
    rw [h1']; exact .snil

theorem brs_data (hinv : SInv ⟨Sy.den ρ, s⟩ B c sto) (hl : look sto.obs o = some [.bc j]) (h : VR ⟨Sy.den ρ, s⟩ B c (.brs o j m) v) : VR ⟨Sy.den ρ', s⟩ c.w.heap.size ⟨c.w, fun _ => none⟩ (.slice (ints (nums (s.l j)))) v := by
  cases h with
  | @brs _ _ b n cap _ h0 hcp h1 =>
    obtain ⟨b', cur, e, e1, e2, e3, e4⟩ := hinv.obc _ _ (lookC_iff.2 ⟨hl, rfl⟩)
    rw [h1] at e1; cases e1
    obtain ⟨rest, hr⟩ := e4.big j rfl
    refine slice_data rfl hcp (hinv.blk _ _ _ h1).2 (fun i n hn => ?_)
    rw [cell_none_row _ _ _ e2]
    have : cur.toList[0 + i]? = some (.int .i64 n) := by
      rw [hr, Nat.zero_add, List.getElem?_append_left (by simpa [intVs] using (List.getElem?_eq_some_iff.1 hn).1), intVs, List.getElem?_map]
      have hn' : (s.l j)[i]? = some n := hn
      rw [hn']; rfl
    simpa using this

theorem elems_data {x : V Sy} {ps : List Sy} (hinv : SInv ⟨Sy.den ρ, s⟩ B c sto) (hx : VR ⟨Sy.den ρ, s⟩ B c x v) (he : sto.elems x = some (ints ps)) (hc : capOk x = true) :
    (ps = [] → VR ⟨Sy.den ρ', s⟩ c.w.heap.size ⟨c.w, fun _ => none⟩ .emp v) ∧ (ps ≠ [] → ps.length ≤ 1048576 → VR ⟨Sy.den ρ', s⟩ c.w.heap.size ⟨c.w, fun _ => none⟩ (.slice (ints (nums (ps.map (Sy.den ρ))))) v) := by
  obtain ⟨ad, cap, us, rfl, hr, hor⟩ := hinv.elems hx he
  constructor
  · intro h
    subst h
    rcases hor with ⟨_, h2⟩ | ⟨b, off, rfl, _⟩
    · exact .emp _ _ h2
    · exact .emp _ _ (.inr fun b hb => by cases hb; rfl)
  · intro hne hlen
    rcases hor with ⟨h1, _⟩ | ⟨b, off, rfl, hcell⟩
    · cases ps with
      | nil => exact (hne rfl).elim
      | cons p r => simp [ints] at h1
    · have hus : us = intVs (ps.map (Sy.den ρ)) := by
        apply List.ext_getElem?
        intro i
        cases hz : ps[i]? with
        | none =>
          have h1 : ps.length ≤ i := List.getElem?_eq_none_iff.1 hz
          have h2 : us.length = ps.length := by rw [← hr.1]; simp
          rw [List.getElem?_eq_none (by omega), List.getElem?_eq_none (by simp [intVs]; omega)]
        | some z =>
          have hi : i < ps.length := (List.getElem?_eq_some_iff.1 hz).1
          have hi' : i < us.length := by rw [← hr.1]; simpa using hi
          have := hr.2 i (.int .i64 z) us[i] (by simp [hz]) (List.getElem?_eq_getElem hi')
          rw [List.getElem?_eq_getElem hi', intVs, List.getElem?_map, List.getElem?_map, hz]
          generalize us[i] = u at this ⊢
          cases this
          rfl
      subst hus
      have hcap : (ints ps).length ≤ cap := by
        generalize hg : (ints ps).length = n at hx
        have hpos : 0 < n := by rw [← hg]; simp; cases ps with
          | nil => exact (hne rfl).elim
          | cons p r => simp
        cases x <;> simp [Sto.elems] at he
        case nil => cases hx
        case emp => cases hx; omega
        case slice => cases hx with
          | slice _ _ h2 _ _ _ => exact h2
        case rsl => cases hx with
          | rsl hk => simpa [capOk, Nat.ble_eq] using hc
          | rslo hk hlc hn => omega
      have hb : b < c.w.heap.size := by
        have hp : 0 < ps.length := by cases ps with
          | nil => exact (hne rfl).elim
          | cons p r => simp
        exact lt_of_cell (hcell 0 (.int .i64 (ps[0].den ρ)) (by simp [intVs, List.getElem?_eq_getElem hp]))
      refine slice_data (by simp) hcap hb (fun i n hn => hcell i _ ?_)
      rw [intVs, List.getElem?_map, hn]; rfl
end

section
variable {P : Program} {ρ : Nat → Int} {s : Sms} {B : Nat}

/-- A run as a contract. -/
theorem run_good (hG : NoCount P) (hm : P.follows .mixedOrders = true) (ρ' : Nat → Int) {n : Nat} {k : FuncId} {pat : List (V Sy)} {R : V Sy} {sto S : Sto Sy} (h : symRun P noK [] n k pat sto = some (R, S)) (B' : Nat) :
    Good P ⟨Sy.den ρ', s⟩ B' k pat sto R S := (symRun_ok (ρ := ρ') (s := s) (B := B') hG hm (Γ := []) (by simp) noK_ok n k pat _ R S h).1

theorem VRs.one {I : Type} {Δ : Den I} {B : Nat} {c : Cx} {x : V I} {vs : List Value} (h : VRs Δ B c [x] vs) : ∃ v, vs = [v] ∧ VR Δ B c x v := by
  cases vs with
  | nil => cases h.1
  | cons v r => cases r with
    | nil => exact ⟨v, rfl, h.head⟩
    | cons a b => have := h.1; simp at this
theorem VRs.two {I : Type} {Δ : Den I} {B : Nat} {c : Cx} {x y : V I} {vs : List Value} (h : VRs Δ B c [x, y] vs) : ∃ v u, vs = [v, u] ∧ VR Δ B c x v ∧ VR Δ B c y u := by
  cases vs with
  | nil => cases h.1
  | cons v r =>
    obtain ⟨u, rfl, hu⟩ := VRs.one h.tail
    exact ⟨v, u, rfl, h.head, hu⟩

theorem bigK_ok (hG : NoCount P) (hm : P.follows .mixedOrders = true) {D : Ids} (hD : D.Ok P) {Vt : List VEnt} {Vb : List BEnt} (hV : ∀ e, e ∈ Vt → e.Ok ρ) (hB : ∀ e, e ∈ Vb → e.Ok s) (hs : ∀ j, 1 ≤ (s.l j).length ∧ (s.l j).length ≤ 1048576) (hw : ∀ j z, z ∈ s.l j → IntKind.i64.wrap z = z) :
    COk P ⟨Sy.den ρ, s⟩ B (bigK D Vt Vb) := by
  have hne : ∀ j, s.l j ≠ [] := fun j h => by have := (hs j).1; rw [h] at this; simp at this
  intro k args sto r sto' h
  unfold bigK at h
  rw [bite_eq] at h
  split at h
  · cases h
  rename_i hk9
  have hk9 : k ≤ 100000 := by simpa [Nat.blt_eq] using hk9
  split at h
  · -- a copy
    rename_i j m
    rw [bite_eq] at h
    split at h
    · rename_i hk
      cases h
      have hk := Nat.eq_of_beq_eq_true hk
      subst hk
      refine ⟨?_, hD.body _ hk9 (by simp)⟩
      obtain ⟨n, hrun⟩ := hD.toInt hk9 (s.l j) (hs j).2
      have hg : Good P ⟨Sy.den ρ, s⟩ B D.toInt [.bsl j m] sto (.rsl (sto.next + 0) 0 (s.l j).length (some (s.l j).length)) ⟨sto.next + 1, [(sto.next, ints (nums (s.l j)))] ++ sto.obs, sto.low⟩ := by
        refine lift_good (ρ' := ρ) (run_good hG hm ρ hrun) (fun c hinv vs hv => ?_) (.rsl 0 0 _ _) ⟨?_, ?_, ?_⟩
        · obtain ⟨v, rfl, hv2⟩ := hv.one
          exact .cons (bsl_data hinv hv2) .nil
        · exact ⟨Nat.lt_succ_self _, trivial⟩
        · intro q hq; simp at hq; subst hq; exact Nat.le_refl _
        · intro o y hy
          rw [look_cons] at hy
          split at hy
          · rename_i ho
            cases hy
            refine ⟨ints (nums (s.l j)), by rw [← ho]; simp [look_cons], by omega, rfl, fun i x y hx hy => ?_⟩
            rw [hx] at hy
            cases hy
            rw [ints_get, nums_get] at hx
            cases hz : (s.l j)[i]? with
            | none => rw [hz] at hx; simp at hx
            | some z => rw [hz] at hx; simp at hx; subst hx; exact .int _ rfl
          · cases hy
      intro c rargs hinv hra
      have hlen : m.den ρ = ((s.l j).length : Int) := by
        obtain ⟨v, _, hv⟩ := hra.one
        exact (bsl_slice hv).2
      refine Calls.mono (hg c rargs hinv hra) ?_
      rintro e w' ⟨rv, c', rfl, rfl, hst, hv⟩
      refine ⟨rv, c', rfl, rfl, ?_, rsl_brs hlen (Nat.le_refl _) hv⟩
      have := hst.inv.rebig (o := sto.next) (j := j) (by simp [look_cons]) (hne j)
      refine hst.retell (s2 := ⟨sto.next + 1, (sto.next, [.bc j]) :: sto.obs, sto.low⟩) ?_ rfl rfl
      simpa [put] using this
    · cases h
  · -- validity of a list of any length
    rename_i o j m
    split at h
    · rename_i bd hbd
      have hbd := boundOf_mem hbd
      rw [bite_eq] at h
      split at h
      · rename_i hbig
        have hl := isBig_look hbig
        split at h
        · rename_i q hq
          cases h
          refine ⟨?_, hD.body k hk9 (by simp; exact .inr (.inr (.inr ⟨bd, hbd⟩)))⟩
          obtain ⟨S, hrun⟩ := hD.valid _ hbd (s.l j) (hs j).2 (hw j)
          have hq' := findB_ok hB hq
          rw [hq'] at hrun
          refine lift_plain (ρ' := ρ) (hrun ρ s) (fun c hinv vs hv => ?_) rfl (.bool _)
          obtain ⟨v, rfl, hv2⟩ := hv.one
          exact .cons (brs_data hinv hl hv2) .nil
        · cases h
      · cases h
    · cases h
  · -- two copies are equal
    rename_i o j m o' j' m'
    simp only [bite_eq] at h
    split at h
    · rename_i hk
      have hk := Nat.eq_of_beq_eq_true hk
      subst hk
      split at h
      · rename_i hj
        have hj := Nat.eq_of_beq_eq_true hj
        subst hj
        split at h
        · rename_i h1
          split at h
          · rename_i h2
            cases h
            refine ⟨?_, hD.body _ hk9 (by simp)⟩
            obtain ⟨n, S, hrun⟩ := hD.eqInt hk9 (s.l j) (hs j).2
            refine lift_plain (ρ' := ρ) (run_good hG hm ρ hrun) (fun c hinv vs hv => ?_) rfl (.bool _)
            obtain ⟨v, u, rfl, hv, hu⟩ := hv.two
            exact .cons (brs_data hinv (isBig_look h1) hv) (.cons (brs_data hinv (isBig_look h2) hu) .nil)
          · cases h
        · cases h
      · cases h
    · cases h
  · -- marks
    rename_i o j m x
    simp only [bite_eq] at h
    split at h
    · rename_i hk
      have hk := Nat.eq_of_beq_eq_true hk
      subst hk
      split at h
      · rename_i hbig
        have hl := isBig_look hbig
        split at h
        · rename_i y hy
          cases h
          refine ⟨?_, hD.body _ hk9 (by simp)⟩
          intro c rargs hinv hra
          obtain ⟨v, u, hrg, hv, hu⟩ := hra.two
          obtain ⟨cap, _, hv'⟩ := brs_rsl hv
          have hinv' := hinv.unbig hl
          have hlk : look (put sto.obs o (ints (nums (s.l j)))) o = some (ints (nums (s.l j))) := look_put_self hl
          obtain ⟨n, ys, hrun⟩ := hD.mark hk9 (s.l j) (x.den ρ) ⟨sto.next, put sto.obs o (ints (nums (s.l j))), sto.low⟩ o cap (hs j).1 (hs j).2 hinv'.desc hlk
          have hu' : VR ⟨Sy.den ρ, s⟩ B c (.int .i64 (.c (x.den ρ))) u := by
            cases hu; exact VR_int' rfl
          have hy' : IntKind.i64.wrap (x.den ρ + (s.l j).length) = y.den ρ := by
            have := symArith_ok (ρ := ρ) hy
            have h2 : some (IntKind.i64.wrap (x.den ρ + m.den ρ)) = some (y.den ρ) := this
            rw [hv'.2] at h2
            exact Option.some.inj h2
          refine Calls.mono (run_good hG hm ρ hrun B c rargs hinv' (by rw [hrg]; exact .cons hv'.1 (.cons hu' .nil))) ?_
          rintro e w' ⟨rv, c', rfl, rfl, hst, hr⟩
          have hst := hst.refrom (s0 := sto) rfl rfl
          refine ⟨rv, c', rfl, rfl, ?_, ?_⟩
          · refine hst.forget (obs := del sto.obs o) (hinv.desc.del o) (fun o' x' hx' => ?_)
            obtain ⟨h1, h2⟩ := look_del hx'
            show look (put (put sto.obs o _) o ys) o' = some x'
            have hput : ∀ (l : List (Nat × Ob Sy)) (y : Ob Sy), look (put l o y) o' = look l o' := by
              intro l y
              induction l with
              | nil => rfl
              | cons p r ih =>
                obtain ⟨k, z⟩ := p
                simp only [put, beq_dec]
                by_cases hk : k = o
                · subst hk
                  simp only [decide_true, if_true]
                  rw [look_cons, look_cons, if_neg (fun e => h1 e.symm), if_neg (fun e => h1 e.symm)]
                · simp only [hk, decide_false, Bool.false_eq_true, if_false, look_cons, ih]
            rw [hput, hput]; exact h2
          · cases hr; exact VR_int' hy'.symm
        · cases h
      · cases h
    · cases h
  · -- validity of a list
    rename_i x _ _
    split at h
    · rename_i bd hbd
      have hbd := boundOf_mem hbd
      split at h
      · rename_i xs hxs
        split at h
        · rename_i ps hps
          have hps := numsOf_ints hps
          subst hps
          simp only [bite_eq] at h
          split at h
          · rename_i hsz
            rw [Nat.ble_eq] at hsz
            split at h
            · rename_i hcap0
              split at h
              · rename_i hfit
                have hcap : capOk x = true ∧ fitsL ps = true := ⟨hcap0, hfit⟩
                split at h
                · rename_i q hq
                  cases h
                  refine ⟨?_, hD.body k hk9 (by simp; exact .inr (.inr (.inr ⟨bd, hbd⟩)))⟩
                  have hq' := vdec_ok hV (hD.small _ hbd) (fitsL_wrap ρ hcap.2) hq
                  by_cases hp : ps = []
                  · obtain ⟨n, S, hrun⟩ := hD.validE _ hbd
                    have : q = false := by rw [← hq', hp]; refine decide_eq_false (fun hv => ?_); have := hv.2.1; simp at this
                    subst this
                    refine lift_plain (ρ' := ρ) (run_good hG hm ρ hrun) (fun c hinv vs hv => ?_) rfl (.bool _)
                    obtain ⟨v, rfl, hv2⟩ := hv.one
                    exact .cons ((elems_data hinv hv2 hxs hcap.1).1 hp) .nil
                  · obtain ⟨S, hrun⟩ := hD.valid _ hbd (ps.map (Sy.den ρ)) (by simpa using hsz) (fitsL_wrap ρ hcap.2)
                    simp only at hrun
                    rw [hq'] at hrun
                    refine lift_plain (ρ' := ρ) (hrun ρ s) (fun c hinv vs hv => ?_) rfl (.bool _)
                    obtain ⟨v, rfl, hv2⟩ := hv.one
                    exact .cons ((elems_data hinv hv2 hxs hcap.1).2 hp hsz) .nil
                · cases h
              · cases h
            · cases h
          · cases h
        · cases h
      · cases h
    · cases h
  · cases h
end
end Go.Sx


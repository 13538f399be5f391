/-
  Numbers that are polynomials modulo two to the sixty-fourth, and runs of the machine over them.
-/
import Derived.Test.YtbjjlimncodmkaaMach
import Derived.ProofKit
import Derived.OpenShut
import Derived.Lib.SmallJoins
set_option linter.unusedVariables false
set_option linter.unusedSimpArgs false
/-
  NUMBERS THAT ARE POLYNOMIALS MODULO 2^64, and what is assumed of them.
-/
namespace Go.Sx

abbrev Poly := List (Nat × Nat)

/-! ## Congruence -/
def cg (a b : Int) : Prop := ∃ k : Int, a = b + k * 18446744073709551616
theorem cg.refl (a : Int) : cg a a := ⟨0, by omega⟩
theorem cg.symm {a b : Int} (h : cg a b) : cg b a := by obtain ⟨k, h⟩ := h; exact ⟨-k, by omega⟩
theorem cg.trans {a b c : Int} (h : cg a b) (h' : cg b c) : cg a c := by obtain ⟨k, h⟩ := h; obtain ⟨l, h'⟩ := h'; exact ⟨k + l, by omega⟩
theorem cg.add {a b c d : Int} (h : cg a b) (h' : cg c d) : cg (a + c) (b + d) := by obtain ⟨k, h⟩ := h; obtain ⟨l, h'⟩ := h'; exact ⟨k + l, by omega⟩
theorem cg.neg {a b : Int} (h : cg a b) : cg (-a) (-b) := by obtain ⟨k, h⟩ := h; exact ⟨-k, by omega⟩
theorem cg.mul {a b c d : Int} (h : cg a b) (h' : cg c d) : cg (a * c) (b * d) := by
  obtain ⟨k, h⟩ := h; obtain ⟨l, h'⟩ := h'
  subst h; subst h'
  exact ⟨b * l + k * d + k * l * 18446744073709551616, by grind⟩
theorem cg_wrap (a : Int) : cg (IntKind.i64.wrap a) a := by
  have h : (2 ^ IntKind.i64.bits : Int) = 18446744073709551616 := by decide
  have h2 : (2 ^ (IntKind.i64.bits - 1) : Int) = 9223372036854775808 := by decide
  have h3 : IntKind.i64.signed = true := by rfl
  simp only [IntKind.wrap, h, h2, h3, Bool.true_and]
  split
  · exact ⟨-(a / 18446744073709551616) - 1, by omega⟩
  · exact ⟨-(a / 18446744073709551616), by omega⟩
theorem wrap_cg {a b : Int} (h : cg a b) : IntKind.i64.wrap a = IntKind.i64.wrap b := by
  obtain ⟨k, h⟩ := h
  have h1 : (2 ^ IntKind.i64.bits : Int) = 18446744073709551616 := by decide
  have : a % 18446744073709551616 = b % 18446744073709551616 := by omega
  simp only [IntKind.wrap, h1, this]

/-! ## Monomials: the exponents of forty variables, a byte each -/
def evm (ρ : Nat → Int) : Nat → Nat → Nat → Int
  | 0, _, _ => 1
  | f + 1, i, k => ρ i ^ (k % 256) * evm ρ f (i + 1) (k / 256)

def lowMask : Nat → Nat
  | 0 => 0
  | f + 1 => 128 + 256 * lowMask f

theorem low_succ {k f : Nat} (h : k &&& lowMask (f + 1) = 0) : k % 256 < 128 ∧ (k / 256) &&& lowMask f = 0 := by
  have hb : ∀ i, (k.testBit i && (lowMask (f + 1)).testBit i) = false := by
    intro i; rw [← Nat.testBit_and, h, Nat.zero_testBit]
  constructor
  · have h7 := hb 7
    have : (lowMask (f + 1)).testBit 7 = true := by
      rw [Nat.testBit_eq_decide_div_mod_eq]; simp only [lowMask]; simp; omega
    rw [this, Bool.and_true, Nat.testBit_eq_decide_div_mod_eq] at h7
    have h7' : ¬ (k / 2 ^ 7 % 2 = 1) := by simpa using h7
    omega
  · apply Nat.eq_of_testBit_eq
    intro i
    rw [Nat.testBit_and, Nat.zero_testBit]
    have h8 := hb (i + 8)
    have e1 : (k / 256).testBit i = k.testBit (i + 8) := by
      rw [show (256 : Nat) = 2 ^ 8 by rfl, Nat.testBit_div_two_pow]
    have e2 : (lowMask f).testBit i = (lowMask (f + 1)).testBit (i + 8) := by
      have : lowMask f = lowMask (f + 1) / 2 ^ 8 := by simp only [lowMask]; omega
      rw [this, Nat.testBit_div_two_pow]
    rw [e1, e2]; exact h8

theorem evm_add (ρ : Nat → Int) : ∀ (f i k l : Nat), k &&& lowMask f = 0 → l &&& lowMask f = 0 → evm ρ f i (k + l) = evm ρ f i k * evm ρ f i l := by
  intro f
  induction f with
  | zero => intro i k l _ _; simp [evm]
  | succ f ih =>
    intro i k l hk hl
    obtain ⟨k1, k2⟩ := low_succ hk
    obtain ⟨l1, l2⟩ := low_succ hl
    simp only [evm]
    rw [show (k + l) % 256 = k % 256 + l % 256 by omega, show (k + l) / 256 = k / 256 + l / 256 by omega, ih _ _ _ k2 l2, Int.pow_add]
    grind

theorem evm_zero (ρ : Nat → Int) : ∀ (f i : Nat), evm ρ f i 0 = 1 := by
  intro f
  induction f with
  | zero => intro i; rfl
  | succ f ih => intro i; simp [evm, ih]

def mask : Nat := lowMask 40
def ev (ρ : Nat → Int) (k : Nat) : Int := evm ρ 40 0 k

/-! ## Polynomials -/
def peval (ρ : Nat → Int) : Poly → Int
  | [] => 0
  | (k, a) :: r => (a : Int) * ev ρ k + peval ρ r

/-- A term ahead of the rest, if it is none. -/
noncomputable def tcons (k a : Nat) (r : Poly) : Poly := bite (Nat.beq a 0) r ((k, a) :: r)

noncomputable def padd1 (k a : Nat) (rest : Poly → Poly) (q : Poly) : Poly :=
  @List.rec (Nat × Nat) (fun _ => Poly) ((k, a) :: rest []) (fun t q' ih =>
    bite (Nat.blt k t.1) ((k, a) :: rest (t :: q')) (bite (Nat.beq k t.1) (tcons k (Nat.mod (Nat.add a t.2) 18446744073709551616) (rest q')) (t :: ih))) q

noncomputable def padd (p : Poly) : Poly → Poly :=
  @List.rec (Nat × Nat) (fun _ => Poly → Poly) (fun q => q) (fun t _ ih q => padd1 t.1 t.2 ih q) p

noncomputable def pscale (k a : Nat) (q : Poly) : Poly :=
  @List.rec (Nat × Nat) (fun _ => Poly) [] (fun t _ ih => tcons (Nat.add k t.1) (Nat.mod (Nat.mul a t.2) 18446744073709551616) ih) q

noncomputable def pmul (p q : Poly) : Poly :=
  @List.rec (Nat × Nat) (fun _ => Poly) [] (fun t _ ih => padd (pscale t.1 t.2 q) ih) p

noncomputable def plow (p : Poly) : Bool :=
  @List.rec (Nat × Nat) (fun _ => Bool) true (fun t _ ih => bite (Nat.beq (Nat.land t.1 mask) 0) ih false) p

theorem beq_false_of_ne {a b : Nat} (h : a ≠ b) : Nat.beq a b = false := by
  cases hb : Nat.beq a b with
  | false => rfl
  | true => exact absurd (Nat.eq_of_beq_eq_true hb) h

theorem cg_mod (a : Nat) (x : Int) : cg (((a % 18446744073709551616 : Nat) : Int) * x) ((a : Int) * x) := by
  refine ⟨-((a / 18446744073709551616 : Nat) : Int) * x, ?_⟩
  have h : (a : Int) = ((a % 18446744073709551616 : Nat) : Int) + 18446744073709551616 * ((a / 18446744073709551616 : Nat) : Int) := by omega
  generalize ((a % 18446744073709551616 : Nat) : Int) = r at *
  generalize ((a / 18446744073709551616 : Nat) : Int) = d at *
  rw [h]; grind

theorem peval_tcons (ρ : Nat → Int) (k a : Nat) (r : Poly) : peval ρ (tcons k a r) = (a : Int) * ev ρ k + peval ρ r := by
  unfold tcons
  rw [bite_eq]
  split
  · rename_i h
    have : a = 0 := Nat.eq_of_beq_eq_true h
    subst this; simp
  · rfl

theorem peval_padd1 (ρ : Nat → Int) (k a : Nat) (rest : Poly → Poly) (P : Int) (hrest : ∀ q, cg (peval ρ (rest q)) (P + peval ρ q)) : ∀ q, cg (peval ρ (padd1 k a rest q)) ((a : Int) * ev ρ k + P + peval ρ q) := by
  intro q
  induction q with
  | nil =>
    show cg (peval ρ ((k, a) :: rest [])) _
    have := hrest []
    simp only [peval] at this ⊢
    have h := (cg.refl ((a : Int) * ev ρ k)).add this
    simpa [Int.add_assoc] using h
  | cons t q ih =>
    obtain ⟨k', a'⟩ := t
    show cg (peval ρ (bite (Nat.blt k k') ((k, a) :: rest ((k', a') :: q)) (bite (Nat.beq k k') (tcons k (Nat.mod (Nat.add a a') 18446744073709551616) (rest q)) ((k', a') :: padd1 k a rest q)))) _
    simp only [bite_eq]
    split
    · simp only [peval]
      have := hrest ((k', a') :: q)
      simp only [peval] at this
      have h := (cg.refl ((a : Int) * ev ρ k)).add this
      simpa [Int.add_assoc] using h
    · split
      · rename_i h
        have : k = k' := Nat.eq_of_beq_eq_true h
        subst this
        rw [peval_tcons]
        simp only [peval]
        have h1 := cg_mod (a + a') (ev ρ k)
        have h2 := h1.add (hrest q)
        have e : (((a + a' : Nat) : Int) * ev ρ k + (P + peval ρ q)) = (a : Int) * ev ρ k + P + ((a' : Int) * ev ρ k + peval ρ q) := by push_cast; grind
        rw [← e]; exact h2
      · simp only [peval]
        have h := (cg.refl ((a' : Int) * ev ρ k')).add ih
        have e : ((a' : Int) * ev ρ k' + ((a : Int) * ev ρ k + P + peval ρ q)) = (a : Int) * ev ρ k + P + ((a' : Int) * ev ρ k' + peval ρ q) := by omega
        rw [← e]; exact h

theorem peval_padd (ρ : Nat → Int) : ∀ p q, cg (peval ρ (padd p q)) (peval ρ p + peval ρ q) := by
  intro p
  induction p with
  | nil => intro q; show cg (peval ρ q) (0 + peval ρ q); rw [Int.zero_add]; exact cg.refl _
  | cons t p ih =>
    intro q
    obtain ⟨k, a⟩ := t
    show cg (peval ρ (padd1 k a (padd p) q)) _
    have := peval_padd1 ρ k a (padd p) (peval ρ p) ih q
    simpa only [peval] using this

theorem plow_cons {k a : Nat} {p : Poly} (h : plow ((k, a) :: p) = true) : k &&& mask = 0 ∧ plow p = true := by
  have h' : bite (Nat.beq (Nat.land k mask) 0) (plow p) false = true := h
  rw [bite_eq] at h'
  split at h'
  · rename_i hb; exact ⟨Nat.eq_of_beq_eq_true hb, h'⟩
  · cases h'

theorem peval_pscale (ρ : Nat → Int) {k a : Nat} (hk : k &&& mask = 0) : ∀ q, plow q = true → cg (peval ρ (pscale k a q)) ((a : Int) * ev ρ k * peval ρ q) := by
  intro q
  induction q with
  | nil => intro _; show cg 0 ((a : Int) * ev ρ k * 0); rw [Int.mul_zero]; exact cg.refl _
  | cons t q ih =>
    obtain ⟨k', a'⟩ := t
    intro h
    obtain ⟨h1, h2⟩ := plow_cons h
    show cg (peval ρ (tcons (Nat.add k k') (Nat.mod (Nat.mul a a') 18446744073709551616) (pscale k a q))) _
    rw [peval_tcons]
    have e1 : ev ρ (Nat.add k k') = ev ρ k * ev ρ k' := evm_add ρ 40 0 k k' hk h1
    rw [e1]
    have h3 := (cg_mod (a * a') (ev ρ k * ev ρ k')).add (ih h2)
    simp only [peval]
    have e2 : (((a * a' : Nat) : Int) * (ev ρ k * ev ρ k') + (a : Int) * ev ρ k * peval ρ q) = (a : Int) * ev ρ k * ((a' : Int) * ev ρ k' + peval ρ q) := by push_cast; grind
    rw [← e2]; exact h3

theorem peval_pmul (ρ : Nat → Int) : ∀ p q, plow p = true → plow q = true → cg (peval ρ (pmul p q)) (peval ρ p * peval ρ q) := by
  intro p
  induction p with
  | nil => intro q _ _; show cg 0 (0 * peval ρ q); rw [Int.zero_mul]; exact cg.refl _
  | cons t p ih =>
    obtain ⟨k, a⟩ := t
    intro q h hq
    obtain ⟨h1, h2⟩ := plow_cons h
    show cg (peval ρ (padd (pscale k a q) (pmul p q))) _
    refine (peval_padd ρ _ _).trans ?_
    have h3 := (peval_pscale ρ (a := a) h1 q hq).add (ih q h2 hq)
    simp only [peval]
    rw [Int.add_mul]; exact h3

/-! ## Symbols -/
inductive Sy where
  | c (n : Int)
  | p (l : Poly)

def Sy.den (ρ : Nat → Int) : Sy → Int
  | .c n => n
  | .p l => IntKind.i64.wrap (peval ρ l)

def Sy.poly : Sy → Poly
  | .c n => match n % 18446744073709551616 with
    | .ofNat 0 => []
    | .ofNat (k + 1) => [(0, k + 1)]
    | .negSucc _ => []
  | .p l => l

def mkSy : Poly → Sy
  | [] => .c 0
  | [(0, a)] => .c (IntKind.i64.wrap a)
  | l => .p l

theorem poly_den (ρ : Nat → Int) (s : Sy) : cg (peval ρ s.poly) (s.den ρ) := by
  cases s with
  | p l => exact (cg_wrap _).symm
  | c n =>
    simp only [Sy.poly, Sy.den]
    have hm : 0 ≤ n % 18446744073709551616 := Int.emod_nonneg _ (by decide)
    have hk : n = n % 18446744073709551616 + (n / 18446744073709551616) * 18446744073709551616 := by omega
    split
    · rename_i h; exact ⟨-(n / 18446744073709551616), by simp only [peval]; have : n % 18446744073709551616 = 0 := h; omega⟩
    · rename_i k h
      have h' : n % 18446744073709551616 = ((k + 1 : Nat) : Int) := h
      refine ⟨-(n / 18446744073709551616), ?_⟩
      simp only [peval, ev, evm_zero]
      omega
    · rename_i k h
      rw [h] at hm
      exact absurd hm (by simp [Int.negSucc_lt_zero])

theorem mkSy_den (ρ : Nat → Int) (l : Poly) : (mkSy l).den ρ = IntKind.i64.wrap (peval ρ l) := by
  unfold mkSy
  split
  · simp [Sy.den, peval]; rfl
  · simp [Sy.den, peval, ev, evm_zero]
  · rfl

structure Fact where
  lt : Bool
  a : Sy
  b : Sy
  q : Bool

def Fact.Ok (ρ : Nat → Int) (f : Fact) : Prop := (if f.lt then decide (f.a.den ρ < f.b.den ρ) else (f.a.den ρ == f.b.den ρ)) = f.q

def ieq : Int → Int → Bool
  | .ofNat a, .ofNat b => Nat.beq a b
  | .negSucc a, .negSucc b => Nat.beq a b
  | _, _ => false
def ilt : Int → Int → Bool
  | .ofNat a, .ofNat b => Nat.blt a b
  | .negSucc a, .negSucc b => Nat.blt b a
  | .negSucc _, .ofNat _ => true
  | .ofNat _, .negSucc _ => false

theorem ieq_eq (a b : Int) : ieq a b = (a == b) := by
  cases a <;> cases b <;> simp [ieq] <;> (rw [beq_dec] <;> try rfl) <;> (try (rw [Bool.eq_iff_iff]; simp; try omega))
theorem ilt_eq (a b : Int) : ilt a b = decide (a < b) := by
  cases a <;> cases b <;> rw [Bool.eq_iff_iff] <;> simp [ilt, Nat.blt_eq] <;> omega

noncomputable def peq (p : Poly) : Poly → Bool :=
  @List.rec (Nat × Nat) (fun _ => Poly → Bool) (fun q => @List.rec (Nat × Nat) (fun _ => Bool) true (fun _ _ _ => false) q)
    (fun t _ ih q => @List.rec (Nat × Nat) (fun _ => Bool) false (fun t' q' _ => bite (Nat.beq t.1 t'.1) (bite (Nat.beq t.2 t'.2) (ih q') false) false) q) p

theorem peq_eq : ∀ p q, peq p q = true → p = q := by
  intro p
  induction p with
  | nil => intro q h; cases q with
    | nil => rfl
    | cons t q => cases (show false = true from h)
  | cons t p ih =>
    intro q h
    cases q with
    | nil => cases (show false = true from h)
    | cons t' q =>
      have h' : bite (Nat.beq t.1 t'.1) (bite (Nat.beq t.2 t'.2) (peq p q) false) false = true := h
      simp only [bite_eq] at h'
      split at h'
      · rename_i h1
        split at h'
        · rename_i h2
          rw [ih q h', Prod.ext (Nat.eq_of_beq_eq_true h1) (Nat.eq_of_beq_eq_true h2)]
        · cases h'
      · cases h'

noncomputable def Sy.same : Sy → Sy → Bool
  | .c a, .c b => ieq a b
  | .p l, .p m => peq l m
  | _, _ => false

theorem Sy.same_eq {a b : Sy} (h : a.same b = true) : a = b := by
  cases a <;> cases b <;> simp only [Sy.same] at h
  · rw [ieq_eq] at h; have := eq_of_beq h; rw [this]
  · cases h
  · cases h
  · rw [peq_eq _ _ h]

noncomputable def findF (lt : Bool) (a b : Sy) : List Fact → Option Bool
  | [] => none
  | f :: r => bite (f.lt == lt) (bite (f.a.same a) (bite (f.b.same b) (some f.q) (findF lt a b r)) (findF lt a b r)) (findF lt a b r)

theorem findF_ok {ρ : Nat → Int} {lt : Bool} {a b : Sy} {q : Bool} : ∀ {Γ : List Fact}, (∀ f, f ∈ Γ → f.Ok ρ) → findF lt a b Γ = some q → Fact.Ok ρ ⟨lt, a, b, q⟩ := by
  intro Γ
  induction Γ with
  | nil => intro _ h; cases h
  | cons f r ih =>
    intro hok h
    have ih' := ih (fun g hg => hok g (by simp [hg]))
    simp only [findF, bite_eq] at h
    split at h
    · rename_i h1
      split at h
      · rename_i h2
        split at h
        · rename_i h3
          cases h
          have := hok f (by simp)
          obtain ⟨lt', a', b', q'⟩ := f
          simp only at h1 h2 h3
          have e1 : lt' = lt := eq_of_beq h1
          rw [← e1, ← Sy.same_eq h2, ← Sy.same_eq h3]
          exact this
        · exact ih' h
      · exact ih' h
    · exact ih' h

noncomputable def ltSy (Γ : List Fact) : Sy → Sy → Option Bool
  | .c a, .c b => some (ilt a b)
  | a, b => findF true a b Γ
noncomputable def eqSy (Γ : List Fact) : Sy → Sy → Option Bool
  | .c a, .c b => some (ieq a b)
  | a, b => bite (a.same b) (some true) (match findF false a b Γ with
    | some q => some q
    | none => match findF false b a Γ with
      | some q => some q
      | none => match findF true a b Γ with
        | some true => some false
        | _ => match findF true b a Γ with
          | some true => some false
          | _ => none)

theorem ltSy_ok {ρ : Nat → Int} {Γ : List Fact} (hΓ : ∀ f, f ∈ Γ → f.Ok ρ) {a b : Sy} {q : Bool} (h : ltSy Γ a b = some q) : decide (a.den ρ < b.den ρ) = q := by
  unfold ltSy at h
  split at h
  · cases h; rw [ilt_eq]; rfl
  · exact findF_ok hΓ h

theorem eqSy_ok {ρ : Nat → Int} {Γ : List Fact} (hΓ : ∀ f, f ∈ Γ → f.Ok ρ) {a b : Sy} {q : Bool} (h : eqSy Γ a b = some q) : (a.den ρ == b.den ρ) = q := by
  unfold eqSy at h
  split at h
  · cases h; simp only [Sy.den]; rw [ieq_eq]
  · rw [bite_eq] at h
    split at h
    · rename_i hs; cases h; rw [Sy.same_eq hs]; simp
    · split at h
      · rename_i q' hf
        cases h
        have := findF_ok hΓ hf
        simpa [Fact.Ok] using this
      · split at h
        · rename_i q' hf
          cases h
          have := findF_ok hΓ hf
          simp only [Fact.Ok, Bool.false_eq_true, if_false] at this
          rw [← this, Bool.eq_iff_iff]; simp; exact ⟨fun h => h.symm, fun h => h.symm⟩
        · split at h
          · rename_i hf
            cases h
            have : a.den ρ < b.den ρ := of_decide_eq_true (findF_ok hΓ hf)
            simp; omega
          · split at h
            · rename_i hf
              cases h
              have : b.den ρ < a.den ρ := of_decide_eq_true (findF_ok hΓ hf)
              simp; omega
            · cases h

noncomputable def symArith (op : BinOp) (k : IntKind) (x y : Sy) : Option Sy :=
  match x, y with
  | .c a, .c b => match aritOk op k a b with
    | some n => some (.c n)
    | none => none
  | x, y => match k with
    | .i64 => match op with
      | .add => some (mkSy (padd x.poly y.poly))
      | .sub => some (mkSy (padd x.poly (pscale 0 18446744073709551615 y.poly)))
      | .mul => bite (plow x.poly) (bite (plow y.poly) (some (mkSy (pmul x.poly y.poly))) none) none
      | _ => none
    | _ => none

noncomputable def symCmp (Γ : List Fact) (op : BinOp) (x y : Sy) : Option Bool :=
  match op with
  | .eql => eqSy Γ x y
  | .neq => (eqSy Γ x y).map not
  | .lss => ltSy Γ x y
  | .gtr => ltSy Γ y x
  | .leq => (ltSy Γ y x).map not
  | .geq => (ltSy Γ x y).map not
  | _ => none

def symConv (k k' : IntKind) (x : Sy) : Option Sy :=
  match x with
  | .c n => some (.c (k'.wrap n))
  | .p l => match k, k' with
    | .i64, .i64 => some (.p l)
    | _, _ => none

noncomputable def symNum (Γ : List Fact) : Num Sy := ⟨.c, fun x => match x with | .c n => some n | .p _ => none, symArith, symCmp Γ, symConv⟩

theorem plow_zero (l : Poly) : True := trivial

theorem symNum_ok {ρ : Nat → Int} {Γ : List Fact} (hΓ : ∀ f, f ∈ Γ → f.Ok ρ) (s : Sms) : (symNum Γ).Ok ⟨Sy.den ρ, s⟩ := by
  refine ⟨fun n => rfl, fun x n h => ?_, fun op k x y z h => ?_, fun op x y q h => ?_, fun k k' x z h => ?_⟩
  · cases x with
    | c m => simp only [symNum] at h; cases h; rfl
    | p l => simp [symNum] at h
  · simp only [symNum] at h
    unfold symArith at h
    split at h
    · split at h
      · rename_i n hn; cases h; simpa [Sy.den] using hn
      · cases h
    · split at h
      · split at h
        · cases h
          show some (IntKind.i64.wrap (x.den ρ + y.den ρ)) = some ((mkSy _).den ρ)
          rw [mkSy_den]
          exact congrArg some (wrap_cg (((peval_padd ρ _ _).trans ((poly_den ρ x).add (poly_den ρ y))).symm))
        · cases h
          show some (IntKind.i64.wrap (x.den ρ - y.den ρ)) = some ((mkSy _).den ρ)
          rw [mkSy_den]
          refine congrArg some (wrap_cg ?_)
          have h0 : ∀ l : Poly, cg (peval ρ (pscale 0 18446744073709551615 l)) (-(peval ρ l)) := by
            intro l
            induction l with
            | nil => exact cg.refl 0
            | cons t l ih =>
              obtain ⟨k', a'⟩ := t
              show cg (peval ρ (tcons (Nat.add 0 k') (Nat.mod (Nat.mul 18446744073709551615 a') 18446744073709551616) (pscale 0 18446744073709551615 l))) _
              rw [peval_tcons]
              simp only [peval]
              have h1 := (cg_mod (18446744073709551615 * a') (ev ρ k')).add ih
              have e0 : Nat.add 0 k' = k' := Nat.zero_add k'
              rw [e0]
              refine h1.trans ?_
              refine ⟨(a' : Int) * ev ρ k', ?_⟩
              have e1 : ((18446744073709551615 * a' : Nat) : Int) = 18446744073709551615 * (a' : Int) := by omega
              rw [e1]
              generalize ev ρ k' = e
              generalize (a' : Int) = a
              grind
          have h1 := (peval_padd ρ x.poly (pscale 0 18446744073709551615 y.poly)).trans ((poly_den ρ x).add ((h0 y.poly).trans (poly_den ρ y).neg))
          rw [← Int.sub_eq_add_neg] at h1
          exact h1.symm
        · simp only [bite_eq] at h
          split at h
          · rename_i h1
            split at h
            · rename_i h2
              cases h
              show some (IntKind.i64.wrap (x.den ρ * y.den ρ)) = some ((mkSy _).den ρ)
              rw [mkSy_den]
              exact congrArg some (wrap_cg (((peval_pmul ρ _ _ h1 h2).trans ((poly_den ρ x).mul (poly_den ρ y))).symm))
            · cases h
          · cases h
        · cases h
      · cases h
  · simp only [symNum] at h
    unfold symCmp at h
    have hnot : ∀ {o : Option Bool} {q : Bool}, o.map not = some q → o = some (!q) := by
      intro o q ho
      cases o with
      | none => cases ho
      | some b => simp at ho; subst ho; simp
    split at h
    · simp only [cmpOk]; rw [eqSy_ok hΓ h]
    · have := eqSy_ok hΓ (hnot h)
      simp only [cmpOk, bne, this, Bool.not_not]
    · simp only [cmpOk]; rw [ltSy_ok hΓ h]
    · simp only [cmpOk]; exact congrArg some (ltSy_ok hΓ h)
    · have := ltSy_ok hΓ (hnot h)
      simp only [cmpOk]
      refine congrArg some ?_
      cases q <;> simp at this ⊢ <;> omega
    · have := ltSy_ok hΓ (hnot h)
      simp only [cmpOk]
      refine congrArg some ?_
      cases q <;> simp at this ⊢ <;> omega
    · cases h
  · simp only [symNum] at h
    unfold symConv at h
    split at h
    · cases h; rfl
    · split at h
      · cases h
        exact (wrap_cg (cg_wrap _)).symm
      · cases h

end Go.Sx

/-
  FROM A RUN OF THE MACHINE TO A CALL OF THE PROGRAM.
-/
namespace Go.Sx
open Go.RowKit

/-- The types of a program, as it tells them. -/
noncomputable def tiOf (P : Program) (t : TypeId) : Option Ti :=
  match P.underlying t, P.info? t with
  | some d, some i => match i.zero with
    | some z => some ⟨d, i.size, i.bytes, z⟩
    | none => none
  | _, _ => none

theorem tiOf_ok (P : Program) : TOk P (tiOf P) := by
  intro t ti h
  unfold tiOf at h
  split at h
  · rename_i d i h1 h2
    split at h
    · rename_i z h3
      cases h
      exact ⟨h1, i, h2, rfl, rfl, h3⟩
    · cases h
  · cases h

def noCountB (P : Program) : Bool := P.funcs.toList.all fun fn => !(fn.name == "runtime.NumGoroutine")

theorem noCount_of {P : Program} (h : noCountB P = true) : NoCount P := by
  intro k fn hk hn
  unfold noCountB at h
  rw [List.all_eq_true] at h
  have := h fn (List.mem_of_getElem? (i := k) (by simpa using hk))
  simp [hn] at this

/-- What is known of functions beside their own code. -/
structure Known (P : Program) (Δ : Den Sy) (Γ : List Fact) where
  K : FuncId → List (V Sy) → Sto Sy → Option (V Sy × Sto Sy)
  ok : ∀ B, COk P Δ B K

noncomputable def symRun (P : Program) (K : FuncId → List (V Sy) → Sto Sy → Option (V Sy × Sto Sy)) (Γ : List Fact) (n : Nat) (k : FuncId) (args : List (V Sy)) (sto : Sto Sy) : Option (V Sy × Sto Sy) :=
  acallN (symNum Γ) (tiOf P) P K (fun C nt ops st => adraw (symNum Γ) (tiOf P) C nt ops st) (fun _ _ => none) n k args sto

theorem symRun_ok {P : Program} (hG : NoCount P) (hm : P.follows .mixedOrders = true) {ρ : Nat → Int} {Γ : List Fact} (hΓ : ∀ f, f ∈ Γ → f.Ok ρ) {s : Sms} {B : Nat}
    {K : FuncId → List (V Sy) → Sto Sy → Option (V Sy × Sto Sy)} (hK : COk P ⟨Sy.den ρ, s⟩ B K) (n : Nat) : COk P ⟨Sy.den ρ, s⟩ B (symRun P K Γ n) :=
  acallN_sound (symNum_ok hΓ s) hG (tiOf_ok P) hK (fun C hC nt => adraw_sound (symNum_ok hΓ s) hG (tiOf_ok P) hm hC nt) n

def noK (_ : FuncId) (_ : List (V Sy)) (_ : Sto Sy) : Option (V Sy × Sto Sy) := none
theorem noK_ok {P : Program} {Δ : Den Sy} {B : Nat} : COk P Δ B noK := by intro k args sto r sto' h; cases h

def saysTrue : Option (V Sy × Sto Sy) → Bool
  | some (.bool true, _) => true
  | _ => false

theorem saysTrue_iff {o : Option (V Sy × Sto Sy)} (h : saysTrue o = true) : ∃ s, o = some (.bool true, s) := by
  unfold saysTrue at h
  split at h
  · exact ⟨_, rfl⟩
  · cases h

/-- A law that the machine finds true is true: nothing that was there before is turned. -/
theorem calls_true {P : Program} {Δ : Den Sy} {k : FuncId} {args : List (V Sy)} {rargs : Array Value} {w : World} {C : FuncId → List (V Sy) → Sto Sy → Option (V Sy × Sto Sy)}
    (hC : COk P Δ w.heap.size C) (hargs : VRs Δ w.heap.size ⟨w, fun _ => none⟩ args rargs.toList) (hrun : saysTrue (C k args ⟨0, [], 0⟩) = true) :
    Calls P k rargs w fun e w' => e = .returned (.bool true) ∧ Below w.heap.size w w' ∧ ∀ a, w'.frozen? a = w.frozen? a := by
  obtain ⟨s, hs⟩ := saysTrue_iff hrun
  have hinv : SInv Δ w.heap.size ⟨w, fun _ => none⟩ (⟨0, [], 0⟩ : Sto Sy) :=
    ⟨Nat.le_refl _, fun _ _ => rfl, fun o b n h => (by cases h), fun o x h => (by cases h), fun o o' x x' b n n' h => (by cases h), trivial⟩
  refine Calls.mono ((hC k args _ _ _ hs).1 ⟨w, fun _ => none⟩ rargs hinv hargs) ?_
  rintro e w' ⟨rv, c', rfl, rfl, h1, h2⟩
  cases h2
  exact ⟨rfl, h1.below, h1.frz⟩

/-- A variable. -/
def vx (i : Nat) : Sy := .p [(256 ^ i, 1)]

theorem evm_var (ρ : Nat → Int) : ∀ (f i j : Nat), j < f → evm ρ f i (256 ^ j) = ρ (i + j) := by
  intro f
  induction f with
  | zero => intro i j h; omega
  | succ f ih =>
    intro i j h
    simp only [evm]
    cases j with
    | zero =>
      have e1 : 256 ^ 0 % 256 = 1 := rfl
      have e2 : 256 ^ 0 / 256 = 0 := rfl
      rw [e1, e2, evm_zero, Int.mul_one, Nat.add_zero, Int.pow_succ, Int.pow_zero, Int.one_mul]
    | succ j =>
      have e1 : 256 ^ (j + 1) % 256 = 0 := by rw [Nat.pow_succ]; omega
      have e2 : 256 ^ (j + 1) / 256 = 256 ^ j := by rw [Nat.pow_succ]; omega
      rw [e1, e2, ih (i + 1) j (by omega)]
      simp [Nat.add_assoc, Nat.add_comm 1 j]

theorem vx_den (ρ : Nat → Int) (i : Nat) (hi : i < 40) (hw : IntKind.i64.wrap (ρ i) = ρ i) : (vx i).den ρ = ρ i := by
  simp only [vx, Sy.den, peval, ev, evm_var ρ 40 0 i hi]
  simpa using hw

theorem beq_false_of_ne' {a b : Int} (h : ¬ a = b) : (a == b) = false := by simp [h]

theorem wrap_of_wf {a : Int} (h : (Lit.int .i64 a).wf = true) : IntKind.i64.wrap a = a := by
  have h0 : IntKind.i64.min = -9223372036854775808 := by decide
  have h9 : IntKind.i64.max = 9223372036854775807 := by decide
  have h1 : (2 ^ IntKind.i64.bits : Int) = 18446744073709551616 := by decide
  have h2 : (2 ^ (IntKind.i64.bits - 1) : Int) = 9223372036854775808 := by decide
  have h3 : IntKind.i64.signed = true := by rfl
  simp only [Lit.wf, h0, h9, Bool.and_eq_true, decide_eq_true_eq] at h
  simp only [IntKind.wrap, h1, h2, h3, Bool.true_and]
  split <;> rename_i hh <;> simp at hh <;> omega

theorem Fact.lt_yes {ρ : Nat → Int} {a b : Sy} (h : a.den ρ < b.den ρ) : Fact.Ok ρ ⟨true, a, b, true⟩ := by
  show decide (a.den ρ < b.den ρ) = true; exact decide_eq_true h
theorem Fact.lt_no {ρ : Nat → Int} {a b : Sy} (h : ¬ a.den ρ < b.den ρ) : Fact.Ok ρ ⟨true, a, b, false⟩ := by
  show decide (a.den ρ < b.den ρ) = false; exact decide_eq_false h
theorem Fact.eq_yes {ρ : Nat → Int} {a b : Sy} (h : a.den ρ = b.den ρ) : Fact.Ok ρ ⟨false, a, b, true⟩ := by
  show (a.den ρ == b.den ρ) = true; rw [h]; exact beq_self_eq_true _
theorem Fact.eq_no {ρ : Nat → Int} {a b : Sy} (h : ¬ a.den ρ = b.den ρ) : Fact.Ok ρ ⟨false, a, b, false⟩ := by
  show (a.den ρ == b.den ρ) = false; exact beq_false_of_ne' h

end Go.Sx

/-
  WHAT A RUN OVER SYMBOLS TELLS OF EVERY CALL: patterns, their values put in.
-/
namespace Go.Sx
open Go.RowKit

/-! ## Values for variables -/
abbrev Subst := List (Nat × Sy)

def sget (σ : Subst) (i : Nat) : Sy :=
  match look σ i with
  | some s => s
  | none => .c 0

noncomputable def spow (q : Poly) : Nat → Poly → Option Poly
  | 0, acc => some acc
  | e + 1, acc => bite (plow q) (bite (plow acc) (spow q e (pmul q acc)) none) none

noncomputable def smono (σ : Subst) : Nat → Nat → Nat → Poly → Option Poly
  | 0, _, _, acc => some acc
  | f + 1, i, k, acc => bite (Nat.beq k 0) (some acc) (match spow (sget σ i).poly (Nat.mod k 256) acc with
    | some acc' => smono σ f (i + 1) (Nat.div k 256) acc'
    | none => none)

noncomputable def psub (σ : Subst) : Poly → Option Poly
  | [] => some []
  | (k, a) :: r => match smono σ 40 0 k [(0, a)], psub σ r with
    | some p, some q => some (padd p q)
    | _, _ => none

noncomputable def Sy.sub (σ : Subst) : Sy → Option Sy
  | .c n => some (.c n)
  | .p l => match psub σ l with
    | some q => some (mkSy q)
    | none => none

theorem spow_ok (ρ : Nat → Int) (q : Poly) : ∀ (e : Nat) (acc r : Poly), spow q e acc = some r → cg (peval ρ r) (peval ρ q ^ e * peval ρ acc) := by
  intro e
  induction e with
  | zero => intro acc r h; simp only [spow] at h; cases h; rw [Int.pow_zero, Int.one_mul]; exact cg.refl _
  | succ e ih =>
    intro acc r h
    simp only [spow, bite_eq] at h
    split at h
    · rename_i h1
      split at h
      · rename_i h2
        refine (ih _ r h).trans ?_
        have h3 := (cg.refl (peval ρ q ^ e)).mul (peval_pmul ρ q acc h1 h2)
        rw [Int.pow_succ]
        have : peval ρ q ^ e * (peval ρ q * peval ρ acc) = peval ρ q ^ e * peval ρ q * peval ρ acc := by grind
        rw [← this]; exact h3
      · cases h
    · cases h

theorem cg_pow {a b : Int} (h : cg a b) : ∀ e : Nat, cg (a ^ e) (b ^ e) := by
  intro e
  induction e with
  | zero => rw [Int.pow_zero, Int.pow_zero]; exact cg.refl _
  | succ e ih => rw [Int.pow_succ, Int.pow_succ]; exact ih.mul h

/-- What the variables of a pattern stand for. -/
def rhoOf (ρ : Nat → Int) (σ : Subst) (i : Nat) : Int := (sget σ i).den ρ

theorem smono_ok (ρ : Nat → Int) (σ : Subst) : ∀ (f i k : Nat) (acc r : Poly), smono σ f i k acc = some r → cg (peval ρ r) (peval ρ acc * evm (rhoOf ρ σ) f i k) := by
  intro f
  induction f with
  | zero => intro i k acc r h; simp only [smono] at h; cases h; simp only [evm]; rw [Int.mul_one]; exact cg.refl _
  | succ f ih =>
    intro i k acc r h
    simp only [smono, bite_eq] at h
    split at h
    · rename_i hk
      have : k = 0 := Nat.eq_of_beq_eq_true hk
      subst this
      cases h
      rw [evm_zero, Int.mul_one]; exact cg.refl _
    · split at h
      · rename_i acc' hp
        refine (ih _ _ _ r h).trans ?_
        have h1 := spow_ok ρ _ _ _ _ hp
        have h2 := cg_pow (poly_den ρ (sget σ i)) (k % 256)
        have h3 : cg (peval ρ acc') (rhoOf ρ σ i ^ (k % 256) * peval ρ acc) := h1.trans (h2.mul (cg.refl _))
        have h4 := h3.mul (cg.refl (evm (rhoOf ρ σ) f (i + 1) (k / 256)))
        refine h4.trans ?_
        simp only [evm]
        have e : rhoOf ρ σ i ^ (k % 256) * peval ρ acc * evm (rhoOf ρ σ) f (i + 1) (k / 256) = peval ρ acc * (rhoOf ρ σ i ^ (k % 256) * evm (rhoOf ρ σ) f (i + 1) (k / 256)) := by grind
        rw [e]; exact cg.refl _
      · cases h

theorem psub_ok (ρ : Nat → Int) (σ : Subst) : ∀ (l r : Poly), psub σ l = some r → cg (peval ρ r) (peval (rhoOf ρ σ) l) := by
  intro l
  induction l with
  | nil => intro r h; simp only [psub] at h; cases h; exact cg.refl _
  | cons t l ih =>
    obtain ⟨k, a⟩ := t
    intro r h
    simp only [psub] at h
    split at h
    · rename_i p q hp hq
      cases h
      refine (peval_padd ρ p q).trans ?_
      have h1 := smono_ok ρ σ 40 0 k _ p hp
      have h2 := h1.add (ih q hq)
      simp only [peval, ev, evm_zero] at h2 ⊢
      have e : ((a : Int) * 1 + 0) * evm (rhoOf ρ σ) 40 0 k = (a : Int) * evm (rhoOf ρ σ) 40 0 k := by rw [Int.mul_one, Int.add_zero]
      rw [e] at h2
      exact h2
    · cases h

theorem sub_den (ρ : Nat → Int) (σ : Subst) {s t : Sy} (h : s.sub σ = some t) : t.den ρ = s.den (rhoOf ρ σ) := by
  cases s with
  | c n => simp only [Sy.sub] at h; cases h; rfl
  | p l =>
    simp only [Sy.sub] at h
    split at h
    · rename_i q hq
      cases h
      rw [mkSy_den]
      exact wrap_cg (psub_ok ρ σ l q hq)
    · cases h

/-- Within sixty-four bits. -/
noncomputable def Sy.fits : Sy → Bool
  | .c n => bite (ilt n (-9223372036854775808)) false (ilt n 9223372036854775808)
  | .p _ => true

theorem wrap_wrap (a : Int) : IntKind.i64.wrap (IntKind.i64.wrap a) = IntKind.i64.wrap a := wrap_cg (cg_wrap a)

theorem fits_wrap (ρ : Nat → Int) {s : Sy} (h : s.fits = true) : IntKind.i64.wrap (s.den ρ) = s.den ρ := by
  cases s with
  | p l => exact wrap_wrap _
  | c n =>
    simp only [Sy.fits, bite_eq, ilt_eq] at h
    split at h
    · cases h
    · rename_i h1
      have h1 : ¬ n < -9223372036854775808 := by simpa using h1
      have h2 : n < 9223372036854775808 := by simpa using h
      simp only [Sy.den]
      have e1 : (2 ^ IntKind.i64.bits : Int) = 18446744073709551616 := by decide
      have e2 : (2 ^ (IntKind.i64.bits - 1) : Int) = 9223372036854775808 := by decide
      have e3 : IntKind.i64.signed = true := by rfl
      simp only [IntKind.wrap, e1, e2, e3, Bool.true_and]
      split <;> rename_i hh <;> simp at hh <;> omega

/-! ## Patterns -/
/-- The number of a variable that stands alone. -/
noncomputable def varOf (s : Sy) : Option Nat :=
  match s with
  | .p [(k, 1)] => bite (Nat.beq k (256 ^ (Nat.log2 k / 8))) (bite (Nat.blt (Nat.log2 k / 8) 40) (some (Nat.log2 k / 8)) none) none
  | _ => none

theorem varOf_eq {s : Sy} {i : Nat} (h : varOf s = some i) : s = vx i ∧ i < 40 := by
  unfold varOf at h
  split at h
  · rename_i k
    simp only [bite_eq] at h
    split at h
    · rename_i h1
      split at h
      · rename_i h2
        cases h
        have h1 := Nat.eq_of_beq_eq_true h1
        exact ⟨by rw [vx, ← h1], by simpa [Nat.blt_eq] using h2⟩
      · cases h
    · cases h
  · cases h

/-- A pattern's number against an argument's: a variable has its value there, a constant is the same. -/
noncomputable def okI (σ : Subst) (p s : Sy) : Bool :=
  match p, s with
  | .c m, .c n => ieq m n
  | .c _, .p _ => false
  | .p l, s => match varOf (.p l) with
    | some i => bite ((sget σ i).same s) s.fits false
    | none => false

theorem okI_den (ρ : Nat → Int) {σ : Subst} {p s : Sy} (h : okI σ p s = true) : p.den (rhoOf ρ σ) = s.den ρ := by
  unfold okI at h
  split at h
  · rw [ieq_eq] at h; have := eq_of_beq h; rw [this]; rfl
  · cases h
  · rename_i l
    split at h
    · rename_i i hi
      rw [bite_eq] at h
      split at h
      · rename_i hs
        have hs := Sy.same_eq hs
        obtain ⟨hv, hlt⟩ := varOf_eq hi
        rw [hv, vx_den (rhoOf ρ σ) i hlt]
        · rw [← hs]; rfl
        · simp only [rhoOf, hs]; exact fits_wrap ρ h
      · cases h
    · cases h

/-- A list of numbers against another one. -/
noncomputable def okIs (σ : Subst) : List (V Sy) → List (V Sy) → Bool
  | [], [] => true
  | .int k p :: r, .int k' s :: r' => bite (decide (k = k')) (bite (okI σ p s) (okIs σ r r') false) false
  | _, _ => false

/-- A pattern's argument against one: numbers, aggregates of numbers, slices of numbers. -/
noncomputable def okA0 (σ : Subst) (sto : Sto Sy) (p x : V Sy) : Bool :=
  match p, x with
  | .int k p, .int k' s => bite (decide (k = k')) (okI σ p s) false
  | .agg cs, .agg ds => okIs σ cs ds
  | .slice xs, .rsl o off len cap => match sto.cells o off len with
    | some ys => match cap with
      | some cp => bite (Nat.ble len cp) (okIs σ xs ys) false
      | none => okIs σ xs ys
    | none => false
  | .slice xs, .slice ys => match ys with
    | [] => false
    | _ => okIs σ xs ys
  | _, _ => false

noncomputable def okAs0 (σ : Subst) (sto : Sto Sy) : List (V Sy) → List (V Sy) → Bool
  | [], [] => true
  | p :: r, x :: r' => bite (okA0 σ sto p x) (okAs0 σ sto r r') false
  | _, _ => false

/-- As above; aggregates of slices too. -/
noncomputable def okA (σ : Subst) (sto : Sto Sy) (p x : V Sy) : Bool :=
  bite (okA0 σ sto p x) true (match p, x with
  | .agg cs, .agg ds => okAs0 σ sto cs ds
  | _, _ => false)

noncomputable def okAs (σ : Subst) (sto : Sto Sy) : List (V Sy) → List (V Sy) → Bool
  | [], [] => true
  | p :: r, x :: r' => bite (okA σ sto p x) (okAs σ sto r r') false
  | _, _ => false

section
variable {ρ : Nat → Int} {s : Sms} {B : Nat} {c : Cx} {sto : Sto Sy} {σ : Subst}

theorem VR_int' {Δ : Den Sy} {k : IntKind} {p : Sy} {n : Int} (h : Δ.d p = n) : VR Δ B c (.int k p) (.int k n) := by
  rw [← h]; exact .int k p

theorem okIs_rel (σ : Subst) {c' : Cx} {B' : Nat} : ∀ (ps xs : List (V Sy)) (vs : List Value), okIs σ ps xs = true → VRs ⟨Sy.den ρ, s⟩ B c xs vs → VRs ⟨Sy.den (rhoOf ρ σ), s⟩ B' c' ps vs ∧ ps.length = xs.length := by
  intro ps
  induction ps with
  | nil =>
    intro xs vs h hv
    cases xs with
    | nil => exact ⟨⟨hv.1, by simp⟩, rfl⟩
    | cons x r => simp [okIs] at h
  | cons p r ih =>
    intro xs vs h hv
    cases xs with
    | nil => cases p <;> simp [okIs] at h
    | cons x rx =>
      cases vs with
      | nil => simp [VRs] at hv
      | cons v rv =>
        cases p with
        | int k p =>
          cases x with
          | int k' t =>
            simp only [okIs, bite_eq, decide_eq_true_eq] at h
            split at h
            · rename_i hk
              subst hk
              split at h
              · rename_i hi
                obtain ⟨h1, h2⟩ := ih rx rv h hv.tail
                have h0 := hv.head
                cases h0
                exact ⟨.cons (VR_int' (okI_den ρ hi)) h1, by simp [h2]⟩
              · cases h
            · cases h
          | _ => simp [okIs] at h
        | _ => simp [okIs] at h

theorem okA0_rel (hinv : SInv ⟨Sy.den ρ, s⟩ B c sto) {p x : V Sy} {v : Value} (h : okA0 σ sto p x = true) (hx : VR ⟨Sy.den ρ, s⟩ B c x v) :
    VR ⟨Sy.den (rhoOf ρ σ), s⟩ c.w.heap.size ⟨c.w, fun _ => none⟩ p v := by
  have own : ∀ {xs ys : List (V Sy)} {o off len b n cap : Nat}, c.κ o = some (b, n) → sto.cells o off len = some ys → len ≤ cap → okIs σ xs ys = true →
      VR ⟨Sy.den (rhoOf ρ σ), s⟩ c.w.heap.size ⟨c.w, fun _ => none⟩ (.slice xs) (.slice (some ⟨b, off, none⟩) len cap) := by
    intro xs ys o off len b n cap hk hc hle hok
    simp only [Sto.cells] at hc
    split at hc
    · rename_i blk hblk
      split at hc
      · rename_i hl
        cases hc
        obtain ⟨us, hlen, hcell, hvr, _⟩ := hinv.cells hblk hk
        obtain ⟨h1, h2⟩ := okIs_rel (ρ := ρ) (s := s) (B := B) (c := c) (c' := ⟨c.w, fun _ => none⟩) (B' := c.w.heap.size) σ xs _ _ hok (hvr.sub off len)
        have hll : ((blk.drop off).take len).length = len := by simp [List.length_take, List.length_drop]; omega
        have hxl : xs.length = len := by rw [h2, hll]
        have := VR.slice (Δ := ⟨Sy.den (rhoOf ρ σ), s⟩) (B := c.w.heap.size) (c := ⟨c.w, fun _ => none⟩) (xs := xs) (b := b) (off := off) (cap := cap) ((us.drop off).take len) h1.1.symm (by omega)
          (hinv.blk _ _ _ hk).2 (fun j u hj => by
            rw [List.getElem?_take] at hj
            split at hj
            · rw [List.getElem?_drop] at hj; exact hcell _ _ hj
            · cases hj) h1.2
        rwa [hxl] at this
      · cases hc
    · cases hc
  unfold okA0 at h
  split at h
  · rw [bite_eq] at h
    split at h
    · rename_i hk
      have hk := of_decide_eq_true hk
      subst hk
      cases hx
      exact VR_int' (okI_den ρ h)
    · cases h
  · cases hx with
    | @agg _ vs hl he =>
    obtain ⟨h1, h2⟩ := okIs_rel (ρ := ρ) (s := s) (B := B) (c := c) (c' := ⟨c.w, fun _ => none⟩) (B' := c.w.heap.size) σ _ _ vs.toList h ⟨by simpa using hl, fun i x v hx hv => he i x v hx (by simpa using hv)⟩
    exact .agg (by simpa using h1.1) (fun i x v hx hv => h1.2 i x v hx (by simpa using hv))
  · split at h
    · rename_i ys hys
      split at h
      · rename_i cp
        rw [bite_eq] at h
        split at h
        · rename_i hle
          cases hx with
          | rsl hk => exact own hk hys (by simpa [Nat.ble_eq] using hle) h
        · cases h
      · cases hx with
        | rslo hk hn => exact own hk hys (by omega) h
    · cases h
  · split at h
    · cases h
    · rename_i xs ys hne
      cases hx with
      | snil => exact (hne rfl).elim
      | slice us h1 h2 h3 h4 h5 =>
      obtain ⟨g1, g2⟩ := okIs_rel (ρ := ρ) (s := s) (B := B) (c := c) (c' := ⟨c.w, fun _ => none⟩) (B' := c.w.heap.size) σ _ _ us h ⟨h1.symm, h5⟩
      have := VR.slice (Δ := ⟨Sy.den (rhoOf ρ σ), s⟩) (B := c.w.heap.size) (c := ⟨c.w, fun _ => none⟩) us g1.1.symm (by rw [g2]; exact h2) (Nat.lt_of_lt_of_le h3 hinv.base) h4 g1.2
      rwa [g2] at this
  · cases h

theorem okAs0_rel (hinv : SInv ⟨Sy.den ρ, s⟩ B c sto) : ∀ (ps xs : List (V Sy)) (vs : List Value), okAs0 σ sto ps xs = true → VRs ⟨Sy.den ρ, s⟩ B c xs vs →
    VRs ⟨Sy.den (rhoOf ρ σ), s⟩ c.w.heap.size ⟨c.w, fun _ => none⟩ ps vs := by
  intro ps
  induction ps with
  | nil =>
    intro xs vs h hv
    cases xs with
    | nil => exact ⟨hv.1, by simp⟩
    | cons x r => simp [okAs0] at h
  | cons p r ih =>
    intro xs vs h hv
    cases xs with
    | nil => simp [okAs0] at h
    | cons x rx =>
      cases vs with
      | nil => simp [VRs] at hv
      | cons v rv =>
        simp only [okAs0, bite_eq] at h
        split at h
        · rename_i h1
          exact .cons (okA0_rel hinv h1 hv.head) (ih rx rv h hv.tail)
        · cases h
theorem okA_rel (hinv : SInv ⟨Sy.den ρ, s⟩ B c sto) {p x : V Sy} {v : Value} (h : okA σ sto p x = true) (hx : VR ⟨Sy.den ρ, s⟩ B c x v) :
    VR ⟨Sy.den (rhoOf ρ σ), s⟩ c.w.heap.size ⟨c.w, fun _ => none⟩ p v := by
  simp only [okA, bite_eq] at h
  split at h
  · rename_i h1; exact okA0_rel hinv h1 hx
  · split at h
    · rename_i cs ds
      cases hx with
      | @agg _ vs hl he =>
      have := okAs0_rel hinv _ _ vs.toList h ⟨by simpa using hl, fun i x v hx hv => he i x v hx (by simpa using hv)⟩
      exact .agg (by simpa using this.1) (fun i x v hx hv => this.2 i x v hx (by simpa using hv))
    · cases h

theorem okAs_rel (hinv : SInv ⟨Sy.den ρ, s⟩ B c sto) : ∀ (ps xs : List (V Sy)) (vs : List Value), okAs σ sto ps xs = true → VRs ⟨Sy.den ρ, s⟩ B c xs vs →
    VRs ⟨Sy.den (rhoOf ρ σ), s⟩ c.w.heap.size ⟨c.w, fun _ => none⟩ ps vs := by
  intro ps
  induction ps with
  | nil =>
    intro xs vs h hv
    cases xs with
    | nil => exact ⟨hv.1, by simp⟩
    | cons x r => simp [okAs] at h
  | cons p r ih =>
    intro xs vs h hv
    cases xs with
    | nil => simp [okAs] at h
    | cons x rx =>
      cases vs with
      | nil => simp [VRs] at hv
      | cons v rv =>
        simp only [okAs, bite_eq] at h
        split at h
        · rename_i h1
          exact .cons (okA_rel hinv h1 hv.head) (ih rx rv h hv.tail)
        · cases h
end

/-! ## Answers put in their place -/
mutual
/-- An answer with the values put in, its objects n further on. -/
noncomputable def V.reloc (σ : Subst) (n : Nat) : V Sy → Option (V Sy)
  | .int k s => match s.sub σ with
    | some t => some (.int k t)
    | none => none
  | .bool b => some (.bool b)
  | .str s => some (.str s)
  | .nil => some .nil
  | .emp => some .emp
  | .nilPtr => some .nilPtr
  | .nilFunc => some .nilFunc
  | .nilIface => some .nilIface
  | .rsl o off len cap => some (.rsl (n + o) off len cap)
  | .ptr o off => some (.ptr (n + o) off)
  | .agg cs => match relocs σ n cs with
    | some ds => some (.agg ds)
    | none => none
  | .tup cs => match relocs σ n cs with
    | some ds => some (.tup ds)
    | none => none
  | _ => none
noncomputable def relocs (σ : Subst) (n : Nat) : List (V Sy) → Option (List (V Sy))
  | [] => some []
  | x :: r => match x.reloc σ n, relocs σ n r with
    | some y, some s => some (y :: s)
    | _, _ => none
end

noncomputable def relocO (σ : Subst) (n : Nat) : List (Nat × Ob Sy) → Option (List (Nat × Ob Sy))
  | [] => some []
  | (o, b) :: r => match relocs σ n b, relocO σ n r with
    | some b', some s => some ((n + o, b') :: s)
    | _, _ => none

theorem relocs_rel {σ : Subst} {n : Nat} : ∀ {xs ys : List (V Sy)}, relocs σ n xs = some ys → xs.length = ys.length ∧ ∀ (i : Nat) (y : V Sy), ys[i]? = some y → ∃ x, xs[i]? = some x ∧ x.reloc σ n = some y := by
  intro xs
  induction xs with
  | nil => intro ys h; simp only [relocs] at h; cases h; exact ⟨rfl, by simp⟩
  | cons x r ih =>
    intro ys h
    simp only [relocs] at h
    split at h
    · rename_i y s hy hs
      cases h
      obtain ⟨e1, e2⟩ := ih hs
      refine ⟨by simp [e1], fun i z hz => ?_⟩
      cases i with
      | zero => simp at hz; subst hz; exact ⟨x, rfl, hy⟩
      | succ i => simp at hz; simpa using e2 i z hz
    · cases h

theorem reloc_rel {ρ : Nat → Int} {s : Sms} {σ : Subst} {n B B' : Nat} {c' c'' : Cx} (hκ : ∀ o b, c'.κ o = some b → c''.κ (n + o) = some b) {x : V Sy} {v : Value}
    (h : VR ⟨Sy.den (rhoOf ρ σ), s⟩ B' c' x v) : ∀ y, x.reloc σ n = some y → VR ⟨Sy.den ρ, s⟩ B c'' y v := by
  induction h with
  | any v => intro y h; simp [V.reloc] at h
  | bool b => intro y h; simp only [V.reloc] at h; cases h; exact .bool b
  | int k t =>
    intro y h
    simp only [V.reloc] at h
    split at h
    · rename_i t' ht
      cases h
      exact VR_int' (sub_den ρ σ ht)
    · cases h
  | str t => intro y h; simp only [V.reloc] at h; cases h; exact .str t
  | sst j xs => intro y h; simp [V.reloc] at h
  | nilIface => intro y h; simp only [V.reloc] at h; cases h; exact .nilIface
  | nilPtr => intro y h; simp only [V.reloc] at h; cases h; exact .nilPtr
  | nilFunc => intro y h; simp only [V.reloc] at h; cases h; exact .nilFunc
  | nil => intro y h; simp only [V.reloc] at h; cases h; exact .nil
  | emp ad cap hq => intro y h; simp only [V.reloc] at h; cases h; exact .emp ad cap hq
  | slice => intro y h; simp [V.reloc] at h
  | snil => intro y h; simp [V.reloc] at h
  | bc => intro y h; simp [V.reloc] at h
  | aint => intro y h; simp [V.reloc] at h
  | bsl => intro y h; simp [V.reloc] at h
  | bsl0 => intro y h; simp [V.reloc] at h
  | brs => intro y h; simp [V.reloc] at h
  | rsl hk => intro y h; simp only [V.reloc] at h; cases h; exact .rsl (hκ _ _ hk)
  | rslo hk hn => intro y h; simp only [V.reloc] at h; cases h; exact .rslo (hκ _ _ hk) hn
  | ptr hk => intro y h; simp only [V.reloc] at h; cases h; exact .ptr (hκ _ _ hk)
  | cel => intro y h; simp [V.reloc] at h
  | func => intro y h; simp [V.reloc] at h
  | iface => intro y h; simp [V.reloc] at h
  | agg hl he ih =>
    intro y h
    simp only [V.reloc] at h
    split at h
    · rename_i ds hd
      cases h
      obtain ⟨e1, e2⟩ := relocs_rel hd
      exact .agg (by rw [← e1]; exact hl) (fun i z v hz hv => by obtain ⟨x, hx, hr⟩ := e2 i z hz; exact ih i x v hx hv z hr)
    · cases h
  | tup hl he ih =>
    intro y h
    simp only [V.reloc] at h
    split at h
    · rename_i ds hd
      cases h
      obtain ⟨e1, e2⟩ := relocs_rel hd
      exact .tup (by rw [← e1]; exact hl) (fun i z v hz hv => by obtain ⟨x, hx, hr⟩ := e2 i z hz; exact ih i x v hx hv z hr)
    · cases h

theorem relocs_VRs {ρ : Nat → Int} {s : Sms} {σ : Subst} {n B B' : Nat} {c' c'' : Cx} (hκ : ∀ o b, c'.κ o = some b → c''.κ (n + o) = some b) {xs ys : List (V Sy)} {vs : List Value}
    (h : VRs ⟨Sy.den (rhoOf ρ σ), s⟩ B' c' xs vs) (hr : relocs σ n xs = some ys) : VRs ⟨Sy.den ρ, s⟩ B c'' ys vs := by
  obtain ⟨e1, e2⟩ := relocs_rel hr
  exact ⟨by rw [← e1]; exact h.1, fun i y v hy hv => by obtain ⟨x, hx, hr⟩ := e2 i y hy; exact reloc_rel hκ (h.2 i x v hx hv) y hr⟩

theorem relocs_bc {σ : Subst} {n : Nat} {xs : List (V Sy)} {j : Nat} (h : relocs σ n xs = some [.bc j]) : False := by
  obtain ⟨_, e2⟩ := relocs_rel h
  obtain ⟨x, _, hr⟩ := e2 0 _ rfl
  cases x <;> simp [V.reloc] at hr <;> (first | (split at hr <;> simp at hr) | skip)

theorem relocO_rel {σ : Subst} {n : Nat} : ∀ {m : Nat} {l l' : List (Nat × Ob Sy)}, relocO σ n l = some l' → Desc m l → Desc (n + m) l' ∧ (∀ q, q ∈ l' → n ≤ q.1) ∧
    ∀ o y, look l' o = some y → ∃ x, look l (o - n) = some x ∧ n ≤ o ∧ relocs σ n x = some y := by
  intro m l
  induction l generalizing m with
  | nil => intro l' h _; simp only [relocO] at h; cases h; exact ⟨trivial, by simp, by simp [look]⟩
  | cons p r ih =>
    obtain ⟨o, b⟩ := p
    intro l' h hd
    simp only [relocO] at h
    split at h
    · rename_i b' t hb ht
      cases h
      obtain ⟨e1, e2, e3⟩ := ih ht hd.2
      refine ⟨⟨by have := hd.1; omega, e1⟩, fun q hq => ?_, fun o' y hy => ?_⟩
      · rcases List.mem_cons.1 hq with rfl | hq
        · exact Nat.le_add_right _ _
        · exact e2 q hq
      · rw [look_cons] at hy
        split at hy
        · rename_i he
          cases hy
          subst he
          exact ⟨b, by rw [Nat.add_sub_cancel_left, look_cons, if_pos rfl], Nat.le_add_right _ _, hb⟩
        · obtain ⟨x, k1, k2, k3⟩ := e3 o' y hy
          exact ⟨x, by rw [look_cons, if_neg (by omega)]; exact k1, k2, k3⟩
    · cases h

/-! ## Summaries -/
structure Summ where
  k : FuncId
  pat : List (V Sy)
  r : V Sy
  s : Sto Sy

noncomputable def collI : List (V Sy) → List (V Sy) → Subst → Subst
  | .int _ p :: r, .int _ t :: r', acc => match varOf p with
    | some i => collI r r' ((i, t) :: acc)
    | none => collI r r' acc
  | _, _, acc => acc

noncomputable def coll0 (sto : Sto Sy) : List (V Sy) → List (V Sy) → Subst → Subst
  | p :: r, x :: r', acc => coll0 sto r r' (match p, x with
    | .int k p, .int k' t => collI [.int k p] [.int k' t] acc
    | .agg cs, .agg ds => collI cs ds acc
    | .slice xs, .rsl o off len _ => match sto.cells o off len with
      | some ys => collI xs ys acc
      | none => acc
    | .slice xs, .slice ys => collI xs ys acc
    | _, _ => acc)
  | _, _, acc => acc

noncomputable def coll (sto : Sto Sy) : List (V Sy) → List (V Sy) → Subst → Subst
  | p :: r, x :: r', acc => coll sto r r' (match p, x with
    | .agg cs, .agg ds => coll0 sto cs ds acc
    | p, x => coll0 sto [p] [x] acc)
  | _, _, acc => acc

noncomputable def Summ.call (e : Summ) (args : List (V Sy)) (sto : Sto Sy) : Option (V Sy × Sto Sy) :=
  bite (okAs (coll sto e.pat args []) sto e.pat args)
    (match e.r.reloc (coll sto e.pat args []) sto.next, relocO (coll sto e.pat args []) sto.next e.s.obs with
    | some y, some obs => some (y, ⟨sto.next + e.s.next, obs ++ sto.obs, sto.low⟩)
    | _, _ => none) none

noncomputable def summK : List Summ → FuncId → List (V Sy) → Sto Sy → Option (V Sy × Sto Sy)
  | [], _, _, _ => none
  | e :: r, k, args, sto => bite (Nat.beq e.k k) (match e.call args sto with
    | some z => some z
    | none => summK r k args sto) (summK r k args sto)

def Summ.Ok (P : Program) (e : Summ) : Prop := (∀ (ρ : Nat → Int) (s : Sms) (B : Nat), Good P ⟨Sy.den ρ, s⟩ B e.k e.pat ⟨0, [], 0⟩ e.r e.s) ∧ ∃ fn, P.funcs[e.k]? = some fn ∧ fn.body.isSome = true

theorem Summ.good {P : Program} {e : Summ} (he : e.Ok P) {ρ : Nat → Int} {s : Sms} {B : Nat} {args : List (V Sy)} {sto : Sto Sy} {r : V Sy} {sto' : Sto Sy} (h : e.call args sto = some (r, sto')) :
    Good P ⟨Sy.den ρ, s⟩ B e.k args sto r sto' := by
  intro c rargs hinv hargs
  unfold Summ.call at h
  rw [bite_eq] at h
  split at h
  · rename_i hok
    split at h
    · rename_i y obs hy hobs
      cases h
      generalize coll sto e.pat args [] = σ at hok hy hobs
      have hp := okAs_rel hinv _ _ _ hok hargs
      have hinv0 : SInv ⟨Sy.den (rhoOf ρ σ), s⟩ c.w.heap.size ⟨c.w, fun _ => none⟩ (⟨0, [], 0⟩ : Sto Sy) :=
        ⟨Nat.le_refl _, fun _ _ => rfl, fun o b n h => (by cases h), fun o x h => (by cases h), fun o o' x x' b n n' h => (by cases h), trivial⟩
      refine Calls.mono (he.1 (rhoOf ρ σ) s c.w.heap.size ⟨c.w, fun _ => none⟩ rargs hinv0 hp) ?_
      rintro ev w' ⟨rv, c', rfl, rfl, hst, hv⟩
      have hbe : Below c.w.heap.size c.w c'.w := hst.below
      let c'' : Cx := ⟨c'.w, fun o => if o < sto.next then c.κ o else c'.κ (o - sto.next)⟩
      have hκ : ∀ o b, c'.κ o = some b → c''.κ (sto.next + o) = some b := by
        intro o b hb
        simp only [c'']
        rw [if_neg (by omega), Nat.add_sub_cancel_left]; exact hb
      have hold : ∀ o x, c.κ o = some x → c''.κ o = some x := by
        intro o x hx
        have : o < sto.next := by
          rcases Nat.lt_or_ge o sto.next with h1 | h1
          · exact h1
          · rw [hinv.fresh o h1] at hx; cases hx
        simp only [c'']; rw [if_pos this]; exact hx
      have hle : Cx.le B c c'' := ⟨fun b hb => hbe.block b (Nat.lt_of_lt_of_le hb hinv.base), hold⟩
      obtain ⟨r1, r2, r3⟩ := relocO_rel hobs hst.inv.desc
      have hnew : ∀ o b n, c'.κ o = some (b, n) → c.w.heap.size ≤ b ∧ b < c'.w.heap.size := fun o b n hk => hst.inv.blk o b n hk
      -- an object of the new ones, or of the old
      have hcase : ∀ o x, look (obs ++ sto.obs) o = some x → (∃ x0, look e.s.obs (o - sto.next) = some x0 ∧ sto.next ≤ o ∧ relocs σ sto.next x0 = some x) ∨ (o < sto.next ∧ look sto.obs o = some x) := by
        intro o x hx
        rw [look_append] at hx
        split at hx
        · rename_i z hz
          cases hx
          exact .inl (r3 o _ hz)
        · exact .inr ⟨hinv.desc.look_lt hx, hx⟩
      refine ⟨rv, c'', rfl, rfl, ⟨⟨Nat.le_trans hinv.base hbe.size, fun o ho => ?_, fun o b n hk => ?_, fun o x hx => ?_, fun o o' x x' b n n' hx hx' hk hk' => ?_, ?_⟩, hold,
        hbe.mono hinv.base, Nat.le_add_right _ _, Nat.le_refl _, fun b hb _ => hbe.block b hb, fun o b n hk hn hb => ?_, fun o x hk hn => ?_, hst.frz⟩, reloc_rel hκ hv _ hy⟩
      · simp only at ho
        simp only [c'']
        rw [if_neg (by omega)]
        exact hst.inv.fresh _ (by omega)
      · simp only [c''] at hk
        split at hk
        · have := hinv.blk o b n hk
          exact ⟨this.1, Nat.lt_of_lt_of_le this.2 hbe.size⟩
        · have := hnew _ _ _ hk
          exact ⟨Nat.le_trans hinv.base this.1, this.2⟩
      · rcases hcase o x hx with ⟨x0, k1, k2, k3⟩ | ⟨k1, k2⟩
        · obtain ⟨b, cur, el, e1, e2, e3, e4⟩ := hst.inv.ob _ x0 k1
          have hl := (relocs_rel k3).1
          refine ⟨b, cur, el, by simp only [c'']; rw [if_neg (by omega)]; exact e1, e2, by rw [← hl]; exact e3, ?_⟩
          exact ⟨by rw [← hl]; exact relocs_VRs hκ e4.vrs k3, fun j hj => by subst hj; exact (relocs_bc k3).elim⟩
        · obtain ⟨b, cur, el, e1, e2, e3, e4⟩ := hinv.ob o x k2
          refine ⟨b, cur, el, hold _ _ e1, ?_, e3, e4.mono hle⟩
          show c'.w.heap[b]? = _
          rw [hbe.block b (hinv.blk _ _ _ e1).2]; exact e2
      · simp only [c''] at hk hk'
        rcases hcase o x hx with ⟨x0, k1, k2, k3⟩ | ⟨k1, k2⟩ <;> rcases hcase o' x' hx' with ⟨x0', k1', k2', k3'⟩ | ⟨k1', k2'⟩
        · rw [if_neg (by omega)] at hk hk'
          have := hst.inv.inj _ _ _ _ b n n' k1 k1' hk hk'
          omega
        · rw [if_neg (by omega)] at hk
          rw [if_pos k1'] at hk'
          have h1 := (hnew _ _ _ hk).1
          have h2 := (hinv.blk _ _ _ hk').2
          omega
        · rw [if_pos k1] at hk
          rw [if_neg (by omega)] at hk'
          have h1 := (hnew _ _ _ hk').1
          have h2 := (hinv.blk _ _ _ hk).2
          omega
        · rw [if_pos k1] at hk
          rw [if_pos k1'] at hk'
          exact hinv.inj o o' x x' b n n' k2 k2' hk hk'
      · exact Desc.append (Nat.le_add_right _ _) r1 r2 hinv.desc
      · simp only [c''] at hk
        split at hk
        · rw [hn] at hk; cases hk
        · have := (hnew _ _ _ hk).1; omega
      · simp only [c''] at hk
        split at hk
        · rw [hn] at hk; cases hk
        · omega
    · cases h
  · cases h

theorem summK_ok {P : Program} {ρ : Nat → Int} {s : Sms} {B : Nat} : ∀ {t : List Summ}, (∀ e, e ∈ t → e.Ok P) → COk P ⟨Sy.den ρ, s⟩ B (summK t) := by
  intro t
  induction t with
  | nil => intro _ k args sto r sto' h; cases h
  | cons e t ih =>
    intro ht k args sto r sto' h
    have ih' := ih (fun e he => ht e (by simp [he]))
    simp only [summK, bite_eq] at h
    split at h
    · rename_i hk
      have hk := Nat.eq_of_beq_eq_true hk
      subst hk
      split at h
      · rename_i z hz
        cases h
        exact ⟨Summ.good (ht e (by simp)) hz, (ht e (by simp)).2⟩
      · exact ih' _ args sto r sto' h
    · exact ih' k args sto r sto' h

/-- A run over a pattern is a summary. -/
theorem Summ.of_run {P : Program} (hG : NoCount P) (hm : P.follows .mixedOrders = true) {t : List Summ} (ht : ∀ e, e ∈ t → e.Ok P) {n : Nat} {e : Summ} (h : symRun P (summK t) [] n e.k e.pat ⟨0, [], 0⟩ = some (e.r, e.s)) : e.Ok P :=
  ⟨fun ρ s B => (symRun_ok hG hm (Γ := []) (by simp) (summK_ok ht) n e.k e.pat _ e.r e.s h).1, (symRun_ok (ρ := fun _ => 0) (s := ⟨fun _ _ => ByteArray.empty, fun _ => []⟩) (B := 0) hG hm (Γ := []) (by simp) (summK_ok ht) n e.k e.pat _ e.r e.s h).2⟩

end Go.Sx

/-
  RUNS OF THE MACHINE BY HAND: trees with room, loops by an invariant.
-/
namespace Go.Sx

section
variable {I : Type} {N : Num I} {T : TypeId → Option Ti} {C : FuncId → List (V I) → Sto I → Option (V I × Sto I)} {nt : Nat} {D : List Oper → St I → Option (St I)} {kp : Code → Option (List Nat)} {fresh : Tr (V I)}

/-- The temporaries behind a value's storing, for slots that there are. -/
theorem setTm_some {tm : Tr (V I)} {d : Nat} {v : V I} (h : d < nt) : setTm nt tm (some d) v = tm.set .any v d := by
  simp only [setTm, bite_eq]
  rw [if_neg]
  simp [Nat.ble_eq]; omega

/-- A loop whose rounds keep an invariant. -/
theorem aloop_inv {L0 : Nat → Code → St I → Option (AExit × St I)} {body : Code} (hk : kp body = none) (hsc : scopeOf body = none) (Inv : Nat → St I → Prop) (Post : AExit → St I → Prop) (n : Nat)
    (hstep : ∀ m i st, i < n → Inv i st → ∃ st', aexec N T C nt D (aloopN N T C nt D kp fresh m) body st = some (.normal, st') ∧ Inv (i + 1) st')
    (hend : ∀ m st, Inv n st → ∃ e st', e ≠ .normal ∧ aexec N T C nt D (aloopN N T C nt D kp fresh m) body st = some (e, st') ∧ Post e st') :
    ∀ st, Inv 0 st → ∀ m, ∃ e st', aloopN N T C nt D kp fresh (n + 1 + m) body st = some (e, st') ∧ Post e st' := by
  have key : ∀ k i st, i + k = n → Inv i st → ∀ m, ∃ e st', aloopN N T C nt D kp fresh (k + 1 + m) body st = some (e, st') ∧ Post e st' := by
    intro k
    induction k with
    | zero =>
      intro i st hi h m
      have : i = n := by omega
      subst this
      obtain ⟨e, st', he, h1, h2⟩ := hend (0 + m) st h
      refine ⟨e, st', ?_, h2⟩
      rw [show 0 + 1 + m = (0 + m) + 1 by omega]
      simp only [aloopN, hsc, hk, havoc, h1]
      cases e with
      | normal => exact (he rfl).elim
      | exit id => rfl
      | goto l => rfl
      | ret => rfl
    | succ k ih =>
      intro i st hi h m
      obtain ⟨st1, h1, h2⟩ := hstep (k + 1 + m) i st (by omega) h
      obtain ⟨e, st', h3, h4⟩ := ih (i + 1) st1 (by omega) h2 m
      refine ⟨e, st', ?_, h4⟩
      rw [show k + 1 + 1 + m = (k + 1 + m) + 1 by omega]
      simp only [aloopN, hsc, hk, havoc, h1]
      exact h3
  intro st h m
  exact key n 0 st (by omega) h m

end
end Go.Sx

/-
  Words for runs by hand.
-/
namespace Go.Sx

@[simp] theorem sym_lit (Γ : List Fact) (n : Int) : (symNum Γ).lit n = .c n := rfl
@[simp] theorem sym_conc (Γ : List Fact) (n : Int) : (symNum Γ).conc (.c n) = some n := rfl
theorem sym_lt (Γ : List Fact) (a b : Int) : (symNum Γ).cmp .lss (.c a) (.c b) = some (decide (a < b)) := by
  show some (ilt a b) = _; rw [ilt_eq]
theorem sym_eq (Γ : List Fact) (a b : Int) : (symNum Γ).cmp .eql (.c a) (.c b) = some (a == b) := by
  show some (ieq a b) = _; rw [ieq_eq]
theorem peq_self : ∀ p : Poly, peq p p = true := by
  intro p
  induction p with
  | nil => rfl
  | cons t r ih =>
    have : peq (t :: r) (t :: r) = bite (Nat.beq t.1 t.1) (bite (Nat.beq t.2 t.2) (peq r r) false) false := rfl
    rw [this, ih]; simp [bite_eq]
theorem eqSy_self (Γ : List Fact) (x : Sy) : eqSy Γ x x = some true := by
  cases x with
  | c a => simp [eqSy, ieq_eq]
  | p l => simp [eqSy, Sy.same, peq_self, bite_eq]
theorem sym_eqs (Γ : List Fact) (x : Sy) : (symNum Γ).cmp .eql x x = some true := eqSy_self Γ x
theorem sym_neqs (Γ : List Fact) (x : Sy) : (symNum Γ).cmp .neq x x = some false := by show (eqSy Γ x x).map not = _; rw [eqSy_self]; rfl
theorem sym_neq (Γ : List Fact) (a b : Int) : (symNum Γ).cmp .neq (.c a) (.c b) = some (!(a == b)) := by
  show (some (ieq a b)).map not = _; rw [ieq_eq]; rfl
theorem sym_gtr (Γ : List Fact) (a b : Int) : (symNum Γ).cmp .gtr (.c a) (.c b) = some (decide (b < a)) := by
  show some (ilt b a) = _; rw [ilt_eq]
theorem sym_leq (Γ : List Fact) (a b : Int) : (symNum Γ).cmp .leq (.c a) (.c b) = some (!decide (b < a)) := by
  show (some (ilt b a)).map not = _; rw [ilt_eq]; rfl
theorem sym_geq (Γ : List Fact) (a b : Int) : (symNum Γ).cmp .geq (.c a) (.c b) = some (!decide (a < b)) := by
  show (some (ilt a b)).map not = _; rw [ilt_eq]; rfl
theorem sym_add (Γ : List Fact) (a b : Int) : (symNum Γ).arith .add .i64 (.c a) (.c b) = some (.c (IntKind.i64.wrap (a + b))) := rfl
theorem wrap_in {a : Int} (h1 : -9223372036854775808 ≤ a) (h2 : a ≤ 9223372036854775807) : IntKind.i64.wrap a = a := by
  apply wrap_of_wf
  have h0 : IntKind.i64.min = -9223372036854775808 := by decide
  have h9 : IntKind.i64.max = 9223372036854775807 := by decide
  simp only [Lit.wf, h0, h9, Bool.and_eq_true, decide_eq_true_eq]
  exact ⟨h1, h2⟩

/-- A value that is a number. -/
def V.isInt : V Sy → Bool
  | .int .i64 _ => true
  | _ => false

theorem isInt_cells {x : V Sy} (h : x.isInt = true) : x.cells = some [x] ∧ x.oneCell = true := by
  cases x <;> simp [V.isInt] at h
  exact ⟨rfl, rfl⟩

section
variable {P : Program} {K : FuncId → List (V Sy) → Sto Sy → Option (V Sy × Sto Sy)} {Γ : List Fact}

/-- A call by the function's own code. -/
theorem symRun_own {n : Nat} {k : FuncId} {args : List (V Sy)} {sto : Sto Sy} {fn : Func} {c : Code} {r : V Sy} {sto' : Sto Sy} {e : AExit} {st : St Sy} (hK : K k args sto = none) (hf : P.funcs[k]? = some fn) (hb : fn.body = some c)
    (hlen : args.length ≤ fn.ntmps)
    (hx : aexec (symNum Γ) (tiOf P) (symRun P K Γ n) fn.ntmps (adraw (symNum Γ) (tiOf P) (symRun P K Γ n) fn.ntmps)
      (aloopN (symNum Γ) (tiOf P) (symRun P K Γ n) fn.ntmps (adraw (symNum Γ) (tiOf P) (symRun P K Γ n) fn.ntmps) (fun _ => none) (Tr.full .any (depthFor fn.ntmps)) n) c ⟨setArgs args 0 (Tr.full .any (depthFor fn.ntmps)), sto⟩ = some (e, st))
    (he : e = .normal ∨ e = .ret) (ha : answer (tiOf P) st sto.next fn.results.toList = some (r, sto')) : symRun P K Γ (n + 1) k args sto = some (r, sto') := by
  have hb' : Nat.ble args.length fn.ntmps = true := by simpa [Nat.ble_eq] using hlen
  unfold symRun at hx ⊢
  simp only [acallN, hK, hf, hb, hb', bite_true]
  rw [hx]
  rcases he with rfl | rfl <;> exact ha
end

/-! ## What a piece of code ends in -/
section
variable {I : Type} {N : Num I} {T : TypeId → Option Ti} {C : FuncId → List (V I) → Sto I → Option (V I × Sto I)} {nt : Nat} {D : List Oper → St I → Option (St I)} {kp : Code → Option (List Nat)} {fresh : Tr (V I)}
  {L : Code → St I → Option (AExit × St I)} {Qn : St I → Prop} {Qx : AExit → St I → Prop}

/-- What holds behind a piece: 'Qn' where it goes on, 'Qx' where it leaves. -/
def Both (Qn : St I → Prop) (Qx : AExit → St I → Prop) : AExit → St I → Prop
  | .normal, st => Qn st
  | e, st => Qx e st

structure Wp (N : Num I) (T : TypeId → Option Ti) (C : FuncId → List (V I) → Sto I → Option (V I × Sto I)) (nt : Nat) (D : List Oper → St I → Option (St I)) (L : Code → St I → Option (AExit × St I)) (c : Code) (st : St I) (Qn : St I → Prop) (Qx : AExit → St I → Prop) : Prop where
  run : ∃ e st', aexec N T C nt D L c st = some (e, st') ∧ Both Qn Qx e st'

theorem Wp.skip {st : St I} (h : Qn st) : Wp N T C nt D L .skip st Qn Qx := ⟨⟨_, _, rfl, h⟩⟩
theorem Wp.ret {st : St I} (h : Qx .ret st) : Wp N T C nt D L .ret st Qn Qx := ⟨⟨_, _, rfl, h⟩⟩
theorem Wp.exit {id : Nat} {st : St I} (h : Qx (.exit id) st) : Wp N T C nt D L (.exit id) st Qn Qx := ⟨⟨_, _, rfl, h⟩⟩
theorem Wp.region {id : Nat} {ops : Array Oper} {st st' : St I} (h1 : aops N T C nt ops.toList ops.toList st = some st') (h : Qn st') : Wp N T C nt D L (.region id ops false) st Qn Qx :=
  ⟨⟨.normal, st', by simp only [aexec, Bool.false_eq_true, if_false, h1], h⟩⟩
theorem Wp.drawn {id : Nat} {ops : Array Oper} {st st' : St I} (h1 : D ops.toList st = some st') (h : Qn st') : Wp N T C nt D L (.region id ops true) st Qn Qx :=
  ⟨⟨.normal, st', by simp only [aexec, if_true, h1], h⟩⟩
theorem Wp.drawn1 {id : Nat} {ops : Array Oper} {st st' : St I} {F : List (List Nat)} {p : Nat} {tm : Tr (V I)} {acc : List (Nat × List (Nat × Ob I))} {nx : Nat} (h0 : okDraw ops.toList = some (F, p)) (h1 : dstsOk nt (ops.toList.take p) = true)
    (h2 : dhead N T C nt ops.toList F st.sto 0 st.sto.next (ops.toList.take p) st.tm [] = some (tm, acc, nx)) (h3 : aops N T C nt ops.toList (ops.toList.drop p) ⟨tm, ⟨nx, allN acc ++ st.sto.obs, st.sto.low⟩⟩ = some st') (h : Qn st') :
    Wp N T C nt (adraw N T C nt) L (.region id ops true) st Qn Qx :=
  Wp.drawn (by simp only [adraw, h0, h1, bite_true, h2, h3]) h
theorem Wp.drawn2 {id : Nat} {ops : Array Oper} {st st' : St I} {tm : Tr (V I)} {acc : List (Nat × List (Nat × Ob I))} {nx : Nat} (p : Nat) (h0 : (okDraw ops.toList).map (·.2) = some p) (h1 : dstsOk nt (ops.toList.take p) = true)
    (h2 : ∀ F, dhead N T C nt ops.toList F st.sto 0 st.sto.next (ops.toList.take p) st.tm [] = some (tm, acc, nx)) (h3 : aops N T C nt ops.toList (ops.toList.drop p) ⟨tm, ⟨nx, allN acc ++ st.sto.obs, st.sto.low⟩⟩ = some st') (h : Qn st') :
    Wp N T C nt (adraw N T C nt) L (.region id ops true) st Qn Qx := by
  cases he : okDraw ops.toList with
  | none => rw [he] at h0; cases h0
  | some Fp =>
    obtain ⟨F, q⟩ := Fp
    rw [he] at h0
    cases h0
    exact Wp.drawn1 he h1 (h2 F) h3 h
theorem Wp.seq {a b : Code} {st : St I} (h : Wp N T C nt D L a st (fun st' => Wp N T C nt D L b st' Qn Qx) Qx) : Wp N T C nt D L (.seq a b) st Qn Qx := by
  obtain ⟨e, st', h1, h2⟩ := h.run
  cases e with
  | normal =>
    obtain ⟨e2, st2, h3, h4⟩ := Wp.run h2
    exact ⟨⟨e2, st2, by simp only [aexec, h1, h3], h4⟩⟩
  | exit id => exact ⟨⟨.exit id, st', by simp only [aexec, h1], h2⟩⟩
  | goto l => exact ⟨⟨.goto l, st', by simp only [aexec, h1], h2⟩⟩
  | ret => exact ⟨⟨.ret, st', by simp only [aexec, h1], h2⟩⟩
theorem Wp.mono {c : Code} {st : St I} {Qn' : St I → Prop} {Qx' : AExit → St I → Prop} (hn : ∀ st, Qn st → Qn' st) (hx : ∀ e st, Qx e st → Qx' e st) (h : Wp N T C nt D L c st Qn Qx) : Wp N T C nt D L c st Qn' Qx' := by
  obtain ⟨e, st', h1, h2⟩ := h.run
  refine ⟨⟨e, st', h1, ?_⟩⟩
  cases e with
  | normal => exact hn _ h2
  | exit id => exact hx _ _ h2
  | goto l => exact hx _ _ h2
  | ret => exact hx _ _ h2
theorem Wp.cond_t {c : Operand} {a b : Code} {st : St I} (hc : st.eval N c = .bool true) (h : Wp N T C nt D L a st Qn Qx) : Wp N T C nt D L (.cond c a b) st Qn Qx := by
  obtain ⟨e, st', h1, h2⟩ := h.run
  exact ⟨⟨e, st', by simp only [aexec, hc, if_true, h1], h2⟩⟩
theorem Wp.cond_f {c : Operand} {a b : Code} {st : St I} (hc : st.eval N c = .bool false) (h : Wp N T C nt D L b st Qn Qx) : Wp N T C nt D L (.cond c a b) st Qn Qx := by
  obtain ⟨e, st', h1, h2⟩ := h.run
  exact ⟨⟨e, st', by simp only [aexec, hc, Bool.false_eq_true, if_false, h1], h2⟩⟩
/-- What holds behind a block. -/
def Blk (id : Nat) (Qn : St I → Prop) (Qx : AExit → St I → Prop) : AExit → St I → Prop := fun e st => if e = .exit id then Qn st else Qx e st
theorem Wp.block {id : Nat} {c : Code} {st : St I} (h : Wp N T C nt D L c st Qn (Blk id Qn Qx)) : Wp N T C nt D L (.block id c) st Qn Qx := by
  obtain ⟨e, st', h1, h2⟩ := h.run
  cases e with
  | normal => exact ⟨⟨.normal, st', by simp only [aexec, h1], h2⟩⟩
  | ret => exact ⟨⟨.ret, st', by simp only [aexec, h1], by simpa [Both, Blk] using h2⟩⟩
  | goto l => exact ⟨⟨.goto l, st', by simp only [aexec, h1], by simpa [Both, Blk] using h2⟩⟩
  | exit id' =>
    by_cases he : id' = id
    · subst he; exact ⟨⟨.normal, st', by simp only [aexec, h1, if_true], by simpa [Both, Blk] using h2⟩⟩
    · exact ⟨⟨.exit id', st', by simp only [aexec, h1, if_neg he], by simpa [Both, Blk, he] using h2⟩⟩
theorem Blk.here {id : Nat} {st : St I} (h : Qn st) : Blk id Qn Qx (.exit id) st := by simpa [Blk] using h
theorem Blk.past {id : Nat} {e : AExit} {st : St I} (he : e ≠ .exit id) (h : Qx e st) : Blk id Qn Qx e st := by simpa [Blk, he] using h
theorem scopeOf_none {B : Code} (h : isScope B = false) : scopeOf B = none := by cases B <;> first | rfl | cases h
theorem Wp.loop {B : Code} (hk : kp B = none) (his : isScope B = false) (Inv : Nat → St I → Prop) (n : Nat) {m : Nat} (hn : n < m) {st : St I} (h0 : Inv 0 st)
    (hstep : ∀ f i st, i < n → Inv i st → Wp N T C nt D (aloopN N T C nt D kp fresh f) B st (Inv (i + 1)) Qx)
    (hend : ∀ f st, Inv n st → Wp N T C nt D (aloopN N T C nt D kp fresh f) B st (fun _ => False) Qx) :
    Wp N T C nt D (aloopN N T C nt D kp fresh m) (.loop B) st Qn Qx := by
  have hsc := scopeOf_none his
  have key : ∀ k i st, i + k = n → Inv i st → ∀ m, ∃ e st', aloopN N T C nt D kp fresh (k + 1 + m) B st = some (e, st') ∧ e ≠ .normal ∧ Qx e st' := by
    intro k
    induction k with
    | zero =>
      intro i st hi h m
      have : i = n := by omega
      subst this
      obtain ⟨e, st', he, h2⟩ := (hend (0 + m) st h).run
      rw [show 0 + 1 + m = (0 + m) + 1 by omega]
      cases e with
      | normal => exact h2.elim
      | exit id => exact ⟨.exit id, st', by simp only [aloopN, hsc, hk, havoc, he], by simp, h2⟩
      | goto l => exact ⟨.goto l, st', by simp only [aloopN, hsc, hk, havoc, he], by simp, h2⟩
      | ret => exact ⟨.ret, st', by simp only [aloopN, hsc, hk, havoc, he], by simp, h2⟩
    | succ k ih =>
      intro i st hi h m
      obtain ⟨e1, st1, h1, h2⟩ := (hstep (k + 1 + m) i st (by omega) h).run
      rw [show k + 1 + 1 + m = (k + 1 + m) + 1 by omega]
      cases e1 with
      | normal =>
        obtain ⟨e, st', h3, h4⟩ := ih (i + 1) st1 (by omega) h2 m
        exact ⟨e, st', by simp only [aloopN, hsc, hk, havoc, h1]; exact h3, h4⟩
      | exit id => exact ⟨.exit id, st1, by simp only [aloopN, hsc, hk, havoc, h1], by simp, h2⟩
      | goto l => exact ⟨.goto l, st1, by simp only [aloopN, hsc, hk, havoc, h1], by simp, h2⟩
      | ret => exact ⟨.ret, st1, by simp only [aloopN, hsc, hk, havoc, h1], by simp, h2⟩
  obtain ⟨e, st', h1, h2, h3⟩ := key n 0 st (by omega) h0 (m - n - 1)
  rw [show n + 1 + (m - n - 1) = m by omega] at h1
  refine ⟨⟨e, st', by simp only [aexec, his, bite_false, h1], ?_⟩⟩
  cases e with
  | normal => exact (h2 rfl).elim
  | exit id => exact h3
  | goto l => exact h3
  | ret => exact h3
end

theorem own_run {P : Program} {K : FuncId → List (V Sy) → Sto Sy → Option (V Sy × Sto Sy)} {Γ : List Fact} {n : Nat} {k : FuncId} {args : List (V Sy)} {sto : Sto Sy} {fn : Func} {c : Code} {r : V Sy × Sto Sy} (hK : K k args sto = none)
    (hf : P.funcs[k]? = some fn) (hb : fn.body = some c) (hlen : Nat.ble args.length fn.ntmps = true)
    (hx : Wp (symNum Γ) (tiOf P) (symRun P K Γ n) fn.ntmps (adraw (symNum Γ) (tiOf P) (symRun P K Γ n) fn.ntmps)
      (aloopN (symNum Γ) (tiOf P) (symRun P K Γ n) fn.ntmps (adraw (symNum Γ) (tiOf P) (symRun P K Γ n) fn.ntmps) (fun _ => none) (Tr.full .any (depthFor fn.ntmps)) n) c ⟨setArgs args 0 (Tr.full .any (depthFor fn.ntmps)), sto⟩
      (fun st => answer (tiOf P) st sto.next fn.results.toList = some r) (fun e st => e = .ret ∧ answer (tiOf P) st sto.next fn.results.toList = some r)) : symRun P K Γ (n + 1) k args sto = some r := by
  obtain ⟨e, st, h1, h2⟩ := hx.run
  cases e with
  | normal => exact symRun_own hK hf hb (by simpa [Nat.ble_eq] using hlen) h1 (.inl rfl) h2
  | exit id => exact absurd h2.1 (by simp)
  | goto l => exact absurd h2.1 (by simp)
  | ret => exact symRun_own hK hf hb (by simpa [Nat.ble_eq] using hlen) h1 (.inr rfl) h2.2

theorem own_run2 {P : Program} {K : FuncId → List (V Sy) → Sto Sy → Option (V Sy × Sto Sy)} {Γ : List Fact} {n : Nat} {k : FuncId} {args : List (V Sy)} {sto : Sto Sy} {fn : Func} {c : Code} {Q : V Sy × Sto Sy → Prop} (hK : K k args sto = none)
    (hf : P.funcs[k]? = some fn) (hb : fn.body = some c) (hlen : Nat.ble args.length fn.ntmps = true)
    (hx : Wp (symNum Γ) (tiOf P) (symRun P K Γ n) fn.ntmps (adraw (symNum Γ) (tiOf P) (symRun P K Γ n) fn.ntmps)
      (aloopN (symNum Γ) (tiOf P) (symRun P K Γ n) fn.ntmps (adraw (symNum Γ) (tiOf P) (symRun P K Γ n) fn.ntmps) (fun _ => none) (Tr.full .any (depthFor fn.ntmps)) n) c ⟨setArgs args 0 (Tr.full .any (depthFor fn.ntmps)), sto⟩
      (fun st => ∃ r, answer (tiOf P) st sto.next fn.results.toList = some r ∧ Q r) (fun e st => e = .ret ∧ ∃ r, answer (tiOf P) st sto.next fn.results.toList = some r ∧ Q r)) : ∃ r, symRun P K Γ (n + 1) k args sto = some r ∧ Q r := by
  obtain ⟨e, st, h1, h2⟩ := hx.run
  cases e with
  | normal => obtain ⟨r, h3, h4⟩ := h2; exact ⟨r, symRun_own hK hf hb (by simpa [Nat.ble_eq] using hlen) h1 (.inl rfl) h3, h4⟩
  | exit id => exact absurd h2.1 (by simp)
  | goto l => exact absurd h2.1 (by simp)
  | ret => obtain ⟨r, h3, h4⟩ := h2.2; exact ⟨r, symRun_own hK hf hb (by simpa [Nat.ble_eq] using hlen) h1 (.inr rfl) h3, h4⟩

theorem own_says {P : Program} {K : FuncId → List (V Sy) → Sto Sy → Option (V Sy × Sto Sy)} {Γ : List Fact} {n : Nat} {k : FuncId} {args : List (V Sy)} {sto : Sto Sy} {fn : Func} {c : Code} (hK : K k args sto = none)
    (hf : P.funcs[k]? = some fn) (hb : fn.body = some c) (hlen : Nat.ble args.length fn.ntmps = true)
    (hx : Wp (symNum Γ) (tiOf P) (symRun P K Γ n) fn.ntmps (adraw (symNum Γ) (tiOf P) (symRun P K Γ n) fn.ntmps)
      (aloopN (symNum Γ) (tiOf P) (symRun P K Γ n) fn.ntmps (adraw (symNum Γ) (tiOf P) (symRun P K Γ n) fn.ntmps) (fun _ => none) (Tr.full .any (depthFor fn.ntmps)) n) c ⟨setArgs args 0 (Tr.full .any (depthFor fn.ntmps)), sto⟩
      (fun st => ∃ s, answer (tiOf P) st sto.next fn.results.toList = some (.bool true, s)) (fun e st => e = .ret ∧ ∃ s, answer (tiOf P) st sto.next fn.results.toList = some (.bool true, s))) : saysTrue (symRun P K Γ (n + 1) k args sto) = true := by
  obtain ⟨e, st, h1, h2⟩ := hx.run
  cases e with
  | normal => obtain ⟨s, hs⟩ := h2; rw [symRun_own hK hf hb (by simpa [Nat.ble_eq] using hlen) h1 (.inl rfl) hs]; rfl
  | exit id => exact absurd h2.1 (by simp)
  | goto l => exact absurd h2.1 (by simp)
  | ret => obtain ⟨s, hs⟩ := h2.2; rw [symRun_own hK hf hb (by simpa [Nat.ble_eq] using hlen) h1 (.inr rfl) hs]; rfl

end Go.Sx

/-
  Lists of numbers of any length.
-/
namespace Go.Sx

/-- The cells of a list of numbers. -/
def ints (ns : List Sy) : List (V Sy) := ns.map (V.int .i64)
@[simp] theorem ints_length (ns : List Sy) : (ints ns).length = ns.length := List.length_map ..
@[simp] theorem ints_get (ns : List Sy) (i : Nat) : (ints ns)[i]? = ns[i]?.map (V.int .i64) := List.getElem?_map ..
@[simp] theorem noBc_ints (ns : List Sy) : noBc (ints ns) = ints ns := by
  apply noBc_one
  intro j h
  cases ns with
  | nil => simp [ints] at h
  | cons a r => simp [ints] at h
@[simp] theorem setRange_nil {α : Type} (cs : List α) (off : Nat) : setRange cs off [] = cs := rfl
@[simp] theorem setRange_cons {α : Type} (cs : List α) (off : Nat) (v : α) (r : List α) : setRange cs off (v :: r) = setRange (cs.set off v) (off + 1) r := rfl
@[simp] theorem cells_int (k : IntKind) (x : Sy) : (V.int k x).cells = some [V.int k x] := rfl
@[simp] theorem oneCell_int (k : IntKind) (x : Sy) : (V.int k x).oneCell = true := rfl

/-- Half done: the first numbers of one list, the others of another. -/
def half (i : Nat) (as bs : List Sy) : List Sy := as.take i ++ bs.drop i
theorem half_zero (as bs : List Sy) : half 0 as bs = bs := by simp [half]
theorem half_all (as bs : List Sy) (h : as.length = bs.length) : half as.length as bs = as := by unfold half; rw [List.take_length, h, List.drop_length, List.append_nil]
@[simp] theorem half_length (i : Nat) (as bs : List Sy) (h : as.length = bs.length) : (half i as bs).length = as.length := by simp [half]; omega
theorem half_get (i j : Nat) (as bs : List Sy) (h : as.length = bs.length) (hi : i ≤ as.length) : (half i as bs)[j]? = if j < i then as[j]? else bs[j]? := by
  unfold half
  have hl : (as.take i).length = i := by simp; omega
  by_cases hj : j < i
  · rw [if_pos hj, List.getElem?_append_left (by omega), List.getElem?_take, if_pos hj]
  · rw [if_neg hj, List.getElem?_append_right (by omega), List.getElem?_drop, hl, show i + (j - i) = j by omega]
theorem half_set (i : Nat) (as bs : List Sy) (h : as.length = bs.length) (hi : i < as.length) : (half i as bs).set i as[i] = half (i + 1) as bs := by
  apply List.ext_getElem?
  intro j
  rw [List.getElem?_set, half_get _ _ _ _ h (by omega), half_get _ _ _ _ h (by omega), half_length _ _ _ h]
  by_cases hj : i = j
  · subst hj; rw [if_pos rfl, if_pos hi, if_pos (by omega), List.getElem?_eq_getElem hi]
  · rw [if_neg hj]
    by_cases h2 : j < i
    · rw [if_pos h2, if_pos (by omega)]
    · rw [if_neg h2, if_neg (by omega)]
theorem ints_set (ns : List Sy) (i : Nat) (x : Sy) : (ints ns).set i (.int .i64 x) = ints (ns.set i x) := by simp [ints, List.map_set]
theorem ints_replicate (n : Nat) (x : Sy) : List.replicate n (V.int .i64 x) = ints (List.replicate n x) := by simp [ints]

@[simp] theorem ints_getElem (ns : List Sy) (i : Nat) (h : i < (ints ns).length) : (ints ns)[i] = .int .i64 (ns[i]'(by simpa using h)) := by simp [ints]
theorem dropNew_id {I : Type} {n : Nat} {l : List (Nat × Ob I)} (h : Desc n l) : dropNew n l = l := by
  cases l with
  | nil => rfl
  | cons p r => obtain ⟨o, b⟩ := p; simp only [dropNew]; rw [if_pos]; simpa [Nat.blt_eq] using h.1
theorem keepNew_id {I : Type} {n : Nat} {ks : List Nat} {l : List (Nat × Ob I)} (h : Desc n l) : keepNew n ks l = l := by
  cases l with
  | nil => rfl
  | cons p r => obtain ⟨o, b⟩ := p; simp only [keepNew]; rw [if_pos]; simpa [Nat.blt_eq] using h.1
theorem takeNew_id {I : Type} {n : Nat} {l : List (Nat × Ob I)} (h : Desc n l) : takeNew n l = [] := by
  cases l with
  | nil => rfl
  | cons p r => obtain ⟨o, b⟩ := p; have : ¬ n ≤ o := by have := h.1; omega
                simp [takeNew, bite_eq, Nat.ble_eq, this]
theorem deeper_ints {obs : List (Nat × Ob Sy)} {o : Nat} {ns : List Sy} (h : look obs o = some (ints ns)) : deeper obs [o] = [] := by
  have : ∀ ns : List Sy, refsL (ints ns) = [] := by
    intro ns
    induction ns with
    | nil => rfl
    | cons x r ih => simpa [ints, refsL, V.refs] using ih
  simp [deeper, h, this]
theorem trim_ints {sto : Sto Sy} {ns : List Sy} {len : Nat} {cap : Option Nat} (hd : Desc sto.next sto.obs) (hl : sto.low ≤ sto.next) :
    Sto.trim sto.next (.rsl sto.next 0 len cap) ⟨sto.next + 1, (sto.next, ints ns) :: sto.obs, sto.low⟩ = ⟨sto.next + 1, (sto.next, ints ns) :: sto.obs, sto.low⟩ := by
  unfold Sto.trim
  split
  · rfl
  · have h := deeper_ints (obs := (sto.next, ints ns) :: sto.obs) (o := sto.next) (ns := ns) (by rw [look_cons, if_pos rfl])
    simp only [V.refs, h]
    simp [keepNew, keepNew_id hd]
theorem trim_plain {sto : Sto Sy} {r : V Sy} (hd : Desc sto.next sto.obs) (hr : r.refs = []) : Sto.trim sto.next r sto = sto := by
  unfold Sto.trim
  split
  · rfl
  · rw [hr]; simp [dropNew_id hd]
theorem setTm_none {I : Type} (nt : Nat) (tm : Tr (V I)) (v : V I) : setTm nt tm none v = tm := rfl

end Go.Sx

/-
  WHAT A RUN AT THE VALUES THEMSELVES TELLS OF EVERY CALL: lists of any length, one run for each.
-/
namespace Go.Sx
open Go.RowKit

/-- One value of two stores: the same under either reading, its objects n further on. -/
inductive DR (ρ' ρ : Nat → Int) (n : Nat) : V Sy → V Sy → Prop
  | bool (b : Bool) : DR ρ' ρ n (.bool b) (.bool b)
  | int (k : IntKind) {s t : Sy} : t.den ρ = s.den ρ' → DR ρ' ρ n (.int k s) (.int k t)
  | str (s : ByteArray) : DR ρ' ρ n (.str s) (.str s)
  | nil : DR ρ' ρ n .nil .nil
  | emp : DR ρ' ρ n .emp .emp
  | nilPtr : DR ρ' ρ n .nilPtr .nilPtr
  | nilFunc : DR ρ' ρ n .nilFunc .nilFunc
  | nilIface : DR ρ' ρ n .nilIface .nilIface
  | rsl (o off len : Nat) (cap : Option Nat) : DR ρ' ρ n (.rsl o off len cap) (.rsl (n + o) off len cap)
  | ptr (o off : Nat) : DR ρ' ρ n (.ptr o off) (.ptr (n + o) off)
  | agg {cs ds : List (V Sy)} : cs.length = ds.length → (∀ (i : Nat) (x y : V Sy), cs[i]? = some x → ds[i]? = some y → DR ρ' ρ n x y) → DR ρ' ρ n (.agg cs) (.agg ds)
  | tup {cs ds : List (V Sy)} : cs.length = ds.length → (∀ (i : Nat) (x y : V Sy), cs[i]? = some x → ds[i]? = some y → DR ρ' ρ n x y) → DR ρ' ρ n (.tup cs) (.tup ds)

def DRs (ρ' ρ : Nat → Int) (n : Nat) (xs ys : List (V Sy)) : Prop := xs.length = ys.length ∧ ∀ (i : Nat) (x y : V Sy), xs[i]? = some x → ys[i]? = some y → DR ρ' ρ n x y

/-- Objects of two stores. -/
structure DO (ρ' ρ : Nat → Int) (n m : Nat) (l l' : List (Nat × Ob Sy)) : Prop where
  desc : Desc (n + m) l'
  ge : ∀ q, q ∈ l' → n ≤ q.1
  get : ∀ o y, look l' o = some y → ∃ x, look l (o - n) = some x ∧ n ≤ o ∧ DRs ρ' ρ n x y

theorem DO.none (ρ' ρ : Nat → Int) (n m : Nat) (l : List (Nat × Ob Sy)) : DO ρ' ρ n m l [] := ⟨trivial, by simp, by simp [look]⟩

theorem get_of_len {α : Type} {xs ys : List α} {i : Nat} {y : α} (h : xs.length = ys.length) (hy : ys[i]? = some y) : ∃ x, xs[i]? = some x :=
  ⟨_, List.getElem?_eq_getElem (Nat.lt_of_lt_of_eq (List.getElem?_eq_some_iff.1 hy).1 h.symm)⟩

theorem dr_VR {ρ ρ' : Nat → Int} {s : Sms} {n B B' : Nat} {c' c'' : Cx} (hκ : ∀ o b, c'.κ o = some b → c''.κ (n + o) = some b) {x : V Sy} {v : Value}
    (h : VR ⟨Sy.den ρ', s⟩ B' c' x v) : ∀ {y}, DR ρ' ρ n x y → VR ⟨Sy.den ρ, s⟩ B c'' y v := by
  induction h with
  | any v => intro y h; cases h
  | bool b => intro y h; cases h; exact .bool b
  | int k t => intro y h; cases h with | int _ h => exact VR_int' h
  | str t => intro y h; cases h; exact .str t
  | sst j xs => intro y h; cases h
  | nilIface => intro y h; cases h; exact .nilIface
  | nilPtr => intro y h; cases h; exact .nilPtr
  | nilFunc => intro y h; cases h; exact .nilFunc
  | nil => intro y h; cases h; exact .nil
  | emp ad cap hq => intro y h; cases h; exact .emp ad cap hq
  | slice => intro y h; cases h
  | snil => intro y h; cases h
  | bc => intro y h; cases h
  | aint => intro y h; cases h
  | bsl => intro y h; cases h
  | bsl0 => intro y h; cases h
  | brs => intro y h; cases h
  | rsl hk => intro y h; cases h; exact .rsl (hκ _ _ hk)
  | rslo hk hn => intro y h; cases h; exact .rslo (hκ _ _ hk) hn
  | ptr hk => intro y h; cases h; exact .ptr (hκ _ _ hk)
  | cel => intro y h; cases h
  | func => intro y h; cases h
  | iface => intro y h; cases h
  | agg hl he ih =>
    intro y h
    cases h with
    | agg e1 e2 =>
    refine .agg (by rw [← e1]; exact hl) (fun i z v hz hv => ?_)
    obtain ⟨x, hx⟩ := get_of_len e1 hz
    exact ih i x v hx hv (e2 i x z hx hz)
  | tup hl he ih =>
    intro y h
    cases h with
    | tup e1 e2 =>
    refine .tup (by rw [← e1]; exact hl) (fun i z v hz hv => ?_)
    obtain ⟨x, hx⟩ := get_of_len e1 hz
    exact ih i x v hx hv (e2 i x z hx hz)

theorem drs_VRs {ρ ρ' : Nat → Int} {s : Sms} {n B B' : Nat} {c' c'' : Cx} (hκ : ∀ o b, c'.κ o = some b → c''.κ (n + o) = some b) {xs ys : List (V Sy)} {vs : List Value}
    (h : VRs ⟨Sy.den ρ', s⟩ B' c' xs vs) (hr : DRs ρ' ρ n xs ys) : VRs ⟨Sy.den ρ, s⟩ B c'' ys vs := by
  refine ⟨by rw [← hr.1]; exact h.1, fun i y v hy hv => ?_⟩
  obtain ⟨x, hx⟩ := get_of_len hr.1 hy
  exact dr_VR hκ (h.2 i x v hx hv) (hr.2 i x y hx hy)

theorem lift_good {P : Program} {ρ ρ' : Nat → Int} {s : Sms} {k : FuncId} {pat : List (V Sy)} {R : V Sy} {S : Sto Sy} (hG : ∀ B', Good P ⟨Sy.den ρ', s⟩ B' k pat ⟨0, [], 0⟩ R S)
    {B : Nat} {args : List (V Sy)} {sto : Sto Sy} {y : V Sy} {obs : List (Nat × Ob Sy)}
    (hargs : ∀ (c : Cx), SInv ⟨Sy.den ρ, s⟩ B c sto → ∀ vs, VRs ⟨Sy.den ρ, s⟩ B c args vs → VRs ⟨Sy.den ρ', s⟩ c.w.heap.size ⟨c.w, fun _ => none⟩ pat vs)
    (hy : DR ρ' ρ sto.next R y) (ro : DO ρ' ρ sto.next S.next S.obs obs) :
    Good P ⟨Sy.den ρ, s⟩ B k args sto y ⟨sto.next + S.next, obs ++ sto.obs, sto.low⟩ := by
  intro c rargs hinv hra
  have hp := hargs c hinv _ hra
  have hinv0 : SInv ⟨Sy.den ρ', s⟩ c.w.heap.size ⟨c.w, fun _ => none⟩ (⟨0, [], 0⟩ : Sto Sy) :=
    ⟨Nat.le_refl _, fun _ _ => rfl, fun o b n h => (by cases h), fun o x h => (by cases h), fun o o' x x' b n n' h => (by cases h), trivial⟩
  refine Calls.mono (hG c.w.heap.size ⟨c.w, fun _ => none⟩ rargs hinv0 hp) ?_
  rintro ev w' ⟨rv, c', rfl, rfl, hst, hv⟩
  have hbe : Below c.w.heap.size c.w c'.w := hst.below
  let c'' : Cx := ⟨c'.w, fun o => if o < sto.next then c.κ o else c'.κ (o - sto.next)⟩
  have hκ : ∀ o b, c'.κ o = some b → c''.κ (sto.next + o) = some b := by
    intro o b hb
    simp only [c'']
    rw [if_neg (by omega), Nat.add_sub_cancel_left]; exact hb
  have hold : ∀ o x, c.κ o = some x → c''.κ o = some x := by
    intro o x hx
    have : o < sto.next := by
      rcases Nat.lt_or_ge o sto.next with h1 | h1
      · exact h1
      · rw [hinv.fresh o h1] at hx; cases hx
    simp only [c'']; rw [if_pos this]; exact hx
  have hle : Cx.le B c c'' := ⟨fun b hb => hbe.block b (Nat.lt_of_lt_of_le hb hinv.base), hold⟩
  obtain ⟨r1, r2, r3⟩ := ro
  have hnew : ∀ o b n, c'.κ o = some (b, n) → c.w.heap.size ≤ b ∧ b < c'.w.heap.size := fun o b n hk => hst.inv.blk o b n hk
  -- an object of the new ones, or of the old
  have hcase : ∀ o x, look (obs ++ sto.obs) o = some x → (∃ x0, look S.obs (o - sto.next) = some x0 ∧ sto.next ≤ o ∧ DRs ρ' ρ sto.next x0 x) ∨ (o < sto.next ∧ look sto.obs o = some x) := by
    intro o x hx
    rw [look_append] at hx
    split at hx
    · rename_i z hz
      cases hx
      exact .inl (r3 o _ hz)
    · exact .inr ⟨hinv.desc.look_lt hx, hx⟩
  refine ⟨rv, c'', rfl, rfl, ⟨⟨Nat.le_trans hinv.base hbe.size, fun o ho => ?_, fun o b n hk => ?_, fun o x hx => ?_, fun o o' x x' b n n' hx hx' hk hk' => ?_, ?_⟩, hold,
    hbe.mono hinv.base, Nat.le_add_right _ _, Nat.le_refl _, fun b hb _ => hbe.block b hb, fun o b n hk hn hb => ?_, fun o x hk hn => ?_, hst.frz⟩, dr_VR hκ hv hy⟩
  · simp only at ho
    simp only [c'']
    rw [if_neg (by omega)]
    exact hst.inv.fresh _ (by omega)
  · simp only [c''] at hk
    split at hk
    · have := hinv.blk o b n hk
      exact ⟨this.1, Nat.lt_of_lt_of_le this.2 hbe.size⟩
    · have := hnew _ _ _ hk
      exact ⟨Nat.le_trans hinv.base this.1, this.2⟩
  · rcases hcase o x hx with ⟨x0, k1, k2, k3⟩ | ⟨k1, k2⟩
    · obtain ⟨b, cur, el, e1, e2, e3, e4⟩ := hst.inv.ob _ x0 k1
      have hl := k3.1
      refine ⟨b, cur, el, by simp only [c'']; rw [if_neg (by omega)]; exact e1, e2, by rw [← hl]; exact e3, ?_⟩
      exact ⟨by rw [← hl]; exact drs_VRs hκ e4.vrs k3, fun j hj => by
          subst hj
          obtain ⟨_, e2⟩ := k3
          cases x0 with
          | nil => simp at hl
          | cons y0 r => exact nomatch (e2 0 y0 _ rfl rfl)⟩
    · obtain ⟨b, cur, el, e1, e2, e3, e4⟩ := hinv.ob o x k2
      refine ⟨b, cur, el, hold _ _ e1, ?_, e3, e4.mono hle⟩
      show c'.w.heap[b]? = _
      rw [hbe.block b (hinv.blk _ _ _ e1).2]; exact e2
  · simp only [c''] at hk hk'
    rcases hcase o x hx with ⟨x0, k1, k2, k3⟩ | ⟨k1, k2⟩ <;> rcases hcase o' x' hx' with ⟨x0', k1', k2', k3'⟩ | ⟨k1', k2'⟩
    · rw [if_neg (by omega)] at hk hk'
      have := hst.inv.inj _ _ _ _ b n n' k1 k1' hk hk'
      omega
    · rw [if_neg (by omega)] at hk
      rw [if_pos k1'] at hk'
      have h1 := (hnew _ _ _ hk).1
      have h2 := (hinv.blk _ _ _ hk').2
      omega
    · rw [if_pos k1] at hk
      rw [if_neg (by omega)] at hk'
      have h1 := (hnew _ _ _ hk').1
      have h2 := (hinv.blk _ _ _ hk).2
      omega
    · rw [if_pos k1] at hk
      rw [if_pos k1'] at hk'
      exact hinv.inj o o' x x' b n n' k2 k2' hk hk'
  · exact Desc.append (Nat.le_add_right _ _) r1 r2 hinv.desc
  · simp only [c''] at hk
    split at hk
    · rw [hn] at hk; cases hk
    · have := (hnew _ _ _ hk).1; omega
  · simp only [c''] at hk
    split at hk
    · rw [hn] at hk; cases hk
    · omega

/-! ## Arguments: the same values -/
/-- An argument of a store against one given as data. -/
inductive AR (ρ' ρ : Nat → Int) (sto : Sto Sy) : V Sy → V Sy → Prop
  | bool (b : Bool) : AR ρ' ρ sto (.bool b) (.bool b)
  | int (k : IntKind) {s t : Sy} : s.den ρ' = t.den ρ → AR ρ' ρ sto (.int k s) (.int k t)
  | str (s : ByteArray) : AR ρ' ρ sto (.str s) (.str s)
  | nil : AR ρ' ρ sto .nil .nil
  | emp : AR ρ' ρ sto .emp .emp
  | rsl {ns ts : List Sy} {o off len : Nat} {cap : Option Nat} : sto.cells o off len = some (ints ts) → (∀ cp, cap = some cp → len ≤ cp) → ns.map (Sy.den ρ') = ts.map (Sy.den ρ) → AR ρ' ρ sto (.slice (ints ns)) (.rsl o off len cap)
  | slice {ns ts : List Sy} : ns.map (Sy.den ρ') = ts.map (Sy.den ρ) → AR ρ' ρ sto (.slice (ints ns)) (.slice (ints ts))

theorem ints_rel {ρ ρ' : Nat → Int} {s : Sms} {B B' : Nat} {c c' : Cx} : ∀ {ns ts : List Sy} {vs : List Value}, ns.map (Sy.den ρ') = ts.map (Sy.den ρ) → VRs ⟨Sy.den ρ, s⟩ B c (ints ts) vs → VRs ⟨Sy.den ρ', s⟩ B' c' (ints ns) vs := by
  intro ns
  induction ns with
  | nil => intro ts vs h hv; cases ts with
    | nil => exact ⟨hv.1, by simp [ints]⟩
    | cons t r => cases h
  | cons p r ih =>
    intro ts vs h hv
    cases ts with
    | nil => cases h
    | cons t rt =>
      cases vs with
      | nil => simp [VRs, ints] at hv
      | cons v rv =>
        simp only [List.map_cons, List.cons.injEq] at h
        have h0 : VR ⟨Sy.den ρ, s⟩ B c (.int .i64 t) v := VRs.head hv
        cases h0
        exact .cons (VR_int' h.1) (ih h.2 (VRs.tail hv))

theorem AR.rel {ρ ρ' : Nat → Int} {s : Sms} {B : Nat} {c : Cx} {sto : Sto Sy} (hinv : SInv ⟨Sy.den ρ, s⟩ B c sto) {p x : V Sy} {v : Value} (h : AR ρ' ρ sto p x) (hx : VR ⟨Sy.den ρ, s⟩ B c x v) :
    VR ⟨Sy.den ρ', s⟩ c.w.heap.size ⟨c.w, fun _ => none⟩ p v := by
  cases h with
  | bool b => cases hx; exact .bool b
  | str b => cases hx; exact .str b
  | nil => cases hx; exact .nil
  | emp => cases hx with | emp ad cap hq => exact .emp ad cap hq
  | int k h => cases hx; exact VR_int' h
  | @rsl ns ts o off len cap hc hcap hd =>
    have own : ∀ {b n cp : Nat}, c.κ o = some (b, n) → len ≤ cp → VR ⟨Sy.den ρ', s⟩ c.w.heap.size ⟨c.w, fun _ => none⟩ (.slice (ints ns)) (.slice (some ⟨b, off, none⟩) len cp) := by
      intro b n cp hk hle
      simp only [Sto.cells] at hc
      split at hc
      · rename_i blk hblk
        split at hc
        · rename_i hl
          have hc := Option.some.inj hc
          obtain ⟨us, hlen, hcell, hvr, _⟩ := hinv.cells hblk hk
          have h1 := hvr.sub off len
          rw [hc] at h1
          have h2 := ints_rel (ρ' := ρ') (B' := c.w.heap.size) (c' := ⟨c.w, fun _ => none⟩) hd h1
          have hll : (ints ts).length = len := by rw [← hc]; simp [List.length_take, List.length_drop]; omega
          have hxl : (ints ns).length = len := by
            have := congrArg List.length hd
            simp at this hll ⊢
            omega
          have := VR.slice (Δ := ⟨Sy.den ρ', s⟩) (B := c.w.heap.size) (c := ⟨c.w, fun _ => none⟩) (xs := ints ns) (b := b) (off := off) (cap := cp) ((us.drop off).take len) h2.1.symm (by omega)
            (hinv.blk _ _ _ hk).2 (fun j u hj => by
              rw [List.getElem?_take] at hj
              split at hj
              · rw [List.getElem?_drop] at hj; exact hcell _ _ hj
              · cases hj) h2.2
          rwa [hxl] at this
        · cases hc
      · cases hc
    cases hx with
    | rsl hk => exact own hk (hcap _ rfl)
    | rslo hk hn => exact own hk (by omega)
  | @slice ns ts hd =>
    have hl : ns.length = ts.length := by simpa using congrArg List.length hd
    generalize hg : ints ts = ys at hx
    cases hx with
    | snil =>
      have : ns = [] := by
        have := congrArg List.length hg
        simp at this
        cases ns with
        | nil => rfl
        | cons a r => simp [this] at hl
      subst this
      exact .snil
    | slice us h1 h2 h3 h4 h5 =>
      subst hg
      have h6 := ints_rel (ρ' := ρ') (B' := c.w.heap.size) (c' := ⟨c.w, fun _ => none⟩) hd ⟨h1.symm, h5⟩
      have hx : (ints ns).length = (ints ts).length := by simp [hl]
      have := VR.slice (Δ := ⟨Sy.den ρ', s⟩) (B := c.w.heap.size) (c := ⟨c.w, fun _ => none⟩) us h6.1.symm (by rw [hx]; exact h2) (Nat.lt_of_lt_of_le h3 hinv.base) h4 h6.2
      rwa [hx] at this

def ARs (ρ' ρ : Nat → Int) (sto : Sto Sy) : List (V Sy) → List (V Sy) → Prop
  | [], [] => True
  | p :: r, x :: s => AR ρ' ρ sto p x ∧ ARs ρ' ρ sto r s
  | _, _ => False

theorem ARs.rel {ρ ρ' : Nat → Int} {s : Sms} {B : Nat} {c : Cx} {sto : Sto Sy} (hinv : SInv ⟨Sy.den ρ, s⟩ B c sto) : ∀ {ps xs : List (V Sy)} {vs : List Value}, ARs ρ' ρ sto ps xs → VRs ⟨Sy.den ρ, s⟩ B c xs vs →
    VRs ⟨Sy.den ρ', s⟩ c.w.heap.size ⟨c.w, fun _ => none⟩ ps vs := by
  intro ps
  induction ps with
  | nil => intro xs vs h hv; cases xs with
    | nil => exact ⟨hv.1, by simp⟩
    | cons x r => exact h.elim
  | cons p r ih =>
    intro xs vs h hv
    cases xs with
    | nil => exact h.elim
    | cons x rx =>
      cases vs with
      | nil => simp [VRs] at hv
      | cons v rv => exact .cons (h.1.rel hinv hv.head) (ih h.2 hv.tail)

/-- A run at the values themselves, as a contract for every call. -/
theorem good_of_run {P : Program} (hG : NoCount P) (hm : P.follows .mixedOrders = true) {ρ ρ' : Nat → Int} {s : Sms} {B n : Nat} {k : FuncId} {pat args : List (V Sy)} {sto : Sto Sy} {R y : V Sy} {S : Sto Sy} {obs : List (Nat × Ob Sy)}
    {K : FuncId → List (V Sy) → Sto Sy → Option (V Sy × Sto Sy)} (hK : ∀ B', COk P ⟨Sy.den ρ', s⟩ B' K) (h : symRun P K [] n k pat ⟨0, [], 0⟩ = some (R, S))
    (ha : ARs ρ' ρ sto pat args) (hy : DR ρ' ρ sto.next R y) (ho : DO ρ' ρ sto.next S.next S.obs obs) :
    Good P ⟨Sy.den ρ, s⟩ B k args sto y ⟨sto.next + S.next, obs ++ sto.obs, sto.low⟩ ∧ ∃ fn, P.funcs[k]? = some fn ∧ fn.body.isSome = true :=
  ⟨lift_good (fun B' => (symRun_ok hG hm (Γ := []) (by simp) (hK B') n k pat _ R S h).1) (fun c hinv vs hv => ha.rel hinv hv) hy ho, (symRun_ok (B := B) hG hm (Γ := []) (by simp) (hK B) n k pat _ R S h).2⟩

end Go.Sx

/-
  Contracts for answers that are no memory.
-/
namespace Go.Sx
open Go.RowKit

/-- An answer that reaches no memory. -/
def V.plain : V Sy → Bool
  | .bool _ | .int _ _ | .str _ | .nil | .nilPtr | .nilFunc | .nilIface => true
  | _ => false

theorem DR_plain {ρ' ρ : Nat → Int} {s : Sms} {B B' n : Nat} {c c' : Cx} {x y : V Sy} {v : Value} (h : y.plain = true) (hd : DR ρ' ρ n x y) (hv : VR ⟨Sy.den ρ', s⟩ B' c' x v) : VR ⟨Sy.den ρ, s⟩ B c y v := by
  cases hd with
  | bool b => cases hv; exact .bool _
  | int k he => cases hv; exact VR_int' he
  | str b => cases hv; exact .str _
  | nil => cases hv; exact .nil
  | nilPtr => cases hv; exact .nilPtr
  | nilFunc => cases hv; exact .nilFunc
  | nilIface => cases hv; exact .nilIface
  | _ => simp [V.plain] at h

/-- Behind a call over data whose answer reaches no memory, the store is the one before. -/
theorem lift_plain {P : Program} {ρ ρ' : Nat → Int} {s : Sms} {k : FuncId} {pat : List (V Sy)} {R : V Sy} {S : Sto Sy} (hG : ∀ B', Good P ⟨Sy.den ρ', s⟩ B' k pat ⟨0, [], 0⟩ R S)
    {B : Nat} {args : List (V Sy)} {sto : Sto Sy} {y : V Sy}
    (hargs : ∀ (c : Cx), SInv ⟨Sy.den ρ, s⟩ B c sto → ∀ vs, VRs ⟨Sy.den ρ, s⟩ B c args vs → VRs ⟨Sy.den ρ', s⟩ c.w.heap.size ⟨c.w, fun _ => none⟩ pat vs)
    (hp : y.plain = true) (hy : DR ρ' ρ sto.next R y) :
    Good P ⟨Sy.den ρ, s⟩ B k args sto y sto := by
  intro c rargs hinv hra
  have hinv0 : SInv ⟨Sy.den ρ', s⟩ c.w.heap.size ⟨c.w, fun _ => none⟩ (⟨0, [], 0⟩ : Sto Sy) :=
    ⟨Nat.le_refl _, fun _ _ => rfl, fun o b n h => (by cases h), fun o x h => (by cases h), fun o o' x x' b n n' h => (by cases h), trivial⟩
  refine Calls.mono (hG c.w.heap.size ⟨c.w, fun _ => none⟩ rargs hinv0 (hargs c hinv _ hra)) ?_
  rintro ev w' ⟨rv, c', rfl, rfl, hst, hv⟩
  have hbe : Below c.w.heap.size c.w c'.w := hst.below
  let c'' : Cx := ⟨c'.w, c.κ⟩
  have hle : Cx.le B c c'' := ⟨fun b hb => hbe.block b (Nat.lt_of_lt_of_le hb hinv.base), fun _ _ h => h⟩
  refine ⟨rv, c'', rfl, rfl, ⟨⟨Nat.le_trans hinv.base hbe.size, hinv.fresh, fun o b n hk => ?_, fun o x hx => ?_, hinv.inj, hinv.desc⟩, fun _ _ h => h,
    hbe.mono hinv.base, Nat.le_refl _, Nat.le_refl _, fun b hb _ => hbe.block b hb, fun o b n hk hn hb => ?_, fun o x hk hn => ?_, hst.frz⟩, DR_plain hp hy hv⟩
  · have := hinv.blk o b n hk
    exact ⟨this.1, Nat.lt_of_lt_of_le this.2 hbe.size⟩
  · obtain ⟨b, cur, el, e1, e2, e3, e4⟩ := hinv.ob o x hx
    refine ⟨b, cur, el, e1, ?_, e3, e4.mono hle⟩
    show c'.w.heap[b]? = _
    rw [hbe.block b (hinv.blk _ _ _ e1).2]; exact e2
  · rw [hn] at hk; cases hk
  · rw [hn] at hk; cases hk

theorem plain_of_run {P : Program} (hG : NoCount P) (hm : P.follows .mixedOrders = true) {ρ ρ' : Nat → Int} {s : Sms} {B n : Nat} {k : FuncId} {pat args : List (V Sy)} {sto : Sto Sy} {R y : V Sy} {S : Sto Sy}
    {K : FuncId → List (V Sy) → Sto Sy → Option (V Sy × Sto Sy)} (hK : ∀ B', COk P ⟨Sy.den ρ', s⟩ B' K) (h : symRun P K [] n k pat ⟨0, [], 0⟩ = some (R, S))
    (ha : ARs ρ' ρ sto pat args) (hp : y.plain = true) (hy : DR ρ' ρ sto.next R y) :
    Good P ⟨Sy.den ρ, s⟩ B k args sto y sto ∧ ∃ fn, P.funcs[k]? = some fn ∧ fn.body.isSome = true :=
  ⟨lift_plain (fun B' => (symRun_ok hG hm (Γ := []) (by simp) (hK B') n k pat _ R S h).1) (fun c hinv vs hv => ha.rel hinv hv) hp hy, (symRun_ok (B := B) hG hm (Γ := []) (by simp) (hK B) n k pat _ R S h).2⟩

end Go.Sx

/-
  A list of numbers among a row's arguments.
-/
namespace Go.Sx
open Go.ChangeShapes Go.WideShapes Go.ChangeAt Go.RowKit

/-- The numbers themselves. -/
def nums (zs : List Int) : List Sy := zs.map Sy.c
@[simp] theorem nums_length (zs : List Int) : (nums zs).length = zs.length := List.length_map ..
@[simp] theorem nums_get (zs : List Int) (i : Nat) : (nums zs)[i]? = zs[i]?.map Sy.c := List.getElem?_map ..
@[simp] theorem nums_getElem (zs : List Int) (i : Nat) (h : i < (nums zs).length) : (nums zs)[i] = .c (zs[i]'(by simpa using h)) := by simp [nums]

theorem has_plain {P : Program} {t e : TypeId} {r : Reach} {base : Nat} {W : World} {a : Addr} {len cap : Nat} (ht : P.underlying t = some (.slice e)) (hval : Value.okWide P W r base t (.slice (some a) len cap)) : a.spot = none ∧ a.block < W.heap.size := by
  simp only [Value.okWide, ht, Cell.okWide, Cell.ok] at hval
  obtain ⟨_, _, _, hs, row, cells, hsh, _⟩ := hval
  refine ⟨hs, ?_⟩
  rcases Nat.lt_or_ge a.block W.heap.size with h | h
  · exact h
  · simp [World.shape?, Array.getElem?_eq_none h] at hsh

theorem open_list {H : Type} {enc : TypeId × Value → H} {P : Program} {t e : TypeId} {r : Reach} {base b0 : Nat} {W : World} {sp : Nat → Bool} {hd : Bool} {v : Value} {d : DataW H} {p : List MemPlace}
    (ht : P.underlying t = some (.slice e)) (he : P.underlying e = some (.int .i64)) (hc : P.cellsOf e = 1) (hval : Value.okWide P W r base t v) (h : DataW.Trod enc P W b0 sp hd t v d p) :
    ∃ zs : List Int, (∀ z, z ∈ zs → (Lit.int .i64 z).wf = true) ∧ ∀ (ρ : Nat → Int) (s : Sms), VR ⟨Sy.den ρ, s⟩ W.heap.size ⟨W, fun _ => none⟩ (.slice (ints (nums zs))) v := by
  obtain ⟨a, len, cap, rfl⟩ := okWide_slice ht hval
  obtain ⟨fuel, hf⟩ := h
  rcases open_ints ht he hc hf with ⟨hcs, _⟩ | ⟨x, l, c, zs, hcs, _, hl, hm, hz, _, hcell, hwz⟩
  · simp [Value.cells] at hcs
    obtain ⟨rfl, rfl, rfl⟩ := hcs
    exact ⟨[], by simp, fun ρ s => .snil⟩
  · simp [Value.cells] at hcs
    obtain ⟨rfl, rfl, rfl⟩ := hcs
    obtain ⟨hs, hb⟩ := has_plain ht hval
    obtain ⟨b, off, spot⟩ := x
    simp only at hs hb
    subst hs
    have hlz : len ≤ zs.length := by rw [hz]; split <;> omega
    have hlen : (zs.take len).length = len := by simp [List.length_take]; omega
    refine ⟨zs.take len, fun z hz => hwz z (List.mem_of_mem_take hz), fun ρ s => ?_⟩
    have hil : (ints (nums (zs.take len))).length = len := by simp [hlen]
    have := VR.slice (Δ := ⟨Sy.den ρ, s⟩) (B := W.heap.size) (c := ⟨W, fun _ => none⟩) (xs := ints (nums (zs.take len))) (b := b) (off := off) (cap := cap) ((zs.take len).map (Value.int .i64)) (by rw [hil, List.length_map]; exact hlen) (by rw [hil]; exact hl) hb
      (fun j u hj => by
        rw [List.getElem?_map, Option.map_eq_some_iff] at hj
        obtain ⟨z, hz, rfl⟩ := hj
        have hj' : j < len := by have := (List.getElem?_eq_some_iff.1 hz).1; omega
        rw [List.getElem?_take, if_pos hj'] at hz
        have := hcell j (by omega)
        rw [add_plain] at this
        rw [this]
        simp [List.getD, hz])
      (fun j x u hx hu => by
        rw [ints_get, nums_get] at hx
        rw [List.getElem?_map] at hu
        cases hz : (zs.take len)[j]? with
        | none => rw [hz] at hx; simp at hx
        | some z =>
          rw [hz] at hx hu
          simp at hx hu
          subst hx; subst hu
          exact VR_int' rfl)
    rwa [hil] at this

end Go.Sx

/-
  Lists of any length as symbols: what holds of them is told of the numbers themselves.
-/
namespace Go.Sx
open Go.RowKit

theorem look_put_self {α : Type} {l : List (Nat × α)} {o : Nat} {x y : α} (h : look l o = some x) : look (put l o y) o = some y := by
  induction l with
  | nil => cases h
  | cons p r ih =>
    obtain ⟨k, z⟩ := p
    simp only [put, beq_dec]
    rw [look_cons] at h
    by_cases hk : k = o
    · subst hk; simp [look_cons]
    · rw [if_neg hk] at h
      simp only [hk, decide_false, Bool.false_eq_true, if_false, look_cons]
      exact ih h

theorem put_put_self {α : Type} {l : List (Nat × α)} {o : Nat} {x y : α} (h : look l o = some x) : put (put l o y) o x = l := by
  induction l with
  | nil => rfl
  | cons p r ih =>
    obtain ⟨k, z⟩ := p
    rw [look_cons] at h
    by_cases hk : k = o
    · subst hk; simp only [if_true] at h; cases h; simp [put, beq_dec]
    · rw [if_neg hk] at h
      simp only [put, beq_dec, hk, decide_false, Bool.false_eq_true, if_false]
      rw [ih h]

theorem put_self {α : Type} {l : List (Nat × α)} {o : Nat} {x : α} (h : look l o = some x) : put l o x = l := by
  have := put_put_self (y := x) h
  induction l with
  | nil => rfl
  | cons p r ih =>
    obtain ⟨k, z⟩ := p
    rw [look_cons] at h
    by_cases hk : k = o
    · subst hk; simp only [if_true] at h; cases h; simp [put, beq_dec]
    · rw [if_neg hk] at h
      simp only [put, beq_dec, hk, decide_false, Bool.false_eq_true, if_false]
      rw [ih h (put_put_self h)]
theorem put_put {α : Type} {l : List (Nat × α)} {o : Nat} {x y : α} : put (put l o x) o y = put l o y := by
  induction l with
  | nil => rfl
  | cons p r ih =>
    obtain ⟨k, z⟩ := p
    by_cases hk : k = o
    · subst hk; simp [put, beq_dec]
    · simp only [put, beq_dec, hk, decide_false, Bool.false_eq_true, if_false, ih]
theorem low_low (o l : Nat) : (if Nat.blt o (if Nat.blt o l then o else l) then o else (if Nat.blt o l then o else l)) = if Nat.blt o l then o else l := by
  by_cases h : Nat.blt o l = true
  · rw [if_pos h, if_neg (by simp [Nat.blt_eq])]
  · rw [if_neg h, if_neg h]

/-- A mark, step by step. -/
def kk (x : Int) : Nat → Int
  | 0 => x
  | i + 1 => IntKind.i64.wrap (kk x i + 1)
theorem kk_wrap (x : Int) : ∀ i, IntKind.i64.wrap (kk x i) = IntKind.i64.wrap (x + i) := by
  intro i
  induction i with
  | zero => simp [kk]
  | succ i ih =>
    simp only [kk]
    rw [wrap_wrap]
    refine wrap_cg ?_
    have h1 : cg (kk x i) (x + i) := ((cg_wrap _).symm.trans (by rw [ih]; exact cg.refl _)).trans (cg_wrap _)
    have := h1.add (cg.refl 1)
    rw [show x + ((i + 1 : Nat) : Int) = x + i + 1 by omega]
    exact this
theorem kk_succ (x : Int) (i : Nat) (h : 1 ≤ i) : kk x i = IntKind.i64.wrap (x + i) := by
  cases i with
  | zero => omega
  | succ i => rw [← kk_wrap]; simp only [kk]; rw [wrap_wrap]

theorem look_put_some {α : Type} {l : List (Nat × α)} {o o' : Nat} {y x' : α} (h : look (put l o y) o' = some x') : ∃ z, look l o' = some z := by
  induction l with
  | nil => cases h
  | cons p r ih =>
    obtain ⟨k, z⟩ := p
    simp only [put, beq_dec] at h
    by_cases hk : k = o
    · subst hk
      simp only [decide_true, if_true, look_cons] at h
      rw [look_cons]
      split at h
      · rename_i e; exact ⟨z, by rw [if_pos e]⟩
      · rename_i e; exact ⟨x', by rw [if_neg e]; exact h⟩
    · simp only [hk, decide_false, Bool.false_eq_true, if_false, look_cons] at h
      rw [look_cons]
      split at h
      · rename_i e; exact ⟨z, by rw [if_pos e]⟩
      · rename_i e; rw [if_neg e]; exact ih h

section
variable {I : Type} {Δ : Den I} {B : Nat} {c c' : Cx} {sto sto' : Sto I}

/-- What is known of an object is told otherwise. -/
theorem SInv.reput (h : SInv Δ B c sto) {o : Nat} {x y : Ob I} (hl : look sto.obs o = some x) (hy : ∀ cur : Array Value, x.length ≤ cur.size → Blk2 Δ B c x cur → y.length ≤ cur.size ∧ Blk2 Δ B c y cur) :
    SInv Δ B c ⟨sto.next, put sto.obs o y, sto.low⟩ := by
  refine ⟨h.base, h.fresh, h.blk, fun o' x' hx' => ?_, fun o1 o2 x1 x2 b n n' h1 h2 => ?_, h.desc.put o y⟩
  · rcases look_put hx' with ⟨rfl, rfl⟩ | ⟨_, hx'⟩
    · obtain ⟨b, cur, e, e1, e2, e3, e4⟩ := h.ob _ x hl
      obtain ⟨e5, e6⟩ := hy cur e3 e4
      exact ⟨b, cur, e, e1, e2, e5, e6⟩
    · exact h.ob o' x' hx'
  · obtain ⟨y1, hy1⟩ := look_put_some h1
    obtain ⟨y2, hy2⟩ := look_put_some h2
    exact h.inj o1 o2 y1 y2 b n n' hy1 hy2

/-- The end of a step is told otherwise. -/
theorem Step.retell (h : Step Δ B c sto c' sto') {s2 : Sto I} (hi : SInv Δ B c' s2) (h1 : s2.next = sto'.next) (h2 : s2.low = sto'.low) : Step Δ B c sto c' s2 :=
  ⟨hi, h.κ, h.below, by rw [h1]; exact h.next, by rw [h2]; exact h.low, by rw [h2]; exact h.keep, by rw [h2]; exact h.old, h.new, h.frz⟩

/-- The beginning of a step is told otherwise. -/
theorem Step.refrom {s0 : Sto I} (h : Step Δ B c sto c' sto') (h1 : s0.next = sto.next) (h2 : s0.low = sto.low) : Step Δ B c s0 c' sto' :=
  ⟨h.inv, h.κ, h.below, by rw [h1]; exact h.next, by rw [h2]; exact h.low, h.keep, h.old, by rw [h1]; exact h.new, h.frz⟩

/-- A call's contract told otherwise, before and behind. -/
theorem Good.retell {P : Program} {k : FuncId} {args args' : List (V I)} {r r' : V I} {s0 s0' : Sto I} (hg : Good P Δ B k args sto r sto')
    (hpre : ∀ c, SInv Δ B c s0 → SInv Δ B c sto) (hargs : ∀ c, SInv Δ B c s0 → ∀ vs, VRs Δ B c args' vs → VRs Δ B c args vs) (h1 : s0.next = sto.next) (h2 : s0.low = sto.low)
    (hpost : ∀ c0 c, SInv Δ B c0 s0 → Step Δ B c0 s0 c sto' → Step Δ B c0 s0 c s0') (hr : ∀ c v, SInv Δ B c sto' → VR Δ B c r v → VR Δ B c r' v) : Good P Δ B k args' s0 r' s0' := by
  intro c rargs hinv hra
  refine Calls.mono (hg c rargs (hpre c hinv) (hargs c hinv _ hra)) ?_
  rintro e w' ⟨rv, c', rfl, rfl, hst, hv⟩
  exact ⟨rv, c', rfl, rfl, hpost c c' hinv (hst.refrom h1 h2), hr c' rv hst.inv hv⟩
end

section
variable {ρ : Nat → Int} {s : Sms} {B : Nat} {c : Cx} {sto : Sto Sy} {j o : Nat} {m : Sy} {v : Value}

theorem VRs_intVs {zs : List Int} {B : Nat} {c : Cx} : VRs ⟨Sy.den ρ, s⟩ B c (ints (nums zs)) (intVs zs) := by
  refine ⟨by simp [intVs], fun i x v hx hv => ?_⟩
  rw [ints_get, nums_get] at hx
  rw [intVs, List.getElem?_map] at hv
  cases hz : zs[i]? with
  | none => rw [hz] at hx; simp at hx
  | some z =>
    rw [hz] at hx hv
    simp at hx hv
    subst hx; subst hv
    exact VR_int' rfl

theorem intVs_of {zs : List Int} {B : Nat} {c : Cx} : ∀ {vs : List Value}, VRs ⟨Sy.den ρ, s⟩ B c (ints (nums zs)) vs → vs = intVs zs := by
  intro vs h
  apply List.ext_getElem?
  intro i
  cases hz : zs[i]? with
  | none =>
    have h1 : zs.length ≤ i := List.getElem?_eq_none_iff.1 hz
    have h2 : vs.length = zs.length := by rw [← h.1]; simp
    rw [List.getElem?_eq_none (by omega), List.getElem?_eq_none (by simp [intVs]; omega)]
  | some z =>
    have hi : i < zs.length := (List.getElem?_eq_some_iff.1 hz).1
    have hi' : i < vs.length := by rw [← h.1]; simpa using hi
    have := h.2 i (.int .i64 (.c z)) vs[i] (by simp [hz]) (List.getElem?_eq_getElem hi')
    rw [List.getElem?_eq_getElem hi', intVs, List.getElem?_map, hz]
    generalize vs[i] = u at this ⊢
    cases this
    rfl

theorem bsl_slice (h : VR ⟨Sy.den ρ, s⟩ B c (.bsl j m) v) : VR ⟨Sy.den ρ, s⟩ B c (.slice (ints (nums (s.l j)))) v ∧ m.den ρ = ((s.l j).length : Int) := by
  cases h with
  | @bsl _ b off cap _ h0 h1 h2 h3 =>
    refine ⟨?_, h0⟩
    have hl : (ints (nums (s.l j))).length = (s.l j).length := by simp
    have := VR.slice (Δ := ⟨Sy.den ρ, s⟩) (B := B) (c := c) (xs := ints (nums (s.l j))) (b := b) (off := off) (cap := cap) (intVs (s.l j)) (by rw [hl]; simp [intVs]) (by rw [hl]; exact h1) h2
      (fun i u hu => by
        rw [intVs, List.getElem?_map, Option.map_eq_some_iff] at hu
        obtain ⟨z, hz, rfl⟩ := hu
        exact h3 i z hz) (fun i x u hx hu => VRs_intVs.2 i x u hx hu)
    rwa [hl] at this
  | bsl0 h0 h1 =>
    have h0' : m.den ρ = 0 := h0
    have h1' : s.l j = [] := h1
    refine ⟨?_, by rw [h0', h1']; rfl⟩
    rw [h1']
    exact .snil

theorem brs_rsl (h : VR ⟨Sy.den ρ, s⟩ B c (.brs o j m) v) : VR ⟨Sy.den ρ, s⟩ B c (.rsl o 0 (s.l j).length (some (s.l j).length)) v ∧ m.den ρ = ((s.l j).length : Int) := by
  cases h with
  | brs h0 h1 => exact ⟨.rsl h1, h0⟩

theorem rsl_brs (hm : m.den ρ = ((s.l j).length : Int)) (h : VR ⟨Sy.den ρ, s⟩ B c (.rsl o 0 (s.l j).length (some (s.l j).length)) v) : VR ⟨Sy.den ρ, s⟩ B c (.brs o j m) v := by
  cases h with
  | rsl h1 => exact .brs hm h1

theorem SInv.unbig (h : SInv ⟨Sy.den ρ, s⟩ B c sto) (hl : look sto.obs o = some [.bc j]) : SInv ⟨Sy.den ρ, s⟩ B c ⟨sto.next, put sto.obs o (ints (nums (s.l j))), sto.low⟩ := by
  refine h.reput hl (fun cur h1 h2 => ?_)
  obtain ⟨rest, hr⟩ := h2.big j rfl
  simp only at hr
  have hlen : (ints (nums (s.l j))).length = (s.l j).length := by simp
  have hsz : cur.size = (s.l j).length + rest.length := by
    have := congrArg List.length hr
    simpa [intVs] using this
  refine ⟨by omega, ?_, fun i hi => ?_⟩
  · rw [hr, hlen, List.take_append_of_le_length (by simp [intVs]), List.take_of_length_le (by simp [intVs])]
    exact VRs_intVs
  · cases hz : s.l j with
    | nil => rw [hz] at hi; simp [ints, nums] at hi
    | cons a r => rw [hz] at hi; simp [ints, nums] at hi

theorem SInv.rebig (h : SInv ⟨Sy.den ρ, s⟩ B c sto) (hl : look sto.obs o = some (ints (nums (s.l j)))) (hne : s.l j ≠ []) : SInv ⟨Sy.den ρ, s⟩ B c ⟨sto.next, put sto.obs o [.bc j], sto.low⟩ := by
  refine h.reput hl (fun cur h1 h2 => ?_)
  have hlen : (ints (nums (s.l j))).length = (s.l j).length := by simp
  have h3 := intVs_of h2.vrs
  rw [hlen] at h3 h1
  have hpos : 1 ≤ (s.l j).length := by
    cases hz : s.l j with
    | nil => exact (hne hz).elim
    | cons a r => simp
  refine ⟨by simp; omega, ⟨by simp; omega, fun i x v hx hv => ?_⟩, fun i hi => ?_⟩
  · cases i with
    | zero => simp at hx; subst hx; exact .bc _ _
    | succ i => simp at hx
  · simp at hi
    subst hi
    exact ⟨cur.toList.drop (s.l j).length, by rw [← h3, List.take_append_drop]⟩
end
end Go.Sx

/-
  What is known of lists: whether they are valid; contracts for the functions that test it, and for those that copy, compare and mark lists of any length.
-/
namespace Go.Sx
open Go.RowKit

/-- 1 to 6 numbers, each at most so great. -/
def validP (bd : Int) (zs : List Int) : Prop := (∀ z, z ∈ zs → -bd ≤ z ∧ z ≤ bd) ∧ 1 ≤ zs.length ∧ zs.length ≤ 6
instance (bd : Int) (zs : List Int) : Decidable (validP bd zs) := inferInstanceAs (Decidable (_ ∧ _))

structure VEnt where
  bd : Int
  ps : List Sy
  q : Bool
def VEnt.Ok (ρ : Nat → Int) (e : VEnt) : Prop := decide (validP e.bd (e.ps.map (Sy.den ρ))) = e.q

noncomputable def sames (ps qs : List Sy) : Bool :=
  match ps, qs with
  | [], [] => true
  | p :: r, q :: s => bite (p.same q) (sames r s) false
  | _, _ => false
theorem sames_eq : ∀ {ps qs : List Sy}, sames ps qs = true → ps = qs := by
  intro ps
  induction ps with
  | nil => intro qs h; cases qs with
    | nil => rfl
    | cons q s => cases h
  | cons p r ih =>
    intro qs h
    cases qs with
    | nil => cases h
    | cons q s =>
      simp only [sames, bite_eq] at h
      split at h
      · rename_i h1; rw [Sy.same_eq h1, ih h]
      · cases h

noncomputable def findV (bd : Int) (ps : List Sy) : List VEnt → Option Bool
  | [] => none
  | e :: r => bite (ieq e.bd bd) (bite (sames e.ps ps) (some e.q) (findV bd ps r)) (findV bd ps r)

theorem findV_ok {ρ : Nat → Int} {bd : Int} {ps : List Sy} {q : Bool} : ∀ {Vt : List VEnt}, (∀ e, e ∈ Vt → e.Ok ρ) → findV bd ps Vt = some q → decide (validP bd (ps.map (Sy.den ρ))) = q := by
  intro Vt
  induction Vt with
  | nil => intro _ h; cases h
  | cons e r ih =>
    intro hok h
    have ih' := ih (fun g hg => hok g (by simp [hg]))
    simp only [findV, bite_eq] at h
    split at h
    · rename_i h1
      split at h
      · rename_i h2
        cases h
        rw [ieq_eq] at h1
        have := hok e (by simp)
        unfold VEnt.Ok at this
        rw [eq_of_beq h1, sames_eq h2] at this
        exact this
      · exact ih' h
    · exact ih' h

noncomputable def anyS (p : Sy) : List Sy → Bool
  | [] => false
  | q :: r => bite (q.same p) true (anyS p r)
theorem anyS_mem {p : Sy} : ∀ {l : List Sy}, anyS p l = true → p ∈ l := by
  intro l
  induction l with
  | nil => intro h; cases h
  | cons q r ih =>
    intro h
    simp only [anyS, bite_eq] at h
    split at h
    · rename_i h1; rw [Sy.same_eq h1]; simp
    · exact List.mem_cons_of_mem _ (ih h)

/-- Is it one of the numbers of a valid list? -/
noncomputable def inV (bd : Int) (p : Sy) : List VEnt → Bool
  | [] => false
  | e :: r => bite e.q (bite (ilt bd e.bd) (inV bd p r) (bite (anyS p e.ps) true (inV bd p r))) (inV bd p r)
theorem inV_ok {ρ : Nat → Int} {bd : Int} {p : Sy} : ∀ {Vt : List VEnt}, (∀ e, e ∈ Vt → e.Ok ρ) → inV bd p Vt = true → -bd ≤ p.den ρ ∧ p.den ρ ≤ bd := by
  intro Vt
  induction Vt with
  | nil => intro _ h; cases h
  | cons e r ih =>
    intro hok h
    have ih' := ih (fun g hg => hok g (by simp [hg]))
    simp only [inV, bite_eq] at h
    split at h
    · rename_i h1
      split at h
      · exact ih' h
      · rename_i h2
        split at h
        · rename_i h3
          have := hok e (by simp)
          unfold VEnt.Ok at this
          rw [h1] at this
          have hv := (of_decide_eq_true this).1 (p.den ρ) (List.mem_map_of_mem (anyS_mem h3))
          rw [ilt_eq] at h2
          have : ¬ bd < e.bd := by simpa using h2
          omega
        · exact ih' h
    · exact ih' h

noncomputable def okIn (Vt : List VEnt) (bd : Int) : Sy → Bool
  | .c n => bite (ilt n (-bd)) false (bite (ilt bd n) false true)
  | .p l => bite (inV bd (.p l) Vt) true (match symArith .sub .i64 (.c 0) (.p l) with
    | some x => inV bd x Vt
    | none => false)

theorem wrap_range (a : Int) : -9223372036854775808 ≤ IntKind.i64.wrap a ∧ IntKind.i64.wrap a ≤ 9223372036854775807 := by
  have h1 : (2 ^ IntKind.i64.bits : Int) = 18446744073709551616 := by decide
  have h2 : (2 ^ (IntKind.i64.bits - 1) : Int) = 9223372036854775808 := by decide
  have h3 : IntKind.i64.signed = true := by rfl
  simp only [IntKind.wrap, h1, h2, h3, Bool.true_and]
  split <;> rename_i hh <;> simp at hh <;> omega

theorem okIn_ok {ρ : Nat → Int} {Vt : List VEnt} (hV : ∀ e, e ∈ Vt → e.Ok ρ) {bd : Int} (hb : bd ≤ 1000000000) {p : Sy} (h : okIn Vt bd p = true) : -bd ≤ p.den ρ ∧ p.den ρ ≤ bd := by
  cases p with
  | c n =>
    simp only [okIn, bite_eq, ilt_eq] at h
    split at h
    · cases h
    · rename_i h1
      split at h
      · cases h
      · rename_i h2
        simp at h1 h2
        simp only [Sy.den]
        omega
  | p l =>
    simp only [okIn, bite_eq] at h
    split at h
    · rename_i h1; exact inV_ok hV h1
    · split at h
      · rename_i x hx
        have h1 := inV_ok hV h
        have h2 : IntKind.i64.wrap (0 - (Sy.p l).den ρ) = x.den ρ := by
          have := (symNum_ok (ρ := ρ) (Γ := []) (by simp) ⟨fun _ _ => ByteArray.empty, fun _ => []⟩).arith .sub .i64 (.c 0) (.p l) x hx
          simpa [aritOk, Sy.den] using this
        have h3 := wrap_range (peval ρ l)
        have h4 : (Sy.p l).den ρ = IntKind.i64.wrap (peval ρ l) := rfl
        rw [← h4] at h3
        obtain ⟨k, hk⟩ := cg_wrap (0 - (Sy.p l).den ρ)
        rw [h2] at hk
        generalize (Sy.p l).den ρ = y at *
        generalize x.den ρ = z at *
        omega
      · cases h

noncomputable def allIn (Vt : List VEnt) (bd : Int) : List Sy → Bool
  | [] => true
  | p :: r => bite (okIn Vt bd p) (allIn Vt bd r) false
theorem allIn_ok {ρ : Nat → Int} {Vt : List VEnt} (hV : ∀ e, e ∈ Vt → e.Ok ρ) {bd : Int} (hb : bd ≤ 1000000000) : ∀ {ps : List Sy}, allIn Vt bd ps = true → ∀ z, z ∈ ps.map (Sy.den ρ) → -bd ≤ z ∧ z ≤ bd := by
  intro ps
  induction ps with
  | nil => intro _ z hz; simp at hz
  | cons p r ih =>
    intro h z hz
    simp only [allIn, bite_eq] at h
    split at h
    · rename_i h1
      simp only [List.map_cons, List.mem_cons] at hz
      rcases hz with rfl | hz
      · exact okIn_ok hV hb h1
      · exact ih h z hz
    · cases h

/-- Is a list valid? -/
noncomputable def vdec (Vt : List VEnt) (bd : Int) (ps : List Sy) : Option Bool :=
  bite (Nat.beq ps.length 0) (some false) (bite (Nat.blt 6 ps.length) (some false)
    (match findV bd ps Vt with
    | some q => some q
    | none => bite (allIn Vt bd ps) (some true) none))

theorem vdec_ok {ρ : Nat → Int} {Vt : List VEnt} (hV : ∀ e, e ∈ Vt → e.Ok ρ) {bd : Int} (hb : bd ≤ 1000000000) {ps : List Sy} {q : Bool} (h : vdec Vt bd ps = some q) : decide (validP bd (ps.map (Sy.den ρ))) = q := by
  simp only [vdec, bite_eq] at h
  split at h
  · rename_i h1
    have : ps.length = 0 := Nat.eq_of_beq_eq_true h1
    cases h
    refine decide_eq_false (fun hv => ?_)
    have := hv.2.1
    simp at this; omega
  · rename_i h0
    split at h
    · rename_i h1
      cases h
      rw [Nat.blt_eq] at h1
      refine decide_eq_false (fun hv => ?_)
      have := hv.2.2
      simp at this; omega
    · rename_i h1
      split at h
      · rename_i q' hq; cases h; exact findV_ok hV hq
      · split at h
        · rename_i h2
          cases h
          refine decide_eq_true ⟨allIn_ok hV hb h2, ?_, ?_⟩
          · rw [beq_dec] at h0; simp at h0 ⊢
            cases ps with
            | nil => exact (h0 rfl).elim
            | cons a r => simp
          · have : ¬ 6 < ps.length := fun h => h1 (by rw [Nat.blt_eq]; exact h)
            simp; omega
        · cases h

/-! ## The contracts -/
def unit (z : Int) : Prop := z = 1 ∨ z = -1
instance (z : Int) : Decidable (unit z) := inferInstanceAs (Decidable (_ ∨ _))

structure UIds where
  isUnit : FuncId
  begins : FuncId

structure UIds.Ok (P : Program) (U : UIds) : Prop where
  body : ∀ k, k = U.isUnit ∨ k = U.begins → ∃ fn, P.funcs[k]? = some fn ∧ fn.body.isSome = true
  isUnit : ∀ z : Int, IntKind.i64.wrap z = z → ∃ (S : Sto Sy), ∀ (ρ : Nat → Int) (s : Sms) (B : Nat), Good P ⟨Sy.den ρ, s⟩ B U.isUnit [.int .i64 (.c z)] ⟨0, [], 0⟩ (.bool (decide (unit z))) S
  begins : ∀ (z : Int) (zs : List Int), (z :: zs).length ≤ 6 → (∀ y, y ∈ z :: zs → IntKind.i64.wrap y = y) → ∃ (S : Sto Sy), ∀ (ρ : Nat → Int) (s : Sms) (B : Nat),
    Good P ⟨Sy.den ρ, s⟩ B U.begins [.slice (ints (nums (z :: zs))), .slice (ints (nums [1, -1]))] ⟨0, [], 0⟩ (.bool (decide (validP 600 (z :: zs) ∧ unit z))) S

/-- The functions of a program that are known. -/
structure Ids where
  toInt : FuncId
  eqInt : FuncId
  mark : FuncId
  valid : List (FuncId × Int)
  uids : Option UIds := none

structure BEnt where
  bd : Int
  j : Nat
  q : Bool
def BEnt.Ok (s : Sms) (e : BEnt) : Prop := decide (validP e.bd (s.l e.j)) = e.q

noncomputable def boundOf (k : FuncId) : List (FuncId × Int) → Option Int
  | [] => none
  | e :: r => bite (Nat.beq e.1 k) (some e.2) (boundOf k r)
theorem boundOf_mem {k : FuncId} {bd : Int} : ∀ {l : List (FuncId × Int)}, boundOf k l = some bd → (k, bd) ∈ l := by
  intro l
  induction l with
  | nil => intro h; cases h
  | cons e r ih =>
    intro h
    simp only [boundOf, bite_eq] at h
    split at h
    · rename_i h1
      cases h
      have : e.1 = k := Nat.eq_of_beq_eq_true h1
      rw [← this]; simp
    · exact List.mem_cons_of_mem _ (ih h)

noncomputable def findB (bd : Int) (j : Nat) : List BEnt → Option Bool
  | [] => none
  | e :: r => bite (ieq e.bd bd) (bite (Nat.beq e.j j) (some e.q) (findB bd j r)) (findB bd j r)
theorem findB_ok {s : Sms} {bd : Int} {j : Nat} {q : Bool} : ∀ {Vb : List BEnt}, (∀ e, e ∈ Vb → e.Ok s) → findB bd j Vb = some q → decide (validP bd (s.l j)) = q := by
  intro Vt
  induction Vt with
  | nil => intro _ h; cases h
  | cons e r ih =>
    intro hok h
    have ih' := ih (fun g hg => hok g (by simp [hg]))
    simp only [findB, bite_eq] at h
    split at h
    · rename_i h1
      split at h
      · rename_i h2
        cases h
        rw [ieq_eq] at h1
        have := hok e (by simp)
        unfold BEnt.Ok at this
        rw [eq_of_beq h1, Nat.eq_of_beq_eq_true h2] at this
        exact this
      · exact ih' h
    · exact ih' h

/-- An object that holds a list of any length. -/
def isBig (sto : Sto Sy) (o j : Nat) : Bool :=
  match look sto.obs o with
  | some [.bc j'] => Nat.beq j' j
  | _ => false
theorem isBig_look {sto : Sto Sy} {o j : Nat} (h : isBig sto o j = true) : look sto.obs o = some [.bc j] := by
  unfold isBig at h
  split at h
  · rename_i j' hl; rw [hl, Nat.eq_of_beq_eq_true h]
  · cases h

/-- A list's numbers. -/
def numsOf : List (V Sy) → Option (List Sy)
  | [] => some []
  | .int .i64 p :: r => match numsOf r with
    | some l => some (p :: l)
    | none => none
  | _ => none
theorem numsOf_ints : ∀ {xs : List (V Sy)} {ps : List Sy}, numsOf xs = some ps → xs = ints ps := by
  intro xs
  induction xs with
  | nil => intro ps h; simp [numsOf] at h; subst h; rfl
  | cons x r ih =>
    intro ps h
    cases x with
    | int k p =>
      cases k <;> simp [numsOf] at h
      split at h
      · rename_i l hl; simp at h; subst h; rw [ih hl]; rfl
      · cases h
    | _ => simp [numsOf] at h

noncomputable def fitsL : List Sy → Bool
  | [] => true
  | p :: r => bite p.fits (fitsL r) false
theorem fitsL_wrap (ρ : Nat → Int) : ∀ {ps : List Sy}, fitsL ps = true → ∀ z, z ∈ ps.map (Sy.den ρ) → IntKind.i64.wrap z = z := by
  intro ps
  induction ps with
  | nil => intro _ z hz; simp at hz
  | cons p r ih =>
    intro h z hz
    simp only [fitsL, bite_eq] at h
    split at h
    · rename_i h1
      simp only [List.map_cons, List.mem_cons] at hz
      rcases hz with rfl | hz
      · exact fits_wrap ρ h1
      · exact ih h z hz
    · cases h

/-- A slice whose room is no less than its length. -/
def capOk : V Sy → Bool
  | .rsl _ _ len (some cp) => Nat.ble len cp
  | _ => true

noncomputable def bigK (D : Ids) (Vt : List VEnt) (Vb : List BEnt) (k : FuncId) (args : List (V Sy)) (sto : Sto Sy) : Option (V Sy × Sto Sy) :=
  match args with
  | [.bsl j m] => bite (Nat.beq k D.toInt) (some (.brs sto.next j m, ⟨sto.next + 1, (sto.next, [.bc j]) :: sto.obs, sto.low⟩)) none
  | [.brs o j m] => match boundOf k D.valid with
    | some bd => bite (isBig sto o j) (match findB bd j Vb with
      | some q => some (.bool q, sto)
      | none => none) none
    | none => none
  | [.brs o j m, .brs o' j' m'] => bite (Nat.beq k D.eqInt) (bite (Nat.beq j j') (bite (isBig sto o j) (bite (isBig sto o' j') (some (.bool true, sto)) none) none) none) none
  | [.brs o j m, .int .i64 x] => bite (Nat.beq k D.mark) (bite (isBig sto o j) (match symArith .add .i64 x m with
    | some y => some (.int .i64 y, ⟨sto.next, del sto.obs o, if Nat.blt o sto.low then o else sto.low⟩)
    | none => none) none) none
  | [x] => match boundOf k D.valid with
    | some bd => match sto.elems x with
      | some xs => match numsOf xs with
        | some ps => bite (Nat.ble ps.length 1048576) (bite (capOk x) (bite (fitsL ps) (match vdec Vt bd ps with
          | some q => some (.bool q, sto)
          | none => none) none) none) none
        | none => none
      | none => none
    | none => none
  | _ => none

/-- What runs by hand tell of the functions. -/
structure Ids.Ok (P : Program) (D : Ids) : Prop where
  body : ∀ k, k ∈ D.toInt :: D.eqInt :: D.mark :: D.valid.map (·.1) → ∃ fn, P.funcs[k]? = some fn ∧ fn.body.isSome = true
  small : ∀ e, e ∈ D.valid → e.2 ≤ 1000000000
  uok : ∀ U, D.uids = some U → U.Ok P
  toInt : ∀ zs : List Int, zs.length ≤ 1048576 → ∃ n, symRun P noK [] n D.toInt [.slice (ints (nums zs))] ⟨0, [], 0⟩ = some (.rsl 0 0 zs.length (some zs.length), ⟨1, [(0, ints (nums zs))], 0⟩)
  eqInt : ∀ zs : List Int, zs.length ≤ 1048576 → ∃ n S, symRun P noK [] n D.eqInt [.slice (ints (nums zs)), .slice (ints (nums zs))] ⟨0, [], 0⟩ = some (.bool true, S)
  valid : ∀ e, e ∈ D.valid → ∀ zs : List Int, zs.length ≤ 1048576 → (∀ z, z ∈ zs → IntKind.i64.wrap z = z) → ∃ S : Sto Sy, ∀ (ρ : Nat → Int) (s : Sms) (B : Nat), Good P ⟨Sy.den ρ, s⟩ B e.1 [.slice (ints (nums zs))] ⟨0, [], 0⟩ (.bool (decide (validP e.2 zs))) S
  validE : ∀ e, e ∈ D.valid → ∃ n S, symRun P noK [] n e.1 [.emp] ⟨0, [], 0⟩ = some (.bool false, S)
  mark : ∀ (zs : List Int) (x : Int) (sto : Sto Sy) (o : Nat), 1 ≤ zs.length → zs.length ≤ 1048576 → Desc sto.next sto.obs → look sto.obs o = some (ints (nums zs)) →
    ∃ n ys, symRun P noK [] n D.mark [.rsl o 0 zs.length (some zs.length), .int .i64 (.c x)] sto = some (.int .i64 (.c (IntKind.i64.wrap (x + zs.length))), ⟨sto.next, put sto.obs o ys, if Nat.blt o sto.low then o else sto.low⟩)
end Go.Sx

/-
  The contracts are right.
-/
namespace Go.Sx
open Go.RowKit

section
variable {ρ ρ' : Nat → Int} {s : Sms} {B : Nat} {c : Cx} {sto : Sto Sy} {j o : Nat} {m : Sy} {v : Value}

/-- A list that is there, as data. -/
theorem slice_data {zs : List Int} {b off len cap : Nat} (hl : len = zs.length) (hlen : len ≤ cap) (hb : b < c.w.heap.size) (hcell : ∀ (i : Nat) (n : Int), zs[i]? = some n → c.w.cell? ⟨b, off + i, none⟩ = some (.int .i64 n)) :
    VR ⟨Sy.den ρ', s⟩ c.w.heap.size ⟨c.w, fun _ => none⟩ (.slice (ints (nums zs))) (.slice (some ⟨b, off, none⟩) len cap) := by
  subst hl
  have hl : (ints (nums zs)).length = zs.length := by simp
  have := VR.slice (Δ := ⟨Sy.den ρ', s⟩) (B := c.w.heap.size) (c := ⟨c.w, fun _ => none⟩) (xs := ints (nums zs)) (b := b) (off := off) (cap := cap) (intVs zs) (by rw [hl]; simp [intVs]) (by rw [hl]; exact hlen) hb
    (fun i u hu => by
      rw [intVs, List.getElem?_map, Option.map_eq_some_iff] at hu
      obtain ⟨z, hz, rfl⟩ := hu
      exact hcell i z hz) (fun i x u hx hu => VRs_intVs.2 i x u hx hu)
  rwa [hl] at this

theorem bsl_data (hinv : SInv ⟨Sy.den ρ, s⟩ B c sto) (h : VR ⟨Sy.den ρ, s⟩ B c (.bsl j m) v) : VR ⟨Sy.den ρ', s⟩ c.w.heap.size ⟨c.w, fun _ => none⟩ (.slice (ints (nums (s.l j)))) v := by
  cases h with
  | bsl h0 h1 h2 h3 => exact slice_data rfl h1 (Nat.lt_of_lt_of_le h2 hinv.base) h3
  | bsl0 h0 h1 =>
    have h1' : s.l j = [] := h1
    rw [h1']; exact .snil

theorem brs_data (hinv : SInv ⟨Sy.den ρ, s⟩ B c sto) (hl : look sto.obs o = some [.bc j]) (h : VR ⟨Sy.den ρ, s⟩ B c (.brs o j m) v) : VR ⟨Sy.den ρ', s⟩ c.w.heap.size ⟨c.w, fun _ => none⟩ (.slice (ints (nums (s.l j)))) v := by
  cases h with
  | @brs _ _ b n _ h0 h1 =>
    obtain ⟨b', cur, e, e1, e2, e3, e4⟩ := hinv.ob _ _ hl
    rw [h1] at e1; cases e1
    obtain ⟨rest, hr⟩ := e4.big j rfl
    refine slice_data rfl (Nat.le_refl _) (hinv.blk _ _ _ h1).2 (fun i n hn => ?_)
    rw [cell_none_row _ _ _ e2]
    have : cur.toList[0 + i]? = some (.int .i64 n) := by
      rw [hr, Nat.zero_add, List.getElem?_append_left (by simpa [intVs] using (List.getElem?_eq_some_iff.1 hn).1), intVs, List.getElem?_map]
      have hn' : (s.l j)[i]? = some n := hn
      rw [hn']; rfl
    simpa using this

theorem elems_data {x : V Sy} {ps : List Sy} (hinv : SInv ⟨Sy.den ρ, s⟩ B c sto) (hx : VR ⟨Sy.den ρ, s⟩ B c x v) (he : sto.elems x = some (ints ps)) (hc : capOk x = true) :
    (ps = [] → VR ⟨Sy.den ρ', s⟩ c.w.heap.size ⟨c.w, fun _ => none⟩ .emp v) ∧ (ps ≠ [] → ps.length ≤ 1048576 → VR ⟨Sy.den ρ', s⟩ c.w.heap.size ⟨c.w, fun _ => none⟩ (.slice (ints (nums (ps.map (Sy.den ρ))))) v) := by
  obtain ⟨ad, cap, us, rfl, hr, hor⟩ := hinv.elems hx he
  constructor
  · intro h
    subst h
    rcases hor with ⟨_, h2⟩ | ⟨b, off, rfl, _⟩
    · exact .emp _ _ h2
    · exact .emp _ _ (fun b hb => by cases hb; rfl)
  · intro hne hlen
    rcases hor with ⟨h1, _⟩ | ⟨b, off, rfl, hcell⟩
    · cases ps with
      | nil => exact (hne rfl).elim
      | cons p r => simp [ints] at h1
    · have hus : us = intVs (ps.map (Sy.den ρ)) := by
        apply List.ext_getElem?
        intro i
        cases hz : ps[i]? with
        | none =>
          have h1 : ps.length ≤ i := List.getElem?_eq_none_iff.1 hz
          have h2 : us.length = ps.length := by rw [← hr.1]; simp
          rw [List.getElem?_eq_none (by omega), List.getElem?_eq_none (by simp [intVs]; omega)]
        | some z =>
          have hi : i < ps.length := (List.getElem?_eq_some_iff.1 hz).1
          have hi' : i < us.length := by rw [← hr.1]; simpa using hi
          have := hr.2 i (.int .i64 z) us[i] (by simp [hz]) (List.getElem?_eq_getElem hi')
          rw [List.getElem?_eq_getElem hi', intVs, List.getElem?_map, List.getElem?_map, hz]
          generalize us[i] = u at this ⊢
          cases this
          rfl
      subst hus
      have hcap : (ints ps).length ≤ cap := by
        generalize hg : (ints ps).length = n at hx
        have hpos : 0 < n := by rw [← hg]; simp; cases ps with
          | nil => exact (hne rfl).elim
          | cons p r => simp
        cases x <;> simp [Sto.elems] at he
        case nil => cases hx
        case emp => cases hx; omega
        case slice => cases hx with
          | slice _ _ h2 _ _ _ => exact h2
        case rsl => cases hx with
          | rsl hk => simpa [capOk, Nat.ble_eq] using hc
          | rslo hk hn => omega
      have hb : b < c.w.heap.size := by
        have hp : 0 < ps.length := by cases ps with
          | nil => exact (hne rfl).elim
          | cons p r => simp
        exact lt_of_cell (hcell 0 (.int .i64 (ps[0].den ρ)) (by simp [intVs, List.getElem?_eq_getElem hp]))
      refine slice_data (by simp) hcap hb (fun i n hn => hcell i _ ?_)
      rw [intVs, List.getElem?_map, hn]; rfl
end

section
variable {P : Program} {ρ : Nat → Int} {s : Sms} {B : Nat}

/-- A run as a contract. -/
theorem run_good (hG : NoCount P) (hm : P.follows .mixedOrders = true) (ρ' : Nat → Int) {n : Nat} {k : FuncId} {pat : List (V Sy)} {R : V Sy} {sto S : Sto Sy} (h : symRun P noK [] n k pat sto = some (R, S)) (B' : Nat) :
    Good P ⟨Sy.den ρ', s⟩ B' k pat sto R S := (symRun_ok (ρ := ρ') (s := s) (B := B') hG hm (Γ := []) (by simp) noK_ok n k pat _ R S h).1

theorem VRs.one {I : Type} {Δ : Den I} {B : Nat} {c : Cx} {x : V I} {vs : List Value} (h : VRs Δ B c [x] vs) : ∃ v, vs = [v] ∧ VR Δ B c x v := by
  cases vs with
  | nil => cases h.1
  | cons v r => cases r with
    | nil => exact ⟨v, rfl, h.head⟩
    | cons a b => have := h.1; simp at this
theorem VRs.two {I : Type} {Δ : Den I} {B : Nat} {c : Cx} {x y : V I} {vs : List Value} (h : VRs Δ B c [x, y] vs) : ∃ v u, vs = [v, u] ∧ VR Δ B c x v ∧ VR Δ B c y u := by
  cases vs with
  | nil => cases h.1
  | cons v r =>
    obtain ⟨u, rfl, hu⟩ := VRs.one h.tail
    exact ⟨v, u, rfl, h.head, hu⟩

theorem bigK_ok (hG : NoCount P) (hm : P.follows .mixedOrders = true) {D : Ids} (hD : D.Ok P) {Vt : List VEnt} {Vb : List BEnt} (hV : ∀ e, e ∈ Vt → e.Ok ρ) (hB : ∀ e, e ∈ Vb → e.Ok s) (hs : ∀ j, 1 ≤ (s.l j).length ∧ (s.l j).length ≤ 1048576) (hw : ∀ j z, z ∈ s.l j → IntKind.i64.wrap z = z) :
    COk P ⟨Sy.den ρ, s⟩ B (bigK D Vt Vb) := by
  have hne : ∀ j, s.l j ≠ [] := fun j h => by have := (hs j).1; rw [h] at this; simp at this
  intro k args sto r sto' h
  unfold bigK at h
  split at h
  · -- a copy
    rename_i j m
    rw [bite_eq] at h
    split at h
    · rename_i hk
      cases h
      have hk := Nat.eq_of_beq_eq_true hk
      subst hk
      refine ⟨?_, hD.body _ (by simp)⟩
      obtain ⟨n, hrun⟩ := hD.toInt (s.l j) (hs j).2
      have hg : Good P ⟨Sy.den ρ, s⟩ B D.toInt [.bsl j m] sto (.rsl (sto.next + 0) 0 (s.l j).length (some (s.l j).length)) ⟨sto.next + 1, [(sto.next, ints (nums (s.l j)))] ++ sto.obs, sto.low⟩ := by
        refine lift_good (ρ' := ρ) (run_good hG hm ρ hrun) (fun c hinv vs hv => ?_) (.rsl 0 0 _ _) ⟨?_, ?_, ?_⟩
        · obtain ⟨v, rfl, hv2⟩ := hv.one
          exact .cons (bsl_data hinv hv2) .nil
        · exact ⟨Nat.lt_succ_self _, trivial⟩
        · intro q hq; simp at hq; subst hq; exact Nat.le_refl _
        · intro o y hy
          rw [look_cons] at hy
          split at hy
          · rename_i ho
            cases hy
            refine ⟨ints (nums (s.l j)), by rw [← ho]; simp [look_cons], by omega, rfl, fun i x y hx hy => ?_⟩
            rw [hx] at hy
            cases hy
            rw [ints_get, nums_get] at hx
            cases hz : (s.l j)[i]? with
            | none => rw [hz] at hx; simp at hx
            | some z => rw [hz] at hx; simp at hx; subst hx; exact .int _ rfl
          · cases hy
      intro c rargs hinv hra
      have hlen : m.den ρ = ((s.l j).length : Int) := by
        obtain ⟨v, _, hv⟩ := hra.one
        exact (bsl_slice hv).2
      refine Calls.mono (hg c rargs hinv hra) ?_
      rintro e w' ⟨rv, c', rfl, rfl, hst, hv⟩
      refine ⟨rv, c', rfl, rfl, ?_, rsl_brs hlen hv⟩
      have := hst.inv.rebig (o := sto.next) (j := j) (by simp [look_cons]) (hne j)
      refine hst.retell (s2 := ⟨sto.next + 1, (sto.next, [.bc j]) :: sto.obs, sto.low⟩) ?_ rfl rfl
      simpa [put] using this
    · cases h
  · -- validity of a list of any length
    rename_i o j m
    split at h
    · rename_i bd hbd
      have hbd := boundOf_mem hbd
      rw [bite_eq] at h
      split at h
      · rename_i hbig
        have hl := isBig_look hbig
        split at h
        · rename_i q hq
          cases h
          refine ⟨?_, hD.body k (by simp; exact .inr (.inr (.inr ⟨bd, hbd⟩)))⟩
          obtain ⟨S, hrun⟩ := hD.valid _ hbd (s.l j) (hs j).2 (hw j)
          have hq' := findB_ok hB hq
          rw [hq'] at hrun
          refine lift_plain (ρ' := ρ) (hrun ρ s) (fun c hinv vs hv => ?_) rfl (.bool _)
          obtain ⟨v, rfl, hv2⟩ := hv.one
          exact .cons (brs_data hinv hl hv2) .nil
        · cases h
      · cases h
    · cases h
  · -- two copies are equal
    rename_i o j m o' j' m'
    simp only [bite_eq] at h
    split at h
    · rename_i hk
      have hk := Nat.eq_of_beq_eq_true hk
      subst hk
      split at h
      · rename_i hj
        have hj := Nat.eq_of_beq_eq_true hj
        subst hj
        split at h
        · rename_i h1
          split at h
          · rename_i h2
            cases h
            refine ⟨?_, hD.body _ (by simp)⟩
            obtain ⟨n, S, hrun⟩ := hD.eqInt (s.l j) (hs j).2
            refine lift_plain (ρ' := ρ) (run_good hG hm ρ hrun) (fun c hinv vs hv => ?_) rfl (.bool _)
            obtain ⟨v, u, rfl, hv, hu⟩ := hv.two
            exact .cons (brs_data hinv (isBig_look h1) hv) (.cons (brs_data hinv (isBig_look h2) hu) .nil)
          · cases h
        · cases h
      · cases h
    · cases h
  · -- marks
    rename_i o j m x
    simp only [bite_eq] at h
    split at h
    · rename_i hk
      have hk := Nat.eq_of_beq_eq_true hk
      subst hk
      split at h
      · rename_i hbig
        have hl := isBig_look hbig
        split at h
        · rename_i y hy
          cases h
          refine ⟨?_, hD.body _ (by simp)⟩
          intro c rargs hinv hra
          obtain ⟨v, u, hrg, hv, hu⟩ := hra.two
          have hv' := brs_rsl hv
          have hinv' := hinv.unbig hl
          have hlk : look (put sto.obs o (ints (nums (s.l j)))) o = some (ints (nums (s.l j))) := look_put_self hl
          obtain ⟨n, ys, hrun⟩ := hD.mark (s.l j) (x.den ρ) ⟨sto.next, put sto.obs o (ints (nums (s.l j))), sto.low⟩ o (hs j).1 (hs j).2 hinv'.desc hlk
          have hu' : VR ⟨Sy.den ρ, s⟩ B c (.int .i64 (.c (x.den ρ))) u := by
            cases hu; exact VR_int' rfl
          have hy' : IntKind.i64.wrap (x.den ρ + (s.l j).length) = y.den ρ := by
            have := (symNum_ok (ρ := ρ) (Γ := []) (by simp) s).arith .add .i64 x m y hy
            have h2 : some (IntKind.i64.wrap (x.den ρ + m.den ρ)) = some (y.den ρ) := this
            rw [hv'.2] at h2
            exact Option.some.inj h2
          refine Calls.mono (run_good hG hm ρ hrun B c rargs hinv' (by rw [hrg]; exact .cons hv'.1 (.cons hu' .nil))) ?_
          rintro e w' ⟨rv, c', rfl, rfl, hst, hr⟩
          have hst := hst.refrom (s0 := sto) rfl rfl
          refine ⟨rv, c', rfl, rfl, ?_, ?_⟩
          · refine hst.forget (obs := del sto.obs o) (hinv.desc.del o) (fun o' x' hx' => ?_)
            obtain ⟨h1, h2⟩ := look_del hx'
            show look (put (put sto.obs o _) o ys) o' = some x'
            have hput : ∀ (l : List (Nat × Ob Sy)) (y : Ob Sy), look (put l o y) o' = look l o' := by
              intro l y
              induction l with
              | nil => rfl
              | cons p r ih =>
                obtain ⟨k, z⟩ := p
                simp only [put, beq_dec]
                by_cases hk : k = o
                · subst hk
                  simp only [decide_true, if_true]
                  rw [look_cons, look_cons, if_neg (fun e => h1 e.symm), if_neg (fun e => h1 e.symm)]
                · simp only [hk, decide_false, Bool.false_eq_true, if_false, look_cons, ih]
            rw [hput, hput]; exact h2
          · cases hr; exact VR_int' hy'.symm
        · cases h
      · cases h
    · cases h
  · -- validity of a list
    rename_i x _ _
    split at h
    · rename_i bd hbd
      have hbd := boundOf_mem hbd
      split at h
      · rename_i xs hxs
        split at h
        · rename_i ps hps
          have hps := numsOf_ints hps
          subst hps
          simp only [bite_eq] at h
          split at h
          · rename_i hsz
            rw [Nat.ble_eq] at hsz
            split at h
            · rename_i hcap0
              split at h
              · rename_i hfit
                have hcap : capOk x = true ∧ fitsL ps = true := ⟨hcap0, hfit⟩
                split at h
                · rename_i q hq
                  cases h
                  refine ⟨?_, hD.body k (by simp; exact .inr (.inr (.inr ⟨bd, hbd⟩)))⟩
                  have hq' := vdec_ok hV (hD.small _ hbd) hq
                  by_cases hp : ps = []
                  · obtain ⟨n, S, hrun⟩ := hD.validE _ hbd
                    have : q = false := by rw [← hq', hp]; refine decide_eq_false (fun hv => ?_); have := hv.2.1; simp at this
                    subst this
                    refine lift_plain (ρ' := ρ) (run_good hG hm ρ hrun) (fun c hinv vs hv => ?_) rfl (.bool _)
                    obtain ⟨v, rfl, hv2⟩ := hv.one
                    exact .cons ((elems_data hinv hv2 hxs hcap.1).1 hp) .nil
                  · obtain ⟨S, hrun⟩ := hD.valid _ hbd (ps.map (Sy.den ρ)) (by simpa using hsz) (fitsL_wrap ρ hcap.2)
                    simp only at hrun
                    rw [hq'] at hrun
                    refine lift_plain (ρ' := ρ) (hrun ρ s) (fun c hinv vs hv => ?_) rfl (.bool _)
                    obtain ⟨v, rfl, hv2⟩ := hv.one
                    exact .cons ((elems_data hinv hv2 hxs hcap.1).2 hp hsz) .nil
                · cases h
              · cases h
            · cases h
          · cases h
        · cases h
      · cases h
    · cases h
  · cases h
end
end Go.Sx

/-
  Cases: a tree of them, each leaf a run.
-/
namespace Go.Sx
open Go.RowKit

abbrev Ctr := FuncId → List (V Sy) → Sto Sy → Option (V Sy × Sto Sy)

/-- One contract, else another. -/
noncomputable def orK (K1 K2 : Ctr) : Ctr := fun k args sto => match K1 k args sto with
  | some r => some r
  | none => K2 k args sto
theorem orK_ok {P : Program} {Δ : Den Sy} {B : Nat} {K1 K2 : Ctr} (h1 : COk P Δ B K1) (h2 : COk P Δ B K2) : COk P Δ B (orK K1 K2) := by
  intro k args sto r sto' h
  unfold orK at h
  split at h
  · rename_i r' hr; cases h; exact h1 _ _ _ _ _ hr
  · exact h2 _ _ _ _ _ h

inductive Sp where
  | leaf
  | sub (i : Nat) (c : Int) (y n : Sp)
  | cmp (lt : Bool) (a b : List Sy → Sy) (y n : Sp)
  | rng (i : Nat) (lo : Int) (n : Nat) (f : Nat → Sp) (out : Sp)
  | val (bd : Int) (f : List Sy → Option (List Sy)) (y n : Sp)

noncomputable def allTo (f : Nat → Bool) : Nat → Bool
  | 0 => true
  | n + 1 => bite (allTo f n) (f n) false
theorem allTo_ok {f : Nat → Bool} : ∀ {n : Nat}, allTo f n = true → ∀ i, i < n → f i = true := by
  intro n
  induction n with
  | zero => intro _ i hi; omega
  | succ n ih =>
    intro h i hi
    simp only [allTo, bite_eq] at h
    split at h
    · rename_i h1
      by_cases hin : i = n
      · subst hin; exact h
      · exact ih h1 i (by omega)
    · cases h

noncomputable def chk (run : List Sy → List Fact → List VEnt → Bool) : Sp → List Sy → List Fact → List VEnt → Bool
  | .leaf, xs, Γ, Vt => run xs Γ Vt
  | .sub i c y n, xs, Γ, Vt => bite (chk run y (xs.set i (.c c)) Γ Vt) (chk run n xs (⟨false, xs.getD i (.c 0), .c c, false⟩ :: Γ) Vt) false
  | .cmp lt a b y n, xs, Γ, Vt => bite (chk run y xs (⟨lt, a xs, b xs, true⟩ :: Γ) Vt) (chk run n xs (⟨lt, a xs, b xs, false⟩ :: Γ) Vt) false
  | .rng i lo n f out, xs, Γ, Vt => bite (allTo (fun t => chk run (f t) (xs.set i (.c (lo + t))) Γ Vt) n)
      (bite (chk run out xs (⟨true, xs.getD i (.c 0), .c lo, true⟩ :: Γ) Vt) (chk run out xs (⟨true, xs.getD i (.c 0), .c lo, false⟩ :: ⟨true, .c (lo + n - 1), xs.getD i (.c 0), true⟩ :: Γ) Vt) false) false
  | .val bd f y n, xs, Γ, Vt => match f xs with
    | some ps => bite (chk run y xs Γ (⟨bd, ps, true⟩ :: Vt)) (chk run n xs Γ (⟨bd, ps, false⟩ :: Vt)) false
    | none => false

theorem map_set_den {ρ : Nat → Int} {zs : List Int} {xs : List Sy} (h : xs.map (Sy.den ρ) = zs) {i : Nat} {c : Int} (hc : (xs.getD i (.c 0)).den ρ = c) : (xs.set i (.c c)).map (Sy.den ρ) = zs := by
  rw [← h, List.map_set]
  apply List.ext_getElem?
  intro j
  rw [List.getElem?_set]
  by_cases hij : i = j
  · subst hij
    rw [if_pos rfl]
    by_cases hi : i < xs.length
    · have h2 : xs.getD i (.c 0) = xs[i] := by simp [List.getD, hi]
      rw [h2] at hc
      have h3 : (Sy.c c).den ρ = c := rfl
      simp [hi, hc, h3]
    · simp [hi]
  · rw [if_neg hij]

theorem chk_ok {ρ : Nat → Int} {zs : List Int} {G : Prop} {run : List Sy → List Fact → List VEnt → Bool}
    (hrun : ∀ xs Γ Vt, run xs Γ Vt = true → xs.map (Sy.den ρ) = zs → (∀ f, f ∈ Γ → f.Ok ρ) → (∀ e, e ∈ Vt → e.Ok ρ) → G) :
    ∀ (t : Sp) (xs : List Sy) (Γ : List Fact) (Vt : List VEnt), chk run t xs Γ Vt = true → xs.map (Sy.den ρ) = zs → (∀ f, f ∈ Γ → f.Ok ρ) → (∀ e, e ∈ Vt → e.Ok ρ) → G := by
  intro t
  have cons : ∀ {Γ : List Fact} {g : Fact}, g.Ok ρ → (∀ f, f ∈ Γ → f.Ok ρ) → ∀ f, f ∈ g :: Γ → f.Ok ρ := by
    intro Γ g hg h f hf
    rcases List.mem_cons.1 hf with rfl | hf
    · exact hg
    · exact h f hf
  have consV : ∀ {Vt : List VEnt} {g : VEnt}, g.Ok ρ → (∀ f, f ∈ Vt → f.Ok ρ) → ∀ f, f ∈ g :: Vt → f.Ok ρ := by
    intro Γ g hg h f hf
    rcases List.mem_cons.1 hf with rfl | hf
    · exact hg
    · exact h f hf
  induction t with
  | leaf => intro xs Γ Vt h hz hΓ hV; exact hrun xs Γ Vt h hz hΓ hV
  | sub i c y n ihy ihn =>
    intro xs Γ Vt h hz hΓ hV
    simp only [chk, bite_eq] at h
    split at h
    · rename_i h1
      by_cases hc : (xs.getD i (.c 0)).den ρ = c
      · exact ihy _ _ _ h1 (map_set_den hz hc) hΓ hV
      · exact ihn _ _ _ h hz (cons (Fact.eq_no hc) hΓ) hV
    · cases h
  | cmp lt a b y n ihy ihn =>
    intro xs Γ Vt h hz hΓ hV
    simp only [chk, bite_eq] at h
    split at h
    · rename_i h1
      cases lt with
      | true =>
        by_cases hc : (a xs).den ρ < (b xs).den ρ
        · exact ihy _ _ _ h1 hz (cons (Fact.lt_yes hc) hΓ) hV
        · exact ihn _ _ _ h hz (cons (Fact.lt_no hc) hΓ) hV
      | false =>
        by_cases hc : (a xs).den ρ = (b xs).den ρ
        · exact ihy _ _ _ h1 hz (cons (Fact.eq_yes hc) hΓ) hV
        · exact ihn _ _ _ h hz (cons (Fact.eq_no hc) hΓ) hV
    · cases h
  | rng i lo n f out ihf iho =>
    intro xs Γ Vt h hz hΓ hV
    simp only [chk, bite_eq] at h
    split at h
    · rename_i h1
      split at h
      · rename_i h2
        by_cases hlo : (xs.getD i (.c 0)).den ρ < lo
        · exact iho _ _ _ h2 hz (cons (Fact.lt_yes hlo) hΓ) hV
        · by_cases hhi : lo + n - 1 < (xs.getD i (.c 0)).den ρ
          · exact iho _ _ _ h hz (cons (Fact.lt_no hlo) (cons (Fact.lt_yes hhi) hΓ)) hV
          · have ht : ((xs.getD i (.c 0)).den ρ - lo).toNat < n := by omega
            have := allTo_ok h1 _ ht
            exact ihf _ _ _ _ this (map_set_den hz (by omega)) hΓ hV
      · cases h
    · cases h
  | val bd f y n ihy ihn =>
    intro xs Γ Vt h hz hΓ hV
    simp only [chk] at h
    split at h
    · rename_i ps hps
      rw [bite_eq] at h
      split at h
      · rename_i h1
        by_cases hc : validP bd (ps.map (Sy.den ρ))
        · exact ihy _ _ _ h1 hz hΓ (consV (decide_eq_true hc) hV)
        · exact ihn _ _ _ h hz hΓ (consV (decide_eq_false hc) hV)
      · cases h
    · cases h

/-- So many variables. -/
def vxs (n : Nat) : List Sy := (List.range n).map vx

theorem vxs_den {zs : List Int} (hn : zs.length ≤ 40) (hw : ∀ z, z ∈ zs → IntKind.i64.wrap z = z) : (vxs zs.length).map (Sy.den (fun i => zs.getD i 0)) = zs := by
  apply List.ext_getElem?
  intro i
  simp only [vxs, List.map_map, List.getElem?_map]
  by_cases hi : i < zs.length
  · rw [List.getElem?_range hi, List.getElem?_eq_getElem hi]
    have : zs.getD i 0 = zs[i] := by simp [List.getD, hi]
    simp only [Option.map_some, Function.comp, Option.some.injEq]
    rw [vx_den _ i (by omega) (by rw [this]; exact hw _ (List.getElem_mem hi)), this]
  · rw [List.getElem?_eq_none (l := List.range zs.length) (by rw [List.length_range]; omega), List.getElem?_eq_none (l := zs) (by omega)]; rfl
end Go.Sx

/-
  A test of lists, known by its runs.
-/
namespace Go.Sx
open Go.RowKit

def inF (bd : Int) (i : Nat) : List Fact := [⟨true, vx i, .c (-bd), false⟩, ⟨true, .c bd, vx i, false⟩]
def loF (bd : Int) (i : Nat) : List Fact := [⟨true, vx i, .c (-bd), true⟩, ⟨true, .c bd, vx i, false⟩]
def hiF (bd : Int) (i : Nat) : List Fact := [⟨true, vx i, .c (-bd), false⟩, ⟨true, .c bd, vx i, true⟩]
def inFs (bd : Int) : Nat → List Fact
  | 0 => []
  | n + 1 => inF bd n ++ inFs bd n

def isB (q : Bool) : Option (V Sy × Sto Sy) → Bool
  | some (.bool b, _) => b == q
  | _ => false
theorem isB_iff {q : Bool} {o : Option (V Sy × Sto Sy)} (h : isB q o = true) : ∃ s, o = some (.bool q, s) := by
  unfold isB at h
  split at h
  · rename_i b s; exact ⟨s, by rw [eq_of_beq h]⟩
  · cases h

noncomputable def validRuns (P : Program) (bd : Int) (N : Nat) (k : FuncId) (n : Nat) : Bool :=
  bite (isB true (symRun P noK (inFs bd n) N k [.slice (ints (vxs n))] ⟨0, [], 0⟩))
    (allTo (fun i => bite (isB false (symRun P noK (loF bd i ++ inFs bd i) N k [.slice (ints (vxs n))] ⟨0, [], 0⟩)) (isB false (symRun P noK (hiF bd i ++ inFs bd i) N k [.slice (ints (vxs n))] ⟨0, [], 0⟩)) false) n) false

theorem inFs_ok {ρ : Nat → Int} {bd : Int} : ∀ {n : Nat}, (∀ i, i < n → -bd ≤ (vx i).den ρ ∧ (vx i).den ρ ≤ bd) → ∀ f, f ∈ inFs bd n → f.Ok ρ := by
  intro n
  induction n with
  | zero => intro _ f hf; cases hf
  | succ n ih =>
    intro h f hf
    have h0 := h n (by omega)
    simp only [inFs, inF, List.cons_append, List.nil_append, List.mem_cons] at hf
    rcases hf with rfl | rfl | hf
    · exact Fact.lt_no (by simp only [Sy.den] at h0 ⊢; omega)
    · exact Fact.lt_no (by simp only [Sy.den] at h0 ⊢; omega)
    · exact ih (fun i hi => h i (by omega)) f hf

/-- A run at symbols, as data that stand for the numbers. -/
theorem run_nums {P : Program} (hG : NoCount P) (hm : P.follows .mixedOrders = true) {zs : List Int} (hn : zs.length ≤ 40) (hw : ∀ z, z ∈ zs → IntKind.i64.wrap z = z)
    {Γ : List Fact} (hΓ : ∀ f, f ∈ Γ → f.Ok (fun i => zs.getD i 0)) {N : Nat} {k : FuncId} {q : Bool} {S : Sto Sy}
    (h : symRun P noK Γ N k [.slice (ints (vxs zs.length))] ⟨0, [], 0⟩ = some (.bool q, S)) (ρ : Nat → Int) (s : Sms) (B : Nat) :
    Good P ⟨Sy.den ρ, s⟩ B k [.slice (ints (nums zs))] ⟨0, [], 0⟩ (.bool q) ⟨0, [], 0⟩ := by
  have hvx := vxs_den hn hw
  refine lift_plain (ρ' := fun i => zs.getD i 0) (R := .bool q) (S := S) (pat := [.slice (ints (vxs zs.length))]) (fun B' => (symRun_ok (ρ := fun i => zs.getD i 0) (s := s) (B := B') hG hm hΓ noK_ok N k _ _ _ _ h).1) (fun c hinv vs hv => ?_) rfl (.bool _)
  obtain ⟨v, rfl, hv2⟩ := hv.one
  refine .cons ?_ .nil
  refine AR.rel hinv (.slice ?_) hv2
  rw [hvx]; simp [nums, Sy.den, Function.comp_def]

theorem validRuns_ok {P : Program} (hG : NoCount P) (hm : P.follows .mixedOrders = true) {bd : Int} {N : Nat} {k : FuncId} {n : Nat} (h1 : 1 ≤ n) (h6 : n ≤ 6) (hbd : 0 ≤ bd) (h : validRuns P bd N k n = true)
    {zs : List Int} (hn : zs.length = n) (hw : ∀ z, z ∈ zs → IntKind.i64.wrap z = z) :
    ∃ S : Sto Sy, ∀ (ρ : Nat → Int) (s : Sms) (B : Nat), Good P ⟨Sy.den ρ, s⟩ B k [.slice (ints (nums zs))] ⟨0, [], 0⟩ (.bool (decide (validP bd zs))) S := by
  refine ⟨⟨0, [], 0⟩, fun ρ s B => ?_⟩
  simp only [validRuns, bite_eq] at h
  split at h
  · rename_i hin
    have hv : ∀ i (hi : i < zs.length), (vx i).den (fun i => zs.getD i 0) = zs[i] := by
      intro i hi
      have e : zs.getD i 0 = zs[i] := by simp [List.getD, hi]
      rw [vx_den _ i (by omega) (by rw [e]; exact hw _ (List.getElem_mem hi)), e]
    by_cases hall : ∀ z, z ∈ zs → -bd ≤ z ∧ z ≤ bd
    · rw [decide_eq_true (show validP bd zs from ⟨hall, by omega, by omega⟩)]
      obtain ⟨S, hS⟩ := isB_iff hin
      subst hn
      exact run_nums hG hm (by omega) hw (inFs_ok (fun i hi => by rw [hv i hi]; exact hall _ (List.getElem_mem hi))) hS ρ s B
    · rw [decide_eq_false (show ¬ validP bd zs from fun h => hall h.1)]
      -- the first number that is too great
      have first : ∀ m, m ≤ n → (∀ i (hi : i < zs.length), i < m → -bd ≤ zs[i] ∧ zs[i] ≤ bd) ∨ ∃ i, ∃ hi : i < zs.length, i < m ∧ ¬ (-bd ≤ zs[i] ∧ zs[i] ≤ bd) ∧ ∀ j (hj : j < zs.length), j < i → -bd ≤ zs[j] ∧ zs[j] ≤ bd := by
        intro m
        induction m with
        | zero => intro _; exact .inl (fun i hi h => by omega)
        | succ m ih =>
          intro hm'
          rcases ih (by omega) with h | ⟨i, hi, h1, h2, h3⟩
          · by_cases hok : -bd ≤ zs[m]'(by omega) ∧ zs[m]'(by omega) ≤ bd
            · refine .inl (fun i hi him => ?_)
              by_cases e : i = m
              · subst e; exact hok
              · exact h i hi (by omega)
            · exact .inr ⟨m, by omega, by omega, hok, fun j hj hjm => h j hj hjm⟩
          · exact .inr ⟨i, hi, by omega, h2, h3⟩
      rcases first n (Nat.le_refl _) with hh | ⟨i, hi, h1, h2, h3⟩
      · exact (hall (fun z hz => by obtain ⟨i, hi, rfl⟩ := List.mem_iff_getElem.1 hz; exact hh i hi (by omega))).elim
      · have h4 := allTo_ok h i (by omega)
        have hpre := inFs_ok (ρ := fun i => zs.getD i 0) (bd := bd) (n := i) (fun j hj => by rw [hv j (by omega)]; exact h3 j (by omega) hj)
        have hvi := hv i hi
        split at h4
        · rename_i h5
          by_cases hlo : zs[i] < -bd
          · obtain ⟨S, hS⟩ := isB_iff h5
            subst hn
            refine run_nums hG hm (by omega) hw (fun f hf => ?_) hS ρ s B
            simp only [loF, List.cons_append, List.nil_append, List.mem_cons] at hf
            rcases hf with rfl | rfl | hf
            · exact Fact.lt_yes (by rw [hvi]; exact hlo)
            · exact Fact.lt_no (by rw [hvi]; simp only [Sy.den]; omega)
            · exact hpre f hf
          · obtain ⟨S, hS⟩ := isB_iff h4
            subst hn
            refine run_nums hG hm (by omega) hw (fun f hf => ?_) hS ρ s B
            simp only [hiF, List.cons_append, List.nil_append, List.mem_cons] at hf
            rcases hf with rfl | rfl | hf
            · exact Fact.lt_no (by rw [hvi]; exact hlo)
            · exact Fact.lt_yes (by rw [hvi]; simp only [Sy.den]; omega)
            · exact hpre f hf
        · cases h4
  · cases h

/-- A test whose runs are right for 1 to 6 numbers, and that refuses none and more. -/
theorem valid_of_runs {P : Program} (hG : NoCount P) (hm : P.follows .mixedOrders = true) {bd : Int} (hbd : 0 ≤ bd) {N : Nat} {k : FuncId}
    (h : allTo (fun i => validRuns P bd N k (i + 1)) 6 = true) (h0 : isB false (symRun P noK [] N k [.slice (ints (nums []))] ⟨0, [], 0⟩) = true)
    (h7 : ∀ a b c d e f g r, isB false (symRun P noK [] N k [.slice (ints (nums (a :: b :: c :: d :: e :: f :: g :: r)))] ⟨0, [], 0⟩) = true)
    (zs : List Int) (hw : ∀ z, z ∈ zs → IntKind.i64.wrap z = z) : ∃ S : Sto Sy, ∀ (ρ : Nat → Int) (s : Sms) (B : Nat), Good P ⟨Sy.den ρ, s⟩ B k [.slice (ints (nums zs))] ⟨0, [], 0⟩ (.bool (decide (validP bd zs))) S := by
  by_cases hl0 : zs.length = 0
  · have : zs = [] := List.eq_nil_of_length_eq_zero hl0
    subst this
    obtain ⟨S, hS⟩ := isB_iff h0
    refine ⟨S, fun ρ s B => ?_⟩
    rw [decide_eq_false (show ¬ validP bd [] from fun h => by have := h.2.1; simp at this)]
    exact run_good hG hm ρ hS B
  · by_cases hl6 : zs.length ≤ 6
    · have := allTo_ok h (zs.length - 1) (by omega)
      rw [show zs.length - 1 + 1 = zs.length by omega] at this
      exact validRuns_ok hG hm (by omega) hl6 hbd this rfl hw
    · match zs, hl6 with
      | a :: b :: c :: d :: e :: f :: g :: r, _ =>
        obtain ⟨S, hS⟩ := isB_iff (h7 a b c d e f g r)
        refine ⟨S, fun ρ s B => ?_⟩
        rw [decide_eq_false (show ¬ validP bd _ from fun h => by have := h.2.2; simp at this)]
        exact run_good hG hm ρ hS B
      | [], h => simp at h
      | [a], h => simp at h
      | [a, b], h => simp at h
      | [a, b, c], h => simp at h
      | [a, b, c, d], h => simp at h
      | [a, b, c, d, e], h => simp at h
      | [a, b, c, d, e, f], h => simp at h

/-- A run by hand, over lists of any length. -/
theorem valid_of_hand {P : Program} (hG : NoCount P) (hm : P.follows .mixedOrders = true) {bd : Int} {k : FuncId} {zs : List Int} {n : Nat} {S : Sto Sy} (h : symRun P noK [] n k [.slice (ints (nums zs))] ⟨0, [], 0⟩ = some (.bool (decide (validP bd zs)), S)) :
    ∃ S : Sto Sy, ∀ (ρ : Nat → Int) (s : Sms) (B : Nat), Good P ⟨Sy.den ρ, s⟩ B k [.slice (ints (nums zs))] ⟨0, [], 0⟩ (.bool (decide (validP bd zs))) S := ⟨S, fun ρ s B => run_good hG hm ρ h B⟩
end Go.Sx

/-
  Is a number 1 or -1? The functions that ask it, as contracts.
-/
namespace Go.Sx
open Go.RowKit

theorem inv0 {I : Type} (Δ : Den I) (w : World) : SInv Δ w.heap.size ⟨w, fun _ => none⟩ (⟨0, [], 0⟩ : Sto I) :=
  ⟨Nat.le_refl _, fun _ _ => rfl, fun o b n h => (by cases h), fun o x h => (by cases h), fun o o' x x' b n n' h => (by cases h), trivial⟩

theorem DR_plain2 {ρ' ρ : Nat → Int} {s s' : Sms} {B B' n : Nat} {c c' : Cx} {x y : V Sy} {v : Value} (h : y.plain = true) (hd : DR ρ' ρ n x y) (hv : VR ⟨Sy.den ρ', s'⟩ B' c' x v) : VR ⟨Sy.den ρ, s⟩ B c y v := by
  cases hd with
  | bool b => cases hv; exact .bool _
  | int k he => cases hv; exact VR_int' he
  | str b => cases hv; exact .str _
  | nil => cases hv; exact .nil
  | nilPtr => cases hv; exact .nilPtr
  | nilFunc => cases hv; exact .nilFunc
  | nilIface => cases hv; exact .nilIface
  | _ => simp [V.plain] at h

theorem lift_plain2 {P : Program} {ρ ρ' : Nat → Int} {s s' : Sms} {k : FuncId} {pat : List (V Sy)} {R : V Sy} {S : Sto Sy} (hG : ∀ B', Good P ⟨Sy.den ρ', s'⟩ B' k pat ⟨0, [], 0⟩ R S)
    {B : Nat} {args : List (V Sy)} {sto : Sto Sy} {y : V Sy}
    (hargs : ∀ (c : Cx), SInv ⟨Sy.den ρ, s⟩ B c sto → ∀ vs, VRs ⟨Sy.den ρ, s⟩ B c args vs → VRs ⟨Sy.den ρ', s'⟩ c.w.heap.size ⟨c.w, fun _ => none⟩ pat vs)
    (hp : y.plain = true) (hy : DR ρ' ρ sto.next R y) :
    Good P ⟨Sy.den ρ, s⟩ B k args sto y sto := by
  intro c rargs hinv hra
  refine Calls.mono (hG c.w.heap.size ⟨c.w, fun _ => none⟩ rargs (inv0 _ c.w) (hargs c hinv _ hra)) ?_
  rintro ev w' ⟨rv, c', rfl, rfl, hst, hv⟩
  have hbe : Below c.w.heap.size c.w c'.w := hst.below
  let c'' : Cx := ⟨c'.w, c.κ⟩
  have hle : Cx.le B c c'' := ⟨fun b hb => hbe.block b (Nat.lt_of_lt_of_le hb hinv.base), fun _ _ h => h⟩
  refine ⟨rv, c'', rfl, rfl, ⟨⟨Nat.le_trans hinv.base hbe.size, hinv.fresh, fun o b n hk => ?_, fun o x hx => ?_, hinv.inj, hinv.desc⟩, fun _ _ h => h,
    hbe.mono hinv.base, Nat.le_refl _, Nat.le_refl _, fun b hb _ => hbe.block b hb, fun o b n hk hn hb => ?_, fun o x hk hn => ?_, hst.frz⟩, DR_plain2 hp hy hv⟩
  · have := hinv.blk o b n hk
    exact ⟨this.1, Nat.lt_of_lt_of_le this.2 hbe.size⟩
  · obtain ⟨b, cur, el, e1, e2, e3, e4⟩ := hinv.ob o x hx
    refine ⟨b, cur, el, e1, ?_, e3, e4.mono hle⟩
    show c'.w.heap[b]? = _
    rw [hbe.block b (hinv.blk _ _ _ e1).2]; exact e2
  · rw [hn] at hk; cases hk
  · rw [hn] at hk; cases hk

theorem ints_intVs {ρ : Nat → Int} {s : Sms} {B : Nat} {c : Cx} {xs : List Sy} {zs : List Int} (hx : xs.map (Sy.den ρ) = zs) : VRs ⟨Sy.den ρ, s⟩ B c (ints xs) (intVs zs) := by
  subst hx
  refine ⟨by simp [intVs], fun i x v hx hv => ?_⟩
  rw [ints_get] at hx
  rw [intVs, List.map_map, List.getElem?_map] at hv
  cases hz : xs[i]? with
  | none => rw [hz] at hx; simp at hx
  | some z => rw [hz] at hx hv; simp at hx hv; subst hx; subst hv; exact .int _ _

/-- A list of numbers, under another reading. -/
theorem nums_to {ρ ρ' : Nat → Int} {s s' : Sms} {B B' : Nat} {c c' : Cx} {zs : List Int} {xs : List Sy} {v : Value} (hw : c'.w = c.w) (hB : B ≤ B') (hx : xs.map (Sy.den ρ') = zs) (h : VR ⟨Sy.den ρ, s⟩ B c (.slice (ints (nums zs))) v) :
    VR ⟨Sy.den ρ', s'⟩ B' c' (.slice (ints xs)) v := by
  have hl : (ints xs).length = (ints (nums zs)).length := by rw [← hx]; simp
  generalize hg : ints (nums zs) = ys at h
  cases h with
  | @slice _ b off cap us h1 h2 h3 h4 h5 =>
    subst hg
    have hus := intVs_of (ρ := ρ) (s := s) (B := B) (c := c) ⟨h1.symm, h5⟩
    subst hus
    have := VR.slice (Δ := ⟨Sy.den ρ', s'⟩) (B := B') (c := c') (xs := ints xs) (b := b) (off := off) (cap := cap) (intVs zs) (by rw [hl]; exact h1) (by rw [hl]; exact h2) (Nat.lt_of_lt_of_le h3 hB)
      (fun j u hj => by rw [hw]; exact h4 j u hj) (ints_intVs hx).2
    rwa [hl] at this
  | snil =>
    have h0 : (ints xs).length = 0 := by rw [hl, hg]; rfl
    have : ints xs = [] := List.eq_nil_of_length_eq_zero h0
    rw [this]; exact .snil

noncomputable def unitDec (Γ : List Fact) (Vt : List VEnt) : Sy → Option Bool
  | .c n => some (bite (ieq n 1) true (ieq n (-1)))
  | .p l => bite (inV 1 (.p l) Vt) (match eqSy Γ (.p l) (.c 0) with
      | some q => some (!q)
      | none => none) (match findV 1 [.p l] Vt with
      | some false => some false
      | _ => none)

theorem unitDec_ok {ρ : Nat → Int} {Γ : List Fact} {Vt : List VEnt} (hΓ : ∀ f, f ∈ Γ → f.Ok ρ) (hV : ∀ e, e ∈ Vt → e.Ok ρ) {x : Sy} {q : Bool} (h : unitDec Γ Vt x = some q) : decide (unit (x.den ρ)) = q := by
  cases x with
  | c n =>
    simp only [unitDec, bite_eq, ieq_eq] at h
    cases h
    simp only [Sy.den, unit]
    by_cases h1 : n = 1
    · simp [h1]
    · simp [h1]
      rw [Bool.eq_iff_iff]; simp
  | p l =>
    simp only [unitDec, bite_eq] at h
    split at h
    · rename_i h1
      have h2 := inV_ok hV h1
      split at h
      · rename_i b hb
        cases h
        have h3 := eqSy_ok hΓ hb
        have h4 : (Sy.c 0).den ρ = 0 := rfl
        rw [h4] at h3
        generalize (Sy.p l).den ρ = z at *
        cases b with
        | true => have : z = 0 := by simpa using h3
                  simp [unit, this]
        | false =>
          have h5 : z ≠ 0 := by simpa using h3
          obtain ⟨h6, h7⟩ := h2
          show decide (unit z) = true
          exact decide_eq_true (show z = 1 ∨ z = -1 by omega)
      · cases h
    · split at h
      · rename_i hf
        cases h
        have h3 := findV_ok hV hf
        simp only [List.map_cons, List.map_nil] at h3
        generalize (Sy.p l).den ρ = z at *
        refine decide_eq_false (fun hu => (of_decide_eq_false h3) ⟨fun y hy => ?_, by simp, by simp⟩)
        simp only [List.mem_cons, List.not_mem_nil, or_false] at hy
        subst hy
        rcases hu with hu | hu <;> omega
      · cases h

noncomputable def unitK (U : UIds) (Γ : List Fact) (Vt : List VEnt) : Ctr := fun k args sto =>
  match args with
  | [.int .i64 x] => bite (Nat.beq k U.isUnit) (bite x.fits (match unitDec Γ Vt x with
    | some q => some (.bool q, sto)
    | none => none) none) none
  | [f, g] => bite (Nat.beq k U.begins) (match sto.elems f, sto.elems g with
    | some xs, some ys => match numsOf xs, numsOf ys with
      | some ps, some [.c a, .c b] => bite (ieq a 1) (bite (ieq b (-1)) (bite (capOk f) (bite (capOk g) (bite (fitsL ps) (bite (Nat.ble ps.length 6) (match ps with
        | [] => none
        | p :: r => match vdec Vt 600 (p :: r) with
          | some false => some (.bool false, sto)
          | some true => match unitDec Γ Vt p with
            | some q => some (.bool q, sto)
            | none => none
          | none => none) none) none) none) none) none) none
      | _, _ => none
    | _, _ => none) none
  | _ => none

theorem unitK_ok {P : Program} {U : UIds} (hU : U.Ok P) {ρ : Nat → Int} {s : Sms} {B : Nat} {Γ : List Fact} {Vt : List VEnt} (hΓ : ∀ f, f ∈ Γ → f.Ok ρ) (hV : ∀ e, e ∈ Vt → e.Ok ρ) : COk P ⟨Sy.den ρ, s⟩ B (unitK U Γ Vt) := by
  intro k args sto r sto' h
  unfold unitK at h
  split at h
  · rename_i x
    simp only [bite_eq] at h
    split at h
    · rename_i hk
      have hk := Nat.eq_of_beq_eq_true hk
      subst hk
      split at h
      · rename_i hfit
        split at h
        · rename_i q hq
          cases h
          refine ⟨?_, hU.body _ (.inl rfl)⟩
          obtain ⟨S, hS⟩ := hU.isUnit (x.den ρ) (fits_wrap ρ hfit)
          rw [unitDec_ok hΓ hV hq] at hS
          refine lift_plain2 (ρ' := ρ) (s' := s) (hS ρ s) (fun c hinv vs hv => ?_) rfl (.bool _)
          obtain ⟨v, rfl, hv2⟩ := hv.one
          cases hv2
          exact .cons (VR_int' rfl) .nil
        · cases h
      · cases h
    · cases h
  · rename_i f g
    simp only [bite_eq] at h
    split at h
    · rename_i hk
      have hk := Nat.eq_of_beq_eq_true hk
      subst hk
      split at h
      · rename_i xs ys hxs hys
        split at h
        · rename_i ps a b hps hab
          have hps := numsOf_ints hps
          have hab := numsOf_ints hab
          subst hps
          subst hab
          split at h
          case isFalse => cases h
          rename_i c1
          split at h
          case isFalse => cases h
          rename_i c2
          split at h
          case isFalse => cases h
          rename_i hcf
          split at h
          case isFalse => cases h
          rename_i hcg
          split at h
          case isFalse => cases h
          rename_i hfit
          split at h
          case isFalse => cases h
          rename_i hlen
          rw [Nat.ble_eq] at hlen
          rw [ieq_eq] at c1 c2
          obtain rfl := eq_of_beq c1
          obtain rfl := eq_of_beq c2
          cases ps with
          | nil => cases h
          | cons p rest =>
            simp only at h
            have key : ∀ q : Bool, decide (validP 600 ((p :: rest).map (Sy.den ρ)) ∧ unit (p.den ρ)) = q → Good P ⟨Sy.den ρ, s⟩ B U.begins [f, g] sto (.bool q) sto := by
              intro q hq
              obtain ⟨S, hS⟩ := hU.begins (p.den ρ) (rest.map (Sy.den ρ)) (by simpa using hlen) (fun y hy => fitsL_wrap ρ hfit y (by simpa using hy))
              have hq' : decide (validP 600 (p.den ρ :: rest.map (Sy.den ρ)) ∧ unit (p.den ρ)) = q := hq
              rw [hq'] at hS
              refine lift_plain2 (ρ' := ρ) (s' := s) (hS ρ s) (fun c hinv vs hv => ?_) rfl (.bool _)
              obtain ⟨v, u, rfl, hv1, hv2⟩ := hv.two
              have e1 := (elems_data (ρ' := ρ) hinv hv1 hxs hcf).2 (by simp) (by omega)
              have e2 := (elems_data (ρ' := ρ) hinv hv2 hys hcg).2 (by simp) (by simp)
              exact .cons e1 (.cons e2 .nil)
            split at h
            · rename_i hvd
              cases h
              refine ⟨key false ?_, hU.body _ (.inr rfl)⟩
              have := of_decide_eq_false (vdec_ok hV (by decide) hvd)
              exact decide_eq_false (fun hh => this hh.1)
            · rename_i hvd
              split at h
              · rename_i q hq
                cases h
                refine ⟨key q ?_, hU.body _ (.inr rfl)⟩
                have h1 := of_decide_eq_true (vdec_ok hV (by decide) hvd)
                rw [← unitDec_ok hΓ hV hq]
                have h1' : validP 600 (p.den ρ :: rest.map (Sy.den ρ)) := h1
                simp [h1']
              · cases h
            · cases h
        · cases h
      · cases h
    · cases h
  · cases h

/-! ## By runs -/
theorem unit_of_runs {P : Program} (hG : NoCount P) (hm : P.follows .mixedOrders = true) {N : Nat} {k : FuncId} (h1 : isB true (symRun P noK [] N k [.int .i64 (.c 1)] ⟨0, [], 0⟩) = true) (h2 : isB true (symRun P noK [] N k [.int .i64 (.c (-1))] ⟨0, [], 0⟩) = true)
    (h3 : isB false (symRun P noK [⟨false, vx 0, .c 1, false⟩, ⟨false, vx 0, .c (-1), false⟩] N k [.int .i64 (vx 0)] ⟨0, [], 0⟩) = true) (z : Int) (hw : IntKind.i64.wrap z = z) :
    ∃ (S : Sto Sy), ∀ (ρ : Nat → Int) (s : Sms) (B : Nat), Good P ⟨Sy.den ρ, s⟩ B k [.int .i64 (.c z)] ⟨0, [], 0⟩ (.bool (decide (unit z))) S := by
  by_cases e1 : z = 1
  · subst e1
    obtain ⟨S, hS⟩ := isB_iff h1
    exact ⟨S, fun ρ s B => run_good hG hm ρ hS B⟩
  · by_cases e2 : z = -1
    · subst e2
      obtain ⟨S, hS⟩ := isB_iff h2
      exact ⟨S, fun ρ s B => run_good hG hm ρ hS B⟩
    · obtain ⟨S, hS⟩ := isB_iff h3
      refine ⟨⟨0, [], 0⟩, fun ρ s B => ?_⟩
      have hv : (vx 0).den (fun _ => z) = z := vx_den _ 0 (by decide) hw
      rw [decide_eq_false (show ¬ unit z from fun h => by rcases h with h | h <;> contradiction)]
      refine lift_plain2 (ρ' := fun _ => z) (s' := s) (R := .bool false) (S := S) (pat := [.int .i64 (vx 0)]) (fun B' => (symRun_ok (ρ := fun _ => z) (s := s) (B := B') hG hm (fun f hf => ?_) noK_ok N k _ _ _ _ hS).1) (fun c hinv vs hv2 => ?_) rfl (.bool _)
      · simp only [List.mem_cons, List.not_mem_nil, or_false] at hf
        rcases hf with rfl | rfl
        · exact Fact.eq_no (by rw [hv]; exact e1)
        · exact Fact.eq_no (by rw [hv]; exact e2)
      · obtain ⟨v, rfl, hv3⟩ := hv2.one
        cases hv3
        exact .cons (VR_int' hv) .nil

noncomputable def beginsRuns (P : Program) (D : Ids) (N : Nat) (k : FuncId) (n : Nat) : Bool :=
  bite (isB true (symRun P (bigK D [⟨600, (vxs n).set 0 (.c 1), true⟩] []) [] N k [.slice (ints ((vxs n).set 0 (.c 1))), .slice (ints (nums [1, -1]))] ⟨0, [], 0⟩))
    (bite (isB true (symRun P (bigK D [⟨600, (vxs n).set 0 (.c (-1)), true⟩] []) [] N k [.slice (ints ((vxs n).set 0 (.c (-1)))), .slice (ints (nums [1, -1]))] ⟨0, [], 0⟩))
      (bite (isB false (symRun P (bigK D [⟨600, vxs n, true⟩] []) [⟨false, vx 0, .c 1, false⟩, ⟨false, vx 0, .c (-1), false⟩] N k [.slice (ints (vxs n)), .slice (ints (nums [1, -1]))] ⟨0, [], 0⟩))
        (isB false (symRun P (bigK D [⟨600, vxs n, false⟩] []) [] N k [.slice (ints (vxs n)), .slice (ints (nums [1, -1]))] ⟨0, [], 0⟩)) false) false) false

def noL : Nat → List Int := fun _ => [0]
theorem wrap0 : IntKind.i64.wrap 0 = 0 := by decide

theorem begins_of_runs {P : Program} (hG : NoCount P) (hm : P.follows .mixedOrders = true) {D : Ids} (hD : D.Ok P) {N : Nat} {k : FuncId} (h : allTo (fun i => beginsRuns P D N k (i + 1)) 6 = true) (z : Int) (zs : List Int) (hl : (z :: zs).length ≤ 6)
    (hw : ∀ y, y ∈ z :: zs → IntKind.i64.wrap y = y) :
    ∃ (S : Sto Sy), ∀ (ρ : Nat → Int) (s : Sms) (B : Nat), Good P ⟨Sy.den ρ, s⟩ B k [.slice (ints (nums (z :: zs))), .slice (ints (nums [1, -1]))] ⟨0, [], 0⟩ (.bool (decide (validP 600 (z :: zs) ∧ unit z))) S := by
  refine ⟨⟨0, [], 0⟩, fun ρ s B => ?_⟩
  have h0 := allTo_ok h zs.length (by simp at hl; omega)
  rw [show zs.length + 1 = (z :: zs).length by simp] at h0
  have hvx := vxs_den (zs := z :: zs) (by omega) hw
  generalize hρ : (fun i => (z :: zs).getD i 0) = ρ' at hvx
  let s' : Sms := ⟨fun _ _ => ByteArray.empty, noL⟩
  have go : ∀ {Vt : List VEnt} {Γ : List Fact} {xs : List Sy} {q : Bool}, (∀ e, e ∈ Vt → e.Ok ρ') → (∀ f, f ∈ Γ → f.Ok ρ') → xs.map (Sy.den ρ') = z :: zs →
      isB q (symRun P (bigK D Vt []) Γ N k [.slice (ints xs), .slice (ints (nums [1, -1]))] ⟨0, [], 0⟩) = true → Good P ⟨Sy.den ρ, s⟩ B k [.slice (ints (nums (z :: zs))), .slice (ints (nums [1, -1]))] ⟨0, [], 0⟩ (.bool q) ⟨0, [], 0⟩ := by
    intro Vt Γ xs q hV hΓ hx hr
    obtain ⟨S, hS⟩ := isB_iff hr
    refine lift_plain2 (ρ' := ρ') (s' := s') (R := .bool q) (S := S) (pat := [.slice (ints xs), .slice (ints (nums [1, -1]))])
      (fun B' => (symRun_ok (ρ := ρ') (s := s') (B := B') hG hm hΓ (bigK_ok hG hm hD hV (by simp) (fun j => by simp [s', noL]) (fun j y hy => by simp [s', noL] at hy; subst hy; exact wrap0)) N k _ _ _ _ hS).1) (fun c hinv vs hv => ?_) rfl (.bool _)
    obtain ⟨v, u, rfl, hv1, hv2⟩ := hv.two
    exact .cons (nums_to (c := c) rfl hinv.base hx hv1) (.cons (nums_to (c := c) (zs := [1, -1]) rfl hinv.base (by simp [nums, Sy.den]) hv2) .nil)
  have hv0 : (vx 0).den ρ' = z := by
    have := congrArg (fun q => q[0]?) hvx
    simpa [vxs] using this
  have hx0 : ((vxs (z :: zs).length).getD 0 (.c 0)).den ρ' = z := by
    have : (vxs (z :: zs).length).getD 0 (.c 0) = vx 0 := by simp [vxs, List.getD]
    rw [this]; exact hv0
  unfold beginsRuns at h0
  obtain ⟨a1, h0⟩ : _ = true ∧ _ = true := by
    rw [bite_eq] at h0
    split at h0
    · rename_i h1; exact ⟨h1, h0⟩
    · cases h0
  obtain ⟨a2, h0⟩ : _ = true ∧ _ = true := by
    rw [bite_eq] at h0
    split at h0
    · rename_i h1; exact ⟨h1, h0⟩
    · cases h0
  obtain ⟨a3, a4⟩ : _ = true ∧ _ = true := by
    rw [bite_eq] at h0
    split at h0
    · rename_i h1; exact ⟨h1, h0⟩
    · cases h0
  by_cases hval : validP 600 (z :: zs)
  · by_cases e1 : z = 1
    · rw [decide_eq_true (show validP 600 (z :: zs) ∧ unit z from ⟨hval, .inl e1⟩)]
      have hx := map_set_den hvx (i := 0) (c := 1) (by rw [hx0]; exact e1)
      refine go (fun e he => ?_) (by simp) hx a1
      simp only [List.mem_cons, List.not_mem_nil, or_false] at he
      subst he
      unfold VEnt.Ok
      simp only [hx]
      exact decide_eq_true hval
    · by_cases e2 : z = -1
      · rw [decide_eq_true (show validP 600 (z :: zs) ∧ unit z from ⟨hval, .inr e2⟩)]
        have hx := map_set_den hvx (i := 0) (c := -1) (by rw [hx0]; exact e2)
        refine go (fun e he => ?_) (by simp) hx a2
        simp only [List.mem_cons, List.not_mem_nil, or_false] at he
        subst he
        unfold VEnt.Ok
        simp only [hx]
        exact decide_eq_true hval
      · rw [decide_eq_false (show ¬ (validP 600 (z :: zs) ∧ unit z) from fun h => by rcases h.2 with h | h <;> contradiction)]
        refine go (fun e he => ?_) (fun f hf => ?_) hvx a3
        · simp only [List.mem_cons, List.not_mem_nil, or_false] at he
          subst he
          unfold VEnt.Ok
          simp only [hvx]
          exact decide_eq_true hval
        · simp only [List.mem_cons, List.not_mem_nil, or_false] at hf
          rcases hf with rfl | rfl
          · exact Fact.eq_no (by rw [hv0]; exact e1)
          · exact Fact.eq_no (by rw [hv0]; exact e2)
  · rw [decide_eq_false (show ¬ (validP 600 (z :: zs) ∧ unit z) from fun h => hval h.1)]
    refine go (fun e he => ?_) (by simp) hvx a4
    simp only [List.mem_cons, List.not_mem_nil, or_false] at he
    subst he
    unfold VEnt.Ok
    simp only [hvx]
    exact decide_eq_false hval
end Go.Sx

/-
  Laws over lists: every list is empty, too long, valid, or none of these.
-/
namespace Go.Sx
open Go.RowKit

/-- A list of numbers, under whatever reading. -/
def IsList (w : World) (zs : List Int) (v : Value) : Prop := (∀ z, z ∈ zs → IntKind.i64.wrap z = z) ∧ ∀ (ρ : Nat → Int) (s : Sms), VR ⟨Sy.den ρ, s⟩ w.heap.size ⟨w, fun _ => none⟩ (.slice (ints (nums zs))) v

theorem IsList.known {w : World} {zs : List Int} {v : Value} (h : IsList w zs v) {ρ : Nat → Int} {s : Sms} {xs : List Sy} (hx : xs.map (Sy.den ρ) = zs) : VR ⟨Sy.den ρ, s⟩ w.heap.size ⟨w, fun _ => none⟩ (.slice (ints xs)) v := by
  have := AR.rel (ρ' := ρ) (inv0 ⟨Sy.den ρ, s⟩ w) (.slice (ns := xs) (ts := nums zs) (by rw [hx]; simp [nums, Sy.den, Function.comp_def])) (h.2 ρ s)
  exact this

theorem IsList.big {w : World} {zs : List Int} {v : Value} (h : IsList w zs v) {ρ : Nat → Int} {s : Sms} {j : Nat} {m : Sy} (hj : s.l j = zs) (hm : m.den ρ = (zs.length : Int)) : VR ⟨Sy.den ρ, s⟩ w.heap.size ⟨w, fun _ => none⟩ (.bsl j m) v := by
  have h2 := h.2 ρ s
  generalize hg : ints (nums zs) = xs at h2
  cases h2 with
  | @slice _ b off cap us h1 h2 h3 h4 h5 =>
    subst hg
    have hus := intVs_of (ρ := ρ) (s := s) (B := w.heap.size) (c := ⟨w, fun _ => none⟩) ⟨h1.symm, h5⟩
    subst hus
    have hl : (ints (nums zs)).length = zs.length := by simp
    rw [hl] at h2 ⊢
    have := VR.bsl (Δ := ⟨Sy.den ρ, s⟩) (B := w.heap.size) (c := ⟨w, fun _ => none⟩) (j := j) (b := b) (off := off) (cap := cap) (m := m) (by show m.den ρ = ((s.l j).length : Int); rw [hj]; exact hm) (by show (s.l j).length ≤ cap; rw [hj]; exact h2) h3
      (fun i n hn => by
        have hn' : zs[i]? = some n := by rw [← hj]; exact hn
        exact h4 i _ (by simp [intVs, hn']))
    have e : (s.l j).length = zs.length := by rw [hj]
    rw [show (({ d := Sy.den ρ, s := s } : Den Sy).s.l j).length = zs.length from e] at this
    exact this
  | snil =>
    have : zs = [] := by
      have := congrArg List.length hg
      simp at this
      exact this
    subst this
    exact .bsl0 (by show m.den ρ = 0; rw [hm]; rfl) hj

def LawTrue (P : Program) (k : FuncId) (rargs : Array Value) (w : World) : Prop := Calls P k rargs w fun e w' => e = .returned (.bool true) ∧ Below w.heap.size w w' ∧ ∀ a, w'.frozen? a = w.frozen? a

/-- What a case is: the law's arguments, what is known of their numbers. -/
structure Shape where
  args : List Sy → List (V Sy)
  ents : List Sy → List VEnt

/-- The functions that ask whether a number is 1 or -1, where they are known. -/
noncomputable def uK (U : Option UIds) (Γ : List Fact) (Vt : List VEnt) : Ctr := fun k args sto => match U with
  | some U => unitK U Γ Vt k args sto
  | none => none

noncomputable def runC (P : Program) (D : Ids) (t : List Summ) (Vb : List BEnt) (N : Nat) (k : FuncId) (σ : Shape) (Γ0 : List Fact) : List Sy → List Fact → List VEnt → Bool :=
  fun xs Γ Vt => saysTrue (symRun P (orK (orK (bigK D (Vt ++ σ.ents xs) Vb) (uK D.uids (Γ ++ Γ0) (Vt ++ σ.ents xs))) (summK t)) (Γ ++ Γ0) N k (σ.args xs) ⟨0, [], 0⟩)

section
variable {P : Program} {D : Ids} {t : List Summ} {Vb : List BEnt} {N : Nat} {k : FuncId} {σ : Shape} {Γ0 : List Fact} {ρ : Nat → Int} {s : Sms} {w : World} {rargs : Array Value} {zs : List Int}

theorem runC_ok (hG : NoCount P) (hm : P.follows .mixedOrders = true) (hD : D.Ok P) (ht : ∀ e, e ∈ t → e.Ok P) (hB : ∀ e, e ∈ Vb → e.Ok s) (hs : ∀ j, 1 ≤ (s.l j).length ∧ (s.l j).length ≤ 1048576) (hw : ∀ j z, z ∈ s.l j → IntKind.i64.wrap z = z)
    (h0 : ∀ f, f ∈ Γ0 → f.Ok ρ)
    (hmk : ∀ xs, xs.map (Sy.den ρ) = zs → VRs ⟨Sy.den ρ, s⟩ w.heap.size ⟨w, fun _ => none⟩ (σ.args xs) rargs.toList) (hents : ∀ xs, xs.map (Sy.den ρ) = zs → ∀ e, e ∈ σ.ents xs → e.Ok ρ)
    (xs : List Sy) (Γ : List Fact) (Vt : List VEnt) (h : runC P D t Vb N k σ Γ0 xs Γ Vt = true) (hz : xs.map (Sy.den ρ) = zs) (hΓ : ∀ f, f ∈ Γ → f.Ok ρ) (hV : ∀ e, e ∈ Vt → e.Ok ρ) : LawTrue P k rargs w := by
  have hΓ' : ∀ f, f ∈ Γ ++ Γ0 → f.Ok ρ := fun f hf => by
    rcases List.mem_append.1 hf with hf | hf
    · exact hΓ f hf
    · exact h0 f hf
  have hV' : ∀ e, e ∈ Vt ++ σ.ents xs → e.Ok ρ := fun e he => by
    rcases List.mem_append.1 he with he | he
    · exact hV e he
    · exact hents xs hz e he
  refine calls_true (Δ := ⟨Sy.den ρ, s⟩) (symRun_ok hG hm (Γ := Γ ++ Γ0) hΓ' (orK_ok (orK_ok (bigK_ok hG hm hD hV' hB hs hw) ?_) (summK_ok ht)) N) (hmk xs hz) h
  intro k args sto r sto' h
  unfold uK at h
  split at h
  · rename_i U hU
    exact unitK_ok (hD.uok U hU) hΓ' hV' k args sto r sto' h
  · cases h
end

noncomputable def plusS (x y : Sy) : Sy := (symArith .add .i64 x y).getD (.c 0)
noncomputable def minusS (x y : Sy) : Sy := (symArith .sub .i64 x y).getD (.c 0)

theorem plusS_den (ρ : Nat → Int) (x y : Sy) : (plusS x y).den ρ = IntKind.i64.wrap (x.den ρ + y.den ρ) := by
  unfold plusS
  cases hz : symArith .add .i64 x y with
  | none => cases x <;> cases y <;> simp [symArith, aritOk] at hz
  | some z =>
    have := (symNum_ok (ρ := ρ) (Γ := []) (by simp) ⟨fun _ _ => ByteArray.empty, fun _ => []⟩).arith .add .i64 x y z hz
    have h2 : some (IntKind.i64.wrap (x.den ρ + y.den ρ)) = some (z.den ρ) := this
    exact (Option.some.inj h2).symm
theorem minusS_den (ρ : Nat → Int) (x y : Sy) : (minusS x y).den ρ = IntKind.i64.wrap (x.den ρ - y.den ρ) := by
  unfold minusS
  cases hz : symArith .sub .i64 x y with
  | none => cases x <;> cases y <;> simp [symArith, aritOk] at hz
  | some z =>
    have := (symNum_ok (ρ := ρ) (Γ := []) (by simp) ⟨fun _ _ => ByteArray.empty, fun _ => []⟩).arith .sub .i64 x y z hz
    have h2 : some (IntKind.i64.wrap (x.den ρ - y.den ρ)) = some (z.den ρ) := this
    exact (Option.some.inj h2).symm

noncomputable def allB : List Bool → Bool
  | [] => true
  | b :: r => bite b (allB r) false
theorem allB_ok : ∀ {l : List Bool}, allB l = true → ∀ b, b ∈ l → b = true := by
  intro l
  induction l with
  | nil => intro _ b hb; cases hb
  | cons a r ih =>
    intro h b hb
    simp only [allB, bite_eq] at h
    split at h
    · rename_i h1
      rcases List.mem_cons.1 hb with rfl | hb
      · exact h1
      · exact ih h b hb
    · cases h

/-! ## Lists that are not looked into: 0 none, 1 no valid one, 2 a valid one -/
def stOf (bd : Int) (l : List Int) : Nat := if l = [] then 0 else if validP bd l then 2 else 1

noncomputable def bigL : List Nat → List Sy → Nat → List (V Sy)
  | st :: r, x :: xs, j => bite (Nat.beq st 0) (.slice []) (.bsl j x) :: bigL r xs (j + 1)
  | _, _, _ => []
noncomputable def bentL : List Nat → List Int → Nat → List BEnt
  | st :: r, bd :: bs, j => bite (Nat.beq st 0) (bentL r bs (j + 1)) (⟨bd, j, Nat.beq st 2⟩ :: bentL r bs (j + 1))
  | _, _, _ => []
noncomputable def factL : List Nat → List Sy → List Fact
  | st :: r, x :: xs => bite (Nat.beq st 0) (factL r xs) (⟨true, .c 1048576, x, false⟩ :: ⟨true, x, .c 1, false⟩ :: ⟨false, x, .c 0, false⟩ :: bite (Nat.beq st 2) (⟨true, .c 6, x, false⟩ :: factL r xs) (factL r xs))
  | _, _ => []
noncomputable def sumL : List Nat → List Sy → Sy → Sy
  | st :: r, x :: xs, acc => sumL r xs (bite (Nat.beq st 0) acc (plusS acc x))
  | _, _, acc => acc

def AllL (w : World) : List (List Int) → List Value → Prop
  | [], [] => True
  | l :: r, v :: vs => IsList w l v ∧ AllL w r vs
  | _, _ => False

section
variable {ρ : Nat → Int} {s : Sms} {w : World}

theorem bigL_rel : ∀ {Ls : List (List Int)} {lv : List Value} {sts : List Nat} {xs : List Sy} {j : Nat}, AllL w Ls lv → sts.length = Ls.length → xs.map (Sy.den ρ) = Ls.map (fun l => (l.length : Int)) →
    (∀ (i : Nat) (l : List Int) (st : Nat), Ls[i]? = some l → sts[i]? = some st → (st = 0 → l = []) ∧ (st ≠ 0 → s.l (j + i) = l)) → VRs ⟨Sy.den ρ, s⟩ w.heap.size ⟨w, fun _ => none⟩ (bigL sts xs j) lv := by
  intro Ls
  induction Ls with
  | nil =>
    intro lv sts xs j hL hlen hx _
    cases lv with
    | nil =>
      cases sts with
      | nil => simp only [bigL]; exact .nil
      | cons a b => simp at hlen
    | cons a b => exact hL.elim
  | cons l r ih =>
    intro lv sts xs j hL hlen hx hs
    cases lv with
    | nil => exact hL.elim
    | cons v vs =>
      cases sts with
      | nil => simp at hlen
      | cons st sts =>
        cases xs with
        | nil => simp at hx
        | cons x xs =>
          simp only [List.map_cons, List.cons.injEq] at hx
          simp only [bigL]
          refine .cons ?_ (ih hL.2 (by simpa using hlen) hx.2 (fun i l' st' h1 h2 => ?_))
          · have h0 := hs 0 l st rfl rfl
            rw [bite_eq]
            split
            · rename_i hst
              have := h0.1 (Nat.eq_of_beq_eq_true hst)
              subst this
              exact hL.1.known (xs := []) rfl
            · rename_i hst
              exact hL.1.big (h0.2 (fun e => hst (by rw [e]; rfl))) hx.1
          · have := hs (i + 1) l' st' (by simpa using h1) (by simpa using h2)
            rwa [show j + (i + 1) = j + 1 + i by omega] at this

theorem bentL_ok : ∀ {Ls : List (List Int)} {bds : List Int} {j : Nat}, (∀ (i : Nat) (l : List Int), Ls[i]? = some l → l ≠ [] → s.l (j + i) = l) → ∀ e, e ∈ bentL (List.zipWith stOf bds Ls) bds j → e.Ok s := by
  intro Ls
  induction Ls with
  | nil => intro bds j _ e he; cases bds <;> simp [bentL] at he
  | cons l r ih =>
    intro bds j hs e he
    cases bds with
    | nil => simp [bentL] at he
    | cons bd bs =>
      have hr := ih (bds := bs) (j := j + 1) (fun i l' h1 h2 => by
        have := hs (i + 1) l' (by simpa using h1) h2
        rwa [show j + (i + 1) = j + 1 + i by omega] at this)
      simp only [List.zipWith_cons_cons, bentL, bite_eq] at he
      split at he
      · exact hr e he
      · rename_i hst
        rcases List.mem_cons.1 he with rfl | he
        · have hne : l ≠ [] := fun e => hst (by simp [stOf, e])
          have h1 : s.l j = l := by simpa using hs 0 l rfl hne
          unfold BEnt.Ok
          simp only [h1]
          by_cases hv : validP bd l
          · simp [stOf, hne, hv]
          · simp [stOf, hne, hv]; rfl
        · exact hr e he

theorem factL_ok : ∀ {Ls : List (List Int)} {bds : List Int} {xs : List Sy}, (∀ l, l ∈ Ls → l.length ≤ 1048576) → xs.map (Sy.den ρ) = Ls.map (fun l => (l.length : Int)) → ∀ f, f ∈ factL (List.zipWith stOf bds Ls) xs → f.Ok ρ := by
  intro Ls
  induction Ls with
  | nil => intro bds xs _ _ f hf; cases bds <;> simp [factL] at hf
  | cons l r ih =>
    intro bds xs hl hx f hf
    cases bds with
    | nil => simp [factL] at hf
    | cons bd bs =>
      cases xs with
      | nil => simp at hx
      | cons x xs =>
        simp only [List.map_cons, List.cons.injEq] at hx
        have hr := ih (bds := bs) (fun l' h => hl l' (by simp [h])) hx.2
        have hll := hl l (by simp)
        simp only [List.zipWith_cons_cons, factL, bite_eq] at hf
        split at hf
        · exact hr f hf
        · rename_i hst
          have hne : l ≠ [] := fun e => hst (by simp [stOf, e])
          have hpos : 1 ≤ l.length := by cases l with
            | nil => exact (hne rfl).elim
            | cons a b => simp
          simp only [List.mem_cons] at hf
          rcases hf with rfl | rfl | rfl | hf
          · exact Fact.lt_no (by rw [hx.1]; simp only [Sy.den]; omega)
          · exact Fact.lt_no (by rw [hx.1]; simp only [Sy.den]; omega)
          · exact Fact.eq_no (by rw [hx.1]; simp only [Sy.den]; omega)
          · split at hf
            · rename_i h2
              rcases List.mem_cons.1 hf with rfl | hf
              · have hv : validP bd l := by
                  by_cases hv : validP bd l
                  · exact hv
                  · simp [stOf, hne, hv] at h2
                refine Fact.lt_no ?_
                rw [hx.1]; simp only [Sy.den]
                have := hv.2.2; omega
              · exact hr f hf
            · exact hr f hf

theorem sumL_den : ∀ {Ls : List (List Int)} {bds : List Int} {xs : List Sy} {acc : Sy} {b : Nat}, (∀ l, l ∈ Ls → l.length ≤ 1048576) → xs.map (Sy.den ρ) = Ls.map (fun l => (l.length : Int)) → 0 ≤ acc.den ρ → acc.den ρ ≤ b → b + Ls.length * 1048576 ≤ 1000000000 →
    0 ≤ (sumL (List.zipWith stOf bds Ls) xs acc).den ρ := by
  intro Ls
  induction Ls with
  | nil => intro bds xs acc b _ _ h0 _ _; cases bds <;> simpa [sumL] using h0
  | cons l r ih =>
    intro bds xs acc b hl hx h0 h1 hb
    cases bds with
    | nil => simpa [sumL] using h0
    | cons bd bs =>
      cases xs with
      | nil => simp at hx
      | cons x xs =>
        simp only [List.map_cons, List.cons.injEq] at hx
        have hll := hl l (by simp)
        simp only [List.length_cons] at hb
        simp only [List.zipWith_cons_cons, sumL]
        refine ih (b := b + 1048576) (fun l' h => hl l' (by simp [h])) hx.2 ?_ ?_ (by omega)
        · rw [bite_eq]
          split
          · exact h0
          · rw [plusS_den, hx.1, wrap_in (by omega) (by omega)]; omega
        · rw [bite_eq]
          split
          · omega
          · rw [plusS_den, hx.1, wrap_in (by omega) (by omega)]; omega
end
end Go.Sx

/-
  Laws over some lists and some integers.
-/
namespace Go.Sx
open Go.RowKit

/-! ## Valid lists of one length -/
def segL : Nat → Nat → List Sy → List (V Sy)
  | 0, _, _ => []
  | n + 1, L, xs => .slice (ints (xs.take L)) :: segL n L (xs.drop L)
def dropN : Nat → Nat → List Sy → List Sy
  | 0, _, xs => xs
  | n + 1, L, xs => dropN n L (xs.drop L)
def entL : List Int → Nat → List Sy → List VEnt
  | [], _, _ => []
  | bd :: r, L, xs => ⟨bd, xs.take L, true⟩ :: entL r L (xs.drop L)

section
variable {ρ : Nat → Int} {s : Sms} {w : World}

theorem take_flat {l : List Int} {r : List Int} {xs : List Sy} {L : Nat} (hl : l.length = L) (h : xs.map (Sy.den ρ) = l ++ r) : (xs.take L).map (Sy.den ρ) = l ∧ (xs.drop L).map (Sy.den ρ) = r := by
  rw [List.map_take, List.map_drop, h]
  subst hl
  exact ⟨List.take_left, List.drop_left⟩

theorem segL_rel : ∀ {Ls : List (List Int)} {lv : List Value} {xs : List Sy} {L : Nat} {I : List Int}, AllL w Ls lv → (∀ l, l ∈ Ls → l.length = L) → xs.map (Sy.den ρ) = Ls.flatten ++ I →
    VRs ⟨Sy.den ρ, s⟩ w.heap.size ⟨w, fun _ => none⟩ (segL Ls.length L xs) lv ∧ (dropN Ls.length L xs).map (Sy.den ρ) = I := by
  intro Ls
  induction Ls with
  | nil =>
    intro lv xs L I hL _ hx
    cases lv with
    | nil => exact ⟨.nil, by simpa [dropN] using hx⟩
    | cons a b => exact hL.elim
  | cons l r ih =>
    intro lv xs L I hL hl hx
    cases lv with
    | nil => exact hL.elim
    | cons v vs =>
      rw [List.flatten_cons, List.append_assoc] at hx
      obtain ⟨h1, h2⟩ := take_flat (hl l (by simp)) hx
      obtain ⟨h3, h4⟩ := ih hL.2 (fun l' h => hl l' (by simp [h])) h2
      exact ⟨.cons (hL.1.known h1) h3, h4⟩

theorem entL_ok : ∀ {Ls : List (List Int)} {bds : List Int} {xs : List Sy} {L : Nat} {I : List Int}, bds.length = Ls.length → (∀ st, st ∈ List.zipWith stOf bds Ls → st = 2) → (∀ l, l ∈ Ls → l.length = L) → xs.map (Sy.den ρ) = Ls.flatten ++ I →
    ∀ e, e ∈ entL bds L xs → e.Ok ρ := by
  intro Ls
  induction Ls with
  | nil =>
    intro bds xs L I hb _ _ _ e he
    cases bds with
    | nil => cases he
    | cons a b => simp at hb
  | cons l r ih =>
    intro bds xs L I hb h2 hl hx e he
    cases bds with
    | nil => simp at hb
    | cons bd bs =>
      rw [List.flatten_cons, List.append_assoc] at hx
      obtain ⟨k1, k2⟩ := take_flat (hl l (by simp)) hx
      rcases List.mem_cons.1 he with rfl | he
      · unfold VEnt.Ok
        simp only [k1]
        have := h2 (stOf bd l) (by simp)
        unfold stOf at this
        split at this
        · cases this
        · split at this
          · rename_i hv; exact decide_eq_true hv
          · cases this
      · exact ih (by simpa using hb) (fun st h => h2 st (by simp [h])) (fun l' h => hl l' (by simp [h])) k2 e he
end

/-! ## The law -/
noncomputable def allSts : Nat → (List Nat → Bool) → Bool
  | 0, f => f []
  | n + 1, f => bite (allSts n (fun r => f (0 :: r))) (bite (allSts n (fun r => f (1 :: r))) (allSts n (fun r => f (2 :: r))) false) false
theorem allSts_ok : ∀ {n : Nat} {f : List Nat → Bool}, allSts n f = true → ∀ l : List Nat, l.length = n → (∀ x, x ∈ l → x ≤ 2) → f l = true := by
  intro n
  induction n with
  | zero => intro f h l hl _; rw [List.eq_nil_of_length_eq_zero hl]; exact h
  | succ n ih =>
    intro f h l hl hx
    cases l with
    | nil => simp at hl
    | cons a r =>
      simp only [allSts, bite_eq] at h
      split at h
      · rename_i h0
        split at h
        · rename_i h1
          have hr : r.length = n := by simpa using hl
          have hr2 : ∀ x, x ∈ r → x ≤ 2 := fun x hx' => hx x (by simp [hx'])
          have ha := hx a (by simp)
          rcases (by omega : a = 0 ∨ a = 1 ∨ a = 2) with rfl | rfl | rfl
          · exact ih h0 r hr hr2
          · exact ih h1 r hr hr2
          · exact ih h r hr hr2
        · cases h
      · cases h

/-- Are all lengths told to be equal? -/
noncomputable def eqAll (Γ : List Fact) : Sy → List Sy → Bool
  | _, [] => true
  | x, y :: r => bite (x.same y) (eqAll Γ x r) (match findF false x y Γ with
    | some true => eqAll Γ x r
    | _ => false)
theorem eqAll_ok {ρ : Nat → Int} {Γ : List Fact} (hΓ : ∀ f, f ∈ Γ → f.Ok ρ) {x : Sy} : ∀ {l : List Sy}, eqAll Γ x l = true → ∀ y, y ∈ l → x.den ρ = y.den ρ := by
  intro l
  induction l with
  | nil => intro _ y hy; cases hy
  | cons a r ih =>
    intro h y hy
    simp only [eqAll, bite_eq] at h
    split at h
    · rename_i h1
      rcases List.mem_cons.1 hy with rfl | hy
      · rw [Sy.same_eq h1]
      · exact ih h y hy
    · split at h
      · rename_i hf
        rcases List.mem_cons.1 hy with rfl | hy
        · have := findF_ok hΓ hf
          exact eq_of_beq this
        · exact ih h y hy
      · cases h
noncomputable def all2 : List Nat → Bool
  | [] => true
  | st :: r => bite (Nat.beq st 2) (all2 r) false
theorem all2_ok : ∀ {l : List Nat}, all2 l = true → ∀ st, st ∈ l → st = 2 := by
  intro l
  induction l with
  | nil => intro _ st h; cases h
  | cons a r ih =>
    intro h st hst
    simp only [all2, bite_eq] at h
    split at h
    · rename_i h1
      rcases List.mem_cons.1 hst with rfl | hst
      · exact Nat.eq_of_beq_eq_true h1
      · exact ih h st hst
    · cases h

structure Law where
  k : FuncId
  bds : List Int
  m : Nat
  args : List (V Sy) → List (V Sy) → List (V Sy)
  tests : List Sy → List (Sy × Sy)
  treeO : List Nat → Sp
  treeK : Nat → Sp

noncomputable def testF : List (Sy × Sy) → Nat → List Fact
  | _, 0 => []
  | [], _ => []
  | p :: r, i + 1 => ⟨true, p.1, p.2, false⟩ :: testF r i

noncomputable def Law.huge (P : Program) (N : Nat) (l : Law) : Bool :=
  allTo (fun i => match (l.tests (vxs (l.bds.length + l.m)))[i]? with
    | some p => saysTrue (symRun P noK (⟨true, p.1, p.2, true⟩ :: testF (l.tests (vxs (l.bds.length + l.m))) i) N l.k (l.args (bigL (l.bds.map fun _ => 1) (vxs (l.bds.length + l.m)) 0) (ints ((vxs (l.bds.length + l.m)).drop l.bds.length))) ⟨0, [], 0⟩)
    | none => true) (l.tests (vxs (l.bds.length + l.m))).length

noncomputable def Law.shapeO (l : Law) (sts : List Nat) : Shape := ⟨fun xs => l.args (bigL sts (xs.take l.bds.length) 0) (ints (xs.drop l.bds.length)), fun _ => []⟩
def Law.shapeK (l : Law) (L : Nat) : Shape := ⟨fun xs => l.args (segL l.bds.length L xs) (ints (dropN l.bds.length L xs)), fun xs => entL l.bds L xs⟩

noncomputable def Law.factsO (l : Law) (sts : List Nat) : List Fact :=
  ⟨true, sumL sts (vxs (l.bds.length + l.m)) (.c 1), .c 0, false⟩ :: (factL sts (vxs (l.bds.length + l.m)) ++ testF (l.tests (vxs (l.bds.length + l.m))) (l.tests (vxs (l.bds.length + l.m))).length)

noncomputable def Law.runO (P : Program) (D : Ids) (t : List Summ) (N : Nat) (l : Law) (sts : List Nat) (xs : List Sy) (Γ : List Fact) (Vt : List VEnt) : Bool :=
  bite (bite (all2 sts) (eqAll Γ (xs.headD (.c 0)) (xs.take l.bds.length)) false) true (runC P D t (bentL sts l.bds 0) N l.k (l.shapeO sts) (l.factsO sts) xs Γ Vt)

noncomputable def Law.sts (P : Program) (D : Ids) (t : List Summ) (N : Nat) (l : Law) : Bool :=
  allSts l.bds.length (fun sts => chk (l.runO P D t N sts) (l.treeO sts) (vxs (l.bds.length + l.m)) [] [])

noncomputable def Law.known (P : Program) (D : Ids) (t : List Summ) (N : Nat) (l : Law) (L : Nat) : Bool :=
  chk (runC P D t [] N l.k (l.shapeK L) []) (l.treeK L) (vxs (l.bds.length * L + l.m)) [] []

theorem testF_ok {ρ : Nat → Int} : ∀ {ts : List (Sy × Sy)} {i : Nat}, (∀ (j : Nat) (p : Sy × Sy), ts[j]? = some p → j < i → ¬ p.1.den ρ < p.2.den ρ) → ∀ f, f ∈ testF ts i → f.Ok ρ := by
  intro ts
  induction ts with
  | nil => intro i _ f hf; cases i <;> simp [testF] at hf
  | cons p r ih =>
    intro i h f hf
    cases i with
    | zero => simp [testF] at hf
    | succ i =>
      simp only [testF] at hf
      rcases List.mem_cons.1 hf with rfl | hf
      · exact Fact.lt_no (h 0 p rfl (by omega))
      · exact ih (fun j q hj hji => h (j + 1) q (by simpa using hj) (by omega)) f hf

theorem flat_length {L : Nat} : ∀ {Ls : List (List Int)}, (∀ l, l ∈ Ls → l.length = L) → Ls.flatten.length = Ls.length * L := by
  intro Ls
  induction Ls with
  | nil => intro _; simp
  | cons l r ih =>
    intro h
    rw [List.flatten_cons, List.length_append, h l (by simp), ih (fun l' h' => h l' (by simp [h']))]
    simp [Nat.succ_mul]; omega

theorem stOf_le (bd : Int) (l : List Int) : stOf bd l ≤ 2 := by unfold stOf; split <;> (try split) <;> omega

theorem Law.ok {P : Program} (hG : NoCount P) (hm : P.follows .mixedOrders = true) {D : Ids} (hD : D.Ok P) {t : List Summ} (ht : ∀ e, e ∈ t → e.Ok P) {N : Nat} {l : Law}
    (h1 : l.huge P N = true) (h2 : l.sts P D t N = true) (h3 : ∀ L, 1 ≤ L → L ≤ 6 → l.known P D t N L = true) (hn : 1 ≤ l.bds.length ∧ l.bds.length ≤ 5) (hm5 : l.m ≤ 5)
    {w : World} {Ls : List (List Int)} {lv : List Value} {I : List Int} {rargs : Array Value} (hL : AllL w Ls lv) (hlen : Ls.length = l.bds.length) (hwf : ∀ ls, ls ∈ Ls → (∀ z, z ∈ ls → IntKind.i64.wrap z = z) ∧ ls.length ≤ 9223372036854775807)
    (hI : I.length = l.m) (hwI : ∀ z, z ∈ I → IntKind.i64.wrap z = z)
    (hA : ∀ (ρ : Nat → Int) (s : Sms) (ll : List (V Sy)) (xi : List Sy), VRs ⟨Sy.den ρ, s⟩ w.heap.size ⟨w, fun _ => none⟩ ll lv → VRs ⟨Sy.den ρ, s⟩ w.heap.size ⟨w, fun _ => none⟩ (ints xi) (intVs I) → VRs ⟨Sy.den ρ, s⟩ w.heap.size ⟨w, fun _ => none⟩ (l.args ll (ints xi)) rargs.toList)
    (hT : ∀ ρ : Nat → Int, (vxs (l.bds.length + l.m)).map (Sy.den ρ) = Ls.map (fun l => (l.length : Int)) ++ I → (∀ p, p ∈ l.tests (vxs (l.bds.length + l.m)) → ¬ p.1.den ρ < p.2.den ρ) → ∀ ls, ls ∈ Ls → ls.length ≤ 1048576) :
    LawTrue P l.k rargs w := by
  have hintsV : ∀ (ρ : Nat → Int) (s : Sms) (xi : List Sy), xi.map (Sy.den ρ) = I → VRs ⟨Sy.den ρ, s⟩ w.heap.size ⟨w, fun _ => none⟩ (ints xi) (intVs I) := by
    intro ρ s xi hxi
    subst hxi
    refine ⟨by simp [intVs], fun i x v hx hv => ?_⟩
    rw [ints_get] at hx
    rw [intVs, List.map_map, List.getElem?_map] at hv
    cases hz : xi[i]? with
    | none => rw [hz] at hx; simp at hx
    | some z => rw [hz] at hx hv; simp at hx hv; subst hx; subst hv; exact .int _ _
  -- the lengths and the integers as variables
  have hzl : (Ls.map (fun l => (l.length : Int)) ++ I).length = l.bds.length + l.m := by simp [hlen, hI]
  have hzw : ∀ z, z ∈ Ls.map (fun l => (l.length : Int)) ++ I → IntKind.i64.wrap z = z := by
    intro z hz
    rcases List.mem_append.1 hz with hz | hz
    · obtain ⟨ls, hls, rfl⟩ := List.mem_map.1 hz
      exact wrap_in (by omega) (by have := (hwf ls hls).2; omega)
    · exact hwI z hz
  have hvx := vxs_den (zs := Ls.map (fun l => (l.length : Int)) ++ I) (by rw [hzl]; omega) hzw
  rw [hzl] at hvx
  generalize hρ : (fun i => (Ls.map (fun l => (l.length : Int)) ++ I).getD i 0) = ρ at hvx
  have hsplit : ∀ xs : List Sy, xs.map (Sy.den ρ) = Ls.map (fun l => (l.length : Int)) ++ I → (xs.take l.bds.length).map (Sy.den ρ) = Ls.map (fun l => (l.length : Int)) ∧ (xs.drop l.bds.length).map (Sy.den ρ) = I := by
    intro xs hx
    exact take_flat (by simp [hlen]) hx
  by_cases hall : ∀ p, p ∈ l.tests (vxs (l.bds.length + l.m)) → ¬ p.1.den ρ < p.2.den ρ
  · have hsm := hT ρ hvx hall
    by_cases hk : (∀ st, st ∈ List.zipWith stOf l.bds Ls → st = 2) ∧ ∀ ls, ls ∈ Ls → ls.length = (Ls.headD []).length
    · -- valid lists of one length
      obtain ⟨k1, k2⟩ := hk
      have hL0 : 1 ≤ (Ls.headD []).length ∧ (Ls.headD []).length ≤ 6 := by
        cases hLs : Ls with
        | nil => rw [hLs] at hlen; simp at hlen; omega
        | cons a r =>
          cases hb : l.bds with
          | nil => rw [hb] at hn; simp at hn
          | cons bd bs =>
            have := k1 (stOf bd a) (by rw [hLs, hb]; simp)
            unfold stOf at this
            split at this
            · cases this
            · split at this
              · rename_i hv; exact ⟨hv.2.1, hv.2.2⟩
              · cases this
      generalize hLd : (Ls.headD []).length = L at k2 hL0
      have hfl := flat_length k2
      have hkn := h3 L hL0.1 hL0.2
      have hzl2 : (Ls.flatten ++ I).length = l.bds.length * L + l.m := by rw [List.length_append, hfl, hlen, hI]
      have hmul : l.bds.length * L ≤ 5 * 6 := Nat.mul_le_mul hn.2 hL0.2
      have hvx2 := vxs_den (zs := Ls.flatten ++ I) (by rw [hzl2]; omega) (fun z hz => by
        rcases List.mem_append.1 hz with hz | hz
        · obtain ⟨ls, hls, hz⟩ := List.mem_flatten.1 hz
          exact (hwf ls hls).1 z hz
        · exact hwI z hz)
      rw [hzl2] at hvx2
      unfold Law.known at hkn
      refine chk_ok (ρ := fun i => (Ls.flatten ++ I).getD i 0) (zs := Ls.flatten ++ I) (fun xs Γ Vt hr hz hΓ hV => ?_) _ _ _ _ hkn hvx2 (by simp) (by simp)
      refine runC_ok (s := ⟨fun _ _ => ByteArray.empty, noL⟩) hG hm hD ht (by simp) (fun j => by simp [noL]) (fun j z hz => by simp [noL] at hz; subst hz; exact wrap0) (by simp) (fun xs hx => ?_) (fun xs hx => ?_) xs Γ Vt hr hz hΓ hV
      · obtain ⟨g1, g2⟩ := segL_rel (s := ⟨fun _ _ => ByteArray.empty, noL⟩) hL k2 hx
        rw [hlen] at g1 g2
        exact hA _ _ _ _ g1 (hintsV _ _ _ g2)
      · exact entL_ok hlen.symm k1 k2 hx
    · -- lists that are not looked into
      have hst := allSts_ok h2 (List.zipWith stOf l.bds Ls) (by simp [hlen]) (fun x hx => by
        obtain ⟨i, hi, rfl⟩ := List.getElem_of_mem hx
        rw [List.getElem_zipWith]; exact stOf_le _ _)
      have hsl : ∀ (i : Nat) (ls : List Int), Ls[i]? = some ls → ls ≠ [] → (if (Ls.getD i []) = [] then [0] else Ls.getD i []) = ls := by
        intro i ls hi hne
        have : Ls.getD i [] = ls := by simp [List.getD, hi]
        rw [this, if_neg hne]
      let s : Sms := ⟨fun _ _ => ByteArray.empty, fun j => if (Ls.getD j []) = [] then [0] else Ls.getD j []⟩
      have hget : ∀ j, Ls.getD j [] = [] ∨ Ls.getD j [] ∈ Ls := by
        intro j
        rcases Nat.lt_or_ge j Ls.length with h | h
        · right; simp [List.getD, h]
        · left; simp [List.getD, List.getElem?_eq_none h]
      refine chk_ok (ρ := ρ) (zs := Ls.map (fun l => (l.length : Int)) ++ I) (fun xs Γ Vt hr hz hΓ hV => ?_) _ _ _ _ hst hvx (by simp) (by simp)
      unfold Law.runO at hr
      rw [bite_eq] at hr
      split at hr
      · -- all valid, and of one length
        rename_i hd
        rw [bite_eq] at hd
        split at hd
        · rename_i ha
          refine (hk ⟨all2_ok ha, fun ls hls => ?_⟩).elim
          obtain ⟨g1, g2⟩ := hsplit xs hz
          have g3 := eqAll_ok hΓ hd
          have hx0 : (xs.headD (.c 0)).den ρ = ((Ls.headD []).length : Int) := by
            cases hLs : Ls with
            | nil => rw [hLs] at hls; cases hls
            | cons a r =>
              rw [hLs] at hz
              cases xs with
              | nil => simp at hz
              | cons x xr => simp at hz; simp [hz.1]
          obtain ⟨i, hi, rfl⟩ := List.getElem_of_mem hls
          have hi2 : i < (xs.take l.bds.length).length := by
            have := congrArg List.length g1
            simp only [List.length_map] at this
            rw [this]; exact hi
          have g4 := g3 _ (List.getElem_mem hi2)
          have g5 : ((xs.take l.bds.length)[i]).den ρ = (Ls[i].length : Int) := by
            have := congrArg (fun q => q[i]?) g1
            simp only [List.getElem?_map] at this
            rw [List.getElem?_eq_getElem hi2, List.getElem?_eq_getElem hi] at this
            simpa using this
          rw [hx0, g5] at g4
          omega
        · cases hd
      · refine runC_ok (s := s) hG hm hD ht (fun e he => ?_) (fun j => ?_) (fun j z hz => ?_) (fun f hf => ?_) (fun xs hx => ?_) (fun xs hx e he => (by cases he)) xs Γ Vt hr hz hΓ hV
        · exact bentL_ok (s := s) (Ls := Ls) (j := 0) (fun i ls hi hne => by simp only [s, Nat.zero_add]; exact hsl i ls hi hne) e he
        · simp only [s]
          split
          · simp
          · rename_i hne
            rcases hget j with h | h
            · exact (hne h).elim
            · refine ⟨?_, hsm _ h⟩
              cases hg : Ls.getD j [] with
              | nil => exact (hne hg).elim
              | cons a b => simp
        · simp only [s] at hz
          split at hz
          · simp at hz; subst hz; exact wrap0
          · rename_i hne
            rcases hget j with h | h
            · exact (hne h).elim
            · exact (hwf _ h).1 z hz
        · unfold Law.factsO at hf
          obtain ⟨g1, _⟩ := hsplit _ hvx
          have hcut : ∀ {Ls : List (List Int)} {bds : List Int} {xs : List Sy} {n : Nat}, Ls.length ≤ n → sumL (List.zipWith stOf bds Ls) xs (.c 1) = sumL (List.zipWith stOf bds Ls) (xs.take n) (.c 1) ∧ factL (List.zipWith stOf bds Ls) xs = factL (List.zipWith stOf bds Ls) (xs.take n) := by
            intro Ls
            have aux : ∀ {Ls : List (List Int)} {bds : List Int} {xs : List Sy} {n : Nat} {acc : Sy}, Ls.length ≤ n → sumL (List.zipWith stOf bds Ls) xs acc = sumL (List.zipWith stOf bds Ls) (xs.take n) acc ∧ factL (List.zipWith stOf bds Ls) xs = factL (List.zipWith stOf bds Ls) (xs.take n) := by
              intro Ls
              induction Ls with
              | nil => intro bds xs n acc _; cases bds <;> simp [sumL, factL]
              | cons a r ih =>
                intro bds xs n acc hn
                cases bds with
                | nil => simp [sumL, factL]
                | cons bd bs =>
                  cases n with
                  | zero => simp at hn
                  | succ n =>
                    cases xs with
                    | nil => simp [sumL, factL]
                    | cons x xs =>
                      simp only [List.zipWith_cons_cons, List.take_succ_cons, sumL, factL]
                      rw [(ih (n := n) (by simpa using hn)).1, (ih (xs := xs) (n := n) (acc := acc) (by simpa using hn)).2]
                      exact ⟨rfl, rfl⟩
            intro bds xs n hn
            exact aux hn
          obtain ⟨q1, q2⟩ := hcut (Ls := Ls) (bds := l.bds) (xs := vxs (l.bds.length + l.m)) (n := l.bds.length) (by omega)
          rcases List.mem_cons.1 hf with rfl | hf
          · refine Fact.lt_no ?_
            have := sumL_den (ρ := ρ) (bds := l.bds) (acc := .c 1) (b := 1) hsm g1 (by simp [Sy.den]) (by simp [Sy.den]) (by omega)
            rw [q1]; simp only [Sy.den] at this ⊢; omega
          · rcases List.mem_append.1 hf with hf | hf
            · rw [q2] at hf; exact factL_ok hsm g1 f hf
            · exact testF_ok (fun j p hp _ => hall p (List.mem_of_getElem? hp)) f hf
        · obtain ⟨g1, g2⟩ := hsplit xs hx
          refine hA _ _ _ _ (bigL_rel (s := s) hL (by simp [hlen]) g1 (fun i ls st h4 h5 => ?_)) (hintsV _ _ _ g2)
          rw [List.getElem?_zipWith] at h5
          rw [h4] at h5
          cases hb : l.bds[i]? with
          | none => rw [hb] at h5; cases h5
          | some bd =>
            rw [hb] at h5
            simp at h5
            subst h5
            constructor
            · intro h6
              unfold stOf at h6
              split at h6
              · assumption
              · split at h6 <;> cases h6
            · intro h6
              simp only [s, Nat.zero_add]
              exact hsl i ls h4 (fun e => h6 (by simp [stOf, e]))
  · -- too long
    have hex : ∃ (i : Nat) (p : Sy × Sy), (l.tests (vxs (l.bds.length + l.m)))[i]? = some p ∧ p.1.den ρ < p.2.den ρ ∧ ∀ (j : Nat) (q : Sy × Sy), (l.tests (vxs (l.bds.length + l.m)))[j]? = some q → j < i → ¬ q.1.den ρ < q.2.den ρ := by
      generalize l.tests (vxs (l.bds.length + l.m)) = ts at hall
      induction ts with
      | nil => exact (hall (fun p hp => by cases hp)).elim
      | cons a r ih =>
        by_cases ha : a.1.den ρ < a.2.den ρ
        · exact ⟨0, a, rfl, ha, fun j q _ hj => by omega⟩
        · obtain ⟨i, p, k1, k2, k3⟩ := ih (fun h => hall (fun p hp => by
            rcases List.mem_cons.1 hp with rfl | hp
            · exact ha
            · exact h p hp))
          refine ⟨i + 1, p, by simpa using k1, k2, fun j q hj hji => ?_⟩
          cases j with
          | zero => simp at hj; subst hj; exact ha
          | succ j => exact k3 j q (by simpa using hj) (by omega)
    obtain ⟨i, p, k1, k2, k3⟩ := hex
    have hi := allTo_ok h1 i (List.getElem?_eq_some_iff.1 k1).1
    simp only [k1] at hi
    obtain ⟨g1, g2⟩ := hsplit _ hvx
    let s : Sms := ⟨fun _ _ => ByteArray.empty, fun j => Ls.getD j []⟩
    refine calls_true (Δ := ⟨Sy.den ρ, s⟩) (symRun_ok hG hm (fun f hf => ?_) noK_ok N) (hA _ _ _ _ ?_ (hintsV _ _ _ g2)) hi
    · rcases List.mem_cons.1 hf with rfl | hf
      · exact Fact.lt_yes k2
      · exact testF_ok k3 f hf
    · have hb := bigL_rel (ρ := ρ) (s := s) (sts := l.bds.map fun _ => 1) (xs := (vxs (l.bds.length + l.m)).take l.bds.length) (j := 0) hL (by simp [hlen]) g1 (fun i ls st h4 h5 => by
        rw [List.getElem?_map] at h5
        have : st = 1 := by
          cases hb : l.bds[i]? with
          | none => rw [hb] at h5; cases h5
          | some bd => rw [hb] at h5; simp at h5; exact h5.symm
        subst this
        exact ⟨fun h => by omega, fun _ => by simp [s, List.getD, h4]⟩)
      have hcut : ∀ (sts : List Nat) (xs : List Sy) (n j : Nat), sts.length ≤ n → bigL sts xs j = bigL sts (xs.take n) j := by
        intro sts
        induction sts with
        | nil => intro xs n j _; simp [bigL]
        | cons a r ih =>
          intro xs n j hn
          cases n with
          | zero => simp at hn
          | succ n =>
            cases xs with
            | nil => simp [bigL]
            | cons x xs => simp only [List.take_succ_cons, bigL]; rw [ih xs n (j + 1) (by simpa using hn)]
      rw [hcut _ _ l.bds.length _ (by simp)]
      exact hb
end Go.Sx

/-
  Words for laws: trees, tests, lists among a row's arguments.
-/
namespace Go.Sx
open Go.ChangeShapes Go.WideShapes Go.ChangeAt Go.RowKit

/-- The numbers of the list that a run answers. -/
noncomputable def numsRun (P : Program) (t : List Summ) (N : Nat) (k : FuncId) (args : List (V Sy)) : Option (List Sy) :=
  match symRun P (summK t) [] N k args ⟨0, [], 0⟩ with
  | some (x, sto) => match sto.elems x with
    | some xs => numsOf xs
    | none => none
  | none => none

/-- Whether two lengths are equal, wherever both are there. -/
def eqTree (i j : Nat) (y n : Sp) : Sp := .cmp false (fun xs => xs.getD i (.c 0)) (fun xs => xs.getD j (.c 0)) y n

def lenTests (n : Nat) (xs : List Sy) : List (Sy × Sy) := (xs.take n).map fun x => (.c 1048576, x)

theorem lenTests_ok {Ls : List (List Int)} {I : List Int} {n : Nat} {ρ : Nat → Int} {xs : List Sy} (hn : Ls.length = n) (hx : xs.map (Sy.den ρ) = Ls.map (fun l => (l.length : Int)) ++ I)
    (h : ∀ p, p ∈ lenTests n xs → ¬ p.1.den ρ < p.2.den ρ) : ∀ ls, ls ∈ Ls → ls.length ≤ 1048576 := by
  obtain ⟨g1, _⟩ := take_flat (by simpa using hn) hx
  intro ls hls
  obtain ⟨i, hi, rfl⟩ := List.getElem_of_mem hls
  have hi2 : i < (xs.take n).length := by
    have := congrArg List.length g1
    simp only [List.length_map] at this
    rw [this]; exact hi
  have h1 := h _ (List.mem_map_of_mem (List.getElem_mem hi2))
  have g5 : ((xs.take n)[i]).den ρ = (Ls[i].length : Int) := by
    have := congrArg (fun q => q[i]?) g1
    simp only [List.getElem?_map] at this
    rw [List.getElem?_eq_getElem hi2, List.getElem?_eq_getElem hi] at this
    simpa using this
  have h2 : ¬ (1048576 : Int) < ((xs.take n)[i]).den ρ := h1
  rw [g5] at h2
  omega

theorem open_list2 {H : Type} {enc : TypeId × Value → H} {P : Program} {t e : TypeId} {r : Reach} {base b0 : Nat} {W : World} {sp : Nat → Bool} {hd : Bool} {v : Value} {d : DataW H} {p : List MemPlace}
    (ht : P.underlying t = some (.slice e)) (he : P.underlying e = some (.int .i64)) (hc : P.cellsOf e = 1) (hval : Value.okWide P W r base t v) (h : DataW.Trod enc P W b0 sp hd t v d p) :
    ∃ zs : List Int, IsList W zs v ∧ zs.length ≤ 9223372036854775807 := by
  obtain ⟨zs, h1, h2⟩ := open_list ht he hc hval h
  refine ⟨zs, ⟨fun z hz => wrap_of_wf (h1 z hz), h2⟩, ?_⟩
  have h3 := h2 (fun _ => 0) ⟨fun _ _ => ByteArray.empty, fun _ => []⟩
  obtain ⟨a, len, cap, rfl⟩ := okWide_slice ht hval
  generalize hg : ints (nums zs) = xs at h3
  have hm : IntKind.i64.max = 9223372036854775807 := by decide
  cases h3 with
  | slice us k1 k2 k3 k4 k5 =>
    have : xs.length = zs.length := by rw [← hg]; simp
    simp only [Value.okWide, ht, Cell.okWide, Cell.ok] at hval
    obtain ⟨q1, q2, _⟩ := hval
    rw [hm] at q2
    omega
  | snil =>
    have := congrArg List.length hg
    simp at this
    subst this
    simp

theorem trod_lt_block {H : Type} {enc : TypeId × Value → H} {P : Program} {t : TypeId} {b0 : Nat} {W : World} {sp : Nat → Bool} {hd : Bool} {v : Value} {d : DataW H} {p : List MemPlace}
    (h : DataW.Trod enc P W b0 sp hd t v d p) : ∀ x ∈ p, x.block < W.heap.size := by obtain ⟨m, hm⟩ := h; exact DataW.trod_lt m _ _ _ hm
end Go.Sx

/-
  Laws over lists and integers, their cases by a tree: a list is empty, not looked into, no valid one, a valid one, a valid one of a length.
-/
namespace Go.Sx
open Go.RowKit

/-- 0 empty, 1 not looked into, 2 no valid one, 3 a valid one, 3 + L a valid one of L numbers. -/
structure StOk (bd : Int) (st : Nat) (l : List Int) : Prop where
  none : st = 0 → l = []
  some : st ≠ 0 → l ≠ [] ∧ l.length ≤ 1048576
  bad : st = 2 → ¬ validP bd l
  good : 3 ≤ st → validP bd l
  len : 4 ≤ st → l.length + 3 = st

structure StsOk (bds : List Int) (sts : List Nat) (Ls : List (List Int)) : Prop where
  l1 : sts.length = Ls.length
  l2 : bds.length = Ls.length
  ok : ∀ j, j < Ls.length → StOk (bds.getD j 0) (sts.getD j 0) (Ls.getD j [])

theorem getD_set_nat (sts : List Nat) (j i x : Nat) (hj : j < sts.length) : (sts.set j x).getD i 0 = if j = i then x else sts.getD i 0 := by
  simp only [List.getD, List.getElem?_set]
  by_cases h : j = i
  · subst h; simp [hj]
  · simp [h]

theorem StsOk.set {bds : List Int} {sts : List Nat} {Ls : List (List Int)} (h : StsOk bds sts Ls) {j x : Nat} (hx : j < Ls.length → StOk (bds.getD j 0) x (Ls.getD j [])) : StsOk bds (sts.set j x) Ls := by
  refine ⟨by rw [List.length_set]; exact h.l1, h.l2, fun i hi => ?_⟩
  by_cases hj : j < sts.length
  · rw [getD_set_nat _ _ _ _ hj]
    split
    · rename_i e; subst e; exact hx hi
    · exact h.ok i hi
  · rw [List.set_eq_of_length_le (by omega)]; exact h.ok i hi

/-! ## All numbers in a row: each list's length, its first six numbers; the integers -/
def pad6 (l : List Int) : List Int := (l ++ [0, 0, 0, 0, 0, 0]).take 6
theorem pad6_length (l : List Int) : (pad6 l).length = 6 := by simp [pad6]
theorem pad6_take {l : List Int} (h : l.length ≤ 6) : (pad6 l).take l.length = l := by
  rw [pad6, List.take_take, Nat.min_eq_left h]; exact List.take_left
def flat : List (List Int) → List Int → List Int
  | [], I => I
  | l :: r, I => (l.length : Int) :: (pad6 l ++ flat r I)
theorem flat_len : ∀ (Ls : List (List Int)) (I : List Int), (flat Ls I).length = 7 * Ls.length + I.length := by
  intro Ls
  induction Ls with
  | nil => intro I; simp [flat]
  | cons l r ih => intro I; simp [flat, ih, pad6_length]; omega
theorem flat_wf {Ls : List (List Int)} {I : List Int} (h : ∀ l, l ∈ Ls → (∀ z, z ∈ l → IntKind.i64.wrap z = z) ∧ l.length ≤ 9223372036854775807) (hI : ∀ z, z ∈ I → IntKind.i64.wrap z = z) : ∀ z, z ∈ flat Ls I → IntKind.i64.wrap z = z := by
  induction Ls with
  | nil => intro z hz; exact hI z hz
  | cons l r ih =>
    intro z hz
    simp only [flat, List.mem_cons, List.mem_append] at hz
    rcases hz with rfl | hz | hz
    · exact wrap_in (by omega) (by have := (h l (by simp)).2; omega)
    · have := List.mem_of_mem_take hz
      rcases List.mem_append.1 this with h1 | h1
      · exact (h l (by simp)).1 z h1
      · simp at h1; subst h1; exact wrap0
    · exact ih (fun l' hl' => h l' (by simp [hl'])) z hz

def segS (xs : List Sy) (j L : Nat) : List Sy := (xs.drop (7 * j + 1)).take L
def lenS (xs : List Sy) (j : Nat) : Sy := xs.getD (7 * j) (.c 0)

noncomputable def argsL : List Nat → List Sy → Nat → List (V Sy)
  | [], _, _ => []
  | st :: r, xs, j => bite (Nat.beq st 0) (.slice []) (bite (Nat.blt st 4) (.bsl j (xs.headD (.c 0))) (.slice (ints ((xs.drop 1).take (st - 3))))) :: argsL r (xs.drop 7) (j + 1)
def restL : List Nat → List Sy → List Sy
  | [], xs => xs
  | _ :: r, xs => restL r (xs.drop 7)
noncomputable def entsL : List Nat → List Int → List Sy → List VEnt
  | st :: r, bd :: bs, xs => bite (Nat.blt st 4) (entsL r bs (xs.drop 7)) (⟨bd, (xs.drop 1).take (st - 3), true⟩ :: entsL r bs (xs.drop 7))
  | _, _, _ => []
noncomputable def bentsL : List Nat → List Int → Nat → List BEnt
  | st :: r, bd :: bs, j => bite (Nat.beq st 2) (⟨bd, j, false⟩ :: bentsL r bs (j + 1)) (bite (Nat.beq st 3) (⟨bd, j, true⟩ :: bentsL r bs (j + 1)) (bentsL r bs (j + 1)))
  | _, _, _ => []
noncomputable def factsL : List Nat → List Sy → List Fact
  | [], _ => []
  | st :: r, xs => bite (Nat.beq st 0) (factsL r (xs.drop 7)) (bite (Nat.blt st 4) (⟨true, .c 1048576, xs.headD (.c 0), false⟩ :: ⟨true, xs.headD (.c 0), .c 1, false⟩ :: ⟨false, xs.headD (.c 0), .c 0, false⟩ ::
      bite (Nat.beq st 3) (⟨true, .c 6, xs.headD (.c 0), false⟩ :: factsL r (xs.drop 7)) (factsL r (xs.drop 7))) (factsL r (xs.drop 7)))
noncomputable def lensL : List Nat → List Sy → List Sy
  | [], _ => []
  | st :: r, xs => bite (Nat.beq st 0) (.c 0) (bite (Nat.blt st 4) (xs.headD (.c 0)) (.c (st - 3 : Nat))) :: lensL r (xs.drop 7)
noncomputable def sumS : List Nat → List Sy → Sy → Sy
  | [], _, acc => acc
  | st :: r, xs, acc => sumS r (xs.drop 7) (bite (Nat.beq st 0) acc (plusS acc (bite (Nat.blt st 4) (xs.headD (.c 0)) (.c (st - 3 : Nat)))))

section
variable {ρ : Nat → Int} {s : Sms} {w : World}

/-- A list's part of the row. -/
theorem flat_cut {l : List Int} {r : List (List Int)} {I : List Int} {xs : List Sy} (h : xs.map (Sy.den ρ) = flat (l :: r) I) :
    (xs.headD (.c 0)).den ρ = (l.length : Int) ∧ (xs.drop 7).map (Sy.den ρ) = flat r I ∧ (l.length ≤ 6 → ((xs.drop 1).take l.length).map (Sy.den ρ) = l) := by
  cases xs with
  | nil => simp [flat] at h
  | cons x xs =>
    simp only [List.map_cons, flat, List.cons.injEq] at h
    obtain ⟨h1, h2⟩ := h
    refine ⟨h1, ?_, fun hl => ?_⟩
    · have := (take_flat (pad6_length l) h2).2
      simpa using this
    · have h3 := (take_flat (pad6_length l) h2).1
      simp only [List.drop_succ_cons, List.drop_zero]
      have h4 : xs.take l.length = (xs.take 6).take l.length := by rw [List.take_take, Nat.min_eq_left hl]
      rw [h4, List.map_take, h3]
      exact pad6_take hl

theorem getD_cons_zero' {α : Type} (a : α) (r : List α) (d : α) : (a :: r).getD 0 d = a := rfl
theorem getD_cons_succ' {α : Type} (a : α) (r : List α) (j : Nat) (d : α) : (a :: r).getD (j + 1) d = r.getD j d := rfl

theorem StsOk.tail {bd : Int} {bs : List Int} {st : Nat} {sts : List Nat} {l : List Int} {r : List (List Int)} (h : StsOk (bd :: bs) (st :: sts) (l :: r)) : StsOk bs sts r :=
  ⟨by simpa using h.l1, by simpa using h.l2, fun j hj => by have := h.ok (j + 1) (by simpa using hj); simpa [getD_cons_succ'] using this⟩
theorem StsOk.head {bd : Int} {bs : List Int} {st : Nat} {sts : List Nat} {l : List Int} {r : List (List Int)} (h : StsOk (bd :: bs) (st :: sts) (l :: r)) : StOk bd st l := by
  have := h.ok 0 (by simp); simpa [getD_cons_zero'] using this

theorem argsL_rel : ∀ {Ls : List (List Int)} {lv : List Value} {bds : List Int} {sts : List Nat} {xs : List Sy} {j : Nat} {I : List Int}, AllL w Ls lv → StsOk bds sts Ls → xs.map (Sy.den ρ) = flat Ls I →
    (∀ (i : Nat) (l : List Int), Ls[i]? = some l → l ≠ [] → s.l (j + i) = l) → VRs ⟨Sy.den ρ, s⟩ w.heap.size ⟨w, fun _ => none⟩ (argsL sts xs j) lv ∧ (restL sts xs).map (Sy.den ρ) = I := by
  intro Ls
  induction Ls with
  | nil =>
    intro lv bds sts xs j I hL hst hx _
    cases lv with
    | cons a b => exact hL.elim
    | nil =>
      cases sts with
      | nil => exact ⟨.nil, hx⟩
      | cons a b => have := hst.l1; simp at this
  | cons l r ih =>
    intro lv bds sts xs j I hL hst hx hs
    cases lv with
    | nil => exact hL.elim
    | cons v vs =>
      cases sts with
      | nil => have := hst.l1; simp at this
      | cons st sts =>
        cases bds with
        | nil => have := hst.l2; simp at this
        | cons bd bs =>
          obtain ⟨c1, c2, c3⟩ := flat_cut hx
          obtain ⟨g1, g2⟩ := ih (j := j + 1) hL.2 hst.tail c2 (fun i l' h1 h2 => by
            have := hs (i + 1) l' (by simpa using h1) h2
            rwa [show j + (i + 1) = j + 1 + i by omega] at this)
          refine ⟨.cons ?_ g1, g2⟩
          have ho := hst.head
          simp only [bite_eq]
          split
          · rename_i h0
            have := ho.none (Nat.eq_of_beq_eq_true h0)
            subst this
            exact hL.1.known (xs := []) rfl
          · rename_i h0
            have hne := ho.some (fun e => h0 (by rw [e]; rfl))
            split
            · exact hL.1.big (by have := hs 0 l rfl hne.1; simpa using this) c1
            · rename_i h4
              have h4' : 4 ≤ st := by simp [Nat.blt_eq] at h4; omega
              have hlen := ho.len h4'
              have hv := ho.good (by omega)
              rw [show st - 3 = l.length by omega]
              exact hL.1.known (c3 hv.2.2)

theorem entsL_ok : ∀ {Ls : List (List Int)} {bds : List Int} {sts : List Nat} {xs : List Sy} {I : List Int}, StsOk bds sts Ls → xs.map (Sy.den ρ) = flat Ls I → ∀ e, e ∈ entsL sts bds xs → e.Ok ρ := by
  intro Ls
  induction Ls with
  | nil =>
    intro bds sts xs I hst _ e he
    cases sts with
    | nil => simp [entsL] at he
    | cons a b => have := hst.l1; simp at this
  | cons l r ih =>
    intro bds sts xs I hst hx e he
    cases sts with
    | nil => simp [entsL] at he
    | cons st sts =>
      cases bds with
      | nil => simp [entsL] at he
      | cons bd bs =>
        obtain ⟨c1, c2, c3⟩ := flat_cut hx
        have hr := ih hst.tail c2
        simp only [entsL, bite_eq] at he
        split at he
        · exact hr e he
        · rename_i h4
          have h4' : 4 ≤ st := by simp [Nat.blt_eq] at h4; omega
          rcases List.mem_cons.1 he with rfl | he
          · have hlen := hst.head.len h4'
            have hv := hst.head.good (by omega)
            unfold VEnt.Ok
            simp only [show st - 3 = l.length by omega]
            rw [c3 hv.2.2]
            exact decide_eq_true hv
          · exact hr e he

theorem bentsL_ok : ∀ {Ls : List (List Int)} {bds : List Int} {sts : List Nat} {j : Nat}, StsOk bds sts Ls → (∀ (i : Nat) (l : List Int), Ls[i]? = some l → l ≠ [] → s.l (j + i) = l) → ∀ e, e ∈ bentsL sts bds j → e.Ok s := by
  intro Ls
  induction Ls with
  | nil =>
    intro bds sts j hst _ e he
    cases sts with
    | nil => simp [bentsL] at he
    | cons a b => have := hst.l1; simp at this
  | cons l r ih =>
    intro bds sts j hst hs e he
    cases sts with
    | nil => simp [bentsL] at he
    | cons st sts =>
      cases bds with
      | nil => simp [bentsL] at he
      | cons bd bs =>
        have hr := ih (j := j + 1) hst.tail (fun i l' h1 h2 => by
          have := hs (i + 1) l' (by simpa using h1) h2
          rwa [show j + (i + 1) = j + 1 + i by omega] at this)
        have ho := hst.head
        simp only [bentsL, bite_eq] at he
        split at he
        · rename_i h2
          have h2' := Nat.eq_of_beq_eq_true h2
          rcases List.mem_cons.1 he with rfl | he
          · have hne := ho.some (by omega)
            have h1 : s.l j = l := by simpa using hs 0 l rfl hne.1
            unfold BEnt.Ok
            simp only [h1]
            exact decide_eq_false (ho.bad h2')
          · exact hr e he
        · split at he
          · rename_i h3
            have h3' := Nat.eq_of_beq_eq_true h3
            rcases List.mem_cons.1 he with rfl | he
            · have hne := ho.some (by omega)
              have h1 : s.l j = l := by simpa using hs 0 l rfl hne.1
              unfold BEnt.Ok
              simp only [h1]
              exact decide_eq_true (ho.good (by omega))
            · exact hr e he
          · exact hr e he

theorem factsL_ok : ∀ {Ls : List (List Int)} {bds : List Int} {sts : List Nat} {xs : List Sy} {I : List Int}, StsOk bds sts Ls → xs.map (Sy.den ρ) = flat Ls I → ∀ f, f ∈ factsL sts xs → f.Ok ρ := by
  intro Ls
  induction Ls with
  | nil =>
    intro bds sts xs I hst _ f hf
    cases sts with
    | nil => simp [factsL] at hf
    | cons a b => have := hst.l1; simp at this
  | cons l r ih =>
    intro bds sts xs I hst hx f hf
    cases sts with
    | nil => simp [factsL] at hf
    | cons st sts =>
      cases bds with
      | nil => have := hst.l2; simp at this
      | cons bd bs =>
        obtain ⟨c1, c2, c3⟩ := flat_cut hx
        have hr := ih hst.tail c2
        have ho := hst.head
        simp only [factsL, bite_eq] at hf
        split at hf
        · exact hr f hf
        · rename_i h0
          have hne := ho.some (fun e => h0 (by rw [e]; rfl))
          have hpos : 1 ≤ l.length := by cases l with
            | nil => exact (hne.1 rfl).elim
            | cons a b => simp
          split at hf
          · simp only [List.mem_cons] at hf
            rcases hf with rfl | rfl | rfl | hf
            · exact Fact.lt_no (by rw [c1]; simp only [Sy.den]; omega)
            · exact Fact.lt_no (by rw [c1]; simp only [Sy.den]; omega)
            · exact Fact.eq_no (by rw [c1]; simp only [Sy.den]; omega)
            · split at hf
              · rename_i h3
                have h3' := Nat.eq_of_beq_eq_true h3
                rcases List.mem_cons.1 hf with rfl | hf
                · have := (ho.good (by omega)).2.2
                  exact Fact.lt_no (by rw [c1]; simp only [Sy.den]; omega)
                · exact hr f hf
              · exact hr f hf
          · exact hr f hf

theorem lensL_den : ∀ {Ls : List (List Int)} {bds : List Int} {sts : List Nat} {xs : List Sy} {I : List Int}, StsOk bds sts Ls → xs.map (Sy.den ρ) = flat Ls I → (lensL sts xs).map (Sy.den ρ) = Ls.map (fun l => (l.length : Int)) := by
  intro Ls
  induction Ls with
  | nil =>
    intro bds sts xs I hst _
    cases sts with
    | nil => rfl
    | cons a b => have := hst.l1; simp at this
  | cons l r ih =>
    intro bds sts xs I hst hx
    cases sts with
    | nil => have := hst.l1; simp at this
    | cons st sts =>
      cases bds with
      | nil => have := hst.l2; simp at this
      | cons bd bs =>
        obtain ⟨c1, c2, c3⟩ := flat_cut hx
        have ho := hst.head
        simp only [lensL, List.map_cons, ih hst.tail c2, List.cons.injEq, and_true, bite_eq]
        split
        · rename_i h0
          rw [ho.none (Nat.eq_of_beq_eq_true h0)]; rfl
        · split
          · exact c1
          · rename_i h4
            have h4' : 4 ≤ st := by simp [Nat.blt_eq] at h4; omega
            have := ho.len h4'
            simp only [Sy.den]; omega

theorem sumS_den : ∀ {Ls : List (List Int)} {bds : List Int} {sts : List Nat} {xs : List Sy} {I : List Int} {acc : Sy} {b : Nat}, StsOk bds sts Ls → xs.map (Sy.den ρ) = flat Ls I → 0 ≤ acc.den ρ → acc.den ρ ≤ b → b + Ls.length * 1048576 ≤ 1000000000 → 0 ≤ (sumS sts xs acc).den ρ := by
  intro Ls
  induction Ls with
  | nil =>
    intro bds sts xs I acc b hst _ h0 _ _
    cases sts with
    | nil => exact h0
    | cons a b => have := hst.l1; simp at this
  | cons l r ih =>
    intro bds sts xs I acc b hst hx h0 h1 hb
    cases sts with
    | nil => have := hst.l1; simp at this
    | cons st sts =>
      cases bds with
      | nil => have := hst.l2; simp at this
      | cons bd bs =>
        obtain ⟨c1, c2, c3⟩ := flat_cut hx
        have ho := hst.head
        simp only [List.length_cons] at hb
        simp only [sumS]
        have key : 0 ≤ (bite (Nat.beq st 0) acc (plusS acc (bite (Nat.blt st 4) (xs.headD (.c 0)) (.c ((st - 3 : Nat) : Int))))).den ρ ∧ (bite (Nat.beq st 0) acc (plusS acc (bite (Nat.blt st 4) (xs.headD (.c 0)) (.c ((st - 3 : Nat) : Int))))).den ρ ≤ b + 1048576 := by
          rw [bite_eq]
          split
          · omega
          · rename_i hs0
            have hne := ho.some (fun e => hs0 (by rw [e]; rfl))
            have hd : (bite (Nat.blt st 4) (xs.headD (.c 0)) (.c ((st - 3 : Nat) : Int))).den ρ = (l.length : Int) := by
              rw [bite_eq]
              split
              · exact c1
              · rename_i h4
                have h4' : 4 ≤ st := by simp [Nat.blt_eq] at h4; omega
                have := ho.len h4'
                simp only [Sy.den]; omega
            have hll := hne.2
            rw [plusS_den, hd, wrap_in (by omega) (by omega)]; omega
        exact ih (b := b + 1048576) hst.tail c2 key.1 (by have := key.2; omega) (by omega)
end

/-! ## The tree -/
inductive LSp where
  | leaf (t : Sp)
  | splitW (j : Nat) (i w : LSp)
  | splitV (j : Nat) (i : LSp) (v : Nat → LSp)
  | refine (j : Nat) (v : Nat → LSp)
  | same (i j : Nat) (v : Nat → LSp) (n : LSp)
  | sub (i : Nat) (c : Int) (y n : LSp)
  | cmp (lt : Bool) (a b : List Sy → Sy) (y n : LSp)
  | val (bd : Int) (f : List Sy → Option (List Sy)) (y n : LSp)

noncomputable def chkL (run : List Nat → List Sy → List Fact → List VEnt → Sp → Bool) : LSp → List Nat → List Sy → List Fact → List VEnt → Bool
  | .leaf t, sts, xs, Γ, Vt => run sts xs Γ Vt t
  | .splitW j i w, sts, xs, Γ, Vt => bite (Nat.beq (sts.getD j 0) 1) (bite (chkL run i (sts.set j 2) xs Γ Vt) (chkL run w (sts.set j 3) xs Γ Vt) false) false
  | .splitV j i v, sts, xs, Γ, Vt => bite (Nat.beq (sts.getD j 0) 1) (bite (chkL run i (sts.set j 2) xs Γ Vt) (allTo (fun L => chkL run (v (L + 1)) (sts.set j (L + 4)) xs Γ Vt) 6) false) false
  | .refine j v, sts, xs, Γ, Vt => bite (Nat.beq (sts.getD j 0) 3) (allTo (fun L => chkL run (v (L + 1)) (sts.set j (L + 4)) xs Γ Vt) 6) false
  | .same i j v n, sts, xs, Γ, Vt => bite (Nat.beq (sts.getD i 0) 3) (bite (Nat.beq (sts.getD j 0) 3) (bite (allTo (fun L => chkL run (v (L + 1)) ((sts.set i (L + 4)).set j (L + 4)) xs Γ Vt) 6)
      (chkL run n sts xs (⟨false, lenS xs i, lenS xs j, false⟩ :: Γ) Vt) false) false) false
  | .sub i c y n, sts, xs, Γ, Vt => bite (chkL run y sts (xs.set i (.c c)) Γ Vt) (chkL run n sts xs (⟨false, xs.getD i (.c 0), .c c, false⟩ :: Γ) Vt) false
  | .cmp lt a b y n, sts, xs, Γ, Vt => bite (chkL run y sts xs (⟨lt, a xs, b xs, true⟩ :: Γ) Vt) (chkL run n sts xs (⟨lt, a xs, b xs, false⟩ :: Γ) Vt) false
  | .val bd f y n, sts, xs, Γ, Vt => match f xs with
    | some ps => bite (chkL run y sts xs Γ (⟨bd, ps, true⟩ :: Vt)) (chkL run n sts xs Γ (⟨bd, ps, false⟩ :: Vt)) false
    | none => false

theorem chkL_ok {ρ : Nat → Int} {bds : List Int} {Ls : List (List Int)} {I : List Int} {G : Prop} {run : List Nat → List Sy → List Fact → List VEnt → Sp → Bool}
    (hrun : ∀ sts xs Γ Vt t, run sts xs Γ Vt t = true → StsOk bds sts Ls → xs.map (Sy.den ρ) = flat Ls I → (∀ f, f ∈ Γ → f.Ok ρ) → (∀ e, e ∈ Vt → e.Ok ρ) → G) :
    ∀ (t : LSp) (sts : List Nat) (xs : List Sy) (Γ : List Fact) (Vt : List VEnt), chkL run t sts xs Γ Vt = true → StsOk bds sts Ls → xs.map (Sy.den ρ) = flat Ls I → (∀ f, f ∈ Γ → f.Ok ρ) → (∀ e, e ∈ Vt → e.Ok ρ) → G := by
  intro t
  have lenden : ∀ {Ls : List (List Int)} {xs : List Sy}, xs.map (Sy.den ρ) = flat Ls I → ∀ j, j < Ls.length → (lenS xs j).den ρ = ((Ls.getD j []).length : Int) := by
    intro Ls
    induction Ls with
    | nil => intro xs _ j hj; simp at hj
    | cons l r ih =>
      intro xs hx j hj
      obtain ⟨c1, c2, _⟩ := flat_cut hx
      cases j with
      | zero =>
        have : lenS xs 0 = xs.headD (.c 0) := by unfold lenS; cases xs <;> rfl
        rw [this]; exact c1
      | succ j =>
        have := ih c2 j (by simpa using hj)
        rw [getD_cons_succ']
        rw [← this]
        unfold lenS
        simp only [List.getD, List.getElem?_drop]
        rw [show 7 * (j + 1) = 7 + 7 * j by omega]
  have hj1 : ∀ {sts : List Nat} {j k : Nat}, StsOk bds sts Ls → Nat.beq (sts.getD j 0) (k + 1) = true → j < Ls.length := by
    intro sts j k hst h
    rcases Nat.lt_or_ge j Ls.length with h1 | h1
    · exact h1
    · have : sts.getD j 0 = 0 := by simp [List.getD, List.getElem?_eq_none (show sts.length ≤ j by rw [hst.l1]; exact h1)]
      rw [this] at h
      have := Nat.eq_of_beq_eq_true h
      omega
  have atLen : ∀ {bd : Int} {l : List Int}, validP bd l → ∃ L, L < 6 ∧ l.length = L + 1 := fun {bd l} h => ⟨l.length - 1, by have := h.2.2; have := h.2.1; omega, by have := h.2.1; omega⟩
  have mkV : ∀ {bd : Int} {l : List Int} {L : Nat}, validP bd l → l ≠ [] ∧ l.length ≤ 1048576 → l.length = L + 1 → StOk bd (L + 4) l := fun h1 h2 h3 => ⟨fun h => by omega, fun _ => h2, fun h => by omega, fun _ => h1, fun _ => by omega⟩
  induction t with
  | leaf t => intro sts xs Γ Vt h hst hx hΓ hV; exact hrun sts xs Γ Vt t h hst hx hΓ hV
  | splitW j i w ihi ihw =>
    intro sts xs Γ Vt h hst hx hΓ hV
    simp only [chkL, bite_eq] at h
    split at h
    · rename_i h1
      split at h
      · rename_i h2
        have hj := hj1 (k := 0) hst h1
        have ho := hst.ok j hj
        rw [Nat.eq_of_beq_eq_true h1] at ho
        by_cases hv : validP (bds.getD j 0) (Ls.getD j [])
        · exact ihw _ _ _ _ h (hst.set (fun _ => ⟨fun h => by omega, fun _ => ho.some (by omega), fun h => by omega, fun _ => hv, fun h => by omega⟩)) hx hΓ hV
        · exact ihi _ _ _ _ h2 (hst.set (fun _ => ⟨fun h => by omega, fun _ => ho.some (by omega), fun _ => hv, fun h => by omega, fun h => by omega⟩)) hx hΓ hV
      · cases h
    · cases h
  | splitV j i v ihi ihv =>
    intro sts xs Γ Vt h hst hx hΓ hV
    simp only [chkL, bite_eq] at h
    split at h
    · rename_i h1
      split at h
      · rename_i h2
        have hj := hj1 (k := 0) hst h1
        have ho := hst.ok j hj
        rw [Nat.eq_of_beq_eq_true h1] at ho
        by_cases hv : validP (bds.getD j 0) (Ls.getD j [])
        · obtain ⟨L, hL, hlen⟩ := atLen hv
          exact ihv _ _ _ _ _ (allTo_ok h L hL) (hst.set (fun _ => mkV hv (ho.some (by omega)) hlen)) hx hΓ hV
        · exact ihi _ _ _ _ h2 (hst.set (fun _ => ⟨fun h => by omega, fun _ => ho.some (by omega), fun _ => hv, fun h => by omega, fun h => by omega⟩)) hx hΓ hV
      · cases h
    · cases h
  | refine j v ihv =>
    intro sts xs Γ Vt h hst hx hΓ hV
    simp only [chkL, bite_eq] at h
    split at h
    · rename_i h1
      have hj := hj1 (k := 2) hst h1
      have ho := hst.ok j hj
      rw [Nat.eq_of_beq_eq_true h1] at ho
      have hv := ho.good (by omega)
      obtain ⟨L, hL, hlen⟩ := atLen hv
      exact ihv _ _ _ _ _ (allTo_ok h L hL) (hst.set (fun _ => mkV hv (ho.some (by omega)) hlen)) hx hΓ hV
    · cases h
  | same i j v n ihv ihn =>
    intro sts xs Γ Vt h hst hx hΓ hV
    simp only [chkL, bite_eq] at h
    split at h
    · rename_i h1
      split at h
      · rename_i h2
        split at h
        · rename_i h3
          have hi := hj1 (k := 2) hst h1
          have hj := hj1 (k := 2) hst h2
          have hoi := hst.ok i hi
          have hoj := hst.ok j hj
          rw [Nat.eq_of_beq_eq_true h1] at hoi
          rw [Nat.eq_of_beq_eq_true h2] at hoj
          have hvi := hoi.good (by omega)
          have hvj := hoj.good (by omega)
          by_cases he : (Ls.getD i []).length = (Ls.getD j []).length
          · obtain ⟨L, hL, hlen⟩ := atLen hvi
            exact ihv _ _ _ _ _ (allTo_ok h3 L hL) ((hst.set (fun _ => mkV hvi (hoi.some (by omega)) hlen)).set (fun _ => mkV hvj (hoj.some (by omega)) (by omega))) hx hΓ hV
          · refine ihn _ _ _ _ h hst hx (fun f hf => ?_) hV
            rcases List.mem_cons.1 hf with rfl | hf
            · refine Fact.eq_no ?_
              rw [lenden hx i hi, lenden hx j hj]
              omega
            · exact hΓ f hf
        · cases h
      · cases h
    · cases h
  | sub i c y n ihy ihn =>
    intro sts xs Γ Vt h hst hx hΓ hV
    simp only [chkL, bite_eq] at h
    split at h
    · rename_i h1
      by_cases hc : (xs.getD i (.c 0)).den ρ = c
      · exact ihy _ _ _ _ h1 hst (map_set_den hx hc) hΓ hV
      · exact ihn _ _ _ _ h hst hx (List.forall_mem_cons.2 ⟨Fact.eq_no hc, hΓ⟩) hV
    · cases h
  | cmp lt a b y n ihy ihn =>
    intro sts xs Γ Vt h hst hx hΓ hV
    simp only [chkL, bite_eq] at h
    split at h
    · rename_i h1
      cases lt with
      | true =>
        by_cases hc : (a xs).den ρ < (b xs).den ρ
        · exact ihy _ _ _ _ h1 hst hx (List.forall_mem_cons.2 ⟨Fact.lt_yes hc, hΓ⟩) hV
        · exact ihn _ _ _ _ h hst hx (List.forall_mem_cons.2 ⟨Fact.lt_no hc, hΓ⟩) hV
      | false =>
        by_cases hc : (a xs).den ρ = (b xs).den ρ
        · exact ihy _ _ _ _ h1 hst hx (List.forall_mem_cons.2 ⟨Fact.eq_yes hc, hΓ⟩) hV
        · exact ihn _ _ _ _ h hst hx (List.forall_mem_cons.2 ⟨Fact.eq_no hc, hΓ⟩) hV
    · cases h
  | val bd f y n ihy ihn =>
    intro sts xs Γ Vt h hst hx hΓ hV
    simp only [chkL] at h
    split at h
    · rename_i ps hps
      rw [bite_eq] at h
      split at h
      · rename_i h1
        by_cases hc : validP bd (ps.map (Sy.den ρ))
        · exact ihy _ _ _ _ h1 hst hx hΓ (List.forall_mem_cons.2 ⟨decide_eq_true hc, hV⟩)
        · exact ihn _ _ _ _ h hst hx hΓ (List.forall_mem_cons.2 ⟨decide_eq_false hc, hV⟩)
      · cases h
    · cases h

/-! ## The law -/
structure LawU where
  k : FuncId
  bds : List Int
  m : Nat
  args : List (V Sy) → List (V Sy) → List (V Sy)
  tests : List Sy → List (Sy × Sy)
  tree : List Nat → LSp

noncomputable def LawU.xs (l : LawU) : List Sy := vxs (7 * l.bds.length + l.m)
noncomputable def LawU.testsAt (l : LawU) (sts : List Nat) : List (Sy × Sy) := l.tests (lensL sts l.xs)

noncomputable def LawU.huge (P : Program) (N : Nat) (l : LawU) : Bool :=
  allTo (fun i => match (l.testsAt (l.bds.map fun _ => 1))[i]? with
    | some p => saysTrue (symRun P noK (⟨true, p.1, p.2, true⟩ :: testF (l.testsAt (l.bds.map fun _ => 1)) i) N l.k (l.args (argsL (l.bds.map fun _ => 1) l.xs 0) (ints (restL (l.bds.map fun _ => 1) l.xs))) ⟨0, [], 0⟩)
    | none => true) (l.testsAt (l.bds.map fun _ => 1)).length

noncomputable def LawU.shape (l : LawU) (sts : List Nat) : Shape := ⟨fun xs => l.args (argsL sts xs 0) (ints (restL sts xs)), fun xs => entsL sts l.bds xs⟩
noncomputable def LawU.facts (l : LawU) (sts : List Nat) : List Fact :=
  ⟨true, sumS sts l.xs (.c 1), .c 0, false⟩ :: (factsL sts l.xs ++ testF (l.testsAt sts) (l.testsAt sts).length)
noncomputable def LawU.run (P : Program) (D : Ids) (t : List Summ) (N : Nat) (l : LawU) (sts : List Nat) (xs : List Sy) (Γ : List Fact) (Vt : List VEnt) (sp : Sp) : Bool :=
  chk (runC P D t (bentsL sts l.bds 0) N l.k (l.shape sts) (Γ ++ l.facts sts)) sp xs [] Vt
noncomputable def LawU.at (P : Program) (D : Ids) (t : List Summ) (N : Nat) (l : LawU) (es : List Nat) : Bool :=
  chkL (l.run P D t N) (l.tree es) es l.xs [] []

theorem LawU.ok {P : Program} (hG : NoCount P) (hm : P.follows .mixedOrders = true) {D : Ids} (hD : D.Ok P) {t : List Summ} (ht : ∀ e, e ∈ t → e.Ok P) {N : Nat} {l : LawU}
    (h1 : l.huge P N = true) (h2 : ∀ es : List Nat, es.length = l.bds.length → (∀ x, x ∈ es → x ≤ 1) → l.at P D t N es = true) (hn : 7 * l.bds.length + l.m ≤ 40)
    {w : World} {Ls : List (List Int)} {lv : List Value} {I : List Int} {rargs : Array Value} (hL : AllL w Ls lv) (hlen : Ls.length = l.bds.length) (hwf : ∀ ls, ls ∈ Ls → (∀ z, z ∈ ls → IntKind.i64.wrap z = z) ∧ ls.length ≤ 9223372036854775807)
    (hI : I.length = l.m) (hwI : ∀ z, z ∈ I → IntKind.i64.wrap z = z)
    (hA : ∀ (ρ : Nat → Int) (s : Sms) (ll : List (V Sy)) (xi : List Sy), VRs ⟨Sy.den ρ, s⟩ w.heap.size ⟨w, fun _ => none⟩ ll lv → VRs ⟨Sy.den ρ, s⟩ w.heap.size ⟨w, fun _ => none⟩ (ints xi) (intVs I) → VRs ⟨Sy.den ρ, s⟩ w.heap.size ⟨w, fun _ => none⟩ (l.args ll (ints xi)) rargs.toList)
    (hT : ∀ (ρ : Nat → Int) (ys : List Sy), ys.map (Sy.den ρ) = Ls.map (fun l => (l.length : Int)) → (∀ p, p ∈ l.tests ys → ¬ p.1.den ρ < p.2.den ρ) → ∀ ls, ls ∈ Ls → ls.length ≤ 1048576)
    (hT2 : ∀ (ρ : Nat → Int) (ys zs : List Sy), ys.map (Sy.den ρ) = zs.map (Sy.den ρ) → (l.tests ys).map (fun p => (p.1.den ρ, p.2.den ρ)) = (l.tests zs).map (fun p => (p.1.den ρ, p.2.den ρ))) :
    LawTrue P l.k rargs w := by
  have hintsV : ∀ (ρ : Nat → Int) (s : Sms) (xi : List Sy), xi.map (Sy.den ρ) = I → VRs ⟨Sy.den ρ, s⟩ w.heap.size ⟨w, fun _ => none⟩ (ints xi) (intVs I) := by
    intro ρ s xi hxi
    subst hxi
    refine ⟨by simp [intVs], fun i x v hx hv => ?_⟩
    rw [ints_get] at hx
    rw [intVs, List.map_map, List.getElem?_map] at hv
    cases hz : xi[i]? with
    | none => rw [hz] at hx; simp at hx
    | some z => rw [hz] at hx hv; simp at hx hv; subst hx; subst hv; exact .int _ _
  have hfl := flat_len Ls I
  rw [hlen, hI] at hfl
  have hvx := vxs_den (zs := flat Ls I) (by rw [hfl]; omega) (flat_wf hwf hwI)
  rw [hfl] at hvx
  generalize hρ : (fun i => (flat Ls I).getD i 0) = ρ at hvx
  have hxs : l.xs.map (Sy.den ρ) = flat Ls I := hvx
  let s : Sms := ⟨fun _ _ => ByteArray.empty, fun j => if (Ls.getD j []) = [] then [0] else Ls.getD j []⟩
  have hsl : ∀ (i : Nat) (ls : List Int), Ls[i]? = some ls → ls ≠ [] → s.l (0 + i) = ls := by
    intro i ls hi hne
    have : Ls.getD i [] = ls := by simp [List.getD, hi]
    simp only [s, Nat.zero_add]
    rw [this, if_neg hne]
  have hget : ∀ j, Ls.getD j [] = [] ∨ Ls.getD j [] ∈ Ls := by
    intro j
    rcases Nat.lt_or_ge j Ls.length with h | h
    · right; simp [List.getD, h]
    · left; simp [List.getD, List.getElem?_eq_none h]
  -- the lengths, all as variables
  have hlen1 : (lensL (l.bds.map fun _ => 1) l.xs).map (Sy.den ρ) = Ls.map (fun l => (l.length : Int)) := by
    have aux : ∀ {Ls : List (List Int)} {bds : List Int} {xs : List Sy}, Ls.length = bds.length → xs.map (Sy.den ρ) = flat Ls I → (lensL (bds.map fun _ => 1) xs).map (Sy.den ρ) = Ls.map (fun l => (l.length : Int)) := by
      intro Ls
      induction Ls with
      | nil => intro bds xs hb _; cases bds with
        | nil => rfl
        | cons a b => simp at hb
      | cons a r ih =>
        intro bds xs hb hx
        cases bds with
        | nil => simp at hb
        | cons bd bs =>
          obtain ⟨c1, c2, _⟩ := flat_cut hx
          simp only [List.map_cons, lensL, List.cons.injEq]
          exact ⟨c1, ih (by simpa using hb) c2⟩
    exact aux hlen hxs
  by_cases hall : ∀ p, p ∈ l.testsAt (l.bds.map fun _ => 1) → ¬ p.1.den ρ < p.2.den ρ
  · have hsm := hT ρ _ hlen1 hall
    let es : List Nat := Ls.map fun ls => if ls = [] then 0 else 1
    have hes : l.at P D t N es = true := h2 es (by simp [es, hlen]) (fun x hx => by
      obtain ⟨ls, _, rfl⟩ := List.mem_map.1 hx
      split <;> omega)
    have hst0 : StsOk l.bds es Ls := by
      refine ⟨by simp [es], hlen.symm, fun j hj => ?_⟩
      have e1 : es.getD j 0 = if Ls.getD j [] = [] then 0 else 1 := by simp [es, List.getD, hj]
      rw [e1]
      have hmem : Ls.getD j [] ∈ Ls := by simp [List.getD, hj]
      by_cases he : Ls.getD j [] = []
      · rw [if_pos he]; exact ⟨fun _ => he, fun h => (h rfl).elim, fun h => by omega, fun h => by omega, fun h => by omega⟩
      · rw [if_neg he]; exact ⟨fun h => by omega, fun _ => ⟨he, hsm _ hmem⟩, fun h => by omega, fun h => by omega, fun h => by omega⟩
    refine chkL_ok (ρ := ρ) (bds := l.bds) (Ls := Ls) (I := I) (fun sts xs Γ Vt sp hr hst hxc hΓ hVt => ?_) _ _ _ _ _ hes hst0 hxs (by simp) (by simp)
    refine chk_ok (ρ := ρ) (zs := flat Ls I) (fun xs Γ' Vt hr hz hΓ' hV => ?_) _ _ _ _ hr hxc (by simp) hVt
    refine runC_ok (s := s) hG hm hD ht (fun e he => bentsL_ok (s := s) (j := 0) hst hsl e he) (fun j => ?_) (fun j z hz => ?_) (fun f hf => ?_) (fun xs hx => ?_) (fun xs hx e he => entsL_ok hst hx e he) xs Γ' Vt hr hz hΓ' hV
    · simp only [s]
      split
      · simp
      · rename_i hne
        rcases hget j with h | h
        · exact (hne h).elim
        · refine ⟨?_, hsm _ h⟩
          cases hg : Ls.getD j [] with
          | nil => exact (hne hg).elim
          | cons a b => simp
    · simp only [s] at hz
      split at hz
      · simp at hz; subst hz; exact wrap0
      · rename_i hne
        rcases hget j with h | h
        · exact (hne h).elim
        · exact (hwf _ h).1 z hz
    · rcases List.mem_append.1 hf with hf | hf
      · exact hΓ f hf
      · unfold LawU.facts at hf
        rcases List.mem_cons.1 hf with rfl | hf
        · refine Fact.lt_no ?_
          have := sumS_den (acc := .c 1) (b := 1) hst hxs (by simp [Sy.den]) (by simp [Sy.den]) (by omega)
          simp only [Sy.den] at this ⊢; omega
        · rcases List.mem_append.1 hf with hf | hf
          · exact factsL_ok hst hxs f hf
          · refine testF_ok (fun j p hp _ => ?_) f hf
            have e1 := hT2 ρ (lensL sts l.xs) (lensL (l.bds.map fun _ => 1) l.xs) (by rw [lensL_den hst hxs, hlen1])
            have e2 := congrArg (fun q => q[j]?) e1
            simp only [List.getElem?_map] at e2
            have hp' : (l.tests (lensL sts l.xs))[j]? = some p := hp
            rw [hp'] at e2
            cases hq : (l.tests (lensL (l.bds.map fun _ => 1) l.xs))[j]? with
            | none => rw [hq] at e2; cases e2
            | some q =>
              rw [hq] at e2
              simp only [Option.map_some, Option.some.injEq, Prod.mk.injEq] at e2
              rw [e2.1, e2.2]
              exact hall q (List.mem_of_getElem? hq)
    · obtain ⟨g1, g2⟩ := argsL_rel (s := s) (j := 0) hL hst hx hsl
      exact hA _ _ _ _ g1 (hintsV _ _ _ g2)
  · -- too long
    have hex : ∃ (i : Nat) (p : Sy × Sy), (l.testsAt (l.bds.map fun _ => 1))[i]? = some p ∧ p.1.den ρ < p.2.den ρ ∧ ∀ (j : Nat) (q : Sy × Sy), (l.testsAt (l.bds.map fun _ => 1))[j]? = some q → j < i → ¬ q.1.den ρ < q.2.den ρ := by
      generalize l.testsAt (l.bds.map fun _ => 1) = ts at hall
      induction ts with
      | nil => exact (hall (fun p hp => by cases hp)).elim
      | cons a r ih =>
        by_cases ha : a.1.den ρ < a.2.den ρ
        · exact ⟨0, a, rfl, ha, fun j q _ hj => by omega⟩
        · obtain ⟨i, p, k1, k2, k3⟩ := ih (fun h => hall (fun p hp => by
            rcases List.mem_cons.1 hp with rfl | hp
            · exact ha
            · exact h p hp))
          refine ⟨i + 1, p, by simpa using k1, k2, fun j q hj hji => ?_⟩
          cases j with
          | zero => simp at hj; subst hj; exact ha
          | succ j => exact k3 j q (by simpa using hj) (by omega)
    obtain ⟨i, p, k1, k2, k3⟩ := hex
    have hi := allTo_ok h1 i (List.getElem?_eq_some_iff.1 k1).1
    simp only [k1] at hi
    let s2 : Sms := ⟨fun _ _ => ByteArray.empty, fun j => Ls.getD j []⟩
    have aux : ∀ {Ls : List (List Int)} {lv : List Value} {bds : List Int} {xs : List Sy} {j : Nat}, AllL w Ls lv → Ls.length = bds.length → xs.map (Sy.den ρ) = flat Ls I → (∀ (i : Nat) (l : List Int), Ls[i]? = some l → s2.l (j + i) = l) →
        VRs ⟨Sy.den ρ, s2⟩ w.heap.size ⟨w, fun _ => none⟩ (argsL (bds.map fun _ => 1) xs j) lv ∧ (restL (bds.map fun _ => 1) xs).map (Sy.den ρ) = I := by
      intro Ls
      induction Ls with
      | nil =>
        intro lv bds xs j hL hb hx _
        cases bds with
        | cons a b => simp at hb
        | nil =>
          cases lv with
          | nil => exact ⟨.nil, hx⟩
          | cons a b => exact hL.elim
      | cons a r ih =>
        intro lv bds xs j hL hb hx hs
        cases bds with
        | nil => simp at hb
        | cons bd bs =>
          cases lv with
          | nil => exact hL.elim
          | cons v vs =>
            obtain ⟨c1, c2, _⟩ := flat_cut hx
            obtain ⟨g1, g2⟩ := ih (j := j + 1) hL.2 (by simpa using hb) c2 (fun i l' h1 => by
              have := hs (i + 1) l' (by simpa using h1)
              rwa [show j + (i + 1) = j + 1 + i by omega] at this)
            exact ⟨.cons (hL.1.big (by have := hs 0 a rfl; simpa using this) c1) g1, g2⟩
    obtain ⟨g1, g2⟩ := aux (j := 0) hL hlen hxs (fun i ls hi => by simp [s2, List.getD, hi])
    refine calls_true (Δ := ⟨Sy.den ρ, s2⟩) (symRun_ok hG hm (fun f hf => ?_) noK_ok N) (hA _ _ _ _ g1 (hintsV _ _ _ g2)) hi
    rcases List.mem_cons.1 hf with rfl | hf
    · exact Fact.lt_yes k2
    · exact testF_ok k3 f hf
end Go.Sx

/-
  Words for laws: what is asked of sizes; pairs of lists among a row's arguments.
-/
namespace Go.Sx
open Go.ChangeShapes Go.WideShapes Go.ChangeAt Go.RowKit

def lenT (ys : List Sy) : List (Sy × Sy) := ys.map fun x => (.c 1048576, x)
noncomputable def sumT : List Sy → Sy → List (Sy × Sy)
  | [], _ => []
  | x :: r, left => (minusS left x, .c 0) :: sumT r (minusS left x)
/-- The first n lists by themselves, the others together. -/
noncomputable def sizeT (n : Nat) (ys : List Sy) : List (Sy × Sy) := lenT (ys.take n) ++ sumT (ys.drop n) (.c 1048576)

theorem sumT_cg {ρ : Nat → Int} : ∀ {ys zs : List Sy} {a b : Sy}, ys.map (Sy.den ρ) = zs.map (Sy.den ρ) → a.den ρ = b.den ρ → (sumT ys a).map (fun p => (p.1.den ρ, p.2.den ρ)) = (sumT zs b).map (fun p => (p.1.den ρ, p.2.den ρ)) := by
  intro ys
  induction ys with
  | nil => intro zs a b h _; cases zs with
    | nil => rfl
    | cons z r => simp at h
  | cons y r ih =>
    intro zs a b h hab
    cases zs with
    | nil => simp at h
    | cons z q =>
      simp only [List.map_cons, List.cons.injEq] at h
      have hm : (minusS a y).den ρ = (minusS b z).den ρ := by rw [minusS_den, minusS_den, hab, h.1]
      simp only [sumT, List.map_cons, hm, ih h.2 hm]

theorem sizeT_cg {n : Nat} (ρ : Nat → Int) (ys zs : List Sy) (h : ys.map (Sy.den ρ) = zs.map (Sy.den ρ)) : (sizeT n ys).map (fun p => (p.1.den ρ, p.2.den ρ)) = (sizeT n zs).map (fun p => (p.1.den ρ, p.2.den ρ)) := by
  unfold sizeT lenT
  rw [List.map_append, List.map_append]
  have h1 : (ys.take n).map (Sy.den ρ) = (zs.take n).map (Sy.den ρ) := by rw [List.map_take, List.map_take, h]
  have h2 : (ys.drop n).map (Sy.den ρ) = (zs.drop n).map (Sy.den ρ) := by rw [List.map_drop, List.map_drop, h]
  rw [sumT_cg h2 rfl]
  congr 1
  have : ∀ (as bs : List Sy), as.map (Sy.den ρ) = bs.map (Sy.den ρ) → (as.map fun x => ((Sy.c 1048576, x) : Sy × Sy)).map (fun p => (p.1.den ρ, p.2.den ρ)) = (bs.map fun x => ((Sy.c 1048576, x) : Sy × Sy)).map (fun p => (p.1.den ρ, p.2.den ρ)) := by
    intro as
    induction as with
    | nil => intro bs h; cases bs with
      | nil => rfl
      | cons b r => simp at h
    | cons a r ih =>
      intro bs h
      cases bs with
      | nil => simp at h
      | cons b q =>
        simp only [List.map_cons, List.cons.injEq] at h
        simp only [List.map_cons, h.1, ih q h.2]
  exact this _ _ h1

theorem sumT_ok {ρ : Nat → Int} : ∀ {Ls : List (List Int)} {ys : List Sy} {a : Sy}, (∀ l, l ∈ Ls → l.length ≤ 9223372036854775807) → ys.map (Sy.den ρ) = Ls.map (fun l => (l.length : Int)) → 0 ≤ a.den ρ → a.den ρ ≤ 1048576 → (∀ p, p ∈ sumT ys a → ¬ p.1.den ρ < p.2.den ρ) → ∀ ls, ls ∈ Ls → ls.length ≤ 1048576 := by
  intro Ls
  induction Ls with
  | nil => intro ys a _ _ _ _ _ ls h; cases h
  | cons l r ih =>
    intro ys a hl hx h0 h1 hp ls hls
    cases ys with
    | nil => simp at hx
    | cons y q =>
      simp only [List.map_cons, List.cons.injEq] at hx
      have hll := hl l (by simp)
      have h2 := hp (minusS a y, .c 0) (by simp [sumT])
      have h3 : (minusS a y).den ρ = a.den ρ - (l.length : Int) := by rw [minusS_den, hx.1, wrap_in (by omega) (by omega)]
      have h2' : ¬ (minusS a y).den ρ < 0 := h2
      rw [h3] at h2'
      rcases List.mem_cons.1 hls with rfl | hls
      · omega
      · exact ih (a := minusS a y) (fun l' h => hl l' (by simp [h])) hx.2 (by rw [h3]; omega) (by rw [h3]; omega) (fun p h => hp p (by simp [sumT, h])) ls hls

theorem sizeT_ok {n : Nat} {Ls : List (List Int)} (hl : ∀ l, l ∈ Ls → l.length ≤ 9223372036854775807) (ρ : Nat → Int) (ys : List Sy) (hx : ys.map (Sy.den ρ) = Ls.map (fun l => (l.length : Int))) (h : ∀ p, p ∈ sizeT n ys → ¬ p.1.den ρ < p.2.den ρ) :
    ∀ ls, ls ∈ Ls → ls.length ≤ 1048576 := by
  unfold sizeT at h
  intro ls hls
  rw [← List.take_append_drop n Ls] at hls
  rcases List.mem_append.1 hls with hls | hls
  · have h1 : (ys.take n).map (Sy.den ρ) = (Ls.take n).map (fun l => (l.length : Int)) := by rw [List.map_take, hx, List.map_take]
    obtain ⟨i, hi, rfl⟩ := List.getElem_of_mem hls
    have hi2 : i < (ys.take n).length := by
      have := congrArg List.length h1
      simp only [List.length_map] at this
      rw [this]; exact hi
    have h2 := h (.c 1048576, (ys.take n)[i]) (List.mem_append_left _ (List.mem_map_of_mem (List.getElem_mem hi2)))
    have g5 : ((ys.take n)[i]).den ρ = (((Ls.take n)[i]).length : Int) := by
      have := congrArg (fun q => q[i]?) h1
      simp only [List.getElem?_map] at this
      rw [List.getElem?_eq_getElem hi2, List.getElem?_eq_getElem hi] at this
      simpa using this
    have h3 : ¬ (1048576 : Int) < ((ys.take n)[i]).den ρ := h2
    rw [g5] at h3
    omega
  · exact sumT_ok (Ls := Ls.drop n) (ys := ys.drop n) (a := .c 1048576) (fun l h => hl l (List.mem_of_mem_drop h)) (by rw [List.map_drop, hx, List.map_drop]) (by simp [Sy.den]) (by simp [Sy.den]) (fun p hp => h p (List.mem_append_right _ hp)) ls hls

theorem VRs.uncons {I : Type} {Δ : Den I} {B : Nat} {c : Cx} {ll : List (V I)} {v : Value} {vs : List Value} (h : VRs Δ B c ll (v :: vs)) : ∃ x r, ll = x :: r ∧ VR Δ B c x v ∧ VRs Δ B c r vs := by
  cases ll with
  | nil => simp [VRs] at h
  | cons x r => exact ⟨x, r, rfl, h.head, h.tail⟩
theorem VRs.unnil {I : Type} {Δ : Den I} {B : Nat} {c : Cx} {ll : List (V I)} (h : VRs Δ B c ll []) : ll = [] := List.eq_nil_of_length_eq_zero h.1
theorem VRs.agg {I : Type} {Δ : Den I} {B : Nat} {c : Cx} {ll : List (V I)} {vs : List Value} (h : VRs Δ B c ll vs) : VR Δ B c (.agg ll) (.agg vs.toArray) :=
  .agg (by simpa using h.1) (fun i x v hx hv => h.2 i x v hx (by simpa using hv))

theorem open_pair {H : Type} {enc : TypeId × Value → H} {P : Program} {t s e : TypeId} {f0 f1 : Field} {r : Reach} {base b0 : Nat} {W : World} {sp : Nat → Bool} {hd : Bool} {v : Value} {d : DataW H} {p : List MemPlace}
    (ht : P.underlying t = some (.struct #[f0, f1])) (hone : Go.Deep.oneCellFields P #[f0, f1] = true) (hC : P.cellsOf t = 2) (hct : P.cellTypes P.depth t = some [s, s]) (h0 : f0.type = s) (h1 : f1.type = s)
    (hs : P.underlying s = some (.slice e)) (he : P.underlying e = some (.int .i64)) (hc : P.cellsOf e = 1)
    (hval : Value.okWide P W r base t v) (h : DataW.Trod enc P W b0 sp hd t v d p) :
    ∃ (v0 v1 : Value) (z0 z1 : List Int), v = .agg #[v0, v1] ∧ (IsList W z0 v0 ∧ z0.length ≤ 9223372036854775807) ∧ (IsList W z1 v1 ∧ z1.length ≤ 9223372036854775807) := by
  obtain ⟨v0, v1, y0, y1, n, rfl, rfl, rfl, k0, k1⟩ := Go.Joins.open_agg2 ht hone hC hval h
  have hv := hval
  simp only [Value.okWide, ht] at hv
  obtain ⟨cs, hcs, _, hrow⟩ := hv
  cases hcs
  obtain ⟨ts, hts, _, hcell⟩ := hrow
  rw [hct] at hts
  cases hts
  have w0 : Value.okWide P W r base s v0 := by
    obtain ⟨u, hu, hw⟩ := hcell 0 v0 rfl
    cases hu
    simpa only [Value.okWide, hs] using hw
  have w1 : Value.okWide P W r base s v1 := by
    obtain ⟨u, hu, hw⟩ := hcell 1 v1 rfl
    cases hu
    simpa only [Value.okWide, hs] using hw
  rw [h0] at k0
  rw [h1] at k1
  have c0 : v0.cells.toList = [v0] := by
    obtain ⟨a, l, c, rfl⟩ := okWide_slice hs w0
    rfl
  have c1 : v1.cells.toList = [v1] := by
    obtain ⟨a, l, c, rfl⟩ := okWide_slice hs w1
    rfl
  obtain ⟨z0, g0⟩ := open_list2 hs he hc w0 (⟨n, by rw [c0]; exact k0⟩ : DataW.Trod enc P W b0 sp hd s v0 y0.1 y0.2)
  obtain ⟨z1, g1⟩ := open_list2 hs he hc w1 (⟨n, by rw [c1]; exact k1⟩ : DataW.Trod enc P W b0 sp hd s v1 y1.1 y1.2)
  exact ⟨v0, v1, z0, z1, rfl, g0, g1⟩
end Go.Sx

/-
  Trees for pairs.
-/
namespace Go.Sx

/-- The numbers that a pair's validity asks for: the first of the list g is 1 or -1, the first of f 0, its second 1 or -1. -/
def unitSp (g f : Nat) (M : Sp) : Sp :=
  .sub (7 * g + 1) 1 (.sub (7 * f + 1) 0 (.sub (7 * f + 2) 1 M (.sub (7 * f + 2) (-1) M .leaf)) .leaf)
    (.sub (7 * g + 1) (-1) (.sub (7 * f + 1) 0 (.sub (7 * f + 2) 1 M (.sub (7 * f + 2) (-1) M .leaf)) .leaf) .leaf)

/-- As above, without values in place of the numbers. -/
noncomputable def unitSq (g f : Nat) (M : Sp) : Sp :=
  .val 1 (fun xs => some [xs.getD (7 * g + 1) (.c 0)]) (.cmp false (fun xs => xs.getD (7 * g + 1) (.c 0)) (fun _ => .c 0) .leaf
    (.sub (7 * f + 1) 0 (.val 1 (fun xs => some [xs.getD (7 * f + 2) (.c 0)]) (.cmp false (fun xs => xs.getD (7 * f + 2) (.c 0)) (fun _ => .c 0) .leaf M) .leaf) .leaf)) .leaf
noncomputable def unitSqL (g f : Nat) (M : LSp) : LSp :=
  .val 1 (fun xs => some [xs.getD (7 * g + 1) (.c 0)]) (.cmp false (fun xs => xs.getD (7 * g + 1) (.c 0)) (fun _ => .c 0) (.leaf .leaf)
    (.sub (7 * f + 1) 0 (.val 1 (fun xs => some [xs.getD (7 * f + 2) (.c 0)]) (.cmp false (fun xs => xs.getD (7 * f + 2) (.c 0)) (fun _ => .c 0) (.leaf .leaf) M) (.leaf .leaf)) (.leaf .leaf))) (.leaf .leaf)

def lenEq (a b : List Sy → Sy) (y n : Sp) : Sp := .cmp false a b y n

/-- The lists g and f as a pair: 'ok' where both are valid and of one length of at least 2; 'wr': what stands over each leaf. -/
noncomputable def pairL (es : List Nat) (g f : Nat) (wr : Sp → Sp) (ok : Nat → LSp) : LSp :=
  bite (Nat.beq (es.getD g 0) 0) (.leaf (wr .leaf))
    (bite (Nat.beq (es.getD f 0) 0) (.splitW g (.leaf (wr .leaf)) (.leaf (wr .leaf)))
      (.splitV g (.leaf (wr (.cmp false (fun xs => lenS xs g) (fun xs => lenS xs f) (.cmp true (fun xs => lenS xs g) (fun _ => .c 2) .leaf .leaf) .leaf)))
        (fun L => .splitV f (.leaf (wr (.cmp false (fun _ => .c (L : Nat)) (fun xs => lenS xs f) (.sub (7 * g + 1) 1 .leaf (.sub (7 * g + 1) (-1) .leaf .leaf)) .leaf)))
          (fun L' => bite (Nat.beq L L') (bite (Nat.beq L 1) (.leaf (wr .leaf)) (ok L)) (.leaf (wr .leaf))))))

def slS (xs : List Sy) (j L : Nat) : V Sy := .slice (ints (segS xs j L))
def pairS (xs : List Sy) (g f L : Nat) : V Sy := .agg [slS xs g L, slS xs f L]

/-- One list. -/
noncomputable def oneL (es : List Nat) (bad : Sp) (M : Nat → Sp) : LSp :=
  bite (Nat.beq (es.getD 0 0) 0) (.leaf bad) (.splitV 0 (.leaf bad) (fun L => .leaf (M L)))

/-- Two lists of one length. -/
noncomputable def twoL (es : List Nat) (M : Nat → Sp) : LSp :=
  bite (Nat.beq (es.getD 0 0) 0) (.leaf .leaf)
    (bite (Nat.beq (es.getD 1 0) 0) (.splitW 0 (.leaf .leaf) (.leaf .leaf))
      (.splitW 0 (.leaf (.cmp false (fun xs => lenS xs 0) (fun xs => lenS xs 1) .leaf .leaf))
        (.splitW 1 (.leaf (.cmp false (fun xs => lenS xs 0) (fun xs => lenS xs 1) .leaf .leaf)) (.same 0 1 (fun L => .leaf (M L)) (.leaf .leaf)))))

/-- A number that is to lie between two. -/
def between (i : Nat) (lo hi : Int) (M out : Sp) : Sp := .cmp true (fun xs => xs.getD i (.c 0)) (fun _ => .c lo) out (.cmp true (fun _ => .c hi) (fun xs => xs.getD i (.c 0)) out M)
end Go.Sx

/-
  Trees, leaf by leaf.
-/
namespace Go.Sx
open Go.RowKit

noncomputable def sumTo (f : Nat → Nat) : Nat → Nat
  | 0 => 0
  | n + 1 => Nat.add (sumTo f n) (f n)

noncomputable def Sp.count : Sp → Nat
  | .leaf => 1
  | .sub _ _ y n => Nat.add y.count n.count
  | .cmp _ _ _ y n => Nat.add y.count n.count
  | .rng _ _ n f out => Nat.add (sumTo (fun t => (f t).count) n) (Nat.add out.count out.count)
  | .val _ _ y n => Nat.add y.count n.count

/-- Which of some parts, and where in it. -/
noncomputable def pickTo (f : Nat → Nat) (g : Nat → Nat → Bool) (k : Nat → Bool) : Nat → Nat → Nat → Bool
  | 0, _, i => k i
  | n + 1, t, i => bite (Nat.blt i (f t)) (g t i) (pickTo f g k n (Nat.add t 1) (Nat.sub i (f t)))

noncomputable def chkN (run : List Sy → List Fact → List VEnt → Bool) : Sp → Nat → List Sy → List Fact → List VEnt → Bool
  | .leaf, _, xs, Γ, Vt => run xs Γ Vt
  | .sub i c y n, j, xs, Γ, Vt => bite (Nat.blt j y.count) (chkN run y j (xs.set i (.c c)) Γ Vt) (chkN run n (Nat.sub j y.count) xs (⟨false, xs.getD i (.c 0), .c c, false⟩ :: Γ) Vt)
  | .cmp lt a b y n, j, xs, Γ, Vt => bite (Nat.blt j y.count) (chkN run y j xs (⟨lt, a xs, b xs, true⟩ :: Γ) Vt) (chkN run n (Nat.sub j y.count) xs (⟨lt, a xs, b xs, false⟩ :: Γ) Vt)
  | .rng i lo n f out, j, xs, Γ, Vt => pickTo (fun t => (f t).count) (fun t j => chkN run (f t) j (xs.set i (.c (lo + t))) Γ Vt)
      (fun j => bite (Nat.blt j out.count) (chkN run out j xs (⟨true, xs.getD i (.c 0), .c lo, true⟩ :: Γ) Vt)
        (chkN run out (Nat.sub j out.count) xs (⟨true, xs.getD i (.c 0), .c lo, false⟩ :: ⟨true, .c (lo + n - 1), xs.getD i (.c 0), true⟩ :: Γ) Vt)) n 0 j
  | .val bd f y n, j, xs, Γ, Vt => match f xs with
    | some ps => bite (Nat.blt j y.count) (chkN run y j xs Γ (⟨bd, ps, true⟩ :: Vt)) (chkN run n (Nat.sub j y.count) xs Γ (⟨bd, ps, false⟩ :: Vt))
    | none => false

theorem count_pos : ∀ t : Sp, 1 ≤ t.count := by
  intro t
  induction t with
  | leaf => exact Nat.le_refl _
  | sub i c y n ihy ihn => show 1 ≤ y.count + n.count; omega
  | cmp lt a b y n ihy ihn => show 1 ≤ y.count + n.count; omega
  | rng i lo n f out ihf iho => show 1 ≤ _ + (out.count + out.count); omega
  | val bd f y n ihy ihn => show 1 ≤ y.count + n.count; omega

/-- Two parts. -/
theorem two_parts {a b : Nat} {p q : Nat → Bool} (h : ∀ j, j < a + b → bite (Nat.blt j a) (p j) (q (Nat.sub j a)) = true) : (∀ j, j < a → p j = true) ∧ ∀ j, j < b → q j = true := by
  constructor
  · intro j hj
    have := h j (by omega)
    rw [bite_eq, if_pos (by rw [Nat.blt_eq]; exact hj)] at this
    exact this
  · intro j hj
    have := h (a + j) (by omega)
    rw [bite_eq, if_neg (by rw [Nat.blt_eq]; omega)] at this
    rwa [show Nat.sub (a + j) a = j from Nat.add_sub_cancel_left a j] at this

theorem sumTo_shift (f : Nat → Nat) : ∀ n t, sumTo (fun i => f (t + i)) (n + 1) = f t + sumTo (fun i => f (t + 1 + i)) n := by
  intro n
  induction n with
  | zero => intro t; show 0 + f t = f t + 0; omega
  | succ n ih =>
    intro t
    show sumTo (fun i => f (t + i)) (n + 1) + f (t + (n + 1)) = f t + (sumTo (fun i => f (t + 1 + i)) n + f (t + 1 + n))
    rw [ih t, show t + (n + 1) = t + 1 + n by omega]; omega

theorem pickTo_ok {f : Nat → Nat} {g : Nat → Nat → Bool} {k : Nat → Bool} {m : Nat} : ∀ (n t : Nat), (∀ j, j < sumTo (fun i => f (t + i)) n + m → pickTo f g k n t j = true) → (∀ i, i < n → ∀ j, j < f (t + i) → g (t + i) j = true) ∧ ∀ j, j < m → k j = true := by
  intro n
  induction n with
  | zero => intro t h; exact ⟨fun i hi => by omega, fun j hj => h j (by show j < 0 + m; omega)⟩
  | succ n ih =>
    intro t h
    rw [sumTo_shift] at h
    have h2 := two_parts (a := f t) (b := sumTo (fun i => f (t + 1 + i)) n + m) (p := g t) (q := pickTo f g k n (t + 1)) (fun j hj => h j (by omega))
    obtain ⟨h3, h4⟩ := ih (t + 1) h2.2
    refine ⟨fun i hi j hj => ?_, h4⟩
    cases i with
    | zero => exact h2.1 j hj
    | succ i =>
      have := h3 i (by omega) j (by rw [show t + 1 + i = t + (i + 1) by omega]; exact hj)
      rwa [show t + 1 + i = t + (i + 1) by omega] at this

theorem allTo_mk {f : Nat → Bool} : ∀ {n : Nat}, (∀ i, i < n → f i = true) → allTo f n = true := by
  intro n
  induction n with
  | zero => intro _; rfl
  | succ n ih =>
    intro h
    simp only [allTo, bite_eq]
    rw [if_pos (ih (fun i hi => h i (by omega)))]
    exact h n (by omega)

theorem chkN_ok {run : List Sy → List Fact → List VEnt → Bool} : ∀ (t : Sp) (xs : List Sy) (Γ : List Fact) (Vt : List VEnt), (∀ j, j < t.count → chkN run t j xs Γ Vt = true) → chk run t xs Γ Vt = true := by
  intro t
  induction t with
  | leaf => intro xs Γ Vt h; exact h 0 (Nat.le_refl _)
  | sub i c y n ihy ihn =>
    intro xs Γ Vt h
    obtain ⟨h1, h2⟩ := two_parts (a := y.count) (b := n.count) (p := fun j => chkN run y j (xs.set i (.c c)) Γ Vt) (q := fun j => chkN run n j xs (⟨false, xs.getD i (.c 0), .c c, false⟩ :: Γ) Vt) h
    simp only [chk, bite_eq]
    rw [if_pos (ihy _ _ _ h1)]
    exact ihn _ _ _ h2
  | cmp lt a b y n ihy ihn =>
    intro xs Γ Vt h
    obtain ⟨h1, h2⟩ := two_parts (a := y.count) (b := n.count) (p := fun j => chkN run y j xs (⟨lt, a xs, b xs, true⟩ :: Γ) Vt) (q := fun j => chkN run n j xs (⟨lt, a xs, b xs, false⟩ :: Γ) Vt) h
    simp only [chk, bite_eq]
    rw [if_pos (ihy _ _ _ h1)]
    exact ihn _ _ _ h2
  | rng i lo n f out ihf iho =>
    intro xs Γ Vt h
    have h' := pickTo_ok (f := fun t => (f t).count) (g := fun t j => chkN run (f t) j (xs.set i (.c (lo + t))) Γ Vt)
      (k := fun j => bite (Nat.blt j out.count) (chkN run out j xs (⟨true, xs.getD i (.c 0), .c lo, true⟩ :: Γ) Vt)
        (chkN run out (Nat.sub j out.count) xs (⟨true, xs.getD i (.c 0), .c lo, false⟩ :: ⟨true, .c (lo + n - 1), xs.getD i (.c 0), true⟩ :: Γ) Vt)) (m := out.count + out.count) n 0 (fun j hj => h j (by
          show j < sumTo (fun t => (f t).count) n + (out.count + out.count)
          simpa using hj))
    obtain ⟨h1, h2⟩ := h'
    obtain ⟨h3, h4⟩ := two_parts (a := out.count) (b := out.count) (p := fun j => chkN run out j xs (⟨true, xs.getD i (.c 0), .c lo, true⟩ :: Γ) Vt)
      (q := fun j => chkN run out j xs (⟨true, xs.getD i (.c 0), .c lo, false⟩ :: ⟨true, .c (lo + n - 1), xs.getD i (.c 0), true⟩ :: Γ) Vt) h2
    simp only [chk]
    rw [allTo_mk (fun t ht => ihf t _ _ _ (fun j hj => by have := h1 t ht j (by rw [Nat.zero_add]; exact hj); rwa [Nat.zero_add] at this))]
    rw [iho _ _ _ h3, iho _ _ _ h4]
    rfl
  | val bd f y n ihy ihn =>
    intro xs Γ Vt h
    have h0 := h 0 (count_pos _)
    simp only [chkN] at h0
    cases hf : f xs with
    | none => rw [hf] at h0; cases h0
    | some ps =>
      obtain ⟨h1, h2⟩ := two_parts (a := y.count) (b := n.count) (p := fun j => chkN run y j xs Γ (⟨bd, ps, true⟩ :: Vt)) (q := fun j => chkN run n j xs Γ (⟨bd, ps, false⟩ :: Vt)) (fun j hj => by
        have := h j hj
        simp only [chkN, hf] at this
        exact this)
      simp only [chk, hf, bite_eq]
      rw [if_pos (ihy _ _ _ h1)]
      exact ihn _ _ _ h2

/-! ## Trees of lists -/
noncomputable def LSp.count : LSp → Nat
  | .leaf t => t.count
  | .splitW _ i w => Nat.add i.count w.count
  | .splitV _ i v => Nat.add i.count (sumTo (fun L => (v (L + 1)).count) 6)
  | .refine _ v => sumTo (fun L => (v (L + 1)).count) 6
  | .same _ _ v n => Nat.add (sumTo (fun L => (v (L + 1)).count) 6) n.count
  | .sub _ _ y n => Nat.add y.count n.count
  | .cmp _ _ _ y n => Nat.add y.count n.count
  | .val _ _ y n => Nat.add y.count n.count

noncomputable def chkLN (run : List Nat → List Sy → List Fact → List VEnt → Sp → Nat → Bool) : LSp → Nat → List Nat → List Sy → List Fact → List VEnt → Bool
  | .leaf t, j, sts, xs, Γ, Vt => run sts xs Γ Vt t j
  | .splitW l i w, j, sts, xs, Γ, Vt => bite (Nat.beq (sts.getD l 0) 1) (bite (Nat.blt j i.count) (chkLN run i j (sts.set l 2) xs Γ Vt) (chkLN run w (Nat.sub j i.count) (sts.set l 3) xs Γ Vt)) false
  | .splitV l i v, j, sts, xs, Γ, Vt => bite (Nat.beq (sts.getD l 0) 1) (bite (Nat.blt j i.count) (chkLN run i j (sts.set l 2) xs Γ Vt)
      (pickTo (fun L => (v (L + 1)).count) (fun L j => chkLN run (v (L + 1)) j (sts.set l (L + 4)) xs Γ Vt) (fun _ => false) 6 0 (Nat.sub j i.count))) false
  | .refine l v, j, sts, xs, Γ, Vt => bite (Nat.beq (sts.getD l 0) 3) (pickTo (fun L => (v (L + 1)).count) (fun L j => chkLN run (v (L + 1)) j (sts.set l (L + 4)) xs Γ Vt) (fun _ => false) 6 0 j) false
  | .same a b v n, j, sts, xs, Γ, Vt => bite (Nat.beq (sts.getD a 0) 3) (bite (Nat.beq (sts.getD b 0) 3)
      (pickTo (fun L => (v (L + 1)).count) (fun L j => chkLN run (v (L + 1)) j ((sts.set a (L + 4)).set b (L + 4)) xs Γ Vt) (fun j => chkLN run n j sts xs (⟨false, lenS xs a, lenS xs b, false⟩ :: Γ) Vt) 6 0 j) false) false
  | .sub i c y n, j, sts, xs, Γ, Vt => bite (Nat.blt j y.count) (chkLN run y j sts (xs.set i (.c c)) Γ Vt) (chkLN run n (Nat.sub j y.count) sts xs (⟨false, xs.getD i (.c 0), .c c, false⟩ :: Γ) Vt)
  | .cmp lt a b y n, j, sts, xs, Γ, Vt => bite (Nat.blt j y.count) (chkLN run y j sts xs (⟨lt, a xs, b xs, true⟩ :: Γ) Vt) (chkLN run n (Nat.sub j y.count) sts xs (⟨lt, a xs, b xs, false⟩ :: Γ) Vt)
  | .val bd f y n, j, sts, xs, Γ, Vt => match f xs with
    | some ps => bite (Nat.blt j y.count) (chkLN run y j sts xs Γ (⟨bd, ps, true⟩ :: Vt)) (chkLN run n (Nat.sub j y.count) sts xs Γ (⟨bd, ps, false⟩ :: Vt))
    | none => false

theorem countL_pos : ∀ t : LSp, 1 ≤ t.count := by
  intro t
  have six : ∀ f : Nat → Nat, (∀ L, 1 ≤ f L) → 1 ≤ sumTo f 6 := by
    intro f h
    have := h 5
    show 1 ≤ Nat.add _ (f 5)
    show 1 ≤ _ + f 5
    omega
  induction t with
  | leaf t => exact count_pos t
  | splitW l i w ihi ihw => show 1 ≤ i.count + w.count; omega
  | splitV l i v ihi ihv => show 1 ≤ i.count + _; omega
  | refine l v ihv => exact six _ (fun L => ihv (L + 1))
  | same a b v n ihv ihn => show 1 ≤ _ + n.count; omega
  | sub i c y n ihy ihn => show 1 ≤ y.count + n.count; omega
  | cmp lt a b y n ihy ihn => show 1 ≤ y.count + n.count; omega
  | val bd f y n ihy ihn => show 1 ≤ y.count + n.count; omega

theorem guard_true {b c : Bool} (h : bite b c false = true) : b = true ∧ c = true := by
  cases b with
  | true => exact ⟨rfl, h⟩
  | false => cases h

theorem chkLN_ok {runN : List Nat → List Sy → List Fact → List VEnt → Sp → Nat → Bool} {run : List Nat → List Sy → List Fact → List VEnt → Sp → Bool} (hr : ∀ sts xs Γ Vt t, (∀ j, j < t.count → runN sts xs Γ Vt t j = true) → run sts xs Γ Vt t = true) :
    ∀ (t : LSp) (sts : List Nat) (xs : List Sy) (Γ : List Fact) (Vt : List VEnt), (∀ j, j < t.count → chkLN runN t j sts xs Γ Vt = true) → chkL run t sts xs Γ Vt = true := by
  intro t
  induction t with
  | leaf t => intro sts xs Γ Vt h; exact hr _ _ _ _ _ h
  | splitW l i w ihi ihw =>
    intro sts xs Γ Vt h
    have h0 := (guard_true (h 0 (countL_pos _))).1
    obtain ⟨h1, h2⟩ := two_parts (a := i.count) (b := w.count) (p := fun j => chkLN runN i j (sts.set l 2) xs Γ Vt) (q := fun j => chkLN runN w j (sts.set l 3) xs Γ Vt) (fun j hj => (guard_true (h j hj)).2)
    simp only [chkL]
    rw [h0, ihi _ _ _ _ h1, ihw _ _ _ _ h2]; rfl
  | splitV l i v ihi ihv =>
    intro sts xs Γ Vt h
    have h0 := (guard_true (h 0 (countL_pos _))).1
    obtain ⟨h1, h2⟩ := two_parts (a := i.count) (b := sumTo (fun L => (v (L + 1)).count) 6) (p := fun j => chkLN runN i j (sts.set l 2) xs Γ Vt)
      (q := fun j => pickTo (fun L => (v (L + 1)).count) (fun L j => chkLN runN (v (L + 1)) j (sts.set l (L + 4)) xs Γ Vt) (fun _ => false) 6 0 j) (fun j hj => (guard_true (h j hj)).2)
    have h3 := (pickTo_ok (m := 0) 6 0 (fun j hj => h2 j (by simpa using hj))).1
    simp only [chkL]
    rw [h0, ihi _ _ _ _ h1, allTo_mk (fun L hL => ihv (L + 1) _ _ _ _ (fun j hj => by have := h3 L hL j (by rw [Nat.zero_add]; exact hj); rwa [Nat.zero_add] at this))]; rfl
  | refine l v ihv =>
    intro sts xs Γ Vt h
    have h0 := (guard_true (h 0 (countL_pos _))).1
    have h3 := (pickTo_ok (f := fun L => (v (L + 1)).count) (g := fun L j => chkLN runN (v (L + 1)) j (sts.set l (L + 4)) xs Γ Vt) (k := fun _ => false) (m := 0) 6 0 (fun j hj => (guard_true (h j (by have h5 : j < sumTo (fun L => (v (L + 1)).count) 6 := (by simpa using hj); exact h5))).2)).1
    simp only [chkL]
    rw [h0, allTo_mk (fun L hL => ihv (L + 1) _ _ _ _ (fun j hj => by have := h3 L hL j (by rw [Nat.zero_add]; exact hj); rwa [Nat.zero_add] at this))]; rfl
  | same a b v n ihv ihn =>
    intro sts xs Γ Vt h
    have h0 := guard_true (h 0 (countL_pos _))
    have h0' := (guard_true h0.2).1
    obtain ⟨h3, h4⟩ := pickTo_ok (f := fun L => (v (L + 1)).count) (g := fun L j => chkLN runN (v (L + 1)) j ((sts.set a (L + 4)).set b (L + 4)) xs Γ Vt) (k := fun j => chkLN runN n j sts xs (⟨false, lenS xs a, lenS xs b, false⟩ :: Γ) Vt) (m := n.count) 6 0
      (fun j hj => (guard_true (guard_true (h j (by have h5 : j < sumTo (fun L => (v (L + 1)).count) 6 + n.count := (by simpa using hj); exact h5))).2).2)
    simp only [chkL]
    rw [h0.1, h0', allTo_mk (fun L hL => ihv (L + 1) _ _ _ _ (fun j hj => by have := h3 L hL j (by rw [Nat.zero_add]; exact hj); rwa [Nat.zero_add] at this)), ihn _ _ _ _ h4]; rfl
  | sub i c y n ihy ihn =>
    intro sts xs Γ Vt h
    obtain ⟨h1, h2⟩ := two_parts (a := y.count) (b := n.count) (p := fun j => chkLN runN y j sts (xs.set i (.c c)) Γ Vt) (q := fun j => chkLN runN n j sts xs (⟨false, xs.getD i (.c 0), .c c, false⟩ :: Γ) Vt) h
    simp only [chkL]
    rw [ihy _ _ _ _ h1, ihn _ _ _ _ h2]; rfl
  | cmp lt a b y n ihy ihn =>
    intro sts xs Γ Vt h
    obtain ⟨h1, h2⟩ := two_parts (a := y.count) (b := n.count) (p := fun j => chkLN runN y j sts xs (⟨lt, a xs, b xs, true⟩ :: Γ) Vt) (q := fun j => chkLN runN n j sts xs (⟨lt, a xs, b xs, false⟩ :: Γ) Vt) h
    simp only [chkL]
    rw [ihy _ _ _ _ h1, ihn _ _ _ _ h2]; rfl
  | val bd f y n ihy ihn =>
    intro sts xs Γ Vt h
    have h0 := h 0 (countL_pos _)
    simp only [chkLN] at h0
    cases hf : f xs with
    | none => rw [hf] at h0; cases h0
    | some ps =>
      obtain ⟨h1, h2⟩ := two_parts (a := y.count) (b := n.count) (p := fun j => chkLN runN y j sts xs Γ (⟨bd, ps, true⟩ :: Vt)) (q := fun j => chkLN runN n j sts xs Γ (⟨bd, ps, false⟩ :: Vt)) (fun j hj => by
        have := h j hj
        simp only [chkLN, hf] at this
        exact this)
      simp only [chkL, hf]
      rw [ihy _ _ _ _ h1, ihn _ _ _ _ h2]; rfl

noncomputable def LawU.runN (P : Program) (D : Ids) (t : List Summ) (N : Nat) (l : LawU) (sts : List Nat) (xs : List Sy) (Γ : List Fact) (Vt : List VEnt) (sp : Sp) (j : Nat) : Bool :=
  chkN (runC P D t (bentsL sts l.bds 0) N l.k (l.shape sts) (Γ ++ l.facts sts)) sp j xs [] Vt
noncomputable def LawU.atN (P : Program) (D : Ids) (t : List Summ) (N : Nat) (l : LawU) (es : List Nat) (j : Nat) : Bool :=
  chkLN (l.runN P D t N) (l.tree es) j es l.xs [] []
/-- Some leaves, one after the other. -/
noncomputable def LawU.blk (P : Program) (D : Ids) (t : List Summ) (N : Nat) (l : LawU) (es : List Nat) (a n : Nat) : Bool := allTo (fun i => l.atN P D t N es (Nat.add a i)) n

theorem LawU.at_of {P : Program} {D : Ids} {t : List Summ} {N : Nat} {l : LawU} {es : List Nat} (h : ∀ j, j < (l.tree es).count → l.atN P D t N es j = true) : l.at P D t N es = true :=
  chkLN_ok (runN := l.runN P D t N) (fun sts xs Γ Vt sp h => chkN_ok sp _ _ _ h) (l.tree es) es l.xs [] [] h

theorem LawU.of_blk {P : Program} {D : Ids} {t : List Summ} {N : Nat} {l : LawU} {es : List Nat} {a n : Nat} (h : l.blk P D t N es a n = true) {j : Nat} (h1 : a ≤ j) (h2 : j < a + n) : l.atN P D t N es j = true := by
  have := allTo_ok h (j - a) (by omega)
  rwa [show Nat.add a (j - a) = j from by show a + (j - a) = j; omega] at this
end Go.Sx


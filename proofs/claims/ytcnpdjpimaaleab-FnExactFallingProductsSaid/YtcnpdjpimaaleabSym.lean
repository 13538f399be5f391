import Derived.Test.YtcnpdjpimaaleabMach
/-
  Numbers that are polynomials modulo two to the sixty-fourth, and runs of the machine over them.
-/
set_option linter.unusedVariables false
set_option linter.unusedSimpArgs false
/-
  NUMBERS THAT ARE POLYNOMIALS MODULO 2^64, and what is assumed of them.
-/
namespace Go.Sx

abbrev Poly := List (Nat × Nat)

/-! ## Congruence -/
def cg (a b : Int) : Prop := ∃ k : Int, a = b + k * 18446744073709551616
theorem cg.refl (a : Int) : cg a a := ⟨0, by omega⟩
theorem cg.symm {a b : Int} (h : cg a b) : cg b a := by obtain ⟨k, h⟩ := h; exact ⟨-k, by omega⟩
theorem cg.trans {a b c : Int} (h : cg a b) (h' : cg b c) : cg a c := by obtain ⟨k, h⟩ := h; obtain ⟨l, h'⟩ := h'; exact ⟨k + l, by omega⟩
theorem cg.add {a b c d : Int} (h : cg a b) (h' : cg c d) : cg (a + c) (b + d) := by obtain ⟨k, h⟩ := h; obtain ⟨l, h'⟩ := h'; exact ⟨k + l, by omega⟩
theorem cg.neg {a b : Int} (h : cg a b) : cg (-a) (-b) := by obtain ⟨k, h⟩ := h; exact ⟨-k, by omega⟩
theorem cg.mul {a b c d : Int} (h : cg a b) (h' : cg c d) : cg (a * c) (b * d) := by
  obtain ⟨k, h⟩ := h; obtain ⟨l, h'⟩ := h'
  subst h; subst h'
  exact ⟨b * l + k * d + k * l * 18446744073709551616, by grind⟩
theorem cg_wrap (a : Int) : cg (IntKind.i64.wrap a) a := by
  have h : (2 ^ IntKind.i64.bits : Int) = 18446744073709551616 := by decide
  have h2 : (2 ^ (IntKind.i64.bits - 1) : Int) = 9223372036854775808 := by decide
  have h3 : IntKind.i64.signed = true := by rfl
  simp only [IntKind.wrap, h, h2, h3, Bool.true_and]
  split
  · exact ⟨-(a / 18446744073709551616) - 1, by omega⟩
  · exact ⟨-(a / 18446744073709551616), by omega⟩
theorem wrap_cg {a b : Int} (h : cg a b) : IntKind.i64.wrap a = IntKind.i64.wrap b := by
  obtain ⟨k, h⟩ := h
  have h1 : (2 ^ IntKind.i64.bits : Int) = 18446744073709551616 := by decide
  have : a % 18446744073709551616 = b % 18446744073709551616 := by omega
  simp only [IntKind.wrap, h1, this]

/-! ## Monomials: the exponents of forty variables, a byte each -/
def evm (ρ : Nat → Int) : Nat → Nat → Nat → Int
  | 0, _, _ => 1
  | f + 1, i, k => ρ i ^ (k % 256) * evm ρ f (i + 1) (k / 256)

def lowMask : Nat → Nat
  | 0 => 0
  | f + 1 => 128 + 256 * lowMask f

theorem low_succ {k f : Nat} (h : k &&& lowMask (f + 1) = 0) : k % 256 < 128 ∧ (k / 256) &&& lowMask f = 0 := by
  have hb : ∀ i, (k.testBit i && (lowMask (f + 1)).testBit i) = false := by
    intro i; rw [← Nat.testBit_and, h, Nat.zero_testBit]
  constructor
  · have h7 := hb 7
    have : (lowMask (f + 1)).testBit 7 = true := by
      rw [Nat.testBit_eq_decide_div_mod_eq]; simp only [lowMask]; simp; omega
    rw [this, Bool.and_true, Nat.testBit_eq_decide_div_mod_eq] at h7
    have h7' : ¬ (k / 2 ^ 7 % 2 = 1) := by simpa using h7
    omega
  · apply Nat.eq_of_testBit_eq
    intro i
    rw [Nat.testBit_and, Nat.zero_testBit]
    have h8 := hb (i + 8)
    have e1 : (k / 256).testBit i = k.testBit (i + 8) := by
      rw [show (256 : Nat) = 2 ^ 8 by rfl, Nat.testBit_div_two_pow]
    have e2 : (lowMask f).testBit i = (lowMask (f + 1)).testBit (i + 8) := by
      have : lowMask f = lowMask (f + 1) / 2 ^ 8 := by simp only [lowMask]; omega
      rw [this, Nat.testBit_div_two_pow]
    rw [e1, e2]; exact h8

theorem evm_add (ρ : Nat → Int) : ∀ (f i k l : Nat), k &&& lowMask f = 0 → l &&& lowMask f = 0 → evm ρ f i (k + l) = evm ρ f i k * evm ρ f i l := by
  intro f
  induction f with
  | zero => intro i k l _ _; simp [evm]
  | succ f ih =>
    intro i k l hk hl
    obtain ⟨k1, k2⟩ := low_succ hk
    obtain ⟨l1, l2⟩ := low_succ hl
    simp only [evm]
    rw [show (k + l) % 256 = k % 256 + l % 256 by omega, show (k + l) / 256 = k / 256 + l / 256 by omega, ih _ _ _ k2 l2, Int.pow_add]
    grind

theorem evm_zero (ρ : Nat → Int) : ∀ (f i : Nat), evm ρ f i 0 = 1 := by
  intro f
  induction f with
  | zero => intro i; rfl
  | succ f ih => intro i; simp [evm, ih]

def mask : Nat := lowMask 40
def ev (ρ : Nat → Int) (k : Nat) : Int := evm ρ 40 0 k

/-! ## Polynomials -/
def peval (ρ : Nat → Int) : Poly → Int
  | [] => 0
  | (k, a) :: r => (a : Int) * ev ρ k + peval ρ r

/-- A term ahead of the rest, if it is none. -/
noncomputable def tcons (k a : Nat) (r : Poly) : Poly := bite (Nat.beq a 0) r ((k, a) :: r)

noncomputable def padd1 (k a : Nat) (rest : Poly → Poly) (q : Poly) : Poly :=
  @List.rec (Nat × Nat) (fun _ => Poly) ((k, a) :: rest []) (fun t q' ih =>
    bite (Nat.blt k t.1) ((k, a) :: rest (t :: q')) (bite (Nat.beq k t.1) (tcons k (Nat.mod (Nat.add a t.2) 18446744073709551616) (rest q')) (t :: ih))) q

noncomputable def padd (p : Poly) : Poly → Poly :=
  @List.rec (Nat × Nat) (fun _ => Poly → Poly) (fun q => q) (fun t _ ih q => padd1 t.1 t.2 ih q) p

noncomputable def pscale (k a : Nat) (q : Poly) : Poly :=
  @List.rec (Nat × Nat) (fun _ => Poly) [] (fun t _ ih => tcons (Nat.add k t.1) (Nat.mod (Nat.mul a t.2) 18446744073709551616) ih) q

noncomputable def pmul (p q : Poly) : Poly :=
  @List.rec (Nat × Nat) (fun _ => Poly) [] (fun t _ ih => padd (pscale t.1 t.2 q) ih) p

noncomputable def plow (p : Poly) : Bool :=
  @List.rec (Nat × Nat) (fun _ => Bool) true (fun t _ ih => bite (Nat.beq (Nat.land t.1 mask) 0) ih false) p

theorem beq_false_of_ne {a b : Nat} (h : a ≠ b) : Nat.beq a b = false := by
  cases hb : Nat.beq a b with
  | false => rfl
  | true => exact absurd (Nat.eq_of_beq_eq_true hb) h

theorem cg_mod (a : Nat) (x : Int) : cg (((a % 18446744073709551616 : Nat) : Int) * x) ((a : Int) * x) := by
  refine ⟨-((a / 18446744073709551616 : Nat) : Int) * x, ?_⟩
  have h : (a : Int) = ((a % 18446744073709551616 : Nat) : Int) + 18446744073709551616 * ((a / 18446744073709551616 : Nat) : Int) := by omega
  generalize ((a % 18446744073709551616 : Nat) : Int) = r at *
  generalize ((a / 18446744073709551616 : Nat) : Int) = d at *
  rw [h]; grind

theorem peval_tcons (ρ : Nat → Int) (k a : Nat) (r : Poly) : peval ρ (tcons k a r) = (a : Int) * ev ρ k + peval ρ r := by
  unfold tcons
  rw [bite_eq]
  split
  · rename_i h
    have : a = 0 := Nat.eq_of_beq_eq_true h
    subst this; simp
  · rfl

theorem peval_padd1 (ρ : Nat → Int) (k a : Nat) (rest : Poly → Poly) (P : Int) (hrest : ∀ q, cg (peval ρ (rest q)) (P + peval ρ q)) : ∀ q, cg (peval ρ (padd1 k a rest q)) ((a : Int) * ev ρ k + P + peval ρ q) := by
  intro q
  induction q with
  | nil =>
    show cg (peval ρ ((k, a) :: rest [])) _
    have := hrest []
    simp only [peval] at this ⊢
    have h := (cg.refl ((a : Int) * ev ρ k)).add this
    simpa [Int.add_assoc] using h
  | cons t q ih =>
    obtain ⟨k', a'⟩ := t
    show cg (peval ρ (bite (Nat.blt k k') ((k, a) :: rest ((k', a') :: q)) (bite (Nat.beq k k') (tcons k (Nat.mod (Nat.add a a') 18446744073709551616) (rest q)) ((k', a') :: padd1 k a rest q)))) _
    simp only [bite_eq]
    split
    · simp only [peval]
      have := hrest ((k', a') :: q)
      simp only [peval] at this
      have h := (cg.refl ((a : Int) * ev ρ k)).add this
      simpa [Int.add_assoc] using h
    · split
      · rename_i h
        have : k = k' := Nat.eq_of_beq_eq_true h
        subst this
        rw [peval_tcons]
        simp only [peval]
        have h1 := cg_mod (a + a') (ev ρ k)
        have h2 := h1.add (hrest q)
        have e : (((a + a' : Nat) : Int) * ev ρ k + (P + peval ρ q)) = (a : Int) * ev ρ k + P + ((a' : Int) * ev ρ k + peval ρ q) := by push_cast; grind
        rw [← e]; exact h2
      · simp only [peval]
        have h := (cg.refl ((a' : Int) * ev ρ k')).add ih
        have e : ((a' : Int) * ev ρ k' + ((a : Int) * ev ρ k + P + peval ρ q)) = (a : Int) * ev ρ k + P + ((a' : Int) * ev ρ k' + peval ρ q) := by omega
        rw [← e]; exact h

theorem peval_padd (ρ : Nat → Int) : ∀ p q, cg (peval ρ (padd p q)) (peval ρ p + peval ρ q) := by
  intro p
  induction p with
  | nil => intro q; show cg (peval ρ q) (0 + peval ρ q); rw [Int.zero_add]; exact cg.refl _
  | cons t p ih =>
    intro q
    obtain ⟨k, a⟩ := t
    show cg (peval ρ (padd1 k a (padd p) q)) _
    have := peval_padd1 ρ k a (padd p) (peval ρ p) ih q
    simpa only [peval] using this

theorem plow_cons {k a : Nat} {p : Poly} (h : plow ((k, a) :: p) = true) : k &&& mask = 0 ∧ plow p = true := by
  have h' : bite (Nat.beq (Nat.land k mask) 0) (plow p) false = true := h
  rw [bite_eq] at h'
  split at h'
  · rename_i hb; exact ⟨Nat.eq_of_beq_eq_true hb, h'⟩
  · cases h'

theorem peval_pscale (ρ : Nat → Int) {k a : Nat} (hk : k &&& mask = 0) : ∀ q, plow q = true → cg (peval ρ (pscale k a q)) ((a : Int) * ev ρ k * peval ρ q) := by
  intro q
  induction q with
  | nil => intro _; show cg 0 ((a : Int) * ev ρ k * 0); rw [Int.mul_zero]; exact cg.refl _
  | cons t q ih =>
    obtain ⟨k', a'⟩ := t
    intro h
    obtain ⟨h1, h2⟩ := plow_cons h
    show cg (peval ρ (tcons (Nat.add k k') (Nat.mod (Nat.mul a a') 18446744073709551616) (pscale k a q))) _
    rw [peval_tcons]
    have e1 : ev ρ (Nat.add k k') = ev ρ k * ev ρ k' := evm_add ρ 40 0 k k' hk h1
    rw [e1]
    have h3 := (cg_mod (a * a') (ev ρ k * ev ρ k')).add (ih h2)
    simp only [peval]
    have e2 : (((a * a' : Nat) : Int) * (ev ρ k * ev ρ k') + (a : Int) * ev ρ k * peval ρ q) = (a : Int) * ev ρ k * ((a' : Int) * ev ρ k' + peval ρ q) := by push_cast; grind
    rw [← e2]; exact h3

theorem peval_pmul (ρ : Nat → Int) : ∀ p q, plow p = true → plow q = true → cg (peval ρ (pmul p q)) (peval ρ p * peval ρ q) := by
  intro p
  induction p with
  | nil => intro q _ _; show cg 0 (0 * peval ρ q); rw [Int.zero_mul]; exact cg.refl _
  | cons t p ih =>
    obtain ⟨k, a⟩ := t
    intro q h hq
    obtain ⟨h1, h2⟩ := plow_cons h
    show cg (peval ρ (padd (pscale k a q) (pmul p q))) _
    refine (peval_padd ρ _ _).trans ?_
    have h3 := (peval_pscale ρ (a := a) h1 q hq).add (ih q h2 hq)
    simp only [peval]
    rw [Int.add_mul]; exact h3

/-! ## Symbols -/
inductive Sy where
  | c (n : Int)
  | p (l : Poly)

def Sy.den (ρ : Nat → Int) : Sy → Int
  | .c n => n
  | .p l => IntKind.i64.wrap (peval ρ l)

def Sy.poly : Sy → Poly
  | .c n => match n % 18446744073709551616 with
    | .ofNat 0 => []
    | .ofNat (k + 1) => [(0, k + 1)]
    | .negSucc _ => []
  | .p l => l

def mkSy : Poly → Sy
  | [] => .c 0
  | [(0, a)] => .c (IntKind.i64.wrap a)
  | l => .p l

theorem poly_den (ρ : Nat → Int) (s : Sy) : cg (peval ρ s.poly) (s.den ρ) := by
  cases s with
  | p l => exact (cg_wrap _).symm
  | c n =>
    simp only [Sy.poly, Sy.den]
    have hm : 0 ≤ n % 18446744073709551616 := Int.emod_nonneg _ (by decide)
    have hk : n = n % 18446744073709551616 + (n / 18446744073709551616) * 18446744073709551616 := by omega
    split
    · rename_i h; exact ⟨-(n / 18446744073709551616), by simp only [peval]; have : n % 18446744073709551616 = 0 := h; omega⟩
    · rename_i k h
      have h' : n % 18446744073709551616 = ((k + 1 : Nat) : Int) := h
      refine ⟨-(n / 18446744073709551616), ?_⟩
      simp only [peval, ev, evm_zero]
      omega
    · rename_i k h
      rw [h] at hm
      exact absurd hm (by simp [Int.negSucc_lt_zero])

theorem mkSy_den (ρ : Nat → Int) (l : Poly) : (mkSy l).den ρ = IntKind.i64.wrap (peval ρ l) := by
  unfold mkSy
  split
  · simp [Sy.den, peval]; rfl
  · simp [Sy.den, peval, ev, evm_zero]
  · rfl

structure Fact where
  lt : Bool
  a : Sy
  b : Sy
  q : Bool

def Fact.Ok (ρ : Nat → Int) (f : Fact) : Prop := (if f.lt then decide (f.a.den ρ < f.b.den ρ) else (f.a.den ρ == f.b.den ρ)) = f.q

def ieq : Int → Int → Bool
  | .ofNat a, .ofNat b => Nat.beq a b
  | .negSucc a, .negSucc b => Nat.beq a b
  | _, _ => false
def ilt : Int → Int → Bool
  | .ofNat a, .ofNat b => Nat.blt a b
  | .negSucc a, .negSucc b => Nat.blt b a
  | .negSucc _, .ofNat _ => true
  | .ofNat _, .negSucc _ => false

theorem ieq_eq (a b : Int) : ieq a b = (a == b) := by
  cases a <;> cases b <;> simp [ieq] <;> (rw [beq_dec] <;> try rfl) <;> (try (rw [Bool.eq_iff_iff]; simp; try omega))
theorem ilt_eq (a b : Int) : ilt a b = decide (a < b) := by
  cases a <;> cases b <;> rw [Bool.eq_iff_iff] <;> simp [ilt, Nat.blt_eq] <;> omega

noncomputable def peq (p : Poly) : Poly → Bool :=
  @List.rec (Nat × Nat) (fun _ => Poly → Bool) (fun q => @List.rec (Nat × Nat) (fun _ => Bool) true (fun _ _ _ => false) q)
    (fun t _ ih q => @List.rec (Nat × Nat) (fun _ => Bool) false (fun t' q' _ => bite (Nat.beq t.1 t'.1) (bite (Nat.beq t.2 t'.2) (ih q') false) false) q) p

theorem peq_eq : ∀ p q, peq p q = true → p = q := by
  intro p
  induction p with
  | nil => intro q h; cases q with
    | nil => rfl
    | cons t q => cases (show false = true from h)
  | cons t p ih =>
    intro q h
    cases q with
    | nil => cases (show false = true from h)
    | cons t' q =>
      have h' : bite (Nat.beq t.1 t'.1) (bite (Nat.beq t.2 t'.2) (peq p q) false) false = true := h
      simp only [bite_eq] at h'
      split at h'
      · rename_i h1
        split at h'
        · rename_i h2
          rw [ih q h', Prod.ext (Nat.eq_of_beq_eq_true h1) (Nat.eq_of_beq_eq_true h2)]
        · cases h'
      · cases h'

noncomputable def Sy.same : Sy → Sy → Bool
  | .c a, .c b => ieq a b
  | .p l, .p m => peq l m
  | _, _ => false

theorem Sy.same_eq {a b : Sy} (h : a.same b = true) : a = b := by
  cases a <;> cases b <;> simp only [Sy.same] at h
  · rw [ieq_eq] at h; have := eq_of_beq h; rw [this]
  · cases h
  · cases h
  · rw [peq_eq _ _ h]

noncomputable def findF (lt : Bool) (a b : Sy) : List Fact → Option Bool
  | [] => none
  | f :: r => bite (f.lt == lt) (bite (f.a.same a) (bite (f.b.same b) (some f.q) (findF lt a b r)) (findF lt a b r)) (findF lt a b r)

theorem findF_ok {ρ : Nat → Int} {lt : Bool} {a b : Sy} {q : Bool} : ∀ {Γ : List Fact}, (∀ f, f ∈ Γ → f.Ok ρ) → findF lt a b Γ = some q → Fact.Ok ρ ⟨lt, a, b, q⟩ := by
  intro Γ
  induction Γ with
  | nil => intro _ h; cases h
  | cons f r ih =>
    intro hok h
    have ih' := ih (fun g hg => hok g (by simp [hg]))
    simp only [findF, bite_eq] at h
    split at h
    · rename_i h1
      split at h
      · rename_i h2
        split at h
        · rename_i h3
          cases h
          have := hok f (by simp)
          obtain ⟨lt', a', b', q'⟩ := f
          simp only at h1 h2 h3
          have e1 : lt' = lt := eq_of_beq h1
          rw [← e1, ← Sy.same_eq h2, ← Sy.same_eq h3]
          exact this
        · exact ih' h
      · exact ih' h
    · exact ih' h

noncomputable def ltSy (Γ : List Fact) : Sy → Sy → Option Bool
  | .c a, .c b => some (ilt a b)
  | a, b => findF true a b Γ
noncomputable def eqSy (Γ : List Fact) : Sy → Sy → Option Bool
  | .c a, .c b => some (ieq a b)
  | a, b => bite (a.same b) (some true) (match findF false a b Γ with
    | some q => some q
    | none => findF false b a Γ)

theorem ltSy_ok {ρ : Nat → Int} {Γ : List Fact} (hΓ : ∀ f, f ∈ Γ → f.Ok ρ) {a b : Sy} {q : Bool} (h : ltSy Γ a b = some q) : decide (a.den ρ < b.den ρ) = q := by
  unfold ltSy at h
  split at h
  · cases h; rw [ilt_eq]; rfl
  · exact findF_ok hΓ h

theorem eqSy_ok {ρ : Nat → Int} {Γ : List Fact} (hΓ : ∀ f, f ∈ Γ → f.Ok ρ) {a b : Sy} {q : Bool} (h : eqSy Γ a b = some q) : (a.den ρ == b.den ρ) = q := by
  unfold eqSy at h
  split at h
  · cases h; simp only [Sy.den]; rw [ieq_eq]
  · rw [bite_eq] at h
    split at h
    · rename_i hs; cases h; rw [Sy.same_eq hs]; simp
    · split at h
      · rename_i q' hf
        cases h
        have := findF_ok hΓ hf
        simpa [Fact.Ok] using this
      · have := findF_ok hΓ h
        simp only [Fact.Ok, Bool.false_eq_true, if_false] at this
        rw [← this, Bool.eq_iff_iff]; simp; exact ⟨fun h => h.symm, fun h => h.symm⟩

noncomputable def symArith (op : BinOp) (k : IntKind) (x y : Sy) : Option Sy :=
  match x, y with
  | .c a, .c b => match aritOk op k a b with
    | some n => some (.c n)
    | none => none
  | x, y => match k with
    | .i64 => match op with
      | .add => some (mkSy (padd x.poly y.poly))
      | .sub => some (mkSy (padd x.poly (pscale 0 18446744073709551615 y.poly)))
      | .mul => bite (plow x.poly) (bite (plow y.poly) (some (mkSy (pmul x.poly y.poly))) none) none
      | _ => none
    | _ => none

noncomputable def symCmp (Γ : List Fact) (op : BinOp) (x y : Sy) : Option Bool :=
  match op with
  | .eql => eqSy Γ x y
  | .neq => (eqSy Γ x y).map not
  | .lss => ltSy Γ x y
  | .gtr => ltSy Γ y x
  | .leq => (ltSy Γ y x).map not
  | .geq => (ltSy Γ x y).map not
  | _ => none

noncomputable def symNum (Γ : List Fact) : Num Sy := ⟨.c, fun x => match x with | .c n => some n | .p _ => none, symArith, symCmp Γ⟩

theorem plow_zero (l : Poly) : True := trivial

theorem symNum_ok {ρ : Nat → Int} {Γ : List Fact} (hΓ : ∀ f, f ∈ Γ → f.Ok ρ) (s : Nat → List Int → ByteArray) : (symNum Γ).Ok ⟨Sy.den ρ, s⟩ := by
  refine ⟨fun n => rfl, fun x n h => ?_, fun op k x y z h => ?_, fun op x y q h => ?_⟩
  · cases x with
    | c m => simp only [symNum] at h; cases h; rfl
    | p l => simp [symNum] at h
  · simp only [symNum] at h
    unfold symArith at h
    split at h
    · split at h
      · rename_i n hn; cases h; simpa [Sy.den] using hn
      · cases h
    · split at h
      · split at h
        · cases h
          show some (IntKind.i64.wrap (x.den ρ + y.den ρ)) = some ((mkSy _).den ρ)
          rw [mkSy_den]
          exact congrArg some (wrap_cg (((peval_padd ρ _ _).trans ((poly_den ρ x).add (poly_den ρ y))).symm))
        · cases h
          show some (IntKind.i64.wrap (x.den ρ - y.den ρ)) = some ((mkSy _).den ρ)
          rw [mkSy_den]
          refine congrArg some (wrap_cg ?_)
          have h0 : ∀ l : Poly, cg (peval ρ (pscale 0 18446744073709551615 l)) (-(peval ρ l)) := by
            intro l
            induction l with
            | nil => exact cg.refl 0
            | cons t l ih =>
              obtain ⟨k', a'⟩ := t
              show cg (peval ρ (tcons (Nat.add 0 k') (Nat.mod (Nat.mul 18446744073709551615 a') 18446744073709551616) (pscale 0 18446744073709551615 l))) _
              rw [peval_tcons]
              simp only [peval]
              have h1 := (cg_mod (18446744073709551615 * a') (ev ρ k')).add ih
              have e0 : Nat.add 0 k' = k' := Nat.zero_add k'
              rw [e0]
              refine h1.trans ?_
              refine ⟨(a' : Int) * ev ρ k', ?_⟩
              have e1 : ((18446744073709551615 * a' : Nat) : Int) = 18446744073709551615 * (a' : Int) := by omega
              rw [e1]
              generalize ev ρ k' = e
              generalize (a' : Int) = a
              grind
          have h1 := (peval_padd ρ x.poly (pscale 0 18446744073709551615 y.poly)).trans ((poly_den ρ x).add ((h0 y.poly).trans (poly_den ρ y).neg))
          rw [← Int.sub_eq_add_neg] at h1
          exact h1.symm
        · simp only [bite_eq] at h
          split at h
          · rename_i h1
            split at h
            · rename_i h2
              cases h
              show some (IntKind.i64.wrap (x.den ρ * y.den ρ)) = some ((mkSy _).den ρ)
              rw [mkSy_den]
              exact congrArg some (wrap_cg (((peval_pmul ρ _ _ h1 h2).trans ((poly_den ρ x).mul (poly_den ρ y))).symm))
            · cases h
          · cases h
        · cases h
      · cases h
  · simp only [symNum] at h
    unfold symCmp at h
    have hnot : ∀ {o : Option Bool} {q : Bool}, o.map not = some q → o = some (!q) := by
      intro o q ho
      cases o with
      | none => cases ho
      | some b => simp at ho; subst ho; simp
    split at h
    · simp only [cmpOk]; rw [eqSy_ok hΓ h]
    · have := eqSy_ok hΓ (hnot h)
      simp only [cmpOk, bne, this, Bool.not_not]
    · simp only [cmpOk]; rw [ltSy_ok hΓ h]
    · simp only [cmpOk]; exact congrArg some (ltSy_ok hΓ h)
    · have := ltSy_ok hΓ (hnot h)
      simp only [cmpOk]
      refine congrArg some ?_
      cases q <;> simp at this ⊢ <;> omega
    · have := ltSy_ok hΓ (hnot h)
      simp only [cmpOk]
      refine congrArg some ?_
      cases q <;> simp at this ⊢ <;> omega
    · cases h

end Go.Sx

/-
  FROM A RUN OF THE MACHINE TO A CALL OF THE PROGRAM.
-/
namespace Go.Sx
open Go.RowKit

/-- The types of a program, as it tells them. -/
noncomputable def tiOf (P : Program) (t : TypeId) : Option Ti :=
  match P.underlying t, P.info? t with
  | some d, some i => match i.zero with
    | some z => some ⟨d, i.size, i.bytes, z⟩
    | none => none
  | _, _ => none

theorem tiOf_ok (P : Program) : TOk P (tiOf P) := by
  intro t ti h
  unfold tiOf at h
  split at h
  · rename_i d i h1 h2
    split at h
    · rename_i z h3
      cases h
      exact ⟨h1, i, h2, rfl, rfl, h3⟩
    · cases h
  · cases h

def noCountB (P : Program) : Bool := P.funcs.toList.all fun fn => !(fn.name == "runtime.NumGoroutine")

theorem noCount_of {P : Program} (h : noCountB P = true) : NoCount P := by
  intro k fn hk hn
  unfold noCountB at h
  rw [List.all_eq_true] at h
  have := h fn (List.mem_of_getElem? (i := k) (by simpa using hk))
  simp [hn] at this

/-- What is known of functions beside their own code. -/
structure Known (P : Program) (Δ : Den Sy) (Γ : List Fact) where
  K : FuncId → List (V Sy) → Sto Sy → Option (V Sy × Sto Sy)
  ok : ∀ B, COk P Δ B K

noncomputable def symRun (P : Program) (K : FuncId → List (V Sy) → Sto Sy → Option (V Sy × Sto Sy)) (Γ : List Fact) (n : Nat) (k : FuncId) (args : List (V Sy)) (sto : Sto Sy) : Option (V Sy × Sto Sy) :=
  acallN (symNum Γ) (tiOf P) P K (fun C nt ops st => adraw (symNum Γ) (tiOf P) C nt ops st) (fun _ _ => none) n k args sto

theorem symRun_ok {P : Program} (hG : NoCount P) (hm : P.follows .mixedOrders = true) {ρ : Nat → Int} {Γ : List Fact} (hΓ : ∀ f, f ∈ Γ → f.Ok ρ) {s : Nat → List Int → ByteArray} {B : Nat}
    {K : FuncId → List (V Sy) → Sto Sy → Option (V Sy × Sto Sy)} (hK : COk P ⟨Sy.den ρ, s⟩ B K) (n : Nat) : COk P ⟨Sy.den ρ, s⟩ B (symRun P K Γ n) :=
  acallN_sound (symNum_ok hΓ s) hG (tiOf_ok P) hK (fun C hC nt => adraw_sound (symNum_ok hΓ s) hG (tiOf_ok P) hm hC nt) n

def noK (_ : FuncId) (_ : List (V Sy)) (_ : Sto Sy) : Option (V Sy × Sto Sy) := none
theorem noK_ok {P : Program} {Δ : Den Sy} {B : Nat} : COk P Δ B noK := by intro k args sto r sto' h; cases h

def saysTrue : Option (V Sy × Sto Sy) → Bool
  | some (.bool true, _) => true
  | _ => false

theorem saysTrue_iff {o : Option (V Sy × Sto Sy)} (h : saysTrue o = true) : ∃ s, o = some (.bool true, s) := by
  unfold saysTrue at h
  split at h
  · exact ⟨_, rfl⟩
  · cases h

/-- A law that the machine finds true is true: nothing that was there before is turned. -/
theorem calls_true {P : Program} {Δ : Den Sy} {k : FuncId} {args : List (V Sy)} {rargs : Array Value} {w : World} {C : FuncId → List (V Sy) → Sto Sy → Option (V Sy × Sto Sy)}
    (hC : COk P Δ w.heap.size C) (hargs : VRs Δ w.heap.size ⟨w, fun _ => none⟩ args rargs.toList) (hrun : saysTrue (C k args ⟨0, [], 0⟩) = true) :
    Calls P k rargs w fun e w' => e = .returned (.bool true) ∧ Below w.heap.size w w' ∧ ∀ a, w'.frozen? a = w.frozen? a := by
  obtain ⟨s, hs⟩ := saysTrue_iff hrun
  have hinv : SInv Δ w.heap.size ⟨w, fun _ => none⟩ (⟨0, [], 0⟩ : Sto Sy) :=
    ⟨Nat.le_refl _, fun _ _ => rfl, fun o b n h => (by cases h), fun o x h => (by cases h), fun o o' x x' b n n' h => (by cases h), trivial⟩
  refine Calls.mono ((hC k args _ _ _ hs).1 ⟨w, fun _ => none⟩ rargs hinv hargs) ?_
  rintro e w' ⟨rv, c', rfl, rfl, h1, h2⟩
  cases h2
  exact ⟨rfl, h1.below, h1.frz⟩

/-- A variable. -/
def vx (i : Nat) : Sy := .p [(256 ^ i, 1)]

theorem evm_var (ρ : Nat → Int) : ∀ (f i j : Nat), j < f → evm ρ f i (256 ^ j) = ρ (i + j) := by
  intro f
  induction f with
  | zero => intro i j h; omega
  | succ f ih =>
    intro i j h
    simp only [evm]
    cases j with
    | zero =>
      have e1 : 256 ^ 0 % 256 = 1 := rfl
      have e2 : 256 ^ 0 / 256 = 0 := rfl
      rw [e1, e2, evm_zero, Int.mul_one, Nat.add_zero, Int.pow_succ, Int.pow_zero, Int.one_mul]
    | succ j =>
      have e1 : 256 ^ (j + 1) % 256 = 0 := by rw [Nat.pow_succ]; omega
      have e2 : 256 ^ (j + 1) / 256 = 256 ^ j := by rw [Nat.pow_succ]; omega
      rw [e1, e2, ih (i + 1) j (by omega)]
      simp [Nat.add_assoc, Nat.add_comm 1 j]

theorem vx_den (ρ : Nat → Int) (i : Nat) (hi : i < 40) (hw : IntKind.i64.wrap (ρ i) = ρ i) : (vx i).den ρ = ρ i := by
  simp only [vx, Sy.den, peval, ev, evm_var ρ 40 0 i hi]
  simpa using hw

theorem beq_false_of_ne' {a b : Int} (h : ¬ a = b) : (a == b) = false := by simp [h]

theorem wrap_of_wf {a : Int} (h : (Lit.int .i64 a).wf = true) : IntKind.i64.wrap a = a := by
  have h0 : IntKind.i64.min = -9223372036854775808 := by decide
  have h9 : IntKind.i64.max = 9223372036854775807 := by decide
  have h1 : (2 ^ IntKind.i64.bits : Int) = 18446744073709551616 := by decide
  have h2 : (2 ^ (IntKind.i64.bits - 1) : Int) = 9223372036854775808 := by decide
  have h3 : IntKind.i64.signed = true := by rfl
  simp only [Lit.wf, h0, h9, Bool.and_eq_true, decide_eq_true_eq] at h
  simp only [IntKind.wrap, h1, h2, h3, Bool.true_and]
  split <;> rename_i hh <;> simp at hh <;> omega

theorem Fact.lt_yes {ρ : Nat → Int} {a b : Sy} (h : a.den ρ < b.den ρ) : Fact.Ok ρ ⟨true, a, b, true⟩ := by
  show decide (a.den ρ < b.den ρ) = true; exact decide_eq_true h
theorem Fact.lt_no {ρ : Nat → Int} {a b : Sy} (h : ¬ a.den ρ < b.den ρ) : Fact.Ok ρ ⟨true, a, b, false⟩ := by
  show decide (a.den ρ < b.den ρ) = false; exact decide_eq_false h
theorem Fact.eq_yes {ρ : Nat → Int} {a b : Sy} (h : a.den ρ = b.den ρ) : Fact.Ok ρ ⟨false, a, b, true⟩ := by
  show (a.den ρ == b.den ρ) = true; rw [h]; exact beq_self_eq_true _
theorem Fact.eq_no {ρ : Nat → Int} {a b : Sy} (h : ¬ a.den ρ = b.den ρ) : Fact.Ok ρ ⟨false, a, b, false⟩ := by
  show (a.den ρ == b.den ρ) = false; exact beq_false_of_ne' h

end Go.Sx


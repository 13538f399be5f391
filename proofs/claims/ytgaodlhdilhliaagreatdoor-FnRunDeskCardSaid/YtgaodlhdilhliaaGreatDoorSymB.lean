/-
  Laws by runs of the machine, case by case.
-/
import Derived.Test.YtgaodlhdilhliaaGreatDoorSymA
import Derived.ProofKit
import Derived.OpenShut
import Derived.Lib.SmallJoins
set_option linter.unusedVariables false
set_option linter.unusedSimpArgs false
/-
  Cases: a tree of them, each leaf a run.
-/
namespace Go.Sx
open Go.RowKit

abbrev Ctr := FuncId → List (V Sy) → Sto Sy → Option (V Sy × Sto Sy)

/-- A run with contracts as a contract. -/
theorem run_goodK {P : Program} (hG : NoCount P) (hm : P.follows .mixedOrders = true) {K : Ctr} {s : Sms} (hK : ∀ (ρ : Nat → Int) (s : Sms) (B : Nat), COk P ⟨Sy.den ρ, s⟩ B K) (ρ' : Nat → Int) {n : Nat} {k : FuncId} {pat : List (V Sy)} {R : V Sy} {sto S : Sto Sy} (h : symRun P K [] n k pat sto = some (R, S)) (B' : Nat) :
    Good P ⟨Sy.den ρ', s⟩ B' k pat sto R S := (symRun_ok (ρ := ρ') (s := s) (B := B') hG hm (Γ := []) (by simp) (hK ρ' s B') n k pat _ R S h).1

/-- One contract, else another. -/
noncomputable def orK (K1 K2 : Ctr) : Ctr := fun k args sto => match K1 k args sto with
  | some r => some r
  | none => K2 k args sto
theorem orK_ok {P : Program} {Δ : Den Sy} {B : Nat} {K1 K2 : Ctr} (h1 : COk P Δ B K1) (h2 : COk P Δ B K2) : COk P Δ B (orK K1 K2) := by
  intro k args sto r sto' h
  unfold orK at h
  split at h
  · rename_i r' hr; cases h; exact h1 _ _ _ _ _ hr
  · exact h2 _ _ _ _ _ h

inductive Sp where
  | leaf
  | sub (i : Nat) (c : Int) (y n : Sp)
  | cmp (lt : Bool) (a b : List Sy → Sy) (y n : Sp)
  | rng (i : Nat) (lo : Int) (n : Nat) (f : Nat → Sp) (out : Sp)
  | val (bd : Int) (f : List Sy → Option (List Sy)) (y n : Sp)

noncomputable def allTo (f : Nat → Bool) : Nat → Bool
  | 0 => true
  | n + 1 => bite (allTo f n) (f n) false
theorem allTo_ok {f : Nat → Bool} : ∀ {n : Nat}, allTo f n = true → ∀ i, i < n → f i = true := by
  intro n
  induction n with
  | zero => intro _ i hi; omega
  | succ n ih =>
    intro h i hi
    simp only [allTo, bite_eq] at h
    split at h
    · rename_i h1
      by_cases hin : i = n
      · subst hin; exact h
      · exact ih h1 i (by omega)
    · cases h

noncomputable def chk (run : List Sy → List Fact → List VEnt → Bool) : Sp → List Sy → List Fact → List VEnt → Bool
  | .leaf, xs, Γ, Vt => run xs Γ Vt
  | .sub i c y n, xs, Γ, Vt => bite (chk run y (xs.set i (.c c)) Γ Vt) (chk run n xs (⟨false, xs.getD i (.c 0), .c c, false⟩ :: Γ) Vt) false
  | .cmp lt a b y n, xs, Γ, Vt => bite (chk run y xs (⟨lt, a xs, b xs, true⟩ :: Γ) Vt) (chk run n xs (⟨lt, a xs, b xs, false⟩ :: Γ) Vt) false
  | .rng i lo n f out, xs, Γ, Vt => bite (allTo (fun t => chk run (f t) (xs.set i (.c (lo + t))) Γ Vt) n)
      (bite (chk run out xs (⟨true, xs.getD i (.c 0), .c lo, true⟩ :: Γ) Vt) (chk run out xs (⟨true, xs.getD i (.c 0), .c lo, false⟩ :: ⟨true, .c (lo + n - 1), xs.getD i (.c 0), true⟩ :: Γ) Vt) false) false
  | .val bd f y n, xs, Γ, Vt => match f xs with
    | some ps => bite (chk run y xs (bndF bd ps ++ Γ) (⟨bd, ps, true⟩ :: Vt)) (chk run n xs Γ (⟨bd, ps, false⟩ :: Vt)) false
    | none => false

theorem map_set_den {ρ : Nat → Int} {zs : List Int} {xs : List Sy} (h : xs.map (Sy.den ρ) = zs) {i : Nat} {c : Int} (hc : (xs.getD i (.c 0)).den ρ = c) : (xs.set i (.c c)).map (Sy.den ρ) = zs := by
  rw [← h, List.map_set]
  apply List.ext_getElem?
  intro j
  rw [List.getElem?_set]
  by_cases hij : i = j
  · subst hij
    rw [if_pos rfl]
    by_cases hi : i < xs.length
    · have h2 : xs.getD i (.c 0) = xs[i] := by simp [List.getD, hi]
      rw [h2] at hc
      have h3 : (Sy.c c).den ρ = c := rfl
      simp [hi, hc, h3]
    · simp [hi]
  · rw [if_neg hij]

theorem chk_ok {ρ : Nat → Int} {zs : List Int} {G : Prop} {run : List Sy → List Fact → List VEnt → Bool}
    (hrun : ∀ xs Γ Vt, run xs Γ Vt = true → xs.map (Sy.den ρ) = zs → (∀ f, f ∈ Γ → f.Ok ρ) → (∀ e, e ∈ Vt → e.Ok ρ) → G) :
    ∀ (t : Sp) (xs : List Sy) (Γ : List Fact) (Vt : List VEnt), chk run t xs Γ Vt = true → xs.map (Sy.den ρ) = zs → (∀ f, f ∈ Γ → f.Ok ρ) → (∀ e, e ∈ Vt → e.Ok ρ) → G := by
  intro t
  have cons : ∀ {Γ : List Fact} {g : Fact}, g.Ok ρ → (∀ f, f ∈ Γ → f.Ok ρ) → ∀ f, f ∈ g :: Γ → f.Ok ρ := by
    intro Γ g hg h f hf
    rcases List.mem_cons.1 hf with rfl | hf
    · exact hg
    · exact h f hf
  have consV : ∀ {Vt : List VEnt} {g : VEnt}, g.Ok ρ → (∀ f, f ∈ Vt → f.Ok ρ) → ∀ f, f ∈ g :: Vt → f.Ok ρ := by
    intro Γ g hg h f hf
    rcases List.mem_cons.1 hf with rfl | hf
    · exact hg
    · exact h f hf
  induction t with
  | leaf => intro xs Γ Vt h hz hΓ hV; exact hrun xs Γ Vt h hz hΓ hV
  | sub i c y n ihy ihn =>
    intro xs Γ Vt h hz hΓ hV
    simp only [chk, bite_eq] at h
    split at h
    · rename_i h1
      by_cases hc : (xs.getD i (.c 0)).den ρ = c
      · exact ihy _ _ _ h1 (map_set_den hz hc) hΓ hV
      · exact ihn _ _ _ h hz (cons (Fact.eq_no hc) hΓ) hV
    · cases h
  | cmp lt a b y n ihy ihn =>
    intro xs Γ Vt h hz hΓ hV
    simp only [chk, bite_eq] at h
    split at h
    · rename_i h1
      cases lt with
      | true =>
        by_cases hc : (a xs).den ρ < (b xs).den ρ
        · exact ihy _ _ _ h1 hz (cons (Fact.lt_yes hc) hΓ) hV
        · exact ihn _ _ _ h hz (cons (Fact.lt_no hc) hΓ) hV
      | false =>
        by_cases hc : (a xs).den ρ = (b xs).den ρ
        · exact ihy _ _ _ h1 hz (cons (Fact.eq_yes hc) hΓ) hV
        · exact ihn _ _ _ h hz (cons (Fact.eq_no hc) hΓ) hV
    · cases h
  | rng i lo n f out ihf iho =>
    intro xs Γ Vt h hz hΓ hV
    simp only [chk, bite_eq] at h
    split at h
    · rename_i h1
      split at h
      · rename_i h2
        by_cases hlo : (xs.getD i (.c 0)).den ρ < lo
        · exact iho _ _ _ h2 hz (cons (Fact.lt_yes hlo) hΓ) hV
        · by_cases hhi : lo + n - 1 < (xs.getD i (.c 0)).den ρ
          · exact iho _ _ _ h hz (cons (Fact.lt_no hlo) (cons (Fact.lt_yes hhi) hΓ)) hV
          · have ht : ((xs.getD i (.c 0)).den ρ - lo).toNat < n := by omega
            have := allTo_ok h1 _ ht
            exact ihf _ _ _ _ this (map_set_den hz (by omega)) hΓ hV
      · cases h
    · cases h
  | val bd f y n ihy ihn =>
    intro xs Γ Vt h hz hΓ hV
    simp only [chk] at h
    split at h
    · rename_i ps hps
      rw [bite_eq] at h
      split at h
      · rename_i h1
        by_cases hc : validP bd (ps.map (Sy.den ρ))
        · exact ihy _ _ _ h1 hz (fun f hf => (List.mem_append.1 hf).elim (bndF_ok (decide_eq_true hc) f) (hΓ f)) (consV (decide_eq_true hc) hV)
        · exact ihn _ _ _ h hz hΓ (consV (decide_eq_false hc) hV)
      · cases h
    · cases h

/-- So many variables. -/
def vxs (n : Nat) : List Sy := (List.range n).map vx

theorem vxs_den {zs : List Int} (hn : zs.length ≤ 40) (hw : ∀ z, z ∈ zs → IntKind.i64.wrap z = z) : (vxs zs.length).map (Sy.den (fun i => zs.getD i 0)) = zs := by
  apply List.ext_getElem?
  intro i
  simp only [vxs, List.map_map, List.getElem?_map]
  by_cases hi : i < zs.length
  · rw [List.getElem?_range hi, List.getElem?_eq_getElem hi]
    have : zs.getD i 0 = zs[i] := by simp [List.getD, hi]
    simp only [Option.map_some, Function.comp, Option.some.injEq]
    rw [vx_den _ i (by omega) (by rw [this]; exact hw _ (List.getElem_mem hi)), this]
  · rw [List.getElem?_eq_none (l := List.range zs.length) (by rw [List.length_range]; omega), List.getElem?_eq_none (l := zs) (by omega)]; rfl
end Go.Sx

/-
  A test of lists, known by its runs.
-/
namespace Go.Sx
open Go.RowKit

def inF (bd : Int) (i : Nat) : List Fact := [⟨true, vx i, .c (-bd), false⟩, ⟨true, .c bd, vx i, false⟩]
def loF (bd : Int) (i : Nat) : List Fact := [⟨true, vx i, .c (-bd), true⟩, ⟨true, .c bd, vx i, false⟩]
def hiF (bd : Int) (i : Nat) : List Fact := [⟨true, vx i, .c (-bd), false⟩, ⟨true, .c bd, vx i, true⟩]
def inFs (bd : Int) : Nat → List Fact
  | 0 => []
  | n + 1 => inF bd n ++ inFs bd n

def isB (q : Bool) : Option (V Sy × Sto Sy) → Bool
  | some (.bool b, _) => b == q
  | _ => false
theorem isB_iff {q : Bool} {o : Option (V Sy × Sto Sy)} (h : isB q o = true) : ∃ s, o = some (.bool q, s) := by
  unfold isB at h
  split at h
  · rename_i b s; exact ⟨s, by rw [eq_of_beq h]⟩
  · cases h

noncomputable def validRuns (P : Program) (bd : Int) (N : Nat) (k : FuncId) (n : Nat) : Bool :=
  bite (isB true (symRun P noK (inFs bd n) N k [.slice (ints (vxs n))] ⟨0, [], 0⟩))
    (allTo (fun i => bite (isB false (symRun P noK (loF bd i ++ inFs bd i) N k [.slice (ints (vxs n))] ⟨0, [], 0⟩)) (isB false (symRun P noK (hiF bd i ++ inFs bd i) N k [.slice (ints (vxs n))] ⟨0, [], 0⟩)) false) n) false

theorem inFs_ok {ρ : Nat → Int} {bd : Int} : ∀ {n : Nat}, (∀ i, i < n → -bd ≤ (vx i).den ρ ∧ (vx i).den ρ ≤ bd) → ∀ f, f ∈ inFs bd n → f.Ok ρ := by
  intro n
  induction n with
  | zero => intro _ f hf; cases hf
  | succ n ih =>
    intro h f hf
    have h0 := h n (by omega)
    simp only [inFs, inF, List.cons_append, List.nil_append, List.mem_cons] at hf
    rcases hf with rfl | rfl | hf
    · exact Fact.lt_no (by simp only [Sy.den] at h0 ⊢; omega)
    · exact Fact.lt_no (by simp only [Sy.den] at h0 ⊢; omega)
    · exact ih (fun i hi => h i (by omega)) f hf

/-- A run at symbols, as data that stand for the numbers. -/
theorem run_nums {P : Program} (hG : NoCount P) (hm : P.follows .mixedOrders = true) {zs : List Int} (hn : zs.length ≤ 40) (hw : ∀ z, z ∈ zs → IntKind.i64.wrap z = z)
    {Γ : List Fact} (hΓ : ∀ f, f ∈ Γ → f.Ok (fun i => zs.getD i 0)) {N : Nat} {k : FuncId} {q : Bool} {S : Sto Sy}
    (h : symRun P noK Γ N k [.slice (ints (vxs zs.length))] ⟨0, [], 0⟩ = some (.bool q, S)) (ρ : Nat → Int) (s : Sms) (B : Nat) :
    Good P ⟨Sy.den ρ, s⟩ B k [.slice (ints (nums zs))] ⟨0, [], 0⟩ (.bool q) ⟨0, [], 0⟩ := by
  have hvx := vxs_den hn hw
  refine lift_plain (ρ' := fun i => zs.getD i 0) (R := .bool q) (S := S) (pat := [.slice (ints (vxs zs.length))]) (fun B' => (symRun_ok (ρ := fun i => zs.getD i 0) (s := s) (B := B') hG hm hΓ noK_ok N k _ _ _ _ h).1) (fun c hinv vs hv => ?_) rfl (.bool _)
  obtain ⟨v, rfl, hv2⟩ := hv.one
  refine .cons ?_ .nil
  refine AR.rel hinv (.slice ?_) hv2
  rw [hvx]; simp [nums, Sy.den, Function.comp_def]

theorem validRuns_ok {P : Program} (hG : NoCount P) (hm : P.follows .mixedOrders = true) {bd : Int} {N : Nat} {k : FuncId} {n : Nat} (h1 : 1 ≤ n) (h6 : n ≤ 6) (hbd : 0 ≤ bd) (h : validRuns P bd N k n = true)
    {zs : List Int} (hn : zs.length = n) (hw : ∀ z, z ∈ zs → IntKind.i64.wrap z = z) :
    ∃ S : Sto Sy, ∀ (ρ : Nat → Int) (s : Sms) (B : Nat), Good P ⟨Sy.den ρ, s⟩ B k [.slice (ints (nums zs))] ⟨0, [], 0⟩ (.bool (decide (validP bd zs))) S := by
  refine ⟨⟨0, [], 0⟩, fun ρ s B => ?_⟩
  simp only [validRuns, bite_eq] at h
  split at h
  · rename_i hin
    have hv : ∀ i (hi : i < zs.length), (vx i).den (fun i => zs.getD i 0) = zs[i] := by
      intro i hi
      have e : zs.getD i 0 = zs[i] := by simp [List.getD, hi]
      rw [vx_den _ i (by omega) (by rw [e]; exact hw _ (List.getElem_mem hi)), e]
    by_cases hall : ∀ z, z ∈ zs → -bd ≤ z ∧ z ≤ bd
    · rw [decide_eq_true (show validP bd zs from ⟨hall, by omega, by omega⟩)]
      obtain ⟨S, hS⟩ := isB_iff hin
      subst hn
      exact run_nums hG hm (by omega) hw (inFs_ok (fun i hi => by rw [hv i hi]; exact hall _ (List.getElem_mem hi))) hS ρ s B
    · rw [decide_eq_false (show ¬ validP bd zs from fun h => hall h.1)]
      -- the first number that is too great
      have first : ∀ m, m ≤ n → (∀ i (hi : i < zs.length), i < m → -bd ≤ zs[i] ∧ zs[i] ≤ bd) ∨ ∃ i, ∃ hi : i < zs.length, i < m ∧ ¬ (-bd ≤ zs[i] ∧ zs[i] ≤ bd) ∧ ∀ j (hj : j < zs.length), j < i → -bd ≤ zs[j] ∧ zs[j] ≤ bd := by
        intro m
        induction m with
        | zero => intro _; exact .inl (fun i hi h => by omega)
        | succ m ih =>
          intro hm'
          rcases ih (by omega) with h | ⟨i, hi, h1, h2, h3⟩
          · by_cases hok : -bd ≤ zs[m]'(by omega) ∧ zs[m]'(by omega) ≤ bd
            · refine .inl (fun i hi him => ?_)
              by_cases e : i = m
              · subst e; exact hok
              · exact h i hi (by omega)
            · exact .inr ⟨m, by omega, by omega, hok, fun j hj hjm => h j hj hjm⟩
          · exact .inr ⟨i, hi, by omega, h2, h3⟩
      rcases first n (Nat.le_refl _) with hh | ⟨i, hi, h1, h2, h3⟩
      · exact (hall (fun z hz => by obtain ⟨i, hi, rfl⟩ := List.mem_iff_getElem.1 hz; exact hh i hi (by omega))).elim
      · have h4 := allTo_ok h i (by omega)
        have hpre := inFs_ok (ρ := fun i => zs.getD i 0) (bd := bd) (n := i) (fun j hj => by rw [hv j (by omega)]; exact h3 j (by omega) hj)
        have hvi := hv i hi
        split at h4
        · rename_i h5
          by_cases hlo : zs[i] < -bd
          · obtain ⟨S, hS⟩ := isB_iff h5
            subst hn
            refine run_nums hG hm (by omega) hw (fun f hf => ?_) hS ρ s B
            simp only [loF, List.cons_append, List.nil_append, List.mem_cons] at hf
            rcases hf with rfl | rfl | hf
            · exact Fact.lt_yes (by rw [hvi]; exact hlo)
            · exact Fact.lt_no (by rw [hvi]; simp only [Sy.den]; omega)
            · exact hpre f hf
          · obtain ⟨S, hS⟩ := isB_iff h4
            subst hn
            refine run_nums hG hm (by omega) hw (fun f hf => ?_) hS ρ s B
            simp only [hiF, List.cons_append, List.nil_append, List.mem_cons] at hf
            rcases hf with rfl | rfl | hf
            · exact Fact.lt_no (by rw [hvi]; exact hlo)
            · exact Fact.lt_yes (by rw [hvi]; simp only [Sy.den]; omega)
            · exact hpre f hf
        · cases h4
  · cases h

/-- A test whose runs are right for 1 to 6 numbers, and that refuses none and more. -/
theorem valid_of_runs {P : Program} (hG : NoCount P) (hm : P.follows .mixedOrders = true) {bd : Int} (hbd : 0 ≤ bd) {N : Nat} {k : FuncId}
    (h : allTo (fun i => validRuns P bd N k (i + 1)) 6 = true) (h0 : isB false (symRun P noK [] N k [.slice (ints (nums []))] ⟨0, [], 0⟩) = true)
    (h7 : ∀ a b c d e f g r, isB false (symRun P noK [] N k [.slice (ints (nums (a :: b :: c :: d :: e :: f :: g :: r)))] ⟨0, [], 0⟩) = true)
    (zs : List Int) (hw : ∀ z, z ∈ zs → IntKind.i64.wrap z = z) : ∃ S : Sto Sy, ∀ (ρ : Nat → Int) (s : Sms) (B : Nat), Good P ⟨Sy.den ρ, s⟩ B k [.slice (ints (nums zs))] ⟨0, [], 0⟩ (.bool (decide (validP bd zs))) S := by
  by_cases hl0 : zs.length = 0
  · have : zs = [] := List.eq_nil_of_length_eq_zero hl0
    subst this
    obtain ⟨S, hS⟩ := isB_iff h0
    refine ⟨S, fun ρ s B => ?_⟩
    rw [decide_eq_false (show ¬ validP bd [] from fun h => by have := h.2.1; simp at this)]
    exact run_good hG hm ρ hS B
  · by_cases hl6 : zs.length ≤ 6
    · have := allTo_ok h (zs.length - 1) (by omega)
      rw [show zs.length - 1 + 1 = zs.length by omega] at this
      exact validRuns_ok hG hm (by omega) hl6 hbd this rfl hw
    · match zs, hl6 with
      | a :: b :: c :: d :: e :: f :: g :: r, _ =>
        obtain ⟨S, hS⟩ := isB_iff (h7 a b c d e f g r)
        refine ⟨S, fun ρ s B => ?_⟩
        rw [decide_eq_false (show ¬ validP bd _ from fun h => by have := h.2.2; simp at this)]
        exact run_good hG hm ρ hS B
      | [], h => simp at h
      | [a], h => simp at h
      | [a, b], h => simp at h
      | [a, b, c], h => simp at h
      | [a, b, c, d], h => simp at h
      | [a, b, c, d, e], h => simp at h
      | [a, b, c, d, e, f], h => simp at h

/-- A run by hand, over lists of any length. -/
theorem valid_of_hand {P : Program} (hG : NoCount P) (hm : P.follows .mixedOrders = true) {bd : Int} {k : FuncId} {zs : List Int} {n : Nat} {S : Sto Sy} (h : symRun P noK [] n k [.slice (ints (nums zs))] ⟨0, [], 0⟩ = some (.bool (decide (validP bd zs)), S)) :
    ∃ S : Sto Sy, ∀ (ρ : Nat → Int) (s : Sms) (B : Nat), Good P ⟨Sy.den ρ, s⟩ B k [.slice (ints (nums zs))] ⟨0, [], 0⟩ (.bool (decide (validP bd zs))) S := ⟨S, fun ρ s B => run_good hG hm ρ h B⟩
end Go.Sx

/-
  Is a number 1 or -1? The functions that ask it, as contracts.
-/
namespace Go.Sx
open Go.RowKit

theorem inv0 {I : Type} (Δ : Den I) (w : World) (hg : ∀ w', KeepC w.heap.size w w' → Δ.s.g w' := by intros; trivial) : SInv Δ w.heap.size ⟨w, fun _ => none⟩ (⟨0, [], 0⟩ : Sto I) :=
  ⟨Nat.le_refl _, fun _ _ => rfl, fun o b n h => (by cases h), fun o x h => (by cases h), fun o o' x x' b n n' h => (by cases h), trivial, hg⟩

theorem DR_plain2 {ρ' ρ : Nat → Int} {s s' : Sms} {B B' n : Nat} {c c' : Cx} {x y : V Sy} {v : Value} (h : y.plain = true) (hd : DR ρ' ρ n x y) (hv : VR ⟨Sy.den ρ', s'⟩ B' c' x v) : VR ⟨Sy.den ρ, s⟩ B c y v := by
  cases hd with
  | bool b => cases hv; exact .bool _
  | int k he => cases hv; exact VR_int' he
  | str b => cases hv; exact .str _
  | nil => cases hv; exact .nil
  | nilPtr => cases hv; exact .nilPtr
  | nilFunc => cases hv; exact .nilFunc
  | nilIface => cases hv; exact .nilIface
  | _ => simp [V.plain] at h

theorem lift_plain2 {P : Program} {ρ ρ' : Nat → Int} {s s' : Sms} {k : FuncId} {pat : List (V Sy)} {R : V Sy} {S : Sto Sy} (hG : ∀ B', Good P ⟨Sy.den ρ', s'⟩ B' k pat ⟨0, [], 0⟩ R S)
    {B : Nat} {args : List (V Sy)} {sto : Sto Sy} {y : V Sy}
    (hargs : ∀ (c : Cx), SInv ⟨Sy.den ρ, s⟩ B c sto → ∀ vs, VRs ⟨Sy.den ρ, s⟩ B c args vs → VRs ⟨Sy.den ρ', s'⟩ c.w.heap.size ⟨c.w, fun _ => none⟩ pat vs)
    (hp : y.plain = true) (hy : DR ρ' ρ sto.next R y) (hsg : ∀ w, s.g w → s'.g w := by intro _ h; exact h) :
    Good P ⟨Sy.den ρ, s⟩ B k args sto y sto := by
  intro c rargs hinv hra
  refine Calls.mono (hG c.w.heap.size ⟨c.w, fun _ => none⟩ rargs (inv0 _ c.w (fun w hw => hsg w (hinv.at0 w hw))) (hargs c hinv _ hra)) ?_
  rintro ev w' ⟨rv, c', rfl, rfl, hst, hv⟩
  have hbe : Below c.w.heap.size c.w c'.w := hst.below
  let c'' : Cx := ⟨c'.w, c.κ⟩
  have hle : Cx.le B c c'' := ⟨fun b hb => hbe.block b (Nat.lt_of_lt_of_le hb hinv.base), fun _ _ h => h, hst.oth⟩
  refine ⟨rv, c'', rfl, rfl, ⟨⟨Nat.le_trans hinv.base hbe.size, hinv.fresh, fun o b n hk => ?_, fun o x hx => ?_, hinv.inj, hinv.desc, fun w hb => hinv.g w ((hbe.mono hinv.base).keepC.trans hb)⟩, fun _ _ h => h,
    hbe.mono hinv.base, Nat.le_refl _, Nat.le_refl _, fun b hb _ => hbe.block b hb, fun o b n hk hn hb => ?_, fun o x hk hn => ?_, hst.frz, hst.oth⟩, DR_plain2 hp hy hv⟩
  · have := hinv.blk o b n hk
    exact ⟨this.1, Nat.lt_of_lt_of_le this.2 hbe.size⟩
  · obtain ⟨b, cur, el, e1, e2, e4⟩ := hinv.ob o x hx
    refine ⟨b, cur, el, e1, ?_, e4.mono hle⟩
    show c'.w.heap[b]? = _
    rw [hbe.block b (hinv.blk _ _ _ e1).2]; exact e2
  · rw [hn] at hk; cases hk
  · rw [hn] at hk; cases hk

theorem ints_intVs {ρ : Nat → Int} {s : Sms} {B : Nat} {c : Cx} {xs : List Sy} {zs : List Int} (hx : xs.map (Sy.den ρ) = zs) : VRs ⟨Sy.den ρ, s⟩ B c (ints xs) (intVs zs) := by
  subst hx
  refine ⟨by simp [intVs], fun i x v hx hv => ?_⟩
  rw [ints_get] at hx
  rw [intVs, List.map_map, List.getElem?_map] at hv
  cases hz : xs[i]? with
  | none => rw [hz] at hx; simp at hx
  | some z => rw [hz] at hx hv; simp at hx hv; subst hx; subst hv; exact .int _ _

/-- A list of numbers, under another reading. -/
theorem nums_to {ρ ρ' : Nat → Int} {s s' : Sms} {B B' : Nat} {c c' : Cx} {zs : List Int} {xs : List Sy} {v : Value} (hw : c'.w = c.w) (hB : B ≤ B') (hx : xs.map (Sy.den ρ') = zs) (h : VR ⟨Sy.den ρ, s⟩ B c (.slice (ints (nums zs))) v) :
    VR ⟨Sy.den ρ', s'⟩ B' c' (.slice (ints xs)) v := by
  have hl : (ints xs).length = (ints (nums zs)).length := by rw [← hx]; simp
  generalize hg : ints (nums zs) = ys at h
  cases h with
  | @slice _ b off cap us h1 h2 h3 h4 h5 =>
    subst hg
    have hus := intVs_of (ρ := ρ) (s := s) (B := B) (c := c) ⟨h1.symm, h5⟩
    subst hus
    have := VR.slice (Δ := ⟨Sy.den ρ', s'⟩) (B := B') (c := c') (xs := ints xs) (b := b) (off := off) (cap := cap) (intVs zs) (by rw [hl]; exact h1) (by rw [hl]; exact h2) (Nat.lt_of_lt_of_le h3 hB)
      (fun j u hj => by rw [hw]; exact h4 j u hj) (ints_intVs hx).2
    rwa [hl] at this
  | snil =>
    have h0 : (ints xs).length = 0 := by rw [hl, hg]; rfl
    have : ints xs = [] := List.eq_nil_of_length_eq_zero h0
    rw [this]; exact .snil

noncomputable def unitDec (Γ : List Fact) (Vt : List VEnt) : Sy → Option Bool
  | .c n => some (bite (ieq n 1) true (ieq n (-1)))
  | .p l => bite (inV 1 (.p l) Vt) (match eqSy Γ (.p l) (.c 0) with
      | some q => some (!q)
      | none => none) (match findV 1 [.p l] Vt with
      | some false => some false
      | _ => none)

theorem unitDec_ok {ρ : Nat → Int} {Γ : List Fact} {Vt : List VEnt} (hΓ : ∀ f, f ∈ Γ → f.Ok ρ) (hV : ∀ e, e ∈ Vt → e.Ok ρ) {x : Sy} {q : Bool} (h : unitDec Γ Vt x = some q) : decide (unit (x.den ρ)) = q := by
  cases x with
  | c n =>
    simp only [unitDec, bite_eq, ieq_eq] at h
    cases h
    simp only [Sy.den, unit]
    by_cases h1 : n = 1
    · simp [h1]
    · simp [h1]
      rw [Bool.eq_iff_iff]; simp
  | p l =>
    simp only [unitDec, bite_eq] at h
    split at h
    · rename_i h1
      have h2 := inV_ok hV h1
      split at h
      · rename_i b hb
        cases h
        have h3 := eqSy_ok hΓ hb
        have h4 : (Sy.c 0).den ρ = 0 := rfl
        rw [h4] at h3
        generalize (Sy.p l).den ρ = z at *
        cases b with
        | true => have : z = 0 := by simpa using h3
                  simp [unit, this]
        | false =>
          have h5 : z ≠ 0 := by simpa using h3
          obtain ⟨h6, h7⟩ := h2
          show decide (unit z) = true
          exact decide_eq_true (show z = 1 ∨ z = -1 by omega)
      · cases h
    · split at h
      · rename_i hf
        cases h
        have h3 := findV_ok hV hf
        simp only [List.map_cons, List.map_nil] at h3
        generalize (Sy.p l).den ρ = z at *
        refine decide_eq_false (fun hu => (of_decide_eq_false h3) ⟨fun y hy => ?_, by simp, by simp⟩)
        simp only [List.mem_cons, List.not_mem_nil, or_false] at hy
        subst hy
        rcases hu with hu | hu <;> omega
      · cases h

noncomputable def unitK (U : UIds) (Γ : List Fact) (Vt : List VEnt) : Ctr := fun k args sto =>
  match args with
  | [.int .i64 x] => bite (Nat.beq k U.isUnit) (bite x.fits (match unitDec Γ Vt x with
    | some q => some (.bool q, sto)
    | none => none) none) none
  | [f, g] => bite (Nat.beq k U.begins) (match sto.elems f, sto.elems g with
    | some xs, some ys => match numsOf xs, numsOf ys with
      | some ps, some [.c a, .c b] => bite (ieq a 1) (bite (ieq b (-1)) (bite (capOk f) (bite (capOk g) (bite (fitsL ps) (bite (Nat.ble ps.length 6) (match ps with
        | [] => none
        | p :: r => match vdec Vt 600 (p :: r) with
          | some false => some (.bool false, sto)
          | some true => match unitDec Γ Vt p with
            | some q => some (.bool q, sto)
            | none => none
          | none => none) none) none) none) none) none) none
      | _, _ => none
    | _, _ => none) none
  | _ => none

theorem unitK_ok {P : Program} {U : UIds} (hU : U.Ok P) {ρ : Nat → Int} {s : Sms} {B : Nat} {Γ : List Fact} {Vt : List VEnt} (hΓ : ∀ f, f ∈ Γ → f.Ok ρ) (hV : ∀ e, e ∈ Vt → e.Ok ρ) : COk P ⟨Sy.den ρ, s⟩ B (unitK U Γ Vt) := by
  intro k args sto r sto' h
  unfold unitK at h
  split at h
  · rename_i x
    simp only [bite_eq] at h
    split at h
    · rename_i hk
      have hk := Nat.eq_of_beq_eq_true hk
      subst hk
      split at h
      · rename_i hfit
        split at h
        · rename_i q hq
          cases h
          refine ⟨?_, hU.body _ (.inl rfl)⟩
          obtain ⟨S, hS⟩ := hU.isUnit (x.den ρ) (fits_wrap ρ hfit)
          rw [unitDec_ok hΓ hV hq] at hS
          refine lift_plain2 (ρ' := ρ) (s' := s) (hS ρ s) (fun c hinv vs hv => ?_) rfl (.bool _)
          obtain ⟨v, rfl, hv2⟩ := hv.one
          cases hv2
          exact .cons (VR_int' rfl) .nil
        · cases h
      · cases h
    · cases h
  · rename_i f g
    simp only [bite_eq] at h
    split at h
    · rename_i hk
      have hk := Nat.eq_of_beq_eq_true hk
      subst hk
      split at h
      · rename_i xs ys hxs hys
        split at h
        · rename_i ps a b hps hab
          have hps := numsOf_ints hps
          have hab := numsOf_ints hab
          subst hps
          subst hab
          split at h
          case isFalse => cases h
          rename_i c1
          split at h
          case isFalse => cases h
          rename_i c2
          split at h
          case isFalse => cases h
          rename_i hcf
          split at h
          case isFalse => cases h
          rename_i hcg
          split at h
          case isFalse => cases h
          rename_i hfit
          split at h
          case isFalse => cases h
          rename_i hlen
          rw [Nat.ble_eq] at hlen
          rw [ieq_eq] at c1 c2
          obtain rfl := eq_of_beq c1
          obtain rfl := eq_of_beq c2
          cases ps with
          | nil => cases h
          | cons p rest =>
            simp only at h
            have key : ∀ q : Bool, decide (validP 600 ((p :: rest).map (Sy.den ρ)) ∧ unit (p.den ρ)) = q → Good P ⟨Sy.den ρ, s⟩ B U.begins [f, g] sto (.bool q) sto := by
              intro q hq
              obtain ⟨S, hS⟩ := hU.begins (p.den ρ) (rest.map (Sy.den ρ)) (by simpa using hlen) (fun y hy => fitsL_wrap ρ hfit y (by simpa using hy))
              have hq' : decide (validP 600 (p.den ρ :: rest.map (Sy.den ρ)) ∧ unit (p.den ρ)) = q := hq
              rw [hq'] at hS
              refine lift_plain2 (ρ' := ρ) (s' := s) (hS ρ s) (fun c hinv vs hv => ?_) rfl (.bool _)
              obtain ⟨v, u, rfl, hv1, hv2⟩ := hv.two
              have e1 := (elems_data (ρ' := ρ) hinv hv1 hxs hcf).2 (by simp) (by omega)
              have e2 := (elems_data (ρ' := ρ) hinv hv2 hys hcg).2 (by simp) (by simp)
              exact .cons e1 (.cons e2 .nil)
            split at h
            · rename_i hvd
              cases h
              refine ⟨key false ?_, hU.body _ (.inr rfl)⟩
              have := of_decide_eq_false (vdec_ok hV (by decide) (fitsL_wrap ρ hfit) hvd)
              exact decide_eq_false (fun hh => this hh.1)
            · rename_i hvd
              split at h
              · rename_i q hq
                cases h
                refine ⟨key q ?_, hU.body _ (.inr rfl)⟩
                have h1 := of_decide_eq_true (vdec_ok hV (by decide) (fitsL_wrap ρ hfit) hvd)
                rw [← unitDec_ok hΓ hV hq]
                have h1' : validP 600 (p.den ρ :: rest.map (Sy.den ρ)) := h1
                simp [h1']
              · cases h
            · cases h
        · cases h
      · cases h
    · cases h
  · cases h

/-! ## By runs -/
theorem unit_of_runs {P : Program} (hG : NoCount P) (hm : P.follows .mixedOrders = true) {N : Nat} {k : FuncId} (h1 : isB true (symRun P noK [] N k [.int .i64 (.c 1)] ⟨0, [], 0⟩) = true) (h2 : isB true (symRun P noK [] N k [.int .i64 (.c (-1))] ⟨0, [], 0⟩) = true)
    (h3 : isB false (symRun P noK [⟨false, vx 0, .c 1, false⟩, ⟨false, vx 0, .c (-1), false⟩] N k [.int .i64 (vx 0)] ⟨0, [], 0⟩) = true) (z : Int) (hw : IntKind.i64.wrap z = z) :
    ∃ (S : Sto Sy), ∀ (ρ : Nat → Int) (s : Sms) (B : Nat), Good P ⟨Sy.den ρ, s⟩ B k [.int .i64 (.c z)] ⟨0, [], 0⟩ (.bool (decide (unit z))) S := by
  by_cases e1 : z = 1
  · subst e1
    obtain ⟨S, hS⟩ := isB_iff h1
    exact ⟨S, fun ρ s B => run_good hG hm ρ hS B⟩
  · by_cases e2 : z = -1
    · subst e2
      obtain ⟨S, hS⟩ := isB_iff h2
      exact ⟨S, fun ρ s B => run_good hG hm ρ hS B⟩
    · obtain ⟨S, hS⟩ := isB_iff h3
      refine ⟨⟨0, [], 0⟩, fun ρ s B => ?_⟩
      have hv : (vx 0).den (fun _ => z) = z := vx_den _ 0 (by decide) hw
      rw [decide_eq_false (show ¬ unit z from fun h => by rcases h with h | h <;> contradiction)]
      refine lift_plain2 (ρ' := fun _ => z) (s' := s) (R := .bool false) (S := S) (pat := [.int .i64 (vx 0)]) (fun B' => (symRun_ok (ρ := fun _ => z) (s := s) (B := B') hG hm (fun f hf => ?_) noK_ok N k _ _ _ _ hS).1) (fun c hinv vs hv2 => ?_) rfl (.bool _)
      · simp only [List.mem_cons, List.not_mem_nil, or_false] at hf
        rcases hf with rfl | rfl
        · exact Fact.eq_no (by rw [hv]; exact e1)
        · exact Fact.eq_no (by rw [hv]; exact e2)
      · obtain ⟨v, rfl, hv3⟩ := hv2.one
        cases hv3
        exact .cons (VR_int' hv) .nil

noncomputable def beginsRuns (P : Program) (D : Ids) (N : Nat) (k : FuncId) (n : Nat) : Bool :=
  bite (isB true (symRun P (bigK D [⟨600, (vxs n).set 0 (.c 1), true⟩] []) [] N k [.slice (ints ((vxs n).set 0 (.c 1))), .slice (ints (nums [1, -1]))] ⟨0, [], 0⟩))
    (bite (isB true (symRun P (bigK D [⟨600, (vxs n).set 0 (.c (-1)), true⟩] []) [] N k [.slice (ints ((vxs n).set 0 (.c (-1)))), .slice (ints (nums [1, -1]))] ⟨0, [], 0⟩))
      (bite (isB false (symRun P (bigK D [⟨600, vxs n, true⟩] []) [⟨false, vx 0, .c 1, false⟩, ⟨false, vx 0, .c (-1), false⟩] N k [.slice (ints (vxs n)), .slice (ints (nums [1, -1]))] ⟨0, [], 0⟩))
        (isB false (symRun P (bigK D [⟨600, vxs n, false⟩] []) [] N k [.slice (ints (vxs n)), .slice (ints (nums [1, -1]))] ⟨0, [], 0⟩)) false) false) false

def noL : Nat → List Int := fun _ => [0]
theorem wrap0 : IntKind.i64.wrap 0 = 0 := by decide

theorem begins_of_runs {P : Program} (hG : NoCount P) (hm : P.follows .mixedOrders = true) {D : Ids} (hD : D.Ok P) {N : Nat} {k : FuncId} (h : allTo (fun i => beginsRuns P D N k (i + 1)) 6 = true) (z : Int) (zs : List Int) (hl : (z :: zs).length ≤ 6)
    (hw : ∀ y, y ∈ z :: zs → IntKind.i64.wrap y = y) :
    ∃ (S : Sto Sy), ∀ (ρ : Nat → Int) (s : Sms) (B : Nat), Good P ⟨Sy.den ρ, s⟩ B k [.slice (ints (nums (z :: zs))), .slice (ints (nums [1, -1]))] ⟨0, [], 0⟩ (.bool (decide (validP 600 (z :: zs) ∧ unit z))) S := by
  refine ⟨⟨0, [], 0⟩, fun ρ s B => ?_⟩
  have h0 := allTo_ok h zs.length (by simp at hl; omega)
  rw [show zs.length + 1 = (z :: zs).length by simp] at h0
  have hvx := vxs_den (zs := z :: zs) (by omega) hw
  generalize hρ : (fun i => (z :: zs).getD i 0) = ρ' at hvx
  let s' : Sms := ⟨fun _ _ => ByteArray.empty, noL, s.g⟩
  have go : ∀ {Vt : List VEnt} {Γ : List Fact} {xs : List Sy} {q : Bool}, (∀ e, e ∈ Vt → e.Ok ρ') → (∀ f, f ∈ Γ → f.Ok ρ') → xs.map (Sy.den ρ') = z :: zs →
      isB q (symRun P (bigK D Vt []) Γ N k [.slice (ints xs), .slice (ints (nums [1, -1]))] ⟨0, [], 0⟩) = true → Good P ⟨Sy.den ρ, s⟩ B k [.slice (ints (nums (z :: zs))), .slice (ints (nums [1, -1]))] ⟨0, [], 0⟩ (.bool q) ⟨0, [], 0⟩ := by
    intro Vt Γ xs q hV hΓ hx hr
    obtain ⟨S, hS⟩ := isB_iff hr
    refine lift_plain2 (ρ' := ρ') (s' := s') (R := .bool q) (S := S) (pat := [.slice (ints xs), .slice (ints (nums [1, -1]))])
      (fun B' => (symRun_ok (ρ := ρ') (s := s') (B := B') hG hm hΓ (bigK_ok hG hm hD hV (by simp) (fun j => by simp [s', noL]) (fun j y hy => by simp [s', noL] at hy; subst hy; exact wrap0)) N k _ _ _ _ hS).1) (fun c hinv vs hv => ?_) rfl (.bool _)
    obtain ⟨v, u, rfl, hv1, hv2⟩ := hv.two
    exact .cons (nums_to (c := c) rfl hinv.base hx hv1) (.cons (nums_to (c := c) (zs := [1, -1]) rfl hinv.base (by simp [nums, Sy.den]) hv2) .nil)
  have hv0 : (vx 0).den ρ' = z := by
    have := congrArg (fun q => q[0]?) hvx
    simpa [vxs] using this
  have hx0 : ((vxs (z :: zs).length).getD 0 (.c 0)).den ρ' = z := by
    have : (vxs (z :: zs).length).getD 0 (.c 0) = vx 0 := by simp [vxs, List.getD]
    rw [this]; exact hv0
  unfold beginsRuns at h0
  obtain ⟨a1, h0⟩ : _ = true ∧ _ = true := by
    rw [bite_eq] at h0
    split at h0
    · rename_i h1; exact ⟨h1, h0⟩
    · cases h0
  obtain ⟨a2, h0⟩ : _ = true ∧ _ = true := by
    rw [bite_eq] at h0
    split at h0
    · rename_i h1; exact ⟨h1, h0⟩
    · cases h0
  obtain ⟨a3, a4⟩ : _ = true ∧ _ = true := by
    rw [bite_eq] at h0
    split at h0
    · rename_i h1; exact ⟨h1, h0⟩
    · cases h0
  by_cases hval : validP 600 (z :: zs)
  · by_cases e1 : z = 1
    · rw [decide_eq_true (show validP 600 (z :: zs) ∧ unit z from ⟨hval, .inl e1⟩)]
      have hx := map_set_den hvx (i := 0) (c := 1) (by rw [hx0]; exact e1)
      refine go (fun e he => ?_) (by simp) hx a1
      simp only [List.mem_cons, List.not_mem_nil, or_false] at he
      subst he
      unfold VEnt.Ok
      simp only [hx]
      exact decide_eq_true hval
    · by_cases e2 : z = -1
      · rw [decide_eq_true (show validP 600 (z :: zs) ∧ unit z from ⟨hval, .inr e2⟩)]
        have hx := map_set_den hvx (i := 0) (c := -1) (by rw [hx0]; exact e2)
        refine go (fun e he => ?_) (by simp) hx a2
        simp only [List.mem_cons, List.not_mem_nil, or_false] at he
        subst he
        unfold VEnt.Ok
        simp only [hx]
        exact decide_eq_true hval
      · rw [decide_eq_false (show ¬ (validP 600 (z :: zs) ∧ unit z) from fun h => by rcases h.2 with h | h <;> contradiction)]
        refine go (fun e he => ?_) (fun f hf => ?_) hvx a3
        · simp only [List.mem_cons, List.not_mem_nil, or_false] at he
          subst he
          unfold VEnt.Ok
          simp only [hvx]
          exact decide_eq_true hval
        · simp only [List.mem_cons, List.not_mem_nil, or_false] at hf
          rcases hf with rfl | rfl
          · exact Fact.eq_no (by rw [hv0]; exact e1)
          · exact Fact.eq_no (by rw [hv0]; exact e2)
  · rw [decide_eq_false (show ¬ (validP 600 (z :: zs) ∧ unit z) from fun h => hval h.1)]
    refine go (fun e he => ?_) (by simp) hvx a4
    simp only [List.mem_cons, List.not_mem_nil, or_false] at he
    subst he
    unfold VEnt.Ok
    simp only [hvx]
    exact decide_eq_false hval
end Go.Sx

/-
  Is a list a way to part things?
-/
namespace Go.Sx
open Go.RowKit

/-! ## By runs -/
end Go.Sx

/-
  Laws over lists: every list is empty, too long, valid, or none of these.
-/
namespace Go.Sx
open Go.RowKit

def LawTrue (P : Program) (k : FuncId) (rargs : Array Value) (w : World) : Prop := Calls P k rargs w fun e w' => e = .returned (.bool true) ∧ Below w.heap.size w w' ∧ ∀ a : Addr, a.block < w.heap.size → w'.frozen? a = w.frozen? a

/-- What a case is: the law's arguments, what is known of their numbers. -/
structure Shape where
  args : List Sy → List (V Sy)
  ents : List Sy → List VEnt

section
variable {P : Program} {D : Ids} {t : List Summ} {Vb : List BEnt} {N : Nat} {k : FuncId} {σ : Shape} {Γ0 : List Fact} {ρ : Nat → Int} {s : Sms} {w : World} {rargs : Array Value} {zs : List Int}

end

/-! ## Lists that are not looked into: 0 none, 1 no valid one, 2 a valid one -/
section
variable {ρ : Nat → Int} {s : Sms} {w : World}

end
end Go.Sx

/-
  Laws over some lists and some integers.
-/
namespace Go.Sx
open Go.RowKit

/-! ## Valid lists of one length -/
section
variable {ρ : Nat → Int} {s : Sms} {w : World}

end

/-! ## The law -/
end Go.Sx

/-
  Words for laws: trees, tests, lists among a row's arguments.
-/
namespace Go.Sx
open Go.ChangeShapes Go.WideShapes Go.ChangeAt Go.RowKit

/-- The numbers of the list that a run answers. -/
noncomputable def numsRun (P : Program) (t : List Summ) (N : Nat) (k : FuncId) (args : List (V Sy)) : Option (List Sy) :=
  match symRun P (summK t) [] N k args ⟨0, [], 0⟩ with
  | some (x, sto) => match sto.elems x with
    | some xs => numsOf xs
    | none => none
  | none => none

theorem trod_lt_block {H : Type} {enc : TypeId × Value → H} {P : Program} {t : TypeId} {b0 : Nat} {W : World} {sp : Nat → Bool} {hd : Bool} {v : Value} {d : DataW H} {p : List MemPlace}
    (h : DataW.Trod enc P W b0 sp hd t v d p) : ∀ x ∈ p, x.block < W.heap.size := by obtain ⟨m, hm⟩ := h; exact DataW.trod_lt m _ _ _ hm
end Go.Sx

/-
  Laws over lists and integers, their cases by a tree: a list is empty, not looked into, no valid one, a valid one, a valid one of a length.
-/
namespace Go.Sx
open Go.RowKit

/-! ## All numbers in a row: each list's length, its first six numbers; the integers -/
section
variable {ρ : Nat → Int} {s : Sms} {w : World}

end

/-! ## The tree -/
/-! ## The law -/
end Go.Sx

/-
  Words for laws: what is asked of sizes; pairs of lists among a row's arguments.
-/
namespace Go.Sx
open Go.ChangeShapes Go.WideShapes Go.ChangeAt Go.RowKit

theorem VRs.agg {I : Type} {Δ : Den I} {B : Nat} {c : Cx} {ll : List (V I)} {vs : List Value} (h : VRs Δ B c ll vs) : VR Δ B c (.agg ll) (.agg vs.toArray) :=
  .agg (by simpa using h.1) (fun i x v hx hv => h.2 i x v hx (by simpa using hv))

end Go.Sx

/-
  Trees for pairs.
-/
namespace Go.Sx

/-- A number that is to lie between two. -/
def between (i : Nat) (lo hi : Int) (M out : Sp) : Sp := .cmp true (fun xs => xs.getD i (.c 0)) (fun _ => .c lo) out (.cmp true (fun _ => .c hi) (fun xs => xs.getD i (.c 0)) out M)

/-- Numbers that are to lie within bounds, one after the other. -/
def rngs (bd : Int) (f : List Sy → Option (List Sy)) (ok bad : Sp) : Nat → Nat → Sp
  | _, 0 => ok
  | i, n + 1 => .cmp true (fun xs => ((f xs).getD []).getD i (.c 0)) (fun _ => .c (-bd)) bad (.cmp true (fun _ => .c bd) (fun xs => ((f xs).getD []).getD i (.c 0)) bad (rngs bd f ok bad (i + 1) n))

/-- A sum of products with integers. -/
noncomputable def linS (c : Nat → Int) : List Sy → Nat → Sy → Sy
  | [], _, a => a
  | y :: r, i, a => linS c r (i + 1) ((symArith .add .i64 a ((symArith .mul .i64 (.c (c i)) y).getD (.c 0))).getD (.c 0))

end Go.Sx

/-
  Trees, leaf by leaf.
-/
namespace Go.Sx
open Go.RowKit

noncomputable def sumTo (f : Nat → Nat) : Nat → Nat
  | 0 => 0
  | n + 1 => Nat.add (sumTo f n) (f n)

noncomputable def Sp.count : Sp → Nat
  | .leaf => 1
  | .sub _ _ y n => Nat.add y.count n.count
  | .cmp _ _ _ y n => Nat.add y.count n.count
  | .rng _ _ n f out => Nat.add (sumTo (fun t => (f t).count) n) (Nat.add out.count out.count)
  | .val _ _ y n => Nat.add y.count n.count

/-- Which of some parts, and where in it. -/
noncomputable def pickTo (f : Nat → Nat) (g : Nat → Nat → Bool) (k : Nat → Bool) : Nat → Nat → Nat → Bool
  | 0, _, i => k i
  | n + 1, t, i => bite (Nat.blt i (f t)) (g t i) (pickTo f g k n (Nat.add t 1) (Nat.sub i (f t)))

noncomputable def chkN (run : List Sy → List Fact → List VEnt → Bool) : Sp → Nat → List Sy → List Fact → List VEnt → Bool
  | .leaf, _, xs, Γ, Vt => run xs Γ Vt
  | .sub i c y n, j, xs, Γ, Vt => bite (Nat.blt j y.count) (chkN run y j (xs.set i (.c c)) Γ Vt) (chkN run n (Nat.sub j y.count) xs (⟨false, xs.getD i (.c 0), .c c, false⟩ :: Γ) Vt)
  | .cmp lt a b y n, j, xs, Γ, Vt => bite (Nat.blt j y.count) (chkN run y j xs (⟨lt, a xs, b xs, true⟩ :: Γ) Vt) (chkN run n (Nat.sub j y.count) xs (⟨lt, a xs, b xs, false⟩ :: Γ) Vt)
  | .rng i lo n f out, j, xs, Γ, Vt => pickTo (fun t => (f t).count) (fun t j => chkN run (f t) j (xs.set i (.c (lo + t))) Γ Vt)
      (fun j => bite (Nat.blt j out.count) (chkN run out j xs (⟨true, xs.getD i (.c 0), .c lo, true⟩ :: Γ) Vt)
        (chkN run out (Nat.sub j out.count) xs (⟨true, xs.getD i (.c 0), .c lo, false⟩ :: ⟨true, .c (lo + n - 1), xs.getD i (.c 0), true⟩ :: Γ) Vt)) n 0 j
  | .val bd f y n, j, xs, Γ, Vt => match f xs with
    | some ps => bite (Nat.blt j y.count) (chkN run y j xs (bndF bd ps ++ Γ) (⟨bd, ps, true⟩ :: Vt)) (chkN run n (Nat.sub j y.count) xs Γ (⟨bd, ps, false⟩ :: Vt))
    | none => false

theorem count_pos : ∀ t : Sp, 1 ≤ t.count := by
  intro t
  induction t with
  | leaf => exact Nat.le_refl _
  | sub i c y n ihy ihn => show 1 ≤ y.count + n.count; omega
  | cmp lt a b y n ihy ihn => show 1 ≤ y.count + n.count; omega
  | rng i lo n f out ihf iho => show 1 ≤ _ + (out.count + out.count); omega
  | val bd f y n ihy ihn => show 1 ≤ y.count + n.count; omega

/-- Two parts. -/
theorem two_parts {a b : Nat} {p q : Nat → Bool} (h : ∀ j, j < a + b → bite (Nat.blt j a) (p j) (q (Nat.sub j a)) = true) : (∀ j, j < a → p j = true) ∧ ∀ j, j < b → q j = true := by
  constructor
  · intro j hj
    have := h j (by omega)
    rw [bite_eq, if_pos (by rw [Nat.blt_eq]; exact hj)] at this
    exact this
  · intro j hj
    have := h (a + j) (by omega)
    rw [bite_eq, if_neg (by rw [Nat.blt_eq]; omega)] at this
    rwa [show Nat.sub (a + j) a = j from Nat.add_sub_cancel_left a j] at this

theorem sumTo_shift (f : Nat → Nat) : ∀ n t, sumTo (fun i => f (t + i)) (n + 1) = f t + sumTo (fun i => f (t + 1 + i)) n := by
  intro n
  induction n with
  | zero => intro t; show 0 + f t = f t + 0; omega
  | succ n ih =>
    intro t
    show sumTo (fun i => f (t + i)) (n + 1) + f (t + (n + 1)) = f t + (sumTo (fun i => f (t + 1 + i)) n + f (t + 1 + n))
    rw [ih t, show t + (n + 1) = t + 1 + n by omega]; omega

theorem pickTo_ok {f : Nat → Nat} {g : Nat → Nat → Bool} {k : Nat → Bool} {m : Nat} : ∀ (n t : Nat), (∀ j, j < sumTo (fun i => f (t + i)) n + m → pickTo f g k n t j = true) → (∀ i, i < n → ∀ j, j < f (t + i) → g (t + i) j = true) ∧ ∀ j, j < m → k j = true := by
  intro n
  induction n with
  | zero => intro t h; exact ⟨fun i hi => by omega, fun j hj => h j (by show j < 0 + m; omega)⟩
  | succ n ih =>
    intro t h
    rw [sumTo_shift] at h
    have h2 := two_parts (a := f t) (b := sumTo (fun i => f (t + 1 + i)) n + m) (p := g t) (q := pickTo f g k n (t + 1)) (fun j hj => h j (by omega))
    obtain ⟨h3, h4⟩ := ih (t + 1) h2.2
    refine ⟨fun i hi j hj => ?_, h4⟩
    cases i with
    | zero => exact h2.1 j hj
    | succ i =>
      have := h3 i (by omega) j (by rw [show t + 1 + i = t + (i + 1) by omega]; exact hj)
      rwa [show t + 1 + i = t + (i + 1) by omega] at this

theorem allTo_mk {f : Nat → Bool} : ∀ {n : Nat}, (∀ i, i < n → f i = true) → allTo f n = true := by
  intro n
  induction n with
  | zero => intro _; rfl
  | succ n ih =>
    intro h
    simp only [allTo, bite_eq]
    rw [if_pos (ih (fun i hi => h i (by omega)))]
    exact h n (by omega)

theorem chkN_ok {run : List Sy → List Fact → List VEnt → Bool} : ∀ (t : Sp) (xs : List Sy) (Γ : List Fact) (Vt : List VEnt), (∀ j, j < t.count → chkN run t j xs Γ Vt = true) → chk run t xs Γ Vt = true := by
  intro t
  induction t with
  | leaf => intro xs Γ Vt h; exact h 0 (Nat.le_refl _)
  | sub i c y n ihy ihn =>
    intro xs Γ Vt h
    obtain ⟨h1, h2⟩ := two_parts (a := y.count) (b := n.count) (p := fun j => chkN run y j (xs.set i (.c c)) Γ Vt) (q := fun j => chkN run n j xs (⟨false, xs.getD i (.c 0), .c c, false⟩ :: Γ) Vt) h
    simp only [chk, bite_eq]
    rw [if_pos (ihy _ _ _ h1)]
    exact ihn _ _ _ h2
  | cmp lt a b y n ihy ihn =>
    intro xs Γ Vt h
    obtain ⟨h1, h2⟩ := two_parts (a := y.count) (b := n.count) (p := fun j => chkN run y j xs (⟨lt, a xs, b xs, true⟩ :: Γ) Vt) (q := fun j => chkN run n j xs (⟨lt, a xs, b xs, false⟩ :: Γ) Vt) h
    simp only [chk, bite_eq]
    rw [if_pos (ihy _ _ _ h1)]
    exact ihn _ _ _ h2
  | rng i lo n f out ihf iho =>
    intro xs Γ Vt h
    have h' := pickTo_ok (f := fun t => (f t).count) (g := fun t j => chkN run (f t) j (xs.set i (.c (lo + t))) Γ Vt)
      (k := fun j => bite (Nat.blt j out.count) (chkN run out j xs (⟨true, xs.getD i (.c 0), .c lo, true⟩ :: Γ) Vt)
        (chkN run out (Nat.sub j out.count) xs (⟨true, xs.getD i (.c 0), .c lo, false⟩ :: ⟨true, .c (lo + n - 1), xs.getD i (.c 0), true⟩ :: Γ) Vt)) (m := out.count + out.count) n 0 (fun j hj => h j (by
          show j < sumTo (fun t => (f t).count) n + (out.count + out.count)
          simpa using hj))
    obtain ⟨h1, h2⟩ := h'
    obtain ⟨h3, h4⟩ := two_parts (a := out.count) (b := out.count) (p := fun j => chkN run out j xs (⟨true, xs.getD i (.c 0), .c lo, true⟩ :: Γ) Vt)
      (q := fun j => chkN run out j xs (⟨true, xs.getD i (.c 0), .c lo, false⟩ :: ⟨true, .c (lo + n - 1), xs.getD i (.c 0), true⟩ :: Γ) Vt) h2
    simp only [chk]
    rw [allTo_mk (fun t ht => ihf t _ _ _ (fun j hj => by have := h1 t ht j (by rw [Nat.zero_add]; exact hj); rwa [Nat.zero_add] at this))]
    rw [iho _ _ _ h3, iho _ _ _ h4]
    rfl
  | val bd f y n ihy ihn =>
    intro xs Γ Vt h
    have h0 := h 0 (count_pos _)
    simp only [chkN] at h0
    cases hf : f xs with
    | none => rw [hf] at h0; cases h0
    | some ps =>
      obtain ⟨h1, h2⟩ := two_parts (a := y.count) (b := n.count) (p := fun j => chkN run y j xs (bndF bd ps ++ Γ) (⟨bd, ps, true⟩ :: Vt)) (q := fun j => chkN run n j xs Γ (⟨bd, ps, false⟩ :: Vt)) (fun j hj => by
        have := h j hj
        simp only [chkN, hf] at this
        exact this)
      simp only [chk, hf, bite_eq]
      rw [if_pos (ihy _ _ _ h1)]
      exact ihn _ _ _ h2

/-! ## Trees of lists -/
end Go.Sx

/-
  Lists and integers that a function draws from bytes: what its run tells, as a contract.
-/
namespace Go.Sx
open Go.RowKit

section
variable {Δ Δ' : Den Sy} {B B' : Nat} {c c' : Cx} {ll ii ll' ii' : List (V Sy)}
end

/-- The cells of bytes. -/
def u8s (bs : List Int) : List (V Sy) := bs.map fun b => V.int .u8 (.c b)
@[simp] theorem u8s_length (bs : List Int) : (u8s bs).length = bs.length := List.length_map ..
@[simp] theorem u8s_get (bs : List Int) (i : Nat) : (u8s bs)[i]? = bs[i]?.map fun b => V.int .u8 (.c b) := List.getElem?_map ..
theorem u8s_take (bs : List Int) (n : Nat) : (u8s bs).take n = u8s (bs.take n) := by simp [u8s, List.map_take]

section
variable {ρ ρ' : Nat → Int} {s : Sms} {B : Nat} {c : Cx} {sto : Sto Sy} {j : Nat} {m : Sy} {v : Value}

theorem bys_data (hinv : SInv ⟨Sy.den ρ, s⟩ B c sto) (h : VR ⟨Sy.den ρ, s⟩ B c (.bys j m) v) : VR ⟨Sy.den ρ', s⟩ c.w.heap.size ⟨c.w, fun _ => none⟩ (.slice (u8s (bytesOf (s.s j [])))) v := by
  cases h with
  | @bys _ b off cap _ h0 h1 h2 h3 =>
    have hl : (u8s (bytesOf (s.s j []))).length = (bytesOf (s.s j [])).length := by simp
    have := VR.slice (Δ := ⟨Sy.den ρ', s⟩) (B := c.w.heap.size) (c := ⟨c.w, fun _ => none⟩) (xs := u8s (bytesOf (s.s j []))) (b := b) (off := off) (cap := cap) ((bytesOf (s.s j [])).map (Value.int .u8)) (by rw [hl]; simp) (by rw [hl]; exact h1) (Nat.lt_of_lt_of_le h2 hinv.base)
      (fun i u hu => by
        rw [List.getElem?_map, Option.map_eq_some_iff] at hu
        obtain ⟨z, hz, rfl⟩ := hu
        exact h3 i z hz) (fun i x u hx hu => by
        rw [u8s_get] at hx
        rw [List.getElem?_map] at hu
        cases hz : (bytesOf (s.s j []))[i]? with
        | none => rw [hz] at hx; simp at hx
        | some z => rw [hz] at hx hu; simp at hx hu; subst hx; subst hu; exact VR_int' rfl)
    rwa [hl] at this
  | bys0 h0 h1 =>
    have h1' : bytesOf (s.s j []) = [] := h1
    rw [h1']; exact .snil
end

/-- A list that a run has made. -/
structure Made (S : Sto Sy) (zs : List Int) (o : Nat) (v : V Sy) : Prop where
  val : v = .rsl o 0 zs.length none ∨ v = .rsl o 0 zs.length (some zs.length)
  obj : look S.obs o = some (ints (nums zs))

end Go.Sx

/-
  Laws over what a function draws from bytes.
-/
namespace Go.Sx
open Go.RowKit

/-- Bytes among a world's values. -/
def IsBytes (w : World) (bs : List Int) (v : Value) : Prop := (∀ b, b ∈ bs → 0 ≤ b ∧ b < 256) ∧ ∀ (ρ : Nat → Int) (s : Sms) (m : Sy), bytesOf (s.s 0 []) = bs → m.den ρ = (bs.length : Int) → VR ⟨Sy.den ρ, s⟩ w.heap.size ⟨w, fun _ => none⟩ (.bys 0 m) v

def toBytes (bs : List Int) : ByteArray := ⟨(bs.map fun b => UInt8.ofNat b.toNat).toArray⟩
theorem toBytes_of {bs : List Int} (h : ∀ b, b ∈ bs → 0 ≤ b ∧ b < 256) : bytesOf (toBytes bs) = bs := by
  unfold bytesOf toBytes
  simp only [List.map_map]
  induction bs with
  | nil => rfl
  | cons b r ih =>
    have hb := h b (by simp)
    simp only [List.map_cons]
    rw [ih (fun x hx => h x (by simp [hx]))]
    congr 1
    simp only [Function.comp, UInt8.toNat_ofNat']
    omega

/-- What is drawn need only be so for one of the places. -/
theorem IsBytes.of_slice {w : World} {bs : List Int} {v : Value} (h0 : ∀ b, b ∈ bs → 0 ≤ b ∧ b < 256) (h : (bs = [] ∧ v = .slice none 0 0) ∨ ∃ b off cap, v = .slice (some ⟨b, off, none⟩) bs.length cap ∧ bs.length ≤ cap ∧ b < w.heap.size ∧ ∀ (i : Nat) (n : Int), bs[i]? = some n → w.cell? ⟨b, off + i, none⟩ = some (.int .u8 n)) : IsBytes w bs v := by
  refine ⟨h0, fun ρ s m hs hm => ?_⟩
  rcases h with ⟨h1, rfl⟩ | ⟨b, off, cap, rfl, h1, h2, h3⟩
  · exact .bys0 (by show m.den ρ = 0; rw [hm, h1]; rfl) (by show bytesOf (s.s 0 []) = []; rw [hs, h1])
  · have := VR.bys (Δ := ⟨Sy.den ρ, s⟩) (B := w.heap.size) (c := ⟨w, fun _ => none⟩) (j := 0) (b := b) (off := off) (cap := cap) (m := m) (by show m.den ρ = _; rw [hm]; show _ = ((bytesOf (s.s 0 [])).length : Int); rw [hs]) (by show (bytesOf (s.s 0 [])).length ≤ cap; rw [hs]; exact h1) h2
      (fun i n hn => h3 i n (by have hn' : (bytesOf (s.s 0 []))[i]? = some n := hn; rw [hs] at hn'; exact hn'))
    have e : (bytesOf (({ d := Sy.den ρ, s := s } : Den Sy).s.s 0 [])) = bs := hs
    rw [e] at this
    exact this
end Go.Sx

/-
  Words for runs by hand of functions that draw numbers from bytes.
-/
namespace Go.Sx

theorem sym_sub (Γ : List Fact) (a b : Int) : (symNum Γ).arith .sub .i64 (.c a) (.c b) = some (.c (IntKind.i64.wrap (a - b))) := rfl
theorem sym_mul (Γ : List Fact) (a b : Int) : (symNum Γ).arith .mul .i64 (.c a) (.c b) = some (.c (IntKind.i64.wrap (a * b))) := rfl
theorem sym_rem (Γ : List Fact) (a b : Int) (h : b ≠ 0) : (symNum Γ).arith .rem .i64 (.c a) (.c b) = some (.c (a.tmod b)) := by
  have h0 : symArith .rem .i64 (.c a) (.c b) = some (.c (a.tmod b)) := by simp [symArith, aritOk, h]
  show (match symArith .rem .i64 (.c a) (.c b) with | some z => some z | none => symQuo Γ .rem .i64 (.c a) (.c b)) = _
  rw [h0]
theorem sym_quo (Γ : List Fact) (a b : Int) (h : b ≠ 0) : (symNum Γ).arith .quo .i64 (.c a) (.c b) = some (.c (IntKind.i64.wrap (a.tdiv b))) := by
  have h0 : symArith .quo .i64 (.c a) (.c b) = some (.c (IntKind.i64.wrap (a.tdiv b))) := by simp [symArith, aritOk, h]
  show (match symArith .quo .i64 (.c a) (.c b) with | some z => some z | none => symQuo Γ .quo .i64 (.c a) (.c b)) = _
  rw [h0]
theorem sym_xor (Γ : List Fact) (a b : Int) : (symNum Γ).arith .xor .i64 (.c a) (.c b) = some (.c (IntKind.i64.wrap ((BitVec.ofInt IntKind.i64.bits a ^^^ BitVec.ofInt IntKind.i64.bits b).toNat))) := rfl

@[simp] theorem noBc_two (a b : V Sy) : noBc [a, b] = [a, b] := by
  refine noBc_one (fun j h => ?_) (fun ks vs h => ?_) <;> simp at h

attribute [simp] lookC isMp_ints
@[simp] theorem isMp_nil : isMp ([] : List (V Sy)) = false := rfl
@[simp] theorem isMp_two (a b : V Sy) (r : List (V Sy)) : isMp (a :: b :: r) = false := by cases a <;> rfl
@[simp] theorem isMp_int (k : IntKind) (n : Sy) : isMp [.int k n] = false := rfl
@[simp] theorem isMp_rsl (o a b : Nat) (c : Option Nat) : isMp ([.rsl o a b c] : List (V Sy)) = false := rfl
@[simp] theorem isMp_ptr (o a : Nat) : isMp ([.ptr o a] : List (V Sy)) = false := rfl
@[simp] theorem isMp_str (s : ByteArray) : isMp ([.str s] : List (V Sy)) = false := rfl
@[simp] theorem isMp_sl (xs : List (V Sy)) : isMp ([.slice xs] : List (V Sy)) = false := rfl
@[simp] theorem isMp_vnil : isMp ([.nil] : List (V Sy)) = false := rfl

@[simp] theorem u8s_getElem (bs : List Int) (i : Nat) (h : i < (u8s bs).length) : (u8s bs)[i] = .int .u8 (.c (bs[i]'(by simpa using h))) := by simp [u8s]

theorem tmod_in {a n : Int} (h : 0 ≤ a) (hn : 1 ≤ n) : 0 ≤ a.tmod n ∧ a.tmod n < n := by
  rw [Int.tmod_eq_emod_of_nonneg h]
  exact ⟨Int.emod_nonneg _ (by omega), Int.emod_lt_of_pos _ (by omega)⟩
theorem tdiv_in {a n : Int} (h : 0 ≤ a) (hn : 1 ≤ n) : 0 ≤ a.tdiv n ∧ a.tdiv n ≤ a := by
  rw [Int.tdiv_eq_ediv_of_nonneg h]
  exact ⟨Int.ediv_nonneg h (by omega), Int.ediv_le_self _ h⟩

/-- Two numbers that are not negative, bit by bit. -/
theorem xor_in {a b : Int} (ha : 0 ≤ a) (ha2 : a < 1000000000) (hb : 0 ≤ b) (hb2 : b < 1000000000) : ∃ x : Int, IntKind.i64.wrap ((BitVec.ofInt IntKind.i64.bits a ^^^ BitVec.ofInt IntKind.i64.bits b).toNat) = x ∧ 0 ≤ x ∧ x < 4000000000 := by
  obtain ⟨n, rfl⟩ := Int.eq_ofNat_of_zero_le ha
  obtain ⟨m, rfl⟩ := Int.eq_ofNat_of_zero_le hb
  have h1 : (BitVec.ofInt IntKind.i64.bits (n : Int) ^^^ BitVec.ofInt IntKind.i64.bits (m : Int)).toNat = n ^^^ m := by
    rw [BitVec.toNat_xor]
    have e : ∀ k : Nat, k < 1000000000 → (BitVec.ofInt IntKind.i64.bits (k : Int)).toNat = k := by
      intro k hk
      rw [BitVec.toNat_ofInt]
      have : (2 ^ IntKind.i64.bits : Nat) = 18446744073709551616 := by decide
      rw [this]
      omega
    rw [e n (by omega), e m (by omega)]
  rw [h1]
  have h2 : n ^^^ m < 2 ^ 30 := Nat.xor_lt_two_pow (by omega) (by omega)
  exact ⟨_, wrap_in (by omega) (by omega), by omega, by omega⟩

/-- A reader of bytes. -/
structure Rd (bs : List Int) (o : Nat) (p : Int) (sto : Sto Sy) : Prop where
  obj : look sto.obs o = some [.slice (u8s bs), .int .i64 (.c p)]
  desc : Desc sto.next sto.obs
  p0 : 0 ≤ p

/-- From one store on to a later one: the reader has gone on; what else was there stands; low: the reader has been written. -/
structure Nx (bs : List Int) (o : Nat) (p q : Int) (sto sto' : Sto Sy) : Prop where
  rd : ∃ p', p ≤ p' ∧ p' ≤ q ∧ Rd bs o p' sto'
  next : sto.next ≤ sto'.next
  low : sto'.low ≤ o
  keep : ∀ k x, k ≠ o → look sto.obs k = some x → look sto'.obs k = some x

theorem look_put_ne {α : Type} {l : List (Nat × α)} {o k : Nat} {y : α} (h : k ≠ o) : look (put l o y) k = look l k := by
  induction l with
  | nil => rfl
  | cons p r ih =>
    obtain ⟨i, z⟩ := p
    simp only [put, beq_dec]
    by_cases hk : i = o
    · subst hk
      simp only [decide_true, if_true]
      rw [look_cons, look_cons, if_neg (fun e => h e.symm), if_neg (fun e => h e.symm)]
    · simp only [hk, decide_false, Bool.false_eq_true, if_false, look_cons, ih]

theorem Rd.lt {bs : List Int} {o : Nat} {p : Int} {sto : Sto Sy} (h : Rd bs o p sto) : o < sto.next := h.desc.look_lt h.obj

/-- Nothing is cut off behind a call that has written something older. -/
theorem trim_low {n0 : Nat} {r : V Sy} {sto : Sto Sy} (h : sto.low < n0) : Sto.trim n0 r sto = sto := by
  unfold Sto.trim
  rw [if_pos (by rw [Nat.blt_eq]; exact h)]

/-- One reading. -/
theorem Rd.picked {bs : List Int} {o : Nat} {p : Int} {sto : Sto Sy} (h : Rd bs o p sto) : Nx bs o p (p + 1) sto ⟨sto.next, put sto.obs o [.slice (u8s bs), .int .i64 (.c (p + 1))], if o < sto.low then o else sto.low⟩ :=
  ⟨⟨p + 1, by omega, by omega, look_put_self h.obj, h.desc.put _ _, by have := h.p0; omega⟩, Nat.le_refl _, by simp only; split <;> omega, fun k x hk hx => by rw [look_put_ne hk]; exact hx⟩
end Go.Sx

/-
  Bytes among a row's arguments.
-/
namespace Go.Sx
open Go.ChangeShapes Go.WideShapes Go.ChangeAt Go.RowKit

theorem u8_of_wf {z : Int} (h : (Lit.int .u8 z).wf = true) : 0 ≤ z ∧ z < 256 := by
  have h1 : IntKind.u8.min = 0 := by decide
  have h2 : IntKind.u8.max = 255 := by decide
  simp only [Lit.wf, Bool.and_eq_true, decide_eq_true_eq, h1, h2] at h
  omega

theorem open_bytes {H : Type} {enc : TypeId × Value → H} {P : Program} {t e : TypeId} {r : Reach} {base b0 : Nat} {W : World} {sp : Nat → Bool} {hd : Bool} {v : Value} {d : DataW H} {p : List MemPlace}
    (ht : P.underlying t = some (.slice e)) (he : P.underlying e = some (.int .u8)) (hc : P.cellsOf e = 1) (hval : Value.okWide P W r base t v) (h : DataW.Trod enc P W b0 sp hd t v d p) :
    ∃ bs : List Int, IsBytes W bs v ∧ bs.length ≤ 9223372036854775807 := by
  obtain ⟨a, len, cap, rfl⟩ := okWide_slice ht hval
  obtain ⟨fuel, hf⟩ := h
  rcases open_ints ht he hc hf with ⟨hcs, _⟩ | ⟨x, l, c, zs, hcs, _, hl, hm, hz, _, hcell, hwz⟩
  · simp [Value.cells] at hcs
    obtain ⟨rfl, rfl, rfl⟩ := hcs
    exact ⟨[], IsBytes.of_slice (by simp) (.inl ⟨rfl, rfl⟩), by simp⟩
  · simp [Value.cells] at hcs
    obtain ⟨rfl, rfl, rfl⟩ := hcs
    obtain ⟨hs, hb⟩ := has_plain ht hval
    obtain ⟨b, off, spot⟩ := x
    simp only at hs hb
    subst hs
    have hlz : len ≤ zs.length := by rw [hz]; split <;> omega
    have hlen : (zs.take len).length = len := by simp [List.length_take]; omega
    refine ⟨zs.take len, IsBytes.of_slice (fun z hz => u8_of_wf (hwz z (List.mem_of_mem_take hz))) (.inr ⟨b, off, cap, ?_, ?_, hb, fun j z hz => ?_⟩), ?_⟩
    · rw [hlen]
    · rw [hlen]; exact hl
    · have hj' : j < len := by have := (List.getElem?_eq_some_iff.1 hz).1; omega
      rw [List.getElem?_take, if_pos hj'] at hz
      have := hcell j (by omega)
      rw [add_plain] at this
      rw [this]
      simp [List.getD, hz]
    · have hm : IntKind.i64.max = 9223372036854775807 := by decide
      simp only [Value.okWide, ht, Cell.okWide, Cell.ok] at hval
      obtain ⟨q1, q2, _⟩ := hval
      rw [hm] at q2
      rw [hlen]
      omega
end Go.Sx

/-
  What functions that draw from bytes leave behind: a reader that has gone on, lists that are made.
-/
namespace Go.Sx

/-- A reader of bytes that has read at most P of them. -/
def Rdy (bs : List Int) (o : Nat) (P : Int) (sto : Sto Sy) : Prop := ∃ p, p ≤ P ∧ Rd bs o p sto

theorem Rdy.lows {bs : List Int} {o : Nat} {P : Int} {sto : Sto Sy} (h : Rdy bs o P sto) (l : Nat) : Rdy bs o P ⟨sto.next, sto.obs, l⟩ := by
  obtain ⟨p, h1, h2⟩ := h
  exact ⟨p, h1, h2.obj, h2.desc, h2.p0⟩
theorem Rdy.lt {bs : List Int} {o : Nat} {P : Int} {sto : Sto Sy} (h : Rdy bs o P sto) : o < sto.next := h.elim fun p h => h.2.lt
theorem Rdy.desc {bs : List Int} {o : Nat} {P : Int} {sto : Sto Sy} (h : Rdy bs o P sto) : Desc sto.next sto.obs := h.elim fun p h => h.2.desc
theorem Rdy.mono {bs : List Int} {o : Nat} {P Q : Int} {sto : Sto Sy} (h : Rdy bs o P sto) (hq : P ≤ Q) : Rdy bs o Q sto := h.elim fun p h => ⟨p, Int.le_trans h.1 hq, h.2⟩
theorem Rdy.new {bs : List Int} {o : Nat} {P : Int} {sto : Sto Sy} (h : Rdy bs o P sto) (cs : List (V Sy)) : Rdy bs o P (sto.new cs) := by
  obtain ⟨p, h1, h2⟩ := h
  refine ⟨p, h1, ?_, ⟨Nat.lt_succ_self _, h2.desc⟩, h2.p0⟩
  show look ((sto.next, noBc cs) :: sto.obs) o = _
  rw [look_cons, if_neg (by have := h2.lt; omega)]
  exact h2.obj

/-- From one store on to a later one: the reader has gone on; what else was there stands, some objects apart; low: the reader has been written. -/
structure Nw (bs : List Int) (o : Nat) (P : Int) (ex : List Nat) (sto sto' : Sto Sy) : Prop where
  rd : Rdy bs o P sto'
  next : sto.next ≤ sto'.next
  low : sto'.low ≤ o
  keep : ∀ k x, k ≠ o → k ∉ ex → look sto.obs k = some x → look sto'.obs k = some x

theorem Nw.call {bs : List Int} {o : Nat} {P : Int} {ex : List Nat} {sto s1 : Sto Sy} (h : Nw bs o P ex ⟨sto.next, sto.obs, sto.next⟩ s1) : Nw bs o P ex sto ⟨s1.next, s1.obs, if s1.low < sto.low then s1.low else sto.low⟩ := by
  refine ⟨h.rd.lows _, h.next, ?_, h.keep⟩
  have := h.low
  simp only
  split <;> omega
theorem Nw.enter {bs : List Int} {o : Nat} {P : Int} {ex : List Nat} {sto s1 : Sto Sy} (h : Nw bs o P ex sto s1) (l : Nat) : Nw bs o P ex ⟨sto.next, sto.obs, l⟩ s1 := ⟨h.rd, h.next, h.low, h.keep⟩
theorem Nw.more {bs : List Int} {o : Nat} {P Q : Int} {ex : List Nat} {a b : Sto Sy} (h : Nw bs o P ex a b) (hq : P ≤ Q) : Nw bs o Q ex a b := ⟨h.rd.mono hq, h.next, h.low, h.keep⟩
theorem Nw.trans {bs : List Int} {o : Nat} {P Q : Int} {ex ex' : List Nat} {a b c : Sto Sy} (ha : Desc a.next a.obs) (h1 : Nw bs o P ex a b) (h2 : Nw bs o Q ex' b c) (he : ∀ k, k ∈ ex' → k ∈ ex ∨ a.next ≤ k) : Nw bs o Q ex a c :=
  ⟨h2.rd, Nat.le_trans h1.next h2.next, h2.low, fun k x hk hx hl => h2.keep k x hk (fun hk' => (he k hk').elim hx (fun h => by have := ha.look_lt hl; omega)) (h1.keep k x hk hx hl)⟩
/-- Something has been made ahead. -/
theorem Nw.ahead {bs : List Int} {o : Nat} {Q : Int} {ex ex' : List Nat} {a b : Sto Sy} {cs : List (V Sy)} (ha : Desc a.next a.obs) (h : Nw bs o Q ex' (a.new cs) b) (he : ∀ k, k ∈ ex' → k ∈ ex ∨ a.next ≤ k) : Nw bs o Q ex a b :=
  ⟨h.rd, by have := h.next; simp only [Sto.new] at this; omega, h.low, fun k x hk hx hl => h.keep k x hk (fun hk' => (he k hk').elim hx (fun h => by have := ha.look_lt hl; omega)) (by
    show look ((a.next, noBc cs) :: a.obs) k = _
    rw [look_cons, if_neg (by have := ha.look_lt hl; omega)]; exact hl)⟩
/-- Something has been made behind. -/
theorem Nw.behind {bs : List Int} {o : Nat} {P : Int} {ex : List Nat} {a b : Sto Sy} (h : Nw bs o P ex a b) (cs : List (V Sy)) : Nw bs o P ex a (b.new cs) :=
  ⟨h.rd.new cs, Nat.le_succ_of_le h.next, h.low, fun k x hk hx hl => by
    have := h.keep k x hk hx hl
    show look ((b.next, noBc cs) :: b.obs) k = _
    rw [look_cons, if_neg (by have := h.rd.desc.look_lt this; omega)]; exact this⟩
/-- An object has been written. -/
theorem Nw.wrote {bs : List Int} {o : Nat} {P : Int} {ex : List Nat} {a b : Sto Sy} (ha : Desc a.next a.obs) (h : Nw bs o P ex a b) {q : Nat} (hq : q ≠ o) (hx : q ∈ ex ∨ a.next ≤ q) (cs : Ob Sy) : Nw bs o P ex a (b.write q cs) := by
  obtain ⟨p, h1, h2⟩ := h.rd
  refine ⟨⟨p, h1, ?_, h2.desc.put _ _, h2.p0⟩, h.next, ?_, fun k x hk hxk hl => ?_⟩
  · show look (put b.obs q _) o = _
    rw [look_put_ne (fun e => hq e.symm)]; exact h2.obj
  · show (if Nat.blt q b.low then q else b.low) ≤ o
    have := h.low
    rcases Nat.lt_or_ge q b.low with hl | hl
    · rw [if_pos (by rw [Nat.blt_eq]; exact hl)]; omega
    · rw [if_neg (by rw [Nat.blt_eq]; omega)]; exact this
  · show look (put b.obs q _) k = _
    rw [look_put_ne (fun e => by subst e; exact hx.elim hxk (fun h => by have := ha.look_lt hl; omega))]
    exact h.keep k x hk hxk hl
/-- As above, whether or not the reader has been written. -/
structure Pre (bs : List Int) (o : Nat) (P : Int) (ex : List Nat) (sto sto' : Sto Sy) : Prop where
  rd : Rdy bs o P sto'
  next : sto.next ≤ sto'.next
  keep : ∀ k x, k ≠ o → k ∉ ex → look sto.obs k = some x → look sto'.obs k = some x
theorem Nw.pre {bs : List Int} {o : Nat} {P : Int} {ex : List Nat} {a b : Sto Sy} (h : Nw bs o P ex a b) : Pre bs o P ex a b := ⟨h.rd, h.next, h.keep⟩
theorem Pre.nw {bs : List Int} {o : Nat} {P : Int} {ex : List Nat} {a b : Sto Sy} (h : Pre bs o P ex a b) (hl : b.low ≤ o) : Nw bs o P ex a b := ⟨h.rd, h.next, hl, h.keep⟩
theorem Pre.made {bs : List Int} {o : Nat} {P : Int} {a : Sto Sy} (h : Rdy bs o P a) (cs : List (V Sy)) : Pre bs o P [] a (a.new cs) := ⟨h.new cs, Nat.le_succ _, fun k x _ _ hl => by
  show look ((a.next, noBc cs) :: a.obs) k = _
  rw [look_cons, if_neg (by have := h.desc.look_lt hl; omega)]; exact hl⟩
theorem Pre.sto {bs : List Int} {o : Nat} {P : Int} {ex : List Nat} {a b b' : Sto Sy} (h : Pre bs o P ex a b) (e1 : b'.next = b.next) (e2 : b'.obs = b.obs) : Pre bs o P ex a b' := by
  obtain ⟨n, ob, l⟩ := b'
  simp only at e1 e2
  subst e1 e2
  exact ⟨h.rd.lows l, h.next, h.keep⟩
theorem Pre.trans {bs : List Int} {o : Nat} {P Q : Int} {ex ex' : List Nat} {a b c : Sto Sy} (ha : Desc a.next a.obs) (h1 : Pre bs o P ex a b) (h2 : Nw bs o Q ex' b c) (he : ∀ k, k ∈ ex' → k ∈ ex ∨ a.next ≤ k) : Nw bs o Q ex a c :=
  ⟨h2.rd, Nat.le_trans h1.next h2.next, h2.low, fun k x hk hx hl => h2.keep k x hk (fun hk' => (he k hk').elim hx (fun h => by have := ha.look_lt hl; omega)) (h1.keep k x hk hx hl)⟩
theorem look_del_ne {α : Type} {l : List (Nat × α)} {o k : Nat} (h : k ≠ o) : look (del l o) k = look l k := by
  induction l with
  | nil => rfl
  | cons p r ih =>
    obtain ⟨i, z⟩ := p
    simp only [del, beq_dec]
    by_cases hk : i = o
    · subst hk
      simp only [decide_true, if_true, ih]
      rw [look_cons, if_neg (fun e => h e.symm)]
    · simp only [hk, decide_false, Bool.false_eq_true, if_false, look_cons, ih]
/-- A list has grown into a new object. -/
theorem Nw.grown {bs : List Int} {o : Nat} {P : Int} {ex : List Nat} {a b : Sto Sy} (ha : Desc a.next a.obs) (h : Nw bs o P ex a b) {q : Nat} (hq : q ≠ o) (hx : q ∈ ex ∨ a.next ≤ q) (cs : Ob Sy) :
    Nw bs o P ex a ⟨b.next + 1, (b.next, cs) :: del b.obs q, if Nat.blt q b.low then q else b.low⟩ := by
  obtain ⟨p, h1, h2⟩ := h.rd
  refine ⟨⟨p, h1, ?_, ⟨Nat.lt_succ_self _, Desc.del q h2.desc⟩, h2.p0⟩, Nat.le_succ_of_le h.next, ?_, fun k x hk hxk hl => ?_⟩
  · show look ((b.next, cs) :: del b.obs q) o = _
    rw [look_cons, if_neg (by have := h2.lt; omega), look_del_ne (fun e => hq e.symm)]; exact h2.obj
  · show (if Nat.blt q b.low then q else b.low) ≤ o
    have := h.low
    rcases Nat.lt_or_ge q b.low with hl | hl
    · rw [if_pos (by rw [Nat.blt_eq]; exact hl)]; omega
    · rw [if_neg (by rw [Nat.blt_eq]; omega)]; exact this
  · have h3 := h.keep k x hk hxk hl
    show look ((b.next, cs) :: del b.obs q) k = _
    rw [look_cons, if_neg (by have := h2.desc.look_lt h3; omega), look_del_ne (fun e => by subst e; exact hx.elim hxk (fun h => by have := ha.look_lt hl; omega))]
    exact h3

theorem Pre.nw0 {bs : List Int} {o : Nat} {P : Int} {ex : List Nat} {a b : Sto Sy} (h : Pre bs o P ex a b) : Nw bs o P ex a ⟨b.next, b.obs, 0⟩ := (h.sto (b' := ⟨b.next, b.obs, 0⟩) rfl rfl).nw (Nat.zero_le _)
theorem Pre.behind {bs : List Int} {o : Nat} {P : Int} {ex : List Nat} {a b : Sto Sy} (h : Pre bs o P ex a b) (cs : List (V Sy)) : Pre bs o P ex a (b.new cs) := (h.nw0.behind cs).pre.sto rfl rfl
theorem Pre.wrote {bs : List Int} {o : Nat} {P : Int} {ex : List Nat} {a b : Sto Sy} (ha : Desc a.next a.obs) (h : Pre bs o P ex a b) {q : Nat} (hq : q ≠ o) (hx : q ∈ ex ∨ a.next ≤ q) (cs : Ob Sy) : Pre bs o P ex a (b.write q cs) := (h.nw0.wrote ha hq hx cs).pre.sto rfl rfl
theorem Pre.grown {bs : List Int} {o : Nat} {P : Int} {ex : List Nat} {a b : Sto Sy} (ha : Desc a.next a.obs) (h : Pre bs o P ex a b) {q : Nat} (hq : q ≠ o) (hx : q ∈ ex ∨ a.next ≤ q) (cs : Ob Sy) :
    Pre bs o P ex a ⟨b.next + 1, (b.next, cs) :: del b.obs q, if Nat.blt q b.low then q else b.low⟩ := (h.nw0.grown ha hq hx cs).pre.sto rfl rfl
theorem Pre.more {bs : List Int} {o : Nat} {P Q : Int} {ex : List Nat} {a b : Sto Sy} (h : Pre bs o P ex a b) (hq : P ≤ Q) : Pre bs o Q ex a b := ⟨h.rd.mono hq, h.next, h.keep⟩
theorem Pre.after {bs : List Int} {o : Nat} {P Q : Int} {ex ex' : List Nat} {a b c : Sto Sy} (ha : Desc a.next a.obs) (h1 : Pre bs o P ex a b) (h2 : Pre bs o Q ex' b c) (he : ∀ k, k ∈ ex' → k ∈ ex ∨ a.next ≤ k) : Pre bs o Q ex a c :=
  (h1.trans ha h2.nw0 he).pre.sto rfl rfl
/-- A list of numbers that a run has made. -/
structure IsL (obs : List (Nat × Ob Sy)) (q : Nat) (zs : List Int) (v : V Sy) : Prop where
  val : ∃ cp, v = .rsl q 0 zs.length cp ∧ (cp = none ∨ cp = some zs.length)
  obj : look obs q = some (ints (nums zs))

/-- As above, new, of some length, within bounds. -/
def Lst (n lo hi : Nat) (B : Int) (v : V Sy) (obs : List (Nat × Ob Sy)) : Prop := ∃ q zs, n ≤ q ∧ IsL obs q zs v ∧ lo ≤ zs.length ∧ zs.length ≤ hi ∧ ∀ z, z ∈ zs → -B ≤ z ∧ z ≤ B
theorem set_bound {zs : List Int} {B : Int} (h : ∀ z, z ∈ zs → -B ≤ z ∧ z ≤ B) {i : Nat} {x : Int} (hx : -B ≤ x ∧ x ≤ B) : ∀ z, z ∈ zs.set i x → -B ≤ z ∧ z ≤ B := fun z hz => (List.mem_or_eq_of_mem_set hz).elim (h z) (fun e => by rw [e]; exact hx)
theorem IsL.keep {bs : List Int} {o : Nat} {P : Int} {ex : List Nat} {a b : Sto Sy} {q : Nat} {zs : List Int} {v : V Sy} (h : IsL a.obs q zs v) (hn : Nw bs o P ex a b) (h1 : q ≠ o) (h2 : q ∉ ex) : IsL b.obs q zs v := ⟨h.val, hn.keep q _ h1 h2 h.obj⟩
theorem IsL.new {n : Nat} {a : Sto Sy} {q : Nat} {zs : List Int} {v : V Sy} (h : IsL a.obs q zs v) (hd : Desc a.next a.obs) (cs : List (V Sy)) : IsL (a.new cs).obs q zs v := ⟨h.val, by
  show look ((a.next, noBc cs) :: a.obs) q = _
  rw [look_cons, if_neg (by have := hd.look_lt h.obj; omega)]; exact h.obj⟩
theorem look_new (a : Sto Sy) (ns : List Sy) : look (a.new (ints ns)).obs a.next = some (ints ns) := by
  show look ((a.next, noBc (ints ns)) :: a.obs) a.next = _
  rw [look_cons, if_pos rfl, noBc_ints]

theorem Nx.nw {bs : List Int} {o : Nat} {p q : Int} {sto s1 : Sto Sy} (h : Nx bs o p q sto s1) {Q : Int} (hq : q ≤ Q) : Nw bs o Q [] sto s1 := by
  obtain ⟨p', h1, h2, h3⟩ := h.rd
  exact ⟨⟨p', Int.le_trans h2 hq, h3⟩, h.next, h.low, fun k x hk _ hx => h.keep k x hk hx⟩

/-- What a contract tells of a call. -/
theorem call_K {P : Program} {K : Ctr} {n : Nat} {k : FuncId} {args : List (V Sy)} {sto : Sto Sy} {r : V Sy} {s1 : Sto Sy} (h : K k args ⟨sto.next, sto.obs, sto.next⟩ = some (r, s1)) (hk : (k : Nat) < 1000000 := by decide) :
    acallV (symIn P K [] (n + 1)) sto (.func k [] []) args = some (r, ⟨s1.next, s1.obs, if s1.low < sto.low then s1.low else sto.low⟩) := by
  rw [acallV_func hk, List.nil_append, List.append_nil]
  have hk' : Nat.blt k 1000000 = true := by simpa [Nat.blt_eq] using hk
  simp only [symIn, acallN, hk', bite_true, h, Nat.blt_eq]

/-- A run, as a call. -/
theorem run_call {P : Program} {K : Ctr} {bs : List Int} {o : Nat} {n : Nat} {k : FuncId} {args : List (V Sy)} {sto : Sto Sy} {Q : Int} {ex : List Nat} {Φ : V Sy → List (Nat × Ob Sy) → Prop}
    (h : ∃ r, symRun P K [] n k args ⟨sto.next, sto.obs, sto.next⟩ = some r ∧ Nw bs o Q ex ⟨sto.next, sto.obs, sto.next⟩ r.2 ∧ Φ r.1 r.2.obs) (hk : (k : Nat) < 1000000 := by decide) :
    ∃ v S, acallV (symIn P K [] n) sto (.func k [] []) args = some (v, S) ∧ Nw bs o Q ex sto S ∧ Φ v S.obs := by
  obtain ⟨⟨v, s1⟩, h1, h2, h3⟩ := h
  refine ⟨v, ⟨s1.next, s1.obs, if s1.low < sto.low then s1.low else sto.low⟩, ?_, h2.call, h3⟩
  rw [acallV_func hk, List.nil_append, List.append_nil, symIn_run hk, h1]
  simp only [Nat.blt_eq]

theorem answer_one {T : TypeId → Option Ti} {st : St Sy} {n0 t : Nat} {v : V Sy} {Ψ : V Sy × Sto Sy → Prop} (hv : st.tm.get .any t = v) (ho : st.sto.low < n0) (hp : Ψ (v, st.sto)) : ∃ r, answer T st n0 [.tmp t] = some r ∧ Ψ r :=
  ⟨(v, st.sto), by simp [answer, aresults, aresult, hv]; exact trim_low ho, hp⟩
theorem Nw.lowlt {bs : List Int} {o : Nat} {P Q : Int} {ex : List Nat} {a b : Sto Sy} {n : Nat} (h : Nw bs o P ex a b) (ha : Rdy bs o Q a) (e : a.next = n) : b.low < n := by rw [← e]; exact Nat.lt_of_le_of_lt h.low ha.lt

theorem nums_append (a b : List Int) : nums (a ++ b) = nums a ++ nums b := by simp [nums]
theorem ints_append (a b : List Sy) : ints (a ++ b) = ints a ++ ints b := by simp [ints]
theorem nums_set (zs : List Int) (i : Nat) (x : Int) : nums (zs.set i x) = (nums zs).set i (.c x) := by simp [nums, List.map_set]
theorem ints_oneCells (ns : List Sy) : (ints ns).all V.oneCell = true := by
  rw [List.all_eq_true]
  intro x hx
  obtain ⟨y, _, rfl⟩ := List.mem_map.1 hx
  rfl

section
variable {T : TypeId → Option Ti} {t e : TypeId} {za zb : Nat} {zv : Value} {ze ze2 : Bool} {bs : List Int} {o : Nat} {P : Int} {ex : List Nat} {S0 S : Sto Sy} {q : Nat} {zs : List Int} {v : V Sy}

/-- A list grows. -/
theorem append_ok (tS : T t = some ⟨.slice e, za, zb, zv, ze⟩) (tI : T e = some ⟨.int .i64, 1, 8, .int .i64 0, ze2⟩) (h : IsL S.obs q zs v) (hq : q ≠ o) (hx : q ∈ ex ∨ S0.next ≤ q) (hd : Desc S0.next S0.obs) (hn : Nw bs o P ex S0 S)
    {w : Int} {ws : List Int} (hl : zs.length + (w :: ws).length ≤ 1000000) :
    ∃ v' S', aappend (symNum []) T (S.new (ints (nums (w :: ws)))) t t v (.rsl S.next 0 (w :: ws).length (some (w :: ws).length)) = some (v', S') ∧ Nw bs o P ex S0 S' ∧ ∃ q', S.next ≤ q' ∧ IsL S'.obs q' (zs ++ w :: ws) v' := by
  obtain ⟨cp, rfl, hcp⟩ := h.val
  have hqn := hn.rd.desc.look_lt h.obj
  have ho : lookC (S.new (ints (nums (w :: ws)))).obs q = some (ints (nums zs)) := lookC_ints (IsL.new (n := 0) h hn.rd.desc _).obj
  have he : (S.new (ints (nums (w :: ws)))).elems (.rsl S.next 0 (w :: ws).length (some (w :: ws).length)) = some (ints (nums (w :: ws))) := by
    simp only [Sto.elems, Sto.cells, lookC_ints (look_new _ _)]
    rw [if_pos (by simp), List.drop_zero, List.take_of_length_le (by simp)]
  have hall := ints_oneCells (nums (w :: ws))
  have hyl : (ints (nums (w :: ws))).length = (w :: ws).length := by simp
  have hz : (ofV (symNum []) (Value.int .i64 0)).oneCell = true := rfl
  have happ : ints (nums zs) ++ ints (nums (w :: ws)) = ints (nums (zs ++ w :: ws)) := by rw [nums_append, ints_append]
  have hob : ∀ (l : List (Nat × Ob Sy)), look (((S.new (ints (nums (w :: ws)))).next, ints (nums (zs ++ w :: ws))) :: l) (S.next + 1) = some (ints (nums (zs ++ w :: ws))) := fun l => by
    rw [look_cons]; exact if_pos rfl
  have hlen : zs.length + (ints (nums (w :: ws))).length = (zs ++ w :: ws).length := by rw [hyl, List.length_append]
  have hb1 : (zs.length + (ints (nums (w :: ws))).length) * 8 ≤ 140737488355328 := by rw [hyl]; omega
  have hb2 : zs.length + (ints (nums (w :: ws))).length ≤ 9223372036854775807 := by rw [hyl]; omega
  cases hys : ints (nums (w :: ws)) with
  | nil => rw [hys] at hyl; simp at hyl
  | cons y ys =>
    rw [hys] at hall happ hlen hb1 hb2
    rcases hcp with rfl | rfl
    · refine ⟨.rsl (S.next + 1) 0 (zs ++ w :: ws).length none, ⟨S.next + 1 + 1, (S.next + 1, ints (nums (zs ++ w :: ws))) :: del (S.new (ints (nums (w :: ws)))).obs q, if Nat.blt q (S.new (ints (nums (w :: ws)))).low then q else (S.new (ints (nums (w :: ws)))).low⟩, ?_, ?_, S.next + 1, by omega, ⟨_, rfl, .inl rfl⟩, hob _⟩
      · rw [hys] at he ho ⊢
        rw [hlen] at hb1 hb2
        have htk : (ints (nums zs)).take zs.length = ints (nums zs) := List.take_of_length_le (by simp)
        simp only [aappend, tS, tI, he, ho, hz, hall, true_and, and_true, if_true, ints_length, nums_length, htk, happ, hlen, Nat.le_refl]
        rw [if_pos ⟨hb1, hb2⟩]
        rfl
      · exact (hn.behind _).grown hd hq hx _
    · have hc : ¬ zs.length + (y :: ys).length ≤ zs.length := by simp
      refine ⟨.rsl (S.next + 1) 0 (zs ++ w :: ws).length none, (S.new (ints (nums (w :: ws)))).new (ints (nums (zs ++ w :: ws))), ?_, (hn.behind _).behind _, S.next + 1, by omega, ⟨_, rfl, .inl rfl⟩, look_new (S.new _) _⟩
      rw [hys] at he ho ⊢
      have hdt : ((ints (nums zs)).drop 0).take zs.length ++ y :: ys = ints (nums (zs ++ w :: ws)) := by rw [← happ, List.drop_zero, List.take_of_length_le (by simp)]
      rw [hlen] at hc hb1 hb2
      simp only [aappend, tS, tI, he, ho, hz, hall, true_and, and_true, if_true, ints_length, nums_length, hlen, hdt, Nat.le_refl, Nat.zero_add]
      rw [if_pos ⟨hb1, hb2⟩, if_neg hc]
      rfl

/-- A number of a list is written. -/
theorem store_ok (tI : T e = some ⟨.int .i64, 1, 8, .int .i64 0, ze2⟩) (h : IsL S.obs q zs v) {i : Nat} {x : Int} (hi : i < zs.length) : astore T S e (.ptr q i) (.int .i64 (.c x)) = some (S.write q (ints (nums (zs.set i x)))) := by
  have h1 : i + 1 ≤ (ints (nums zs)).length := by simp; omega
  simp only [astore, tI, V.cells, lookC_ints h.obj, List.length_cons, List.length_nil, true_and, List.all_cons, List.all_nil, V.oneCell, Bool.and_self, and_true, Nat.zero_add]
  rw [if_pos h1]
  simp only [setRange, nums_set, ints_set]
theorem IsL.wrote (h : IsL S.obs q zs v) (i : Nat) (x : Int) : IsL (S.write q (ints (nums (zs.set i x)))).obs q (zs.set i x) v := by
  refine ⟨?_, ?_⟩
  · rw [List.length_set]; exact h.val
  · show look (put S.obs q (noBc _)) q = _
    rw [noBc_ints]; exact look_put_self h.obj
end

/-! ## What a function that draws returns -/
theorem look_kept {n0 q : Nat} {ks : List Nat} (hq : ks.contains q = true) : ∀ l : List (Nat × Ob Sy), look (keepNew n0 ks l) q = look l q := by
  intro l
  induction l with
  | nil => rfl
  | cons p r ih =>
    obtain ⟨o, b⟩ := p
    simp only [keepNew]
    split
    · rfl
    · split
      · rw [look_cons, look_cons, ih]
      · rename_i h
        have : o ≠ q := fun e => by subst e; exact h hq
        rw [ih, look_cons, if_neg this]
theorem trim_look {n0 q : Nat} {r : V Sy} {sto : Sto Sy} (hq : q ∈ r.refs) : look (Sto.trim n0 r sto).obs q = look sto.obs q := by
  unfold Sto.trim
  split
  · rfl
  · split
    · rename_i h; rw [h] at hq; cases hq
    · split
      · exact look_kept (List.contains_iff_mem.2 hq) _
      · exact look_kept (List.contains_iff_mem.2 (List.mem_append.2 (.inl (List.mem_append.2 (.inl hq))))) _
theorem answer_trim1 {T : TypeId → Option Ti} {st : St Sy} {n0 t : Nat} {v : V Sy} {Ψ : V Sy × Sto Sy → Prop} (hv : st.tm.get .any t = v) (hp : Ψ (v, st.sto.trim n0 v)) : ∃ r, answer T st n0 [.tmp t] = some r ∧ Ψ r :=
  ⟨(v, st.sto.trim n0 v), by simp [answer, aresults, aresult, hv], hp⟩
theorem answer_trim2 {T : TypeId → Option Ti} {st : St Sy} {n0 t u : Nat} {v w : V Sy} {Ψ : V Sy × Sto Sy → Prop} (hv : st.tm.get .any t = v) (hw : st.tm.get .any u = w) (hp : Ψ (.tup [v, w], st.sto.trim n0 (.tup [v, w]))) : ∃ r, answer T st n0 [.tmp t, .tmp u] = some r ∧ Ψ r :=
  ⟨(.tup [v, w], st.sto.trim n0 (.tup [v, w])), by simp [answer, aresults, aresult, hv, hw], hp⟩
theorem IsL.refs {obs : List (Nat × Ob Sy)} {q : Nat} {zs : List Int} {v : V Sy} (h : IsL obs q zs v) : q ∈ v.refs := by
  obtain ⟨cp, rfl, _⟩ := h.val; simp [V.refs]
theorem IsL.made {S : Sto Sy} {q : Nat} {zs : List Int} {v : V Sy} (h : IsL S.obs q zs v) : Made S zs q v := by
  obtain ⟨cp, rfl, rfl | rfl⟩ := h.val
  · exact ⟨.inl rfl, h.obj⟩
  · exact ⟨.inr rfl, h.obj⟩

section
variable {P : Program} {dk : FuncId} {bs : List Int} {n : Nat} {K : Ctr} (hK : ∀ (ρ : Nat → Int) (s : Sms) (B : Nat), COk P ⟨Sy.den ρ, s⟩ B K)
include hK
end


theorem look_keptOld {n0 k : Nat} {ks : List Nat} (hk : k < n0) : ∀ l : List (Nat × Ob Sy), look (keepNew n0 ks l) k = look l k := by
  intro l
  induction l with
  | nil => rfl
  | cons p r ih =>
    obtain ⟨o, b⟩ := p
    simp only [keepNew]
    split
    · rfl
    · rename_i h
      have ho : ¬ o < n0 := fun e => h (by rw [Nat.blt_eq]; exact e)
      split
      · rw [look_cons, look_cons, ih]
      · rw [ih, look_cons, if_neg (by omega)]
theorem look_droppedOld {n0 k : Nat} (hk : k < n0) : ∀ l : List (Nat × Ob Sy), look (dropNew n0 l) k = look l k := by
  intro l
  induction l with
  | nil => rfl
  | cons p r ih =>
    obtain ⟨o, b⟩ := p
    simp only [dropNew]
    split
    · rfl
    · rename_i h
      have ho : ¬ o < n0 := fun e => h (by rw [Nat.blt_eq]; exact e)
      rw [ih, look_cons, if_neg (by omega)]
theorem trim_old {n0 k : Nat} {r : V Sy} {sto : Sto Sy} (hk : k < n0) : look (Sto.trim n0 r sto).obs k = look sto.obs k := by
  unfold Sto.trim
  split
  · rfl
  · split
    · exact look_droppedOld hk _
    · split
      · exact look_keptOld hk _
      · exact look_keptOld hk _
theorem trim_next {n0 : Nat} {r : V Sy} {sto : Sto Sy} : (Sto.trim n0 r sto).next = sto.next := by
  unfold Sto.trim
  split
  · rfl
  · split
    · rfl
    · split <;> rfl
theorem trim_desc {n0 : Nat} {r : V Sy} {sto : Sto Sy} (h : Desc sto.next sto.obs) : Desc (Sto.trim n0 r sto).next (Sto.trim n0 r sto).obs := by
  unfold Sto.trim
  split
  · exact h
  · split
    · exact dropNew_desc h
    · split
      · exact keepNew_desc h
      · exact keepNew_desc h
theorem Pre.trim {bs : List Int} {o : Nat} {P : Int} {ex : List Nat} {a b : Sto Sy} (ha : Desc a.next a.obs) (ho : o < a.next) (h : Pre bs o P ex a b) (r : V Sy) : Pre bs o P ex a (b.trim a.next r) := by
  obtain ⟨p, h1, h2⟩ := h.rd
  refine ⟨⟨p, h1, ?_, trim_desc h2.desc, h2.p0⟩, by rw [trim_next]; exact h.next, fun k x hk hx hl => ?_⟩
  · rw [trim_old ho]; exact h2.obj
  · rw [trim_old (ha.look_lt hl)]; exact h.keep k x hk hx hl

/-- Two lists of a length, new. -/
def Two (n0 n : Nat) (v1 v2 : V Sy) (obs : List (Nat × Ob Sy)) : Prop := ∃ q1 q2 z1 z2, n0 ≤ q1 ∧ n0 ≤ q2 ∧ q1 ≠ q2 ∧ IsL obs q1 z1 v1 ∧ IsL obs q2 z2 v2 ∧ z1.length = n ∧ z2.length = n ∧ (∀ z, z ∈ z1 → IntKind.i64.wrap z = z) ∧ ∀ z, z ∈ z2 → IntKind.i64.wrap z = z

/-- No summary speaks of a function. -/
noncomputable def Summ.free : List Summ → FuncId → Bool
  | [], _ => true
  | e :: r, k => bite (Nat.beq e.k k) false (Summ.free r k)
end Go.Sx


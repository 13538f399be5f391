/-
  Laws by runs of the machine, case by case.
-/
import Derived.Test.YtpjenggjcpahaaaSymA
import Derived.ProofKit
import Derived.OpenShut
import Derived.Lib.SmallJoins
set_option linter.unusedVariables false
set_option linter.unusedSimpArgs false
/-
  Cases: a tree of them, each leaf a run.
-/
namespace Go.Sx
open Go.RowKit

abbrev Ctr := FuncId → List (V Sy) → Sto Sy → Option (V Sy × Sto Sy)

/-- A run with contracts as a contract. -/
theorem run_goodK {P : Program} (hG : NoCount P) (hm : P.follows .mixedOrders = true) {K : Ctr} {s : Sms} (hK : ∀ (ρ : Nat → Int) (s : Sms) (B : Nat), COk P ⟨Sy.den ρ, s⟩ B K) (ρ' : Nat → Int) {n : Nat} {k : FuncId} {pat : List (V Sy)} {R : V Sy} {sto S : Sto Sy} (h : symRun P K [] n k pat sto = some (R, S)) (B' : Nat) :
    Good P ⟨Sy.den ρ', s⟩ B' k pat sto R S := (symRun_ok (ρ := ρ') (s := s) (B := B') hG hm (Γ := []) (by simp) (hK ρ' s B') n k pat _ R S h).1

/-- One contract, else another. -/
noncomputable def orK (K1 K2 : Ctr) : Ctr := fun k args sto => match K1 k args sto with
  | some r => some r
  | none => K2 k args sto
theorem orK_ok {P : Program} {Δ : Den Sy} {B : Nat} {K1 K2 : Ctr} (h1 : COk P Δ B K1) (h2 : COk P Δ B K2) : COk P Δ B (orK K1 K2) := by
  intro k args sto r sto' h
  unfold orK at h
  split at h
  · rename_i r' hr; cases h; exact h1 _ _ _ _ _ hr
  · exact h2 _ _ _ _ _ h

inductive Sp where
  | leaf
  | sub (i : Nat) (c : Int) (y n : Sp)
  | cmp (lt : Bool) (a b : List Sy → Sy) (y n : Sp)
  | rng (i : Nat) (lo : Int) (n : Nat) (f : Nat → Sp) (out : Sp)
  | val (bd : Int) (f : List Sy → Option (List Sy)) (y n : Sp)

noncomputable def allTo (f : Nat → Bool) : Nat → Bool
  | 0 => true
  | n + 1 => bite (allTo f n) (f n) false
theorem allTo_ok {f : Nat → Bool} : ∀ {n : Nat}, allTo f n = true → ∀ i, i < n → f i = true := by
  intro n
  induction n with
  | zero => intro _ i hi; omega
  | succ n ih =>
    intro h i hi
    simp only [allTo, bite_eq] at h
    split at h
    · rename_i h1
      by_cases hin : i = n
      · subst hin; exact h
      · exact ih h1 i (by omega)
    · cases h

noncomputable def chk (run : List Sy → List Fact → List VEnt → Bool) : Sp → List Sy → List Fact → List VEnt → Bool
  | .leaf, xs, Γ, Vt => run xs Γ Vt
  | .sub i c y n, xs, Γ, Vt => bite (chk run y (xs.set i (.c c)) Γ Vt) (chk run n xs (⟨false, xs.getD i (.c 0), .c c, false⟩ :: Γ) Vt) false
  | .cmp lt a b y n, xs, Γ, Vt => bite (chk run y xs (⟨lt, a xs, b xs, true⟩ :: Γ) Vt) (chk run n xs (⟨lt, a xs, b xs, false⟩ :: Γ) Vt) false
  | .rng i lo n f out, xs, Γ, Vt => bite (allTo (fun t => chk run (f t) (xs.set i (.c (lo + t))) Γ Vt) n)
      (bite (chk run out xs (⟨true, xs.getD i (.c 0), .c lo, true⟩ :: Γ) Vt) (chk run out xs (⟨true, xs.getD i (.c 0), .c lo, false⟩ :: ⟨true, .c (lo + n - 1), xs.getD i (.c 0), true⟩ :: Γ) Vt) false) false
  | .val bd f y n, xs, Γ, Vt => match f xs with
    | some ps => bite (chk run y xs (bndF bd ps ++ Γ) (⟨bd, ps, true⟩ :: Vt)) (chk run n xs Γ (⟨bd, ps, false⟩ :: Vt)) false
    | none => false

theorem map_set_den {ρ : Nat → Int} {zs : List Int} {xs : List Sy} (h : xs.map (Sy.den ρ) = zs) {i : Nat} {c : Int} (hc : (xs.getD i (.c 0)).den ρ = c) : (xs.set i (.c c)).map (Sy.den ρ) = zs := by
  rw [← h, List.map_set]
  apply List.ext_getElem?
  intro j
  rw [List.getElem?_set]
  by_cases hij : i = j
  · subst hij
    rw [if_pos rfl]
    by_cases hi : i < xs.length
    · have h2 : xs.getD i (.c 0) = xs[i] := by simp [List.getD, hi]
      rw [h2] at hc
      have h3 : (Sy.c c).den ρ = c := rfl
      simp [hi, hc, h3]
    · simp [hi]
  · rw [if_neg hij]

theorem chk_ok {ρ : Nat → Int} {zs : List Int} {G : Prop} {run : List Sy → List Fact → List VEnt → Bool}
    (hrun : ∀ xs Γ Vt, run xs Γ Vt = true → xs.map (Sy.den ρ) = zs → (∀ f, f ∈ Γ → f.Ok ρ) → (∀ e, e ∈ Vt → e.Ok ρ) → G) :
    ∀ (t : Sp) (xs : List Sy) (Γ : List Fact) (Vt : List VEnt), chk run t xs Γ Vt = true → xs.map (Sy.den ρ) = zs → (∀ f, f ∈ Γ → f.Ok ρ) → (∀ e, e ∈ Vt → e.Ok ρ) → G := by
  intro t
  have cons : ∀ {Γ : List Fact} {g : Fact}, g.Ok ρ → (∀ f, f ∈ Γ → f.Ok ρ) → ∀ f, f ∈ g :: Γ → f.Ok ρ := by
    intro Γ g hg h f hf
    rcases List.mem_cons.1 hf with rfl | hf
    · exact hg
    · exact h f hf
  have consV : ∀ {Vt : List VEnt} {g : VEnt}, g.Ok ρ → (∀ f, f ∈ Vt → f.Ok ρ) → ∀ f, f ∈ g :: Vt → f.Ok ρ := by
    intro Γ g hg h f hf
    rcases List.mem_cons.1 hf with rfl | hf
    · exact hg
    · exact h f hf
  induction t with
  | leaf => intro xs Γ Vt h hz hΓ hV; exact hrun xs Γ Vt h hz hΓ hV
  | sub i c y n ihy ihn =>
    intro xs Γ Vt h hz hΓ hV
    simp only [chk, bite_eq] at h
    split at h
    · rename_i h1
      by_cases hc : (xs.getD i (.c 0)).den ρ = c
      · exact ihy _ _ _ h1 (map_set_den hz hc) hΓ hV
      · exact ihn _ _ _ h hz (cons (Fact.eq_no hc) hΓ) hV
    · cases h
  | cmp lt a b y n ihy ihn =>
    intro xs Γ Vt h hz hΓ hV
    simp only [chk, bite_eq] at h
    split at h
    · rename_i h1
      cases lt with
      | true =>
        by_cases hc : (a xs).den ρ < (b xs).den ρ
        · exact ihy _ _ _ h1 hz (cons (Fact.lt_yes hc) hΓ) hV
        · exact ihn _ _ _ h hz (cons (Fact.lt_no hc) hΓ) hV
      | false =>
        by_cases hc : (a xs).den ρ = (b xs).den ρ
        · exact ihy _ _ _ h1 hz (cons (Fact.eq_yes hc) hΓ) hV
        · exact ihn _ _ _ h hz (cons (Fact.eq_no hc) hΓ) hV
    · cases h
  | rng i lo n f out ihf iho =>
    intro xs Γ Vt h hz hΓ hV
    simp only [chk, bite_eq] at h
    split at h
    · rename_i h1
      split at h
      · rename_i h2
        by_cases hlo : (xs.getD i (.c 0)).den ρ < lo
        · exact iho _ _ _ h2 hz (cons (Fact.lt_yes hlo) hΓ) hV
        · by_cases hhi : lo + n - 1 < (xs.getD i (.c 0)).den ρ
          · exact iho _ _ _ h hz (cons (Fact.lt_no hlo) (cons (Fact.lt_yes hhi) hΓ)) hV
          · have ht : ((xs.getD i (.c 0)).den ρ - lo).toNat < n := by omega
            have := allTo_ok h1 _ ht
            exact ihf _ _ _ _ this (map_set_den hz (by omega)) hΓ hV
      · cases h
    · cases h
  | val bd f y n ihy ihn =>
    intro xs Γ Vt h hz hΓ hV
    simp only [chk] at h
    split at h
    · rename_i ps hps
      rw [bite_eq] at h
      split at h
      · rename_i h1
        by_cases hc : validP bd (ps.map (Sy.den ρ))
        · exact ihy _ _ _ h1 hz (fun f hf => (List.mem_append.1 hf).elim (bndF_ok (decide_eq_true hc) f) (hΓ f)) (consV (decide_eq_true hc) hV)
        · exact ihn _ _ _ h hz hΓ (consV (decide_eq_false hc) hV)
      · cases h
    · cases h

/-- So many variables. -/
def vxs (n : Nat) : List Sy := (List.range n).map vx

theorem vxs_den {zs : List Int} (hn : zs.length ≤ 40) (hw : ∀ z, z ∈ zs → IntKind.i64.wrap z = z) : (vxs zs.length).map (Sy.den (fun i => zs.getD i 0)) = zs := by
  apply List.ext_getElem?
  intro i
  simp only [vxs, List.map_map, List.getElem?_map]
  by_cases hi : i < zs.length
  · rw [List.getElem?_range hi, List.getElem?_eq_getElem hi]
    have : zs.getD i 0 = zs[i] := by simp [List.getD, hi]
    simp only [Option.map_some, Function.comp, Option.some.injEq]
    rw [vx_den _ i (by omega) (by rw [this]; exact hw _ (List.getElem_mem hi)), this]
  · rw [List.getElem?_eq_none (l := List.range zs.length) (by rw [List.length_range]; omega), List.getElem?_eq_none (l := zs) (by omega)]; rfl
end Go.Sx

/-
  A test of lists, known by its runs.
-/
namespace Go.Sx
open Go.RowKit

def inF (bd : Int) (i : Nat) : List Fact := [⟨true, vx i, .c (-bd), false⟩, ⟨true, .c bd, vx i, false⟩]
def loF (bd : Int) (i : Nat) : List Fact := [⟨true, vx i, .c (-bd), true⟩, ⟨true, .c bd, vx i, false⟩]
def hiF (bd : Int) (i : Nat) : List Fact := [⟨true, vx i, .c (-bd), false⟩, ⟨true, .c bd, vx i, true⟩]
def inFs (bd : Int) : Nat → List Fact
  | 0 => []
  | n + 1 => inF bd n ++ inFs bd n

def isB (q : Bool) : Option (V Sy × Sto Sy) → Bool
  | some (.bool b, _) => b == q
  | _ => false
theorem isB_iff {q : Bool} {o : Option (V Sy × Sto Sy)} (h : isB q o = true) : ∃ s, o = some (.bool q, s) := by
  unfold isB at h
  split at h
  · rename_i b s; exact ⟨s, by rw [eq_of_beq h]⟩
  · cases h

noncomputable def validRuns (P : Program) (bd : Int) (N : Nat) (k : FuncId) (n : Nat) : Bool :=
  bite (isB true (symRun P noK (inFs bd n) N k [.slice (ints (vxs n))] ⟨0, [], 0⟩))
    (allTo (fun i => bite (isB false (symRun P noK (loF bd i ++ inFs bd i) N k [.slice (ints (vxs n))] ⟨0, [], 0⟩)) (isB false (symRun P noK (hiF bd i ++ inFs bd i) N k [.slice (ints (vxs n))] ⟨0, [], 0⟩)) false) n) false

theorem inFs_ok {ρ : Nat → Int} {bd : Int} : ∀ {n : Nat}, (∀ i, i < n → -bd ≤ (vx i).den ρ ∧ (vx i).den ρ ≤ bd) → ∀ f, f ∈ inFs bd n → f.Ok ρ := by
  intro n
  induction n with
  | zero => intro _ f hf; cases hf
  | succ n ih =>
    intro h f hf
    have h0 := h n (by omega)
    simp only [inFs, inF, List.cons_append, List.nil_append, List.mem_cons] at hf
    rcases hf with rfl | rfl | hf
    · exact Fact.lt_no (by simp only [Sy.den] at h0 ⊢; omega)
    · exact Fact.lt_no (by simp only [Sy.den] at h0 ⊢; omega)
    · exact ih (fun i hi => h i (by omega)) f hf

/-- A run at symbols, as data that stand for the numbers. -/
theorem run_nums {P : Program} (hG : NoCount P) (hm : P.follows .mixedOrders = true) {zs : List Int} (hn : zs.length ≤ 40) (hw : ∀ z, z ∈ zs → IntKind.i64.wrap z = z)
    {Γ : List Fact} (hΓ : ∀ f, f ∈ Γ → f.Ok (fun i => zs.getD i 0)) {N : Nat} {k : FuncId} {q : Bool} {S : Sto Sy}
    (h : symRun P noK Γ N k [.slice (ints (vxs zs.length))] ⟨0, [], 0⟩ = some (.bool q, S)) (ρ : Nat → Int) (s : Sms) (B : Nat) :
    Good P ⟨Sy.den ρ, s⟩ B k [.slice (ints (nums zs))] ⟨0, [], 0⟩ (.bool q) ⟨0, [], 0⟩ := by
  have hvx := vxs_den hn hw
  refine lift_plain (ρ' := fun i => zs.getD i 0) (R := .bool q) (S := S) (pat := [.slice (ints (vxs zs.length))]) (fun B' => (symRun_ok (ρ := fun i => zs.getD i 0) (s := s) (B := B') hG hm hΓ noK_ok N k _ _ _ _ h).1) (fun c hinv vs hv => ?_) rfl (.bool _)
  obtain ⟨v, rfl, hv2⟩ := hv.one
  refine .cons ?_ .nil
  refine AR.rel hinv (.slice ?_) hv2
  rw [hvx]; simp [nums, Sy.den, Function.comp_def]

theorem validRuns_ok {P : Program} (hG : NoCount P) (hm : P.follows .mixedOrders = true) {bd : Int} {N : Nat} {k : FuncId} {n : Nat} (h1 : 1 ≤ n) (h6 : n ≤ 6) (hbd : 0 ≤ bd) (h : validRuns P bd N k n = true)
    {zs : List Int} (hn : zs.length = n) (hw : ∀ z, z ∈ zs → IntKind.i64.wrap z = z) :
    ∃ S : Sto Sy, ∀ (ρ : Nat → Int) (s : Sms) (B : Nat), Good P ⟨Sy.den ρ, s⟩ B k [.slice (ints (nums zs))] ⟨0, [], 0⟩ (.bool (decide (validP bd zs))) S := by
  refine ⟨⟨0, [], 0⟩, fun ρ s B => ?_⟩
  simp only [validRuns, bite_eq] at h
  split at h
  · rename_i hin
    have hv : ∀ i (hi : i < zs.length), (vx i).den (fun i => zs.getD i 0) = zs[i] := by
      intro i hi
      have e : zs.getD i 0 = zs[i] := by simp [List.getD, hi]
      rw [vx_den _ i (by omega) (by rw [e]; exact hw _ (List.getElem_mem hi)), e]
    by_cases hall : ∀ z, z ∈ zs → -bd ≤ z ∧ z ≤ bd
    · rw [decide_eq_true (show validP bd zs from ⟨hall, by omega, by omega⟩)]
      obtain ⟨S, hS⟩ := isB_iff hin
      subst hn
      exact run_nums hG hm (by omega) hw (inFs_ok (fun i hi => by rw [hv i hi]; exact hall _ (List.getElem_mem hi))) hS ρ s B
    · rw [decide_eq_false (show ¬ validP bd zs from fun h => hall h.1)]
      -- the first number that is too great
      have first : ∀ m, m ≤ n → (∀ i (hi : i < zs.length), i < m → -bd ≤ zs[i] ∧ zs[i] ≤ bd) ∨ ∃ i, ∃ hi : i < zs.length, i < m ∧ ¬ (-bd ≤ zs[i] ∧ zs[i] ≤ bd) ∧ ∀ j (hj : j < zs.length), j < i → -bd ≤ zs[j] ∧ zs[j] ≤ bd := by
        intro m
        induction m with
        | zero => intro _; exact .inl (fun i hi h => by omega)
        | succ m ih =>
          intro hm'
          rcases ih (by omega) with h | ⟨i, hi, h1, h2, h3⟩
          · by_cases hok : -bd ≤ zs[m]'(by omega) ∧ zs[m]'(by omega) ≤ bd
            · refine .inl (fun i hi him => ?_)
              by_cases e : i = m
              · subst e; exact hok
              · exact h i hi (by omega)
            · exact .inr ⟨m, by omega, by omega, hok, fun j hj hjm => h j hj hjm⟩
          · exact .inr ⟨i, hi, by omega, h2, h3⟩
      rcases first n (Nat.le_refl _) with hh | ⟨i, hi, h1, h2, h3⟩
      · exact (hall (fun z hz => by obtain ⟨i, hi, rfl⟩ := List.mem_iff_getElem.1 hz; exact hh i hi (by omega))).elim
      · have h4 := allTo_ok h i (by omega)
        have hpre := inFs_ok (ρ := fun i => zs.getD i 0) (bd := bd) (n := i) (fun j hj => by rw [hv j (by omega)]; exact h3 j (by omega) hj)
        have hvi := hv i hi
        split at h4
        · rename_i h5
          by_cases hlo : zs[i] < -bd
          · obtain ⟨S, hS⟩ := isB_iff h5
            subst hn
            refine run_nums hG hm (by omega) hw (fun f hf => ?_) hS ρ s B
            simp only [loF, List.cons_append, List.nil_append, List.mem_cons] at hf
            rcases hf with rfl | rfl | hf
            · exact Fact.lt_yes (by rw [hvi]; exact hlo)
            · exact Fact.lt_no (by rw [hvi]; simp only [Sy.den]; omega)
            · exact hpre f hf
          · obtain ⟨S, hS⟩ := isB_iff h4
            subst hn
            refine run_nums hG hm (by omega) hw (fun f hf => ?_) hS ρ s B
            simp only [hiF, List.cons_append, List.nil_append, List.mem_cons] at hf
            rcases hf with rfl | rfl | hf
            · exact Fact.lt_no (by rw [hvi]; exact hlo)
            · exact Fact.lt_yes (by rw [hvi]; simp only [Sy.den]; omega)
            · exact hpre f hf
        · cases h4
  · cases h

/-- A test whose runs are right for 1 to 6 numbers, and that refuses none and more. -/
theorem valid_of_runs {P : Program} (hG : NoCount P) (hm : P.follows .mixedOrders = true) {bd : Int} (hbd : 0 ≤ bd) {N : Nat} {k : FuncId}
    (h : allTo (fun i => validRuns P bd N k (i + 1)) 6 = true) (h0 : isB false (symRun P noK [] N k [.slice (ints (nums []))] ⟨0, [], 0⟩) = true)
    (h7 : ∀ a b c d e f g r, isB false (symRun P noK [] N k [.slice (ints (nums (a :: b :: c :: d :: e :: f :: g :: r)))] ⟨0, [], 0⟩) = true)
    (zs : List Int) (hw : ∀ z, z ∈ zs → IntKind.i64.wrap z = z) : ∃ S : Sto Sy, ∀ (ρ : Nat → Int) (s : Sms) (B : Nat), Good P ⟨Sy.den ρ, s⟩ B k [.slice (ints (nums zs))] ⟨0, [], 0⟩ (.bool (decide (validP bd zs))) S := by
  by_cases hl0 : zs.length = 0
  · have : zs = [] := List.eq_nil_of_length_eq_zero hl0
    subst this
    obtain ⟨S, hS⟩ := isB_iff h0
    refine ⟨S, fun ρ s B => ?_⟩
    rw [decide_eq_false (show ¬ validP bd [] from fun h => by have := h.2.1; simp at this)]
    exact run_good hG hm ρ hS B
  · by_cases hl6 : zs.length ≤ 6
    · have := allTo_ok h (zs.length - 1) (by omega)
      rw [show zs.length - 1 + 1 = zs.length by omega] at this
      exact validRuns_ok hG hm (by omega) hl6 hbd this rfl hw
    · match zs, hl6 with
      | a :: b :: c :: d :: e :: f :: g :: r, _ =>
        obtain ⟨S, hS⟩ := isB_iff (h7 a b c d e f g r)
        refine ⟨S, fun ρ s B => ?_⟩
        rw [decide_eq_false (show ¬ validP bd _ from fun h => by have := h.2.2; simp at this)]
        exact run_good hG hm ρ hS B
      | [], h => simp at h
      | [a], h => simp at h
      | [a, b], h => simp at h
      | [a, b, c], h => simp at h
      | [a, b, c, d], h => simp at h
      | [a, b, c, d, e], h => simp at h
      | [a, b, c, d, e, f], h => simp at h

/-- A run by hand, over lists of any length. -/
theorem valid_of_hand {P : Program} (hG : NoCount P) (hm : P.follows .mixedOrders = true) {bd : Int} {k : FuncId} {zs : List Int} {n : Nat} {S : Sto Sy} (h : symRun P noK [] n k [.slice (ints (nums zs))] ⟨0, [], 0⟩ = some (.bool (decide (validP bd zs)), S)) :
    ∃ S : Sto Sy, ∀ (ρ : Nat → Int) (s : Sms) (B : Nat), Good P ⟨Sy.den ρ, s⟩ B k [.slice (ints (nums zs))] ⟨0, [], 0⟩ (.bool (decide (validP bd zs))) S := ⟨S, fun ρ s B => run_good hG hm ρ h B⟩
end Go.Sx

/-
  Is a number 1 or -1? The functions that ask it, as contracts.
-/
namespace Go.Sx
open Go.RowKit

theorem inv0 {I : Type} (Δ : Den I) (w : World) : SInv Δ w.heap.size ⟨w, fun _ => none⟩ (⟨0, [], 0⟩ : Sto I) :=
  ⟨Nat.le_refl _, fun _ _ => rfl, fun o b n h => (by cases h), fun o x h => (by cases h), fun o o' x x' b n n' h => (by cases h), trivial⟩

theorem DR_plain2 {ρ' ρ : Nat → Int} {s s' : Sms} {B B' n : Nat} {c c' : Cx} {x y : V Sy} {v : Value} (h : y.plain = true) (hd : DR ρ' ρ n x y) (hv : VR ⟨Sy.den ρ', s'⟩ B' c' x v) : VR ⟨Sy.den ρ, s⟩ B c y v := by
  cases hd with
  | bool b => cases hv; exact .bool _
  | int k he => cases hv; exact VR_int' he
  | str b => cases hv; exact .str _
  | nil => cases hv; exact .nil
  | nilPtr => cases hv; exact .nilPtr
  | nilFunc => cases hv; exact .nilFunc
  | nilIface => cases hv; exact .nilIface
  | _ => simp [V.plain] at h

theorem lift_plain2 {P : Program} {ρ ρ' : Nat → Int} {s s' : Sms} {k : FuncId} {pat : List (V Sy)} {R : V Sy} {S : Sto Sy} (hG : ∀ B', Good P ⟨Sy.den ρ', s'⟩ B' k pat ⟨0, [], 0⟩ R S)
    {B : Nat} {args : List (V Sy)} {sto : Sto Sy} {y : V Sy}
    (hargs : ∀ (c : Cx), SInv ⟨Sy.den ρ, s⟩ B c sto → ∀ vs, VRs ⟨Sy.den ρ, s⟩ B c args vs → VRs ⟨Sy.den ρ', s'⟩ c.w.heap.size ⟨c.w, fun _ => none⟩ pat vs)
    (hp : y.plain = true) (hy : DR ρ' ρ sto.next R y) :
    Good P ⟨Sy.den ρ, s⟩ B k args sto y sto := by
  intro c rargs hinv hra
  refine Calls.mono (hG c.w.heap.size ⟨c.w, fun _ => none⟩ rargs (inv0 _ c.w) (hargs c hinv _ hra)) ?_
  rintro ev w' ⟨rv, c', rfl, rfl, hst, hv⟩
  have hbe : Below c.w.heap.size c.w c'.w := hst.below
  let c'' : Cx := ⟨c'.w, c.κ⟩
  have hle : Cx.le B c c'' := ⟨fun b hb => hbe.block b (Nat.lt_of_lt_of_le hb hinv.base), fun _ _ h => h, hst.oth⟩
  refine ⟨rv, c'', rfl, rfl, ⟨⟨Nat.le_trans hinv.base hbe.size, hinv.fresh, fun o b n hk => ?_, fun o x hx => ?_, hinv.inj, hinv.desc⟩, fun _ _ h => h,
    hbe.mono hinv.base, Nat.le_refl _, Nat.le_refl _, fun b hb _ => hbe.block b hb, fun o b n hk hn hb => ?_, fun o x hk hn => ?_, hst.frz, hst.oth⟩, DR_plain2 hp hy hv⟩
  · have := hinv.blk o b n hk
    exact ⟨this.1, Nat.lt_of_lt_of_le this.2 hbe.size⟩
  · obtain ⟨b, cur, el, e1, e2, e4⟩ := hinv.ob o x hx
    refine ⟨b, cur, el, e1, ?_, e4.mono hle⟩
    show c'.w.heap[b]? = _
    rw [hbe.block b (hinv.blk _ _ _ e1).2]; exact e2
  · rw [hn] at hk; cases hk
  · rw [hn] at hk; cases hk

theorem ints_intVs {ρ : Nat → Int} {s : Sms} {B : Nat} {c : Cx} {xs : List Sy} {zs : List Int} (hx : xs.map (Sy.den ρ) = zs) : VRs ⟨Sy.den ρ, s⟩ B c (ints xs) (intVs zs) := by
  subst hx
  refine ⟨by simp [intVs], fun i x v hx hv => ?_⟩
  rw [ints_get] at hx
  rw [intVs, List.map_map, List.getElem?_map] at hv
  cases hz : xs[i]? with
  | none => rw [hz] at hx; simp at hx
  | some z => rw [hz] at hx hv; simp at hx hv; subst hx; subst hv; exact .int _ _

/-- A list of numbers, under another reading. -/
theorem nums_to {ρ ρ' : Nat → Int} {s s' : Sms} {B B' : Nat} {c c' : Cx} {zs : List Int} {xs : List Sy} {v : Value} (hw : c'.w = c.w) (hB : B ≤ B') (hx : xs.map (Sy.den ρ') = zs) (h : VR ⟨Sy.den ρ, s⟩ B c (.slice (ints (nums zs))) v) :
    VR ⟨Sy.den ρ', s'⟩ B' c' (.slice (ints xs)) v := by
  have hl : (ints xs).length = (ints (nums zs)).length := by rw [← hx]; simp
  generalize hg : ints (nums zs) = ys at h
  cases h with
  | @slice _ b off cap us h1 h2 h3 h4 h5 =>
    subst hg
    have hus := intVs_of (ρ := ρ) (s := s) (B := B) (c := c) ⟨h1.symm, h5⟩
    subst hus
    have := VR.slice (Δ := ⟨Sy.den ρ', s'⟩) (B := B') (c := c') (xs := ints xs) (b := b) (off := off) (cap := cap) (intVs zs) (by rw [hl]; exact h1) (by rw [hl]; exact h2) (Nat.lt_of_lt_of_le h3 hB)
      (fun j u hj => by rw [hw]; exact h4 j u hj) (ints_intVs hx).2
    rwa [hl] at this
  | snil =>
    have h0 : (ints xs).length = 0 := by rw [hl, hg]; rfl
    have : ints xs = [] := List.eq_nil_of_length_eq_zero h0
    rw [this]; exact .snil

noncomputable def unitDec (Γ : List Fact) (Vt : List VEnt) : Sy → Option Bool
  | .c n => some (bite (ieq n 1) true (ieq n (-1)))
  | .p l => bite (inV 1 (.p l) Vt) (match eqSy Γ (.p l) (.c 0) with
      | some q => some (!q)
      | none => none) (match findV 1 [.p l] Vt with
      | some false => some false
      | _ => none)

theorem unitDec_ok {ρ : Nat → Int} {Γ : List Fact} {Vt : List VEnt} (hΓ : ∀ f, f ∈ Γ → f.Ok ρ) (hV : ∀ e, e ∈ Vt → e.Ok ρ) {x : Sy} {q : Bool} (h : unitDec Γ Vt x = some q) : decide (unit (x.den ρ)) = q := by
  cases x with
  | c n =>
    simp only [unitDec, bite_eq, ieq_eq] at h
    cases h
    simp only [Sy.den, unit]
    by_cases h1 : n = 1
    · simp [h1]
    · simp [h1]
      rw [Bool.eq_iff_iff]; simp
  | p l =>
    simp only [unitDec, bite_eq] at h
    split at h
    · rename_i h1
      have h2 := inV_ok hV h1
      split at h
      · rename_i b hb
        cases h
        have h3 := eqSy_ok hΓ hb
        have h4 : (Sy.c 0).den ρ = 0 := rfl
        rw [h4] at h3
        generalize (Sy.p l).den ρ = z at *
        cases b with
        | true => have : z = 0 := by simpa using h3
                  simp [unit, this]
        | false =>
          have h5 : z ≠ 0 := by simpa using h3
          obtain ⟨h6, h7⟩ := h2
          show decide (unit z) = true
          exact decide_eq_true (show z = 1 ∨ z = -1 by omega)
      · cases h
    · split at h
      · rename_i hf
        cases h
        have h3 := findV_ok hV hf
        simp only [List.map_cons, List.map_nil] at h3
        generalize (Sy.p l).den ρ = z at *
        refine decide_eq_false (fun hu => (of_decide_eq_false h3) ⟨fun y hy => ?_, by simp, by simp⟩)
        simp only [List.mem_cons, List.not_mem_nil, or_false] at hy
        subst hy
        rcases hu with hu | hu <;> omega
      · cases h

noncomputable def unitK (U : UIds) (Γ : List Fact) (Vt : List VEnt) : Ctr := fun k args sto =>
  match args with
  | [.int .i64 x] => bite (Nat.beq k U.isUnit) (bite x.fits (match unitDec Γ Vt x with
    | some q => some (.bool q, sto)
    | none => none) none) none
  | [f, g] => bite (Nat.beq k U.begins) (match sto.elems f, sto.elems g with
    | some xs, some ys => match numsOf xs, numsOf ys with
      | some ps, some [.c a, .c b] => bite (ieq a 1) (bite (ieq b (-1)) (bite (capOk f) (bite (capOk g) (bite (fitsL ps) (bite (Nat.ble ps.length 6) (match ps with
        | [] => none
        | p :: r => match vdec Vt 600 (p :: r) with
          | some false => some (.bool false, sto)
          | some true => match unitDec Γ Vt p with
            | some q => some (.bool q, sto)
            | none => none
          | none => none) none) none) none) none) none) none
      | _, _ => none
    | _, _ => none) none
  | _ => none

theorem unitK_ok {P : Program} {U : UIds} (hU : U.Ok P) {ρ : Nat → Int} {s : Sms} {B : Nat} {Γ : List Fact} {Vt : List VEnt} (hΓ : ∀ f, f ∈ Γ → f.Ok ρ) (hV : ∀ e, e ∈ Vt → e.Ok ρ) : COk P ⟨Sy.den ρ, s⟩ B (unitK U Γ Vt) := by
  intro k args sto r sto' h
  unfold unitK at h
  split at h
  · rename_i x
    simp only [bite_eq] at h
    split at h
    · rename_i hk
      have hk := Nat.eq_of_beq_eq_true hk
      subst hk
      split at h
      · rename_i hfit
        split at h
        · rename_i q hq
          cases h
          refine ⟨?_, hU.body _ (.inl rfl)⟩
          obtain ⟨S, hS⟩ := hU.isUnit (x.den ρ) (fits_wrap ρ hfit)
          rw [unitDec_ok hΓ hV hq] at hS
          refine lift_plain2 (ρ' := ρ) (s' := s) (hS ρ s) (fun c hinv vs hv => ?_) rfl (.bool _)
          obtain ⟨v, rfl, hv2⟩ := hv.one
          cases hv2
          exact .cons (VR_int' rfl) .nil
        · cases h
      · cases h
    · cases h
  · rename_i f g
    simp only [bite_eq] at h
    split at h
    · rename_i hk
      have hk := Nat.eq_of_beq_eq_true hk
      subst hk
      split at h
      · rename_i xs ys hxs hys
        split at h
        · rename_i ps a b hps hab
          have hps := numsOf_ints hps
          have hab := numsOf_ints hab
          subst hps
          subst hab
          split at h
          case isFalse => cases h
          rename_i c1
          split at h
          case isFalse => cases h
          rename_i c2
          split at h
          case isFalse => cases h
          rename_i hcf
          split at h
          case isFalse => cases h
          rename_i hcg
          split at h
          case isFalse => cases h
          rename_i hfit
          split at h
          case isFalse => cases h
          rename_i hlen
          rw [Nat.ble_eq] at hlen
          rw [ieq_eq] at c1 c2
          obtain rfl := eq_of_beq c1
          obtain rfl := eq_of_beq c2
          cases ps with
          | nil => cases h
          | cons p rest =>
            simp only at h
            have key : ∀ q : Bool, decide (validP 600 ((p :: rest).map (Sy.den ρ)) ∧ unit (p.den ρ)) = q → Good P ⟨Sy.den ρ, s⟩ B U.begins [f, g] sto (.bool q) sto := by
              intro q hq
              obtain ⟨S, hS⟩ := hU.begins (p.den ρ) (rest.map (Sy.den ρ)) (by simpa using hlen) (fun y hy => fitsL_wrap ρ hfit y (by simpa using hy))
              have hq' : decide (validP 600 (p.den ρ :: rest.map (Sy.den ρ)) ∧ unit (p.den ρ)) = q := hq
              rw [hq'] at hS
              refine lift_plain2 (ρ' := ρ) (s' := s) (hS ρ s) (fun c hinv vs hv => ?_) rfl (.bool _)
              obtain ⟨v, u, rfl, hv1, hv2⟩ := hv.two
              have e1 := (elems_data (ρ' := ρ) hinv hv1 hxs hcf).2 (by simp) (by omega)
              have e2 := (elems_data (ρ' := ρ) hinv hv2 hys hcg).2 (by simp) (by simp)
              exact .cons e1 (.cons e2 .nil)
            split at h
            · rename_i hvd
              cases h
              refine ⟨key false ?_, hU.body _ (.inr rfl)⟩
              have := of_decide_eq_false (vdec_ok hV (by decide) (fitsL_wrap ρ hfit) hvd)
              exact decide_eq_false (fun hh => this hh.1)
            · rename_i hvd
              split at h
              · rename_i q hq
                cases h
                refine ⟨key q ?_, hU.body _ (.inr rfl)⟩
                have h1 := of_decide_eq_true (vdec_ok hV (by decide) (fitsL_wrap ρ hfit) hvd)
                rw [← unitDec_ok hΓ hV hq]
                have h1' : validP 600 (p.den ρ :: rest.map (Sy.den ρ)) := h1
                simp [h1']
              · cases h
            · cases h
        · cases h
      · cases h
    · cases h
  · cases h

/-! ## By runs -/
theorem unit_of_runs {P : Program} (hG : NoCount P) (hm : P.follows .mixedOrders = true) {N : Nat} {k : FuncId} (h1 : isB true (symRun P noK [] N k [.int .i64 (.c 1)] ⟨0, [], 0⟩) = true) (h2 : isB true (symRun P noK [] N k [.int .i64 (.c (-1))] ⟨0, [], 0⟩) = true)
    (h3 : isB false (symRun P noK [⟨false, vx 0, .c 1, false⟩, ⟨false, vx 0, .c (-1), false⟩] N k [.int .i64 (vx 0)] ⟨0, [], 0⟩) = true) (z : Int) (hw : IntKind.i64.wrap z = z) :
    ∃ (S : Sto Sy), ∀ (ρ : Nat → Int) (s : Sms) (B : Nat), Good P ⟨Sy.den ρ, s⟩ B k [.int .i64 (.c z)] ⟨0, [], 0⟩ (.bool (decide (unit z))) S := by
  by_cases e1 : z = 1
  · subst e1
    obtain ⟨S, hS⟩ := isB_iff h1
    exact ⟨S, fun ρ s B => run_good hG hm ρ hS B⟩
  · by_cases e2 : z = -1
    · subst e2
      obtain ⟨S, hS⟩ := isB_iff h2
      exact ⟨S, fun ρ s B => run_good hG hm ρ hS B⟩
    · obtain ⟨S, hS⟩ := isB_iff h3
      refine ⟨⟨0, [], 0⟩, fun ρ s B => ?_⟩
      have hv : (vx 0).den (fun _ => z) = z := vx_den _ 0 (by decide) hw
      rw [decide_eq_false (show ¬ unit z from fun h => by rcases h with h | h <;> contradiction)]
      refine lift_plain2 (ρ' := fun _ => z) (s' := s) (R := .bool false) (S := S) (pat := [.int .i64 (vx 0)]) (fun B' => (symRun_ok (ρ := fun _ => z) (s := s) (B := B') hG hm (fun f hf => ?_) noK_ok N k _ _ _ _ hS).1) (fun c hinv vs hv2 => ?_) rfl (.bool _)
      · simp only [List.mem_cons, List.not_mem_nil, or_false] at hf
        rcases hf with rfl | rfl
        · exact Fact.eq_no (by rw [hv]; exact e1)
        · exact Fact.eq_no (by rw [hv]; exact e2)
      · obtain ⟨v, rfl, hv3⟩ := hv2.one
        cases hv3
        exact .cons (VR_int' hv) .nil

noncomputable def beginsRuns (P : Program) (D : Ids) (N : Nat) (k : FuncId) (n : Nat) : Bool :=
  bite (isB true (symRun P (bigK D [⟨600, (vxs n).set 0 (.c 1), true⟩] []) [] N k [.slice (ints ((vxs n).set 0 (.c 1))), .slice (ints (nums [1, -1]))] ⟨0, [], 0⟩))
    (bite (isB true (symRun P (bigK D [⟨600, (vxs n).set 0 (.c (-1)), true⟩] []) [] N k [.slice (ints ((vxs n).set 0 (.c (-1)))), .slice (ints (nums [1, -1]))] ⟨0, [], 0⟩))
      (bite (isB false (symRun P (bigK D [⟨600, vxs n, true⟩] []) [⟨false, vx 0, .c 1, false⟩, ⟨false, vx 0, .c (-1), false⟩] N k [.slice (ints (vxs n)), .slice (ints (nums [1, -1]))] ⟨0, [], 0⟩))
        (isB false (symRun P (bigK D [⟨600, vxs n, false⟩] []) [] N k [.slice (ints (vxs n)), .slice (ints (nums [1, -1]))] ⟨0, [], 0⟩)) false) false) false

def noL : Nat → List Int := fun _ => [0]
theorem wrap0 : IntKind.i64.wrap 0 = 0 := by decide

theorem begins_of_runs {P : Program} (hG : NoCount P) (hm : P.follows .mixedOrders = true) {D : Ids} (hD : D.Ok P) {N : Nat} {k : FuncId} (h : allTo (fun i => beginsRuns P D N k (i + 1)) 6 = true) (z : Int) (zs : List Int) (hl : (z :: zs).length ≤ 6)
    (hw : ∀ y, y ∈ z :: zs → IntKind.i64.wrap y = y) :
    ∃ (S : Sto Sy), ∀ (ρ : Nat → Int) (s : Sms) (B : Nat), Good P ⟨Sy.den ρ, s⟩ B k [.slice (ints (nums (z :: zs))), .slice (ints (nums [1, -1]))] ⟨0, [], 0⟩ (.bool (decide (validP 600 (z :: zs) ∧ unit z))) S := by
  refine ⟨⟨0, [], 0⟩, fun ρ s B => ?_⟩
  have h0 := allTo_ok h zs.length (by simp at hl; omega)
  rw [show zs.length + 1 = (z :: zs).length by simp] at h0
  have hvx := vxs_den (zs := z :: zs) (by omega) hw
  generalize hρ : (fun i => (z :: zs).getD i 0) = ρ' at hvx
  let s' : Sms := ⟨fun _ _ => ByteArray.empty, noL⟩
  have go : ∀ {Vt : List VEnt} {Γ : List Fact} {xs : List Sy} {q : Bool}, (∀ e, e ∈ Vt → e.Ok ρ') → (∀ f, f ∈ Γ → f.Ok ρ') → xs.map (Sy.den ρ') = z :: zs →
      isB q (symRun P (bigK D Vt []) Γ N k [.slice (ints xs), .slice (ints (nums [1, -1]))] ⟨0, [], 0⟩) = true → Good P ⟨Sy.den ρ, s⟩ B k [.slice (ints (nums (z :: zs))), .slice (ints (nums [1, -1]))] ⟨0, [], 0⟩ (.bool q) ⟨0, [], 0⟩ := by
    intro Vt Γ xs q hV hΓ hx hr
    obtain ⟨S, hS⟩ := isB_iff hr
    refine lift_plain2 (ρ' := ρ') (s' := s') (R := .bool q) (S := S) (pat := [.slice (ints xs), .slice (ints (nums [1, -1]))])
      (fun B' => (symRun_ok (ρ := ρ') (s := s') (B := B') hG hm hΓ (bigK_ok hG hm hD hV (by simp) (fun j => by simp [s', noL]) (fun j y hy => by simp [s', noL] at hy; subst hy; exact wrap0)) N k _ _ _ _ hS).1) (fun c hinv vs hv => ?_) rfl (.bool _)
    obtain ⟨v, u, rfl, hv1, hv2⟩ := hv.two
    exact .cons (nums_to (c := c) rfl hinv.base hx hv1) (.cons (nums_to (c := c) (zs := [1, -1]) rfl hinv.base (by simp [nums, Sy.den]) hv2) .nil)
  have hv0 : (vx 0).den ρ' = z := by
    have := congrArg (fun q => q[0]?) hvx
    simpa [vxs] using this
  have hx0 : ((vxs (z :: zs).length).getD 0 (.c 0)).den ρ' = z := by
    have : (vxs (z :: zs).length).getD 0 (.c 0) = vx 0 := by simp [vxs, List.getD]
    rw [this]; exact hv0
  unfold beginsRuns at h0
  obtain ⟨a1, h0⟩ : _ = true ∧ _ = true := by
    rw [bite_eq] at h0
    split at h0
    · rename_i h1; exact ⟨h1, h0⟩
    · cases h0
  obtain ⟨a2, h0⟩ : _ = true ∧ _ = true := by
    rw [bite_eq] at h0
    split at h0
    · rename_i h1; exact ⟨h1, h0⟩
    · cases h0
  obtain ⟨a3, a4⟩ : _ = true ∧ _ = true := by
    rw [bite_eq] at h0
    split at h0
    · rename_i h1; exact ⟨h1, h0⟩
    · cases h0
  by_cases hval : validP 600 (z :: zs)
  · by_cases e1 : z = 1
    · rw [decide_eq_true (show validP 600 (z :: zs) ∧ unit z from ⟨hval, .inl e1⟩)]
      have hx := map_set_den hvx (i := 0) (c := 1) (by rw [hx0]; exact e1)
      refine go (fun e he => ?_) (by simp) hx a1
      simp only [List.mem_cons, List.not_mem_nil, or_false] at he
      subst he
      unfold VEnt.Ok
      simp only [hx]
      exact decide_eq_true hval
    · by_cases e2 : z = -1
      · rw [decide_eq_true (show validP 600 (z :: zs) ∧ unit z from ⟨hval, .inr e2⟩)]
        have hx := map_set_den hvx (i := 0) (c := -1) (by rw [hx0]; exact e2)
        refine go (fun e he => ?_) (by simp) hx a2
        simp only [List.mem_cons, List.not_mem_nil, or_false] at he
        subst he
        unfold VEnt.Ok
        simp only [hx]
        exact decide_eq_true hval
      · rw [decide_eq_false (show ¬ (validP 600 (z :: zs) ∧ unit z) from fun h => by rcases h.2 with h | h <;> contradiction)]
        refine go (fun e he => ?_) (fun f hf => ?_) hvx a3
        · simp only [List.mem_cons, List.not_mem_nil, or_false] at he
          subst he
          unfold VEnt.Ok
          simp only [hvx]
          exact decide_eq_true hval
        · simp only [List.mem_cons, List.not_mem_nil, or_false] at hf
          rcases hf with rfl | rfl
          · exact Fact.eq_no (by rw [hv0]; exact e1)
          · exact Fact.eq_no (by rw [hv0]; exact e2)
  · rw [decide_eq_false (show ¬ (validP 600 (z :: zs) ∧ unit z) from fun h => hval h.1)]
    refine go (fun e he => ?_) (by simp) hvx a4
    simp only [List.mem_cons, List.not_mem_nil, or_false] at he
    subst he
    unfold VEnt.Ok
    simp only [hvx]
    exact decide_eq_false hval
end Go.Sx

/-
  Is a list a way to part things?
-/
namespace Go.Sx
open Go.RowKit

theorem partFrom_bound : ∀ (zs : List Int) (most : Int), partFrom most zs = true → 0 ≤ most → ∀ (i : Nat) (z : Int), zs[i]? = some z → 0 ≤ z ∧ z ≤ most + i
  | [], _, _, _, i, z, h => by simp at h
  | y :: r, most, hp, hm, i, z, h => by
    simp only [partFrom, Bool.and_eq_true, decide_eq_true_eq] at hp
    cases i with
    | zero => simp at h; subst h; simp; exact hp.1
    | succ i =>
      simp at h
      have := partFrom_bound r _ hp.2 (by split <;> omega) i z h
      split at this <;> omega

theorem isPart_valid {zs : List Int} (h : isPart zs = true) (hne : zs ≠ []) : validP 4 zs := by
  simp only [isPart, Bool.and_eq_true, decide_eq_true_eq] at h
  refine ⟨fun z hz => ?_, ?_, by omega⟩
  · obtain ⟨i, hi, rfl⟩ := List.getElem_of_mem hz
    have := partFrom_bound zs 0 h.2 (Int.le_refl _) i zs[i] (List.getElem?_eq_getElem hi)
    omega
  · cases zs with
    | nil => exact (hne rfl).elim
    | cons a r => simp

/-- Is a number none of 0, 1 and so on up to another one? -/
noncomputable def noneOf (Γ : List Fact) (x : Sy) : Nat → Bool
  | 0 => true
  | n + 1 => match eqSy Γ x (.c n) with
    | some false => noneOf Γ x n
    | _ => false
noncomputable def outside (Γ : List Fact) (x : Sy) (most : Int) : Bool :=
  match symCmp Γ .lss x (.c 0) with
  | some true => true
  | _ => match symCmp Γ .lss (.c most) x with
    | some true => true
    | _ => noneOf Γ x (most + 1).toNat
theorem noneOf_ok {ρ : Nat → Int} {Γ : List Fact} (hΓ : ∀ f, f ∈ Γ → f.Ok ρ) {x : Sy} : ∀ {n : Nat}, noneOf Γ x n = true → ¬ (0 ≤ x.den ρ ∧ x.den ρ < n) := by
  intro n
  induction n with
  | zero => intro _ h; omega
  | succ n ih =>
    intro h hh
    simp only [noneOf] at h
    split at h
    · rename_i h1
      have h2 := eqSy_ok hΓ h1
      have h3 : (Sy.c (n : Int)).den ρ = n := rfl
      rw [h3] at h2
      have h4 : x.den ρ ≠ n := by simpa using h2
      exact ih h ⟨hh.1, by omega⟩
    · cases h

noncomputable def pscan (Γ : List Fact) (most : Int) : List Sy → Option Bool
  | [] => some true
  | .c z :: r => bite (ilt z 0) (some false) (bite (ilt most z) (some false) (pscan Γ (bite (ieq z most) (most + 1) most) r))
  | .p l :: r => bite (outside Γ (.p l) most) (some false) none

noncomputable def pdec (Γ : List Fact) (ps : List Sy) : Option Bool := bite (Nat.blt 5 ps.length) (some false) (pscan Γ 0 ps)

theorem pscan_ok {ρ : Nat → Int} {Γ : List Fact} (hΓ : ∀ f, f ∈ Γ → f.Ok ρ) : ∀ {ps : List Sy} {most : Int} {q : Bool}, pscan Γ most ps = some q → partFrom most (ps.map (Sy.den ρ)) = q := by
  intro ps
  induction ps with
  | nil => intro most q h; simp [pscan] at h; subst h; rfl
  | cons p r ih =>
    intro most q h
    cases p with
    | c z =>
      simp only [pscan, bite_eq, ilt_eq, ieq_eq] at h
      simp only [List.map_cons, Sy.den, partFrom]
      split at h
      · rename_i h1
        cases h
        have : ¬ 0 ≤ z := by simpa using h1
        simp [this]
      · rename_i h1
        split at h
        · rename_i h2
          cases h
          have : ¬ z ≤ most := by simpa using h2
          simp [this]
        · rename_i h2
          have h1' : 0 ≤ z := by simpa using h1
          have h2' : z ≤ most := by simpa using h2
          have e : (if (z == most) = true then most + 1 else most) = (if z = most then most + 1 else most) := by
            by_cases hz : z = most <;> simp [hz]
          rw [e] at h
          have := ih h
          simp [h1', h2', this]
    | p l =>
      simp only [pscan, bite_eq] at h
      split at h
      · rename_i h1
        cases h
        simp only [List.map_cons, partFrom]
        unfold outside at h1
        split at h1
        · rename_i h2
          have h3 := (symNum_ok hΓ ⟨fun _ _ => ⟨#[]⟩, fun _ => []⟩).cmp .lss (.p l) (.c 0) true h2
          have h5 : (Sy.p l).den ρ < (Sy.c 0).den ρ := by simpa [cmpOk] using h3
          have h4 : (Sy.p l).den ρ < 0 := h5
          have : ¬ 0 ≤ (Sy.p l).den ρ := by omega
          simp [this]
        · split at h1
          · rename_i h2
            have h3 := (symNum_ok hΓ ⟨fun _ _ => ⟨#[]⟩, fun _ => []⟩).cmp .lss (.c most) (.p l) true h2
            have h5 : (Sy.c most).den ρ < (Sy.p l).den ρ := by simpa [cmpOk] using h3
            have h4 : most < (Sy.p l).den ρ := h5
            have : ¬ (Sy.p l).den ρ ≤ most := by omega
            simp [this]
          · have h2 := noneOf_ok hΓ h1
            have : (decide (0 ≤ (Sy.p l).den ρ) && decide ((Sy.p l).den ρ ≤ most)) = false := by
              rw [← Bool.decide_and]
              exact decide_eq_false (fun hh => h2 ⟨hh.1, by omega⟩)
            rw [this, Bool.false_and]
      · cases h

theorem pdec_ok {ρ : Nat → Int} {Γ : List Fact} (hΓ : ∀ f, f ∈ Γ → f.Ok ρ) {ps : List Sy} {q : Bool} (h : pdec Γ ps = some q) : isPart (ps.map (Sy.den ρ)) = q := by
  simp only [pdec, bite_eq] at h
  unfold isPart
  split at h
  · rename_i h1
    cases h
    rw [Nat.blt_eq] at h1
    have : ¬ ps.length ≤ 5 := by omega
    simp [this]
  · rename_i h1
    have h2 : ps.length ≤ 5 := by
      rcases Nat.lt_or_ge 5 ps.length with h3 | h3
      · exact (h1 (by rw [Nat.blt_eq]; exact h3)).elim
      · exact h3
    rw [pscan_ok hΓ h]
    simp [h2]

noncomputable def partK (U : PIds) (Γ : List Fact) (Vb : List BEnt) : Ctr := fun k args sto =>
  bite (Nat.beq k U.isWay || Nat.beq k U.validPart) (match args with
  | [.brs o j m] => bite (isBig sto o j) (match findB 4 j Vb with
    | some false => some (.bool false, sto)
    | _ => none) none
  | [x] => match sto.elems x with
    | some xs => match numsOf xs with
      | some ps => bite (Nat.ble ps.length 1048576) (bite (capOk x) (bite (fitsL ps) (match pdec Γ ps with
        | some q => some (.bool q, sto)
        | none => none) none) none) none
      | none => none
    | none => none
  | _ => none) none

theorem partK_ok {P : Program} (hG : NoCount P) (hm : P.follows .mixedOrders = true) {U : PIds} (hU : U.Ok P) {ρ : Nat → Int} {s : Sms} {B : Nat} {Γ : List Fact} {Vb : List BEnt} (hΓ : ∀ f, f ∈ Γ → f.Ok ρ) (hB : ∀ e, e ∈ Vb → e.Ok s)
    (hs : ∀ j, 1 ≤ (s.l j).length ∧ (s.l j).length ≤ 1048576) (hw : ∀ j z, z ∈ s.l j → IntKind.i64.wrap z = z) : COk P ⟨Sy.den ρ, s⟩ B (partK U Γ Vb) := by
  intro k args sto r sto' h
  unfold partK at h
  rw [bite_eq] at h
  split at h
  case isFalse => cases h
  rename_i hk
  have hk : k = U.isWay ∨ k = U.validPart := by
    rw [Bool.or_eq_true] at hk
    exact hk.imp Nat.eq_of_beq_eq_true Nat.eq_of_beq_eq_true
  split at h
  · rename_i o j m
    rw [bite_eq] at h
    split at h
    · rename_i hbig
      have hl := isBig_look hbig
      split at h
      · rename_i hq
        cases h
        refine ⟨?_, hU.body k hk⟩
        obtain ⟨S, hrun⟩ := hU.part k hk (s.l j) (hs j).2 (hw j)
        have hq' := findB_ok hB hq
        have hp : isPart (s.l j) = false := by
          cases hp : isPart (s.l j) with
          | false => rfl
          | true =>
            have hne : s.l j ≠ [] := fun h => by have := (hs j).1; rw [h] at this; simp at this
            exact absurd (isPart_valid hp hne) (of_decide_eq_false hq')
        rw [hp] at hrun
        refine lift_plain (ρ' := ρ) (hrun ρ s) (fun c hinv vs hv => ?_) rfl (.bool _)
        obtain ⟨v, rfl, hv2⟩ := hv.one
        exact .cons (brs_data hinv hl hv2) .nil
      · cases h
    · cases h
  · rename_i x _
    split at h
    · rename_i xs hxs
      split at h
      · rename_i ps hps
        have hps := numsOf_ints hps
        subst hps
        simp only [bite_eq] at h
        split at h
        · rename_i hsz
          rw [Nat.ble_eq] at hsz
          split at h
          · rename_i hcap
            split at h
            · rename_i hfit
              split at h
              · rename_i q hq
                cases h
                refine ⟨?_, hU.body k hk⟩
                have hq' := pdec_ok hΓ hq
                by_cases hp : ps = []
                · obtain ⟨n, S, hrun⟩ := hU.partE k hk
                  have : q = true := by rw [← hq', hp]; rfl
                  subst this
                  refine lift_plain (ρ' := ρ) (run_good hG hm ρ hrun) (fun c hinv vs hv => ?_) rfl (.bool _)
                  obtain ⟨v, rfl, hv2⟩ := hv.one
                  exact .cons ((elems_data hinv hv2 hxs hcap).1 hp) .nil
                · obtain ⟨S, hrun⟩ := hU.part k hk (ps.map (Sy.den ρ)) (by simpa using hsz) (fitsL_wrap ρ hfit)
                  rw [hq'] at hrun
                  refine lift_plain (ρ' := ρ) (hrun ρ s) (fun c hinv vs hv => ?_) rfl (.bool _)
                  obtain ⟨v, rfl, hv2⟩ := hv.one
                  exact .cons ((elems_data hinv hv2 hxs hcap).2 hp hsz) .nil
              · cases h
            · cases h
          · cases h
        · cases h
      · cases h
    · cases h
  · cases h

/-! ## By runs -/
/-- Behind the first that is not in order: which are equal to which? -/
def eqT : Nat → Nat → List Nat → Sp
  | 0, _, _ => .leaf
  | n + 1, i, seen => seen.foldr (fun k t => .cmp false (fun xs => xs.getD i (.c 0)) (fun xs => xs.getD k (.c 0)) (eqT n (i + 1) seen) t) (eqT n (i + 1) (seen ++ [i]))

/-- A list of n more numbers from place i on: in order so far, or the first that is not. 'firsts': where each part begins. -/
def partT : Nat → Nat → List Nat → Sp
  | 0, _, _ => .leaf
  | n + 1, i, firsts => (List.range (firsts.length + 1)).foldr (fun t r => .sub i (t : Nat) (partT n (i + 1) (if t = firsts.length then firsts ++ [i] else firsts)) r) (eqT n (i + 1) (firsts ++ [i]))

noncomputable def partRun (P : Program) (N : Nat) (k : FuncId) (xs : List Sy) (Γ : List Fact) (Vt : List VEnt) : Bool :=
  match pdec Γ xs with
  | some q => isB q (symRun P noK Γ N k [.slice (ints xs)] ⟨0, [], 0⟩)
  | none => false

/-- Lists of up to five numbers, by cases; of no more than twice as many: by the length alone. -/
noncomputable def partRuns (P : Program) (N : Nat) (k : FuncId) (n : Nat) : Bool := chk (partRun P N k) (partT n 0 []) (vxs n) [] []

theorem part_of_runs {P : Program} (hG : NoCount P) (hm : P.follows .mixedOrders = true) {N : Nat} {k : FuncId} {zs : List Int} (h : partRuns P N k zs.length = true) (hl : zs.length ≤ 5) (hw : ∀ z, z ∈ zs → IntKind.i64.wrap z = z) :
    ∃ S : Sto Sy, ∀ (ρ : Nat → Int) (s : Sms) (B : Nat), Good P ⟨Sy.den ρ, s⟩ B k [.slice (ints (nums zs))] ⟨0, [], 0⟩ (.bool (isPart zs)) S := by
  refine ⟨⟨0, [], 0⟩, fun ρ s B => ?_⟩
  let ρ' : Nat → Int := fun i => zs.getD i 0
  have hz : (vxs zs.length).map (Sy.den ρ') = zs := vxs_den (by omega) hw
  refine chk_ok (ρ := ρ') (zs := zs) (G := Good P ⟨Sy.den ρ, s⟩ B k [.slice (ints (nums zs))] ⟨0, [], 0⟩ (.bool (isPart zs)) ⟨0, [], 0⟩) (fun xs Γ Vt hr hx hΓ _ => ?_) (partT zs.length 0 []) (vxs zs.length) [] [] h hz (by simp) (by simp)
  unfold partRun at hr
  split at hr
  · rename_i q hq
    obtain ⟨S, hS⟩ := isB_iff hr
    have hp := pdec_ok hΓ hq
    rw [hx] at hp
    rw [hp]
    refine lift_plain2 (ρ' := ρ') (s' := s) (R := .bool q) (S := S) (pat := [.slice (ints xs)]) (fun B' => (symRun_ok (ρ := ρ') (s := s) (B := B') hG hm hΓ noK_ok N k _ _ _ _ hS).1) (fun c hinv vs hv2 => ?_) rfl (.bool _)
    obtain ⟨v, rfl, hv3⟩ := hv2.one
    refine .cons ?_ .nil
    exact nums_to (c := c) rfl hinv.base hx hv3
  · cases hr
end Go.Sx

/-
  Laws over lists: every list is empty, too long, valid, or none of these.
-/
namespace Go.Sx
open Go.RowKit

/-- A list of numbers, under whatever reading. -/
def IsList (w : World) (zs : List Int) (v : Value) : Prop := (∀ z, z ∈ zs → IntKind.i64.wrap z = z) ∧ ∀ (ρ : Nat → Int) (s : Sms), VR ⟨Sy.den ρ, s⟩ w.heap.size ⟨w, fun _ => none⟩ (.slice (ints (nums zs))) v

theorem IsList.known {w : World} {zs : List Int} {v : Value} (h : IsList w zs v) {ρ : Nat → Int} {s : Sms} {xs : List Sy} (hx : xs.map (Sy.den ρ) = zs) : VR ⟨Sy.den ρ, s⟩ w.heap.size ⟨w, fun _ => none⟩ (.slice (ints xs)) v := by
  have := AR.rel (ρ' := ρ) (inv0 ⟨Sy.den ρ, s⟩ w) (.slice (ns := xs) (ts := nums zs) (by rw [hx]; simp [nums, Sy.den, Function.comp_def])) (h.2 ρ s)
  exact this

theorem IsList.big {w : World} {zs : List Int} {v : Value} (h : IsList w zs v) {ρ : Nat → Int} {s : Sms} {j : Nat} {m : Sy} (hj : s.l j = zs) (hm : m.den ρ = (zs.length : Int)) : VR ⟨Sy.den ρ, s⟩ w.heap.size ⟨w, fun _ => none⟩ (.bsl j m) v := by
  have h2 := h.2 ρ s
  generalize hg : ints (nums zs) = xs at h2
  cases h2 with
  | @slice _ b off cap us h1 h2 h3 h4 h5 =>
    subst hg
    have hus := intVs_of (ρ := ρ) (s := s) (B := w.heap.size) (c := ⟨w, fun _ => none⟩) ⟨h1.symm, h5⟩
    subst hus
    have hl : (ints (nums zs)).length = zs.length := by simp
    rw [hl] at h2 ⊢
    have := VR.bsl (Δ := ⟨Sy.den ρ, s⟩) (B := w.heap.size) (c := ⟨w, fun _ => none⟩) (j := j) (b := b) (off := off) (cap := cap) (m := m) (by show m.den ρ = ((s.l j).length : Int); rw [hj]; exact hm) (by show (s.l j).length ≤ cap; rw [hj]; exact h2) h3
      (fun i n hn => by
        have hn' : zs[i]? = some n := by rw [← hj]; exact hn
        exact h4 i _ (by simp [intVs, hn']))
    have e : (s.l j).length = zs.length := by rw [hj]
    rw [show (({ d := Sy.den ρ, s := s } : Den Sy).s.l j).length = zs.length from e] at this
    exact this
  | snil =>
    have : zs = [] := by
      have := congrArg List.length hg
      simp at this
      exact this
    subst this
    exact .bsl0 (by show m.den ρ = 0; rw [hm]; rfl) hj

def LawTrue (P : Program) (k : FuncId) (rargs : Array Value) (w : World) : Prop := Calls P k rargs w fun e w' => e = .returned (.bool true) ∧ Below w.heap.size w w' ∧ ∀ a, w'.frozen? a = w.frozen? a

/-- What a case is: the law's arguments, what is known of their numbers. -/
structure Shape where
  args : List Sy → List (V Sy)
  ents : List Sy → List VEnt

/-- The functions that ask whether a number is 1 or -1, and whether a list is a way to part things, where they are known. -/
noncomputable def uK (D : Ids) (Γ : List Fact) (Vt : List VEnt) (Vb : List BEnt) : Ctr := orK (fun k args sto => match D.uids with
  | some U => unitK U Γ Vt k args sto
  | none => none) (fun k args sto => match D.pids with
  | some U => partK U Γ Vb k args sto
  | none => none)
theorem uK_ok {P : Program} (hG : NoCount P) (hm : P.follows .mixedOrders = true) {D : Ids} (hD : D.Ok P) (hp : ∀ U, D.pids = some U → U.Ok P) {ρ : Nat → Int} {s : Sms} {B : Nat} {Γ : List Fact} {Vt : List VEnt} {Vb : List BEnt} (hΓ : ∀ f, f ∈ Γ → f.Ok ρ) (hV : ∀ e, e ∈ Vt → e.Ok ρ)
    (hB : ∀ e, e ∈ Vb → e.Ok s) (hs : ∀ j, 1 ≤ (s.l j).length ∧ (s.l j).length ≤ 1048576) (hw : ∀ j z, z ∈ s.l j → IntKind.i64.wrap z = z) : COk P ⟨Sy.den ρ, s⟩ B (uK D Γ Vt Vb) := by
  refine orK_ok (fun k args sto r sto' h => ?_) (fun k args sto r sto' h => ?_)
  · split at h
    · rename_i U hU
      exact unitK_ok (hD.uok U hU) hΓ hV k args sto r sto' h
    · cases h
  · split at h
    · rename_i U hU
      exact partK_ok hG hm (hp U hU) hΓ hB hs hw k args sto r sto' h
    · cases h

noncomputable def runC (P : Program) (D : Ids) (t : List Summ) (Vb : List BEnt) (N : Nat) (k : FuncId) (σ : Shape) (Γ0 : List Fact) : List Sy → List Fact → List VEnt → Bool :=
  fun xs Γ Vt => bite (saysTrue (symRun P (orK (orK (bigK D (Vt ++ σ.ents xs) Vb) (uK D (Γ ++ Γ0) (Vt ++ σ.ents xs) Vb)) (summK t)) (Γ ++ Γ0) N k (σ.args xs) ⟨0, [], 0⟩)) true (clash (Γ ++ Γ0))

section
variable {P : Program} {D : Ids} {t : List Summ} {Vb : List BEnt} {N : Nat} {k : FuncId} {σ : Shape} {Γ0 : List Fact} {ρ : Nat → Int} {s : Sms} {w : World} {rargs : Array Value} {zs : List Int}

theorem runC_ok (hG : NoCount P) (hm : P.follows .mixedOrders = true) (hD : D.Ok P) (ht : ∀ e, e ∈ t → e.Ok P) (hB : ∀ e, e ∈ Vb → e.Ok s) (hs : ∀ j, 1 ≤ (s.l j).length ∧ (s.l j).length ≤ 1048576) (hw : ∀ j z, z ∈ s.l j → IntKind.i64.wrap z = z)
    (h0 : ∀ f, f ∈ Γ0 → f.Ok ρ)
    (hmk : ∀ xs, xs.map (Sy.den ρ) = zs → VRs ⟨Sy.den ρ, s⟩ w.heap.size ⟨w, fun _ => none⟩ (σ.args xs) rargs.toList) (hents : ∀ xs, xs.map (Sy.den ρ) = zs → ∀ e, e ∈ σ.ents xs → e.Ok ρ)
    (xs : List Sy) (Γ : List Fact) (Vt : List VEnt) (h : runC P D t Vb N k σ Γ0 xs Γ Vt = true) (hz : xs.map (Sy.den ρ) = zs) (hΓ : ∀ f, f ∈ Γ → f.Ok ρ) (hV : ∀ e, e ∈ Vt → e.Ok ρ) : LawTrue P k rargs w := by
  have hΓ' : ∀ f, f ∈ Γ ++ Γ0 → f.Ok ρ := fun f hf => by
    rcases List.mem_append.1 hf with hf | hf
    · exact hΓ f hf
    · exact h0 f hf
  have hV' : ∀ e, e ∈ Vt ++ σ.ents xs → e.Ok ρ := fun e he => by
    rcases List.mem_append.1 he with he | he
    · exact hV e he
    · exact hents xs hz e he
  unfold runC at h
  rw [bite_eq] at h
  split at h
  case isFalse => exact (clash_no hΓ' h).elim
  rename_i hc
  replace h := hc
  exact calls_true (Δ := ⟨Sy.den ρ, s⟩) (symRun_ok hG hm (Γ := Γ ++ Γ0) hΓ' (orK_ok (orK_ok (bigK_ok hG hm hD hV' hB hs hw) (uK_ok hG hm hD hD.pok hΓ' hV' hB hs hw)) (summK_ok ht)) N) (hmk xs hz) h
end

noncomputable def plusS (x y : Sy) : Sy := (symArith .add .i64 x y).getD (.c 0)
noncomputable def minusS (x y : Sy) : Sy := (symArith .sub .i64 x y).getD (.c 0)

theorem plusS_den (ρ : Nat → Int) (x y : Sy) : (plusS x y).den ρ = IntKind.i64.wrap (x.den ρ + y.den ρ) := by
  unfold plusS
  cases hz : symArith .add .i64 x y with
  | none => cases x <;> cases y <;> simp [symArith, aritOk] at hz
  | some z =>
    have := symArith_ok (ρ := ρ) hz
    have h2 : some (IntKind.i64.wrap (x.den ρ + y.den ρ)) = some (z.den ρ) := this
    exact (Option.some.inj h2).symm
theorem minusS_den (ρ : Nat → Int) (x y : Sy) : (minusS x y).den ρ = IntKind.i64.wrap (x.den ρ - y.den ρ) := by
  unfold minusS
  cases hz : symArith .sub .i64 x y with
  | none => cases x <;> cases y <;> simp [symArith, aritOk] at hz
  | some z =>
    have := symArith_ok (ρ := ρ) hz
    have h2 : some (IntKind.i64.wrap (x.den ρ - y.den ρ)) = some (z.den ρ) := this
    exact (Option.some.inj h2).symm

noncomputable def allB : List Bool → Bool
  | [] => true
  | b :: r => bite b (allB r) false
theorem allB_ok : ∀ {l : List Bool}, allB l = true → ∀ b, b ∈ l → b = true := by
  intro l
  induction l with
  | nil => intro _ b hb; cases hb
  | cons a r ih =>
    intro h b hb
    simp only [allB, bite_eq] at h
    split at h
    · rename_i h1
      rcases List.mem_cons.1 hb with rfl | hb
      · exact h1
      · exact ih h b hb
    · cases h

/-! ## Lists that are not looked into: 0 none, 1 no valid one, 2 a valid one -/
def stOf (bd : Int) (l : List Int) : Nat := if l = [] then 0 else if validP bd l then 2 else 1

noncomputable def bigL : List Nat → List Sy → Nat → List (V Sy)
  | st :: r, x :: xs, j => bite (Nat.beq st 0) (.slice []) (.bsl j x) :: bigL r xs (j + 1)
  | _, _, _ => []
noncomputable def bentL : List Nat → List Int → Nat → List BEnt
  | st :: r, bd :: bs, j => bite (Nat.beq st 0) (bentL r bs (j + 1)) (⟨bd, j, Nat.beq st 2⟩ :: bentL r bs (j + 1))
  | _, _, _ => []
noncomputable def factL : List Nat → List Sy → List Fact
  | st :: r, x :: xs => bite (Nat.beq st 0) (factL r xs) (⟨true, .c 1048576, x, false⟩ :: ⟨true, x, .c 1, false⟩ :: ⟨false, x, .c 0, false⟩ :: bite (Nat.beq st 2) (⟨true, .c 6, x, false⟩ :: factL r xs) (factL r xs))
  | _, _ => []
noncomputable def sumL : List Nat → List Sy → Sy → Sy
  | st :: r, x :: xs, acc => sumL r xs (bite (Nat.beq st 0) acc (plusS acc x))
  | _, _, acc => acc

def AllL (w : World) : List (List Int) → List Value → Prop
  | [], [] => True
  | l :: r, v :: vs => IsList w l v ∧ AllL w r vs
  | _, _ => False

section
variable {ρ : Nat → Int} {s : Sms} {w : World}

theorem bigL_rel : ∀ {Ls : List (List Int)} {lv : List Value} {sts : List Nat} {xs : List Sy} {j : Nat}, AllL w Ls lv → sts.length = Ls.length → xs.map (Sy.den ρ) = Ls.map (fun l => (l.length : Int)) →
    (∀ (i : Nat) (l : List Int) (st : Nat), Ls[i]? = some l → sts[i]? = some st → (st = 0 → l = []) ∧ (st ≠ 0 → s.l (j + i) = l)) → VRs ⟨Sy.den ρ, s⟩ w.heap.size ⟨w, fun _ => none⟩ (bigL sts xs j) lv := by
  intro Ls
  induction Ls with
  | nil =>
    intro lv sts xs j hL hlen hx _
    cases lv with
    | nil =>
      cases sts with
      | nil => simp only [bigL]; exact .nil
      | cons a b => simp at hlen
    | cons a b => exact hL.elim
  | cons l r ih =>
    intro lv sts xs j hL hlen hx hs
    cases lv with
    | nil => exact hL.elim
    | cons v vs =>
      cases sts with
      | nil => simp at hlen
      | cons st sts =>
        cases xs with
        | nil => simp at hx
        | cons x xs =>
          simp only [List.map_cons, List.cons.injEq] at hx
          simp only [bigL]
          refine .cons ?_ (ih hL.2 (by simpa using hlen) hx.2 (fun i l' st' h1 h2 => ?_))
          · have h0 := hs 0 l st rfl rfl
            rw [bite_eq]
            split
            · rename_i hst
              have := h0.1 (Nat.eq_of_beq_eq_true hst)
              subst this
              exact hL.1.known (xs := []) rfl
            · rename_i hst
              exact hL.1.big (h0.2 (fun e => hst (by rw [e]; rfl))) hx.1
          · have := hs (i + 1) l' st' (by simpa using h1) (by simpa using h2)
            rwa [show j + (i + 1) = j + 1 + i by omega] at this

theorem bentL_ok : ∀ {Ls : List (List Int)} {bds : List Int} {j : Nat}, (∀ (i : Nat) (l : List Int), Ls[i]? = some l → l ≠ [] → s.l (j + i) = l) → ∀ e, e ∈ bentL (List.zipWith stOf bds Ls) bds j → e.Ok s := by
  intro Ls
  induction Ls with
  | nil => intro bds j _ e he; cases bds <;> simp [bentL] at he
  | cons l r ih =>
    intro bds j hs e he
    cases bds with
    | nil => simp [bentL] at he
    | cons bd bs =>
      have hr := ih (bds := bs) (j := j + 1) (fun i l' h1 h2 => by
        have := hs (i + 1) l' (by simpa using h1) h2
        rwa [show j + (i + 1) = j + 1 + i by omega] at this)
      simp only [List.zipWith_cons_cons, bentL, bite_eq] at he
      split at he
      · exact hr e he
      · rename_i hst
        rcases List.mem_cons.1 he with rfl | he
        · have hne : l ≠ [] := fun e => hst (by simp [stOf, e])
          have h1 : s.l j = l := by simpa using hs 0 l rfl hne
          unfold BEnt.Ok
          simp only [h1]
          by_cases hv : validP bd l
          · simp [stOf, hne, hv]
          · simp [stOf, hne, hv]; rfl
        · exact hr e he

theorem factL_ok : ∀ {Ls : List (List Int)} {bds : List Int} {xs : List Sy}, (∀ l, l ∈ Ls → l.length ≤ 1048576) → xs.map (Sy.den ρ) = Ls.map (fun l => (l.length : Int)) → ∀ f, f ∈ factL (List.zipWith stOf bds Ls) xs → f.Ok ρ := by
  intro Ls
  induction Ls with
  | nil => intro bds xs _ _ f hf; cases bds <;> simp [factL] at hf
  | cons l r ih =>
    intro bds xs hl hx f hf
    cases bds with
    | nil => simp [factL] at hf
    | cons bd bs =>
      cases xs with
      | nil => simp at hx
      | cons x xs =>
        simp only [List.map_cons, List.cons.injEq] at hx
        have hr := ih (bds := bs) (fun l' h => hl l' (by simp [h])) hx.2
        have hll := hl l (by simp)
        simp only [List.zipWith_cons_cons, factL, bite_eq] at hf
        split at hf
        · exact hr f hf
        · rename_i hst
          have hne : l ≠ [] := fun e => hst (by simp [stOf, e])
          have hpos : 1 ≤ l.length := by cases l with
            | nil => exact (hne rfl).elim
            | cons a b => simp
          simp only [List.mem_cons] at hf
          rcases hf with rfl | rfl | rfl | hf
          · exact Fact.lt_no (by rw [hx.1]; simp only [Sy.den]; omega)
          · exact Fact.lt_no (by rw [hx.1]; simp only [Sy.den]; omega)
          · exact Fact.eq_no (by rw [hx.1]; simp only [Sy.den]; omega)
          · split at hf
            · rename_i h2
              rcases List.mem_cons.1 hf with rfl | hf
              · have hv : validP bd l := by
                  by_cases hv : validP bd l
                  · exact hv
                  · simp [stOf, hne, hv] at h2
                refine Fact.lt_no ?_
                rw [hx.1]; simp only [Sy.den]
                have := hv.2.2; omega
              · exact hr f hf
            · exact hr f hf

theorem sumL_den : ∀ {Ls : List (List Int)} {bds : List Int} {xs : List Sy} {acc : Sy} {b : Nat}, (∀ l, l ∈ Ls → l.length ≤ 1048576) → xs.map (Sy.den ρ) = Ls.map (fun l => (l.length : Int)) → 0 ≤ acc.den ρ → acc.den ρ ≤ b → b + Ls.length * 1048576 ≤ 1000000000 →
    0 ≤ (sumL (List.zipWith stOf bds Ls) xs acc).den ρ := by
  intro Ls
  induction Ls with
  | nil => intro bds xs acc b _ _ h0 _ _; cases bds <;> simpa [sumL] using h0
  | cons l r ih =>
    intro bds xs acc b hl hx h0 h1 hb
    cases bds with
    | nil => simpa [sumL] using h0
    | cons bd bs =>
      cases xs with
      | nil => simp at hx
      | cons x xs =>
        simp only [List.map_cons, List.cons.injEq] at hx
        have hll := hl l (by simp)
        simp only [List.length_cons] at hb
        simp only [List.zipWith_cons_cons, sumL]
        refine ih (b := b + 1048576) (fun l' h => hl l' (by simp [h])) hx.2 ?_ ?_ (by omega)
        · rw [bite_eq]
          split
          · exact h0
          · rw [plusS_den, hx.1, wrap_in (by omega) (by omega)]; omega
        · rw [bite_eq]
          split
          · omega
          · rw [plusS_den, hx.1, wrap_in (by omega) (by omega)]; omega
end
end Go.Sx

/-
  Laws over some lists and some integers.
-/
namespace Go.Sx
open Go.RowKit

/-! ## Valid lists of one length -/
def segL : Nat → Nat → List Sy → List (V Sy)
  | 0, _, _ => []
  | n + 1, L, xs => .slice (ints (xs.take L)) :: segL n L (xs.drop L)
def dropN : Nat → Nat → List Sy → List Sy
  | 0, _, xs => xs
  | n + 1, L, xs => dropN n L (xs.drop L)
def entL : List Int → Nat → List Sy → List VEnt
  | [], _, _ => []
  | bd :: r, L, xs => ⟨bd, xs.take L, true⟩ :: entL r L (xs.drop L)

section
variable {ρ : Nat → Int} {s : Sms} {w : World}

theorem take_flat {l : List Int} {r : List Int} {xs : List Sy} {L : Nat} (hl : l.length = L) (h : xs.map (Sy.den ρ) = l ++ r) : (xs.take L).map (Sy.den ρ) = l ∧ (xs.drop L).map (Sy.den ρ) = r := by
  rw [List.map_take, List.map_drop, h]
  subst hl
  exact ⟨List.take_left, List.drop_left⟩

theorem segL_rel : ∀ {Ls : List (List Int)} {lv : List Value} {xs : List Sy} {L : Nat} {I : List Int}, AllL w Ls lv → (∀ l, l ∈ Ls → l.length = L) → xs.map (Sy.den ρ) = Ls.flatten ++ I →
    VRs ⟨Sy.den ρ, s⟩ w.heap.size ⟨w, fun _ => none⟩ (segL Ls.length L xs) lv ∧ (dropN Ls.length L xs).map (Sy.den ρ) = I := by
  intro Ls
  induction Ls with
  | nil =>
    intro lv xs L I hL _ hx
    cases lv with
    | nil => exact ⟨.nil, by simpa [dropN] using hx⟩
    | cons a b => exact hL.elim
  | cons l r ih =>
    intro lv xs L I hL hl hx
    cases lv with
    | nil => exact hL.elim
    | cons v vs =>
      rw [List.flatten_cons, List.append_assoc] at hx
      obtain ⟨h1, h2⟩ := take_flat (hl l (by simp)) hx
      obtain ⟨h3, h4⟩ := ih hL.2 (fun l' h => hl l' (by simp [h])) h2
      exact ⟨.cons (hL.1.known h1) h3, h4⟩

theorem entL_ok : ∀ {Ls : List (List Int)} {bds : List Int} {xs : List Sy} {L : Nat} {I : List Int}, bds.length = Ls.length → (∀ st, st ∈ List.zipWith stOf bds Ls → st = 2) → (∀ l, l ∈ Ls → l.length = L) → xs.map (Sy.den ρ) = Ls.flatten ++ I →
    ∀ e, e ∈ entL bds L xs → e.Ok ρ := by
  intro Ls
  induction Ls with
  | nil =>
    intro bds xs L I hb _ _ _ e he
    cases bds with
    | nil => cases he
    | cons a b => simp at hb
  | cons l r ih =>
    intro bds xs L I hb h2 hl hx e he
    cases bds with
    | nil => simp at hb
    | cons bd bs =>
      rw [List.flatten_cons, List.append_assoc] at hx
      obtain ⟨k1, k2⟩ := take_flat (hl l (by simp)) hx
      rcases List.mem_cons.1 he with rfl | he
      · unfold VEnt.Ok
        simp only [k1]
        have := h2 (stOf bd l) (by simp)
        unfold stOf at this
        split at this
        · cases this
        · split at this
          · rename_i hv; exact decide_eq_true hv
          · cases this
      · exact ih (by simpa using hb) (fun st h => h2 st (by simp [h])) (fun l' h => hl l' (by simp [h])) k2 e he
end

/-! ## The law -/
noncomputable def allSts : Nat → (List Nat → Bool) → Bool
  | 0, f => f []
  | n + 1, f => bite (allSts n (fun r => f (0 :: r))) (bite (allSts n (fun r => f (1 :: r))) (allSts n (fun r => f (2 :: r))) false) false
theorem allSts_ok : ∀ {n : Nat} {f : List Nat → Bool}, allSts n f = true → ∀ l : List Nat, l.length = n → (∀ x, x ∈ l → x ≤ 2) → f l = true := by
  intro n
  induction n with
  | zero => intro f h l hl _; rw [List.eq_nil_of_length_eq_zero hl]; exact h
  | succ n ih =>
    intro f h l hl hx
    cases l with
    | nil => simp at hl
    | cons a r =>
      simp only [allSts, bite_eq] at h
      split at h
      · rename_i h0
        split at h
        · rename_i h1
          have hr : r.length = n := by simpa using hl
          have hr2 : ∀ x, x ∈ r → x ≤ 2 := fun x hx' => hx x (by simp [hx'])
          have ha := hx a (by simp)
          rcases (by omega : a = 0 ∨ a = 1 ∨ a = 2) with rfl | rfl | rfl
          · exact ih h0 r hr hr2
          · exact ih h1 r hr hr2
          · exact ih h r hr hr2
        · cases h
      · cases h

/-- Are all lengths told to be equal? -/
noncomputable def eqAll (Γ : List Fact) : Sy → List Sy → Bool
  | _, [] => true
  | x, y :: r => bite (x.same y) (eqAll Γ x r) (match findF false x y Γ with
    | some true => eqAll Γ x r
    | _ => false)
theorem eqAll_ok {ρ : Nat → Int} {Γ : List Fact} (hΓ : ∀ f, f ∈ Γ → f.Ok ρ) {x : Sy} : ∀ {l : List Sy}, eqAll Γ x l = true → ∀ y, y ∈ l → x.den ρ = y.den ρ := by
  intro l
  induction l with
  | nil => intro _ y hy; cases hy
  | cons a r ih =>
    intro h y hy
    simp only [eqAll, bite_eq] at h
    split at h
    · rename_i h1
      rcases List.mem_cons.1 hy with rfl | hy
      · rw [Sy.same_eq h1]
      · exact ih h y hy
    · split at h
      · rename_i hf
        rcases List.mem_cons.1 hy with rfl | hy
        · have := findF_ok hΓ hf
          exact eq_of_beq this
        · exact ih h y hy
      · cases h
noncomputable def all2 : List Nat → Bool
  | [] => true
  | st :: r => bite (Nat.beq st 2) (all2 r) false
theorem all2_ok : ∀ {l : List Nat}, all2 l = true → ∀ st, st ∈ l → st = 2 := by
  intro l
  induction l with
  | nil => intro _ st h; cases h
  | cons a r ih =>
    intro h st hst
    simp only [all2, bite_eq] at h
    split at h
    · rename_i h1
      rcases List.mem_cons.1 hst with rfl | hst
      · exact Nat.eq_of_beq_eq_true h1
      · exact ih h st hst
    · cases h

structure Law where
  k : FuncId
  bds : List Int
  m : Nat
  args : List (V Sy) → List (V Sy) → List (V Sy)
  tests : List Sy → List (Sy × Sy)
  treeO : List Nat → Sp
  treeK : Nat → Sp

noncomputable def testF : List (Sy × Sy) → Nat → List Fact
  | _, 0 => []
  | [], _ => []
  | p :: r, i + 1 => ⟨true, p.1, p.2, false⟩ :: testF r i

noncomputable def Law.huge (P : Program) (N : Nat) (l : Law) : Bool :=
  allTo (fun i => match (l.tests (vxs (l.bds.length + l.m)))[i]? with
    | some p => saysTrue (symRun P noK (⟨true, p.1, p.2, true⟩ :: testF (l.tests (vxs (l.bds.length + l.m))) i) N l.k (l.args (bigL (l.bds.map fun _ => 1) (vxs (l.bds.length + l.m)) 0) (ints ((vxs (l.bds.length + l.m)).drop l.bds.length))) ⟨0, [], 0⟩)
    | none => true) (l.tests (vxs (l.bds.length + l.m))).length

noncomputable def Law.shapeO (l : Law) (sts : List Nat) : Shape := ⟨fun xs => l.args (bigL sts (xs.take l.bds.length) 0) (ints (xs.drop l.bds.length)), fun _ => []⟩
def Law.shapeK (l : Law) (L : Nat) : Shape := ⟨fun xs => l.args (segL l.bds.length L xs) (ints (dropN l.bds.length L xs)), fun xs => entL l.bds L xs⟩

noncomputable def Law.factsO (l : Law) (sts : List Nat) : List Fact :=
  ⟨true, sumL sts (vxs (l.bds.length + l.m)) (.c 1), .c 0, false⟩ :: (factL sts (vxs (l.bds.length + l.m)) ++ testF (l.tests (vxs (l.bds.length + l.m))) (l.tests (vxs (l.bds.length + l.m))).length)

noncomputable def Law.runO (P : Program) (D : Ids) (t : List Summ) (N : Nat) (l : Law) (sts : List Nat) (xs : List Sy) (Γ : List Fact) (Vt : List VEnt) : Bool :=
  bite (bite (all2 sts) (eqAll Γ (xs.headD (.c 0)) (xs.take l.bds.length)) false) true (runC P D t (bentL sts l.bds 0) N l.k (l.shapeO sts) (l.factsO sts) xs Γ Vt)

noncomputable def Law.sts (P : Program) (D : Ids) (t : List Summ) (N : Nat) (l : Law) : Bool :=
  allSts l.bds.length (fun sts => chk (l.runO P D t N sts) (l.treeO sts) (vxs (l.bds.length + l.m)) [] [])

noncomputable def Law.known (P : Program) (D : Ids) (t : List Summ) (N : Nat) (l : Law) (L : Nat) : Bool :=
  chk (runC P D t [] N l.k (l.shapeK L) []) (l.treeK L) (vxs (l.bds.length * L + l.m)) [] []

theorem testF_ok {ρ : Nat → Int} : ∀ {ts : List (Sy × Sy)} {i : Nat}, (∀ (j : Nat) (p : Sy × Sy), ts[j]? = some p → j < i → ¬ p.1.den ρ < p.2.den ρ) → ∀ f, f ∈ testF ts i → f.Ok ρ := by
  intro ts
  induction ts with
  | nil => intro i _ f hf; cases i <;> simp [testF] at hf
  | cons p r ih =>
    intro i h f hf
    cases i with
    | zero => simp [testF] at hf
    | succ i =>
      simp only [testF] at hf
      rcases List.mem_cons.1 hf with rfl | hf
      · exact Fact.lt_no (h 0 p rfl (by omega))
      · exact ih (fun j q hj hji => h (j + 1) q (by simpa using hj) (by omega)) f hf

theorem flat_length {L : Nat} : ∀ {Ls : List (List Int)}, (∀ l, l ∈ Ls → l.length = L) → Ls.flatten.length = Ls.length * L := by
  intro Ls
  induction Ls with
  | nil => intro _; simp
  | cons l r ih =>
    intro h
    rw [List.flatten_cons, List.length_append, h l (by simp), ih (fun l' h' => h l' (by simp [h']))]
    simp [Nat.succ_mul]; omega

theorem stOf_le (bd : Int) (l : List Int) : stOf bd l ≤ 2 := by unfold stOf; split <;> (try split) <;> omega

theorem Law.ok {P : Program} (hG : NoCount P) (hm : P.follows .mixedOrders = true) {D : Ids} (hD : D.Ok P) {t : List Summ} (ht : ∀ e, e ∈ t → e.Ok P) {N : Nat} {l : Law}
    (h1 : l.huge P N = true) (h2 : l.sts P D t N = true) (h3 : ∀ L, 1 ≤ L → L ≤ 6 → l.known P D t N L = true) (hn : 1 ≤ l.bds.length ∧ l.bds.length ≤ 5) (hm5 : l.m ≤ 5)
    {w : World} {Ls : List (List Int)} {lv : List Value} {I : List Int} {rargs : Array Value} (hL : AllL w Ls lv) (hlen : Ls.length = l.bds.length) (hwf : ∀ ls, ls ∈ Ls → (∀ z, z ∈ ls → IntKind.i64.wrap z = z) ∧ ls.length ≤ 9223372036854775807)
    (hI : I.length = l.m) (hwI : ∀ z, z ∈ I → IntKind.i64.wrap z = z)
    (hA : ∀ (ρ : Nat → Int) (s : Sms) (ll : List (V Sy)) (xi : List Sy), VRs ⟨Sy.den ρ, s⟩ w.heap.size ⟨w, fun _ => none⟩ ll lv → VRs ⟨Sy.den ρ, s⟩ w.heap.size ⟨w, fun _ => none⟩ (ints xi) (intVs I) → VRs ⟨Sy.den ρ, s⟩ w.heap.size ⟨w, fun _ => none⟩ (l.args ll (ints xi)) rargs.toList)
    (hT : ∀ ρ : Nat → Int, (vxs (l.bds.length + l.m)).map (Sy.den ρ) = Ls.map (fun l => (l.length : Int)) ++ I → (∀ p, p ∈ l.tests (vxs (l.bds.length + l.m)) → ¬ p.1.den ρ < p.2.den ρ) → ∀ ls, ls ∈ Ls → ls.length ≤ 1048576) :
    LawTrue P l.k rargs w := by
  have hintsV : ∀ (ρ : Nat → Int) (s : Sms) (xi : List Sy), xi.map (Sy.den ρ) = I → VRs ⟨Sy.den ρ, s⟩ w.heap.size ⟨w, fun _ => none⟩ (ints xi) (intVs I) := by
    intro ρ s xi hxi
    subst hxi
    refine ⟨by simp [intVs], fun i x v hx hv => ?_⟩
    rw [ints_get] at hx
    rw [intVs, List.map_map, List.getElem?_map] at hv
    cases hz : xi[i]? with
    | none => rw [hz] at hx; simp at hx
    | some z => rw [hz] at hx hv; simp at hx hv; subst hx; subst hv; exact .int _ _
  -- the lengths and the integers as variables
  have hzl : (Ls.map (fun l => (l.length : Int)) ++ I).length = l.bds.length + l.m := by simp [hlen, hI]
  have hzw : ∀ z, z ∈ Ls.map (fun l => (l.length : Int)) ++ I → IntKind.i64.wrap z = z := by
    intro z hz
    rcases List.mem_append.1 hz with hz | hz
    · obtain ⟨ls, hls, rfl⟩ := List.mem_map.1 hz
      exact wrap_in (by omega) (by have := (hwf ls hls).2; omega)
    · exact hwI z hz
  have hvx := vxs_den (zs := Ls.map (fun l => (l.length : Int)) ++ I) (by rw [hzl]; omega) hzw
  rw [hzl] at hvx
  generalize hρ : (fun i => (Ls.map (fun l => (l.length : Int)) ++ I).getD i 0) = ρ at hvx
  have hsplit : ∀ xs : List Sy, xs.map (Sy.den ρ) = Ls.map (fun l => (l.length : Int)) ++ I → (xs.take l.bds.length).map (Sy.den ρ) = Ls.map (fun l => (l.length : Int)) ∧ (xs.drop l.bds.length).map (Sy.den ρ) = I := by
    intro xs hx
    exact take_flat (by simp [hlen]) hx
  by_cases hall : ∀ p, p ∈ l.tests (vxs (l.bds.length + l.m)) → ¬ p.1.den ρ < p.2.den ρ
  · have hsm := hT ρ hvx hall
    by_cases hk : (∀ st, st ∈ List.zipWith stOf l.bds Ls → st = 2) ∧ ∀ ls, ls ∈ Ls → ls.length = (Ls.headD []).length
    · -- valid lists of one length
      obtain ⟨k1, k2⟩ := hk
      have hL0 : 1 ≤ (Ls.headD []).length ∧ (Ls.headD []).length ≤ 6 := by
        cases hLs : Ls with
        | nil => rw [hLs] at hlen; simp at hlen; omega
        | cons a r =>
          cases hb : l.bds with
          | nil => rw [hb] at hn; simp at hn
          | cons bd bs =>
            have := k1 (stOf bd a) (by rw [hLs, hb]; simp)
            unfold stOf at this
            split at this
            · cases this
            · split at this
              · rename_i hv; exact ⟨hv.2.1, hv.2.2⟩
              · cases this
      generalize hLd : (Ls.headD []).length = L at k2 hL0
      have hfl := flat_length k2
      have hkn := h3 L hL0.1 hL0.2
      have hzl2 : (Ls.flatten ++ I).length = l.bds.length * L + l.m := by rw [List.length_append, hfl, hlen, hI]
      have hmul : l.bds.length * L ≤ 5 * 6 := Nat.mul_le_mul hn.2 hL0.2
      have hvx2 := vxs_den (zs := Ls.flatten ++ I) (by rw [hzl2]; omega) (fun z hz => by
        rcases List.mem_append.1 hz with hz | hz
        · obtain ⟨ls, hls, hz⟩ := List.mem_flatten.1 hz
          exact (hwf ls hls).1 z hz
        · exact hwI z hz)
      rw [hzl2] at hvx2
      unfold Law.known at hkn
      refine chk_ok (ρ := fun i => (Ls.flatten ++ I).getD i 0) (zs := Ls.flatten ++ I) (fun xs Γ Vt hr hz hΓ hV => ?_) _ _ _ _ hkn hvx2 (by simp) (by simp)
      refine runC_ok (s := ⟨fun _ _ => ByteArray.empty, noL⟩) hG hm hD ht (by simp) (fun j => by simp [noL]) (fun j z hz => by simp [noL] at hz; subst hz; exact wrap0) (by simp) (fun xs hx => ?_) (fun xs hx => ?_) xs Γ Vt hr hz hΓ hV
      · obtain ⟨g1, g2⟩ := segL_rel (s := ⟨fun _ _ => ByteArray.empty, noL⟩) hL k2 hx
        rw [hlen] at g1 g2
        exact hA _ _ _ _ g1 (hintsV _ _ _ g2)
      · exact entL_ok hlen.symm k1 k2 hx
    · -- lists that are not looked into
      have hst := allSts_ok h2 (List.zipWith stOf l.bds Ls) (by simp [hlen]) (fun x hx => by
        obtain ⟨i, hi, rfl⟩ := List.getElem_of_mem hx
        rw [List.getElem_zipWith]; exact stOf_le _ _)
      have hsl : ∀ (i : Nat) (ls : List Int), Ls[i]? = some ls → ls ≠ [] → (if (Ls.getD i []) = [] then [0] else Ls.getD i []) = ls := by
        intro i ls hi hne
        have : Ls.getD i [] = ls := by simp [List.getD, hi]
        rw [this, if_neg hne]
      let s : Sms := ⟨fun _ _ => ByteArray.empty, fun j => if (Ls.getD j []) = [] then [0] else Ls.getD j []⟩
      have hget : ∀ j, Ls.getD j [] = [] ∨ Ls.getD j [] ∈ Ls := by
        intro j
        rcases Nat.lt_or_ge j Ls.length with h | h
        · right; simp [List.getD, h]
        · left; simp [List.getD, List.getElem?_eq_none h]
      refine chk_ok (ρ := ρ) (zs := Ls.map (fun l => (l.length : Int)) ++ I) (fun xs Γ Vt hr hz hΓ hV => ?_) _ _ _ _ hst hvx (by simp) (by simp)
      unfold Law.runO at hr
      rw [bite_eq] at hr
      split at hr
      · -- all valid, and of one length
        rename_i hd
        rw [bite_eq] at hd
        split at hd
        · rename_i ha
          refine (hk ⟨all2_ok ha, fun ls hls => ?_⟩).elim
          obtain ⟨g1, g2⟩ := hsplit xs hz
          have g3 := eqAll_ok hΓ hd
          have hx0 : (xs.headD (.c 0)).den ρ = ((Ls.headD []).length : Int) := by
            cases hLs : Ls with
            | nil => rw [hLs] at hls; cases hls
            | cons a r =>
              rw [hLs] at hz
              cases xs with
              | nil => simp at hz
              | cons x xr => simp at hz; simp [hz.1]
          obtain ⟨i, hi, rfl⟩ := List.getElem_of_mem hls
          have hi2 : i < (xs.take l.bds.length).length := by
            have := congrArg List.length g1
            simp only [List.length_map] at this
            rw [this]; exact hi
          have g4 := g3 _ (List.getElem_mem hi2)
          have g5 : ((xs.take l.bds.length)[i]).den ρ = (Ls[i].length : Int) := by
            have := congrArg (fun q => q[i]?) g1
            simp only [List.getElem?_map] at this
            rw [List.getElem?_eq_getElem hi2, List.getElem?_eq_getElem hi] at this
            simpa using this
          rw [hx0, g5] at g4
          omega
        · cases hd
      · refine runC_ok (s := s) hG hm hD ht (fun e he => ?_) (fun j => ?_) (fun j z hz => ?_) (fun f hf => ?_) (fun xs hx => ?_) (fun xs hx e he => (by cases he)) xs Γ Vt hr hz hΓ hV
        · exact bentL_ok (s := s) (Ls := Ls) (j := 0) (fun i ls hi hne => by simp only [s, Nat.zero_add]; exact hsl i ls hi hne) e he
        · simp only [s]
          split
          · simp
          · rename_i hne
            rcases hget j with h | h
            · exact (hne h).elim
            · refine ⟨?_, hsm _ h⟩
              cases hg : Ls.getD j [] with
              | nil => exact (hne hg).elim
              | cons a b => simp
        · simp only [s] at hz
          split at hz
          · simp at hz; subst hz; exact wrap0
          · rename_i hne
            rcases hget j with h | h
            · exact (hne h).elim
            · exact (hwf _ h).1 z hz
        · unfold Law.factsO at hf
          obtain ⟨g1, _⟩ := hsplit _ hvx
          have hcut : ∀ {Ls : List (List Int)} {bds : List Int} {xs : List Sy} {n : Nat}, Ls.length ≤ n → sumL (List.zipWith stOf bds Ls) xs (.c 1) = sumL (List.zipWith stOf bds Ls) (xs.take n) (.c 1) ∧ factL (List.zipWith stOf bds Ls) xs = factL (List.zipWith stOf bds Ls) (xs.take n) := by
            intro Ls
            have aux : ∀ {Ls : List (List Int)} {bds : List Int} {xs : List Sy} {n : Nat} {acc : Sy}, Ls.length ≤ n → sumL (List.zipWith stOf bds Ls) xs acc = sumL (List.zipWith stOf bds Ls) (xs.take n) acc ∧ factL (List.zipWith stOf bds Ls) xs = factL (List.zipWith stOf bds Ls) (xs.take n) := by
              intro Ls
              induction Ls with
              | nil => intro bds xs n acc _; cases bds <;> simp [sumL, factL]
              | cons a r ih =>
                intro bds xs n acc hn
                cases bds with
                | nil => simp [sumL, factL]
                | cons bd bs =>
                  cases n with
                  | zero => simp at hn
                  | succ n =>
                    cases xs with
                    | nil => simp [sumL, factL]
                    | cons x xs =>
                      simp only [List.zipWith_cons_cons, List.take_succ_cons, sumL, factL]
                      rw [(ih (n := n) (by simpa using hn)).1, (ih (xs := xs) (n := n) (acc := acc) (by simpa using hn)).2]
                      exact ⟨rfl, rfl⟩
            intro bds xs n hn
            exact aux hn
          obtain ⟨q1, q2⟩ := hcut (Ls := Ls) (bds := l.bds) (xs := vxs (l.bds.length + l.m)) (n := l.bds.length) (by omega)
          rcases List.mem_cons.1 hf with rfl | hf
          · refine Fact.lt_no ?_
            have := sumL_den (ρ := ρ) (bds := l.bds) (acc := .c 1) (b := 1) hsm g1 (by simp [Sy.den]) (by simp [Sy.den]) (by omega)
            rw [q1]; simp only [Sy.den] at this ⊢; omega
          · rcases List.mem_append.1 hf with hf | hf
            · rw [q2] at hf; exact factL_ok hsm g1 f hf
            · exact testF_ok (fun j p hp _ => hall p (List.mem_of_getElem? hp)) f hf
        · obtain ⟨g1, g2⟩ := hsplit xs hx
          refine hA _ _ _ _ (bigL_rel (s := s) hL (by simp [hlen]) g1 (fun i ls st h4 h5 => ?_)) (hintsV _ _ _ g2)
          rw [List.getElem?_zipWith] at h5
          rw [h4] at h5
          cases hb : l.bds[i]? with
          | none => rw [hb] at h5; cases h5
          | some bd =>
            rw [hb] at h5
            simp at h5
            subst h5
            constructor
            · intro h6
              unfold stOf at h6
              split at h6
              · assumption
              · split at h6 <;> cases h6
            · intro h6
              simp only [s, Nat.zero_add]
              exact hsl i ls h4 (fun e => h6 (by simp [stOf, e]))
  · -- too long
    have hex : ∃ (i : Nat) (p : Sy × Sy), (l.tests (vxs (l.bds.length + l.m)))[i]? = some p ∧ p.1.den ρ < p.2.den ρ ∧ ∀ (j : Nat) (q : Sy × Sy), (l.tests (vxs (l.bds.length + l.m)))[j]? = some q → j < i → ¬ q.1.den ρ < q.2.den ρ := by
      generalize l.tests (vxs (l.bds.length + l.m)) = ts at hall
      induction ts with
      | nil => exact (hall (fun p hp => by cases hp)).elim
      | cons a r ih =>
        by_cases ha : a.1.den ρ < a.2.den ρ
        · exact ⟨0, a, rfl, ha, fun j q _ hj => by omega⟩
        · obtain ⟨i, p, k1, k2, k3⟩ := ih (fun h => hall (fun p hp => by
            rcases List.mem_cons.1 hp with rfl | hp
            · exact ha
            · exact h p hp))
          refine ⟨i + 1, p, by simpa using k1, k2, fun j q hj hji => ?_⟩
          cases j with
          | zero => simp at hj; subst hj; exact ha
          | succ j => exact k3 j q (by simpa using hj) (by omega)
    obtain ⟨i, p, k1, k2, k3⟩ := hex
    have hi := allTo_ok h1 i (List.getElem?_eq_some_iff.1 k1).1
    simp only [k1] at hi
    obtain ⟨g1, g2⟩ := hsplit _ hvx
    let s : Sms := ⟨fun _ _ => ByteArray.empty, fun j => Ls.getD j []⟩
    refine calls_true (Δ := ⟨Sy.den ρ, s⟩) (symRun_ok hG hm (fun f hf => ?_) noK_ok N) (hA _ _ _ _ ?_ (hintsV _ _ _ g2)) hi
    · rcases List.mem_cons.1 hf with rfl | hf
      · exact Fact.lt_yes k2
      · exact testF_ok k3 f hf
    · have hb := bigL_rel (ρ := ρ) (s := s) (sts := l.bds.map fun _ => 1) (xs := (vxs (l.bds.length + l.m)).take l.bds.length) (j := 0) hL (by simp [hlen]) g1 (fun i ls st h4 h5 => by
        rw [List.getElem?_map] at h5
        have : st = 1 := by
          cases hb : l.bds[i]? with
          | none => rw [hb] at h5; cases h5
          | some bd => rw [hb] at h5; simp at h5; exact h5.symm
        subst this
        exact ⟨fun h => by omega, fun _ => by simp [s, List.getD, h4]⟩)
      have hcut : ∀ (sts : List Nat) (xs : List Sy) (n j : Nat), sts.length ≤ n → bigL sts xs j = bigL sts (xs.take n) j := by
        intro sts
        induction sts with
        | nil => intro xs n j _; simp [bigL]
        | cons a r ih =>
          intro xs n j hn
          cases n with
          | zero => simp at hn
          | succ n =>
            cases xs with
            | nil => simp [bigL]
            | cons x xs => simp only [List.take_succ_cons, bigL]; rw [ih xs n (j + 1) (by simpa using hn)]
      rw [hcut _ _ l.bds.length _ (by simp)]
      exact hb
end Go.Sx

/-
  Words for laws: trees, tests, lists among a row's arguments.
-/
namespace Go.Sx
open Go.ChangeShapes Go.WideShapes Go.ChangeAt Go.RowKit

/-- The numbers of the list that a run answers. -/
noncomputable def numsRun (P : Program) (t : List Summ) (N : Nat) (k : FuncId) (args : List (V Sy)) : Option (List Sy) :=
  match symRun P (summK t) [] N k args ⟨0, [], 0⟩ with
  | some (x, sto) => match sto.elems x with
    | some xs => numsOf xs
    | none => none
  | none => none

/-- Whether two lengths are equal, wherever both are there. -/
def eqTree (i j : Nat) (y n : Sp) : Sp := .cmp false (fun xs => xs.getD i (.c 0)) (fun xs => xs.getD j (.c 0)) y n

def lenTests (n : Nat) (xs : List Sy) : List (Sy × Sy) := (xs.take n).map fun x => (.c 1048576, x)

theorem lenTests_ok {Ls : List (List Int)} {I : List Int} {n : Nat} {ρ : Nat → Int} {xs : List Sy} (hn : Ls.length = n) (hx : xs.map (Sy.den ρ) = Ls.map (fun l => (l.length : Int)) ++ I)
    (h : ∀ p, p ∈ lenTests n xs → ¬ p.1.den ρ < p.2.den ρ) : ∀ ls, ls ∈ Ls → ls.length ≤ 1048576 := by
  obtain ⟨g1, _⟩ := take_flat (by simpa using hn) hx
  intro ls hls
  obtain ⟨i, hi, rfl⟩ := List.getElem_of_mem hls
  have hi2 : i < (xs.take n).length := by
    have := congrArg List.length g1
    simp only [List.length_map] at this
    rw [this]; exact hi
  have h1 := h _ (List.mem_map_of_mem (List.getElem_mem hi2))
  have g5 : ((xs.take n)[i]).den ρ = (Ls[i].length : Int) := by
    have := congrArg (fun q => q[i]?) g1
    simp only [List.getElem?_map] at this
    rw [List.getElem?_eq_getElem hi2, List.getElem?_eq_getElem hi] at this
    simpa using this
  have h2 : ¬ (1048576 : Int) < ((xs.take n)[i]).den ρ := h1
  rw [g5] at h2
  omega

theorem open_list2 {H : Type} {enc : TypeId × Value → H} {P : Program} {t e : TypeId} {r : Reach} {base b0 : Nat} {W : World} {sp : Nat → Bool} {hd : Bool} {v : Value} {d : DataW H} {p : List MemPlace}
    (ht : P.underlying t = some (.slice e)) (he : P.underlying e = some (.int .i64)) (hc : P.cellsOf e = 1) (hval : Value.okWide P W r base t v) (h : DataW.Trod enc P W b0 sp hd t v d p) :
    ∃ zs : List Int, IsList W zs v ∧ zs.length ≤ 9223372036854775807 := by
  obtain ⟨zs, h1, h2⟩ := open_list ht he hc hval h
  refine ⟨zs, ⟨fun z hz => wrap_of_wf (h1 z hz), h2⟩, ?_⟩
  have h3 := h2 (fun _ => 0) ⟨fun _ _ => ByteArray.empty, fun _ => []⟩
  obtain ⟨a, len, cap, rfl⟩ := okWide_slice ht hval
  generalize hg : ints (nums zs) = xs at h3
  have hm : IntKind.i64.max = 9223372036854775807 := by decide
  cases h3 with
  | slice us k1 k2 k3 k4 k5 =>
    have : xs.length = zs.length := by rw [← hg]; simp
    simp only [Value.okWide, ht, Cell.okWide, Cell.ok] at hval
    obtain ⟨q1, q2, _⟩ := hval
    rw [hm] at q2
    omega
  | snil =>
    have := congrArg List.length hg
    simp at this
    subst this
    simp

theorem trod_lt_block {H : Type} {enc : TypeId × Value → H} {P : Program} {t : TypeId} {b0 : Nat} {W : World} {sp : Nat → Bool} {hd : Bool} {v : Value} {d : DataW H} {p : List MemPlace}
    (h : DataW.Trod enc P W b0 sp hd t v d p) : ∀ x ∈ p, x.block < W.heap.size := by obtain ⟨m, hm⟩ := h; exact DataW.trod_lt m _ _ _ hm
end Go.Sx

/-
  Laws over lists and integers, their cases by a tree: a list is empty, not looked into, no valid one, a valid one, a valid one of a length.
-/
namespace Go.Sx
open Go.RowKit

/-- 0 empty, 1 not looked into, 2 no valid one, 3 a valid one, 3 + L a valid one of L numbers. -/
structure StOk (bd : Int) (st : Nat) (l : List Int) : Prop where
  none : st = 0 → l = []
  some : st ≠ 0 → l ≠ [] ∧ l.length ≤ 1048576
  bad : st = 2 → ¬ validP bd l
  good : 3 ≤ st → validP bd l
  len : 4 ≤ st → l.length + 3 = st

structure StsOk (bds : List Int) (sts : List Nat) (Ls : List (List Int)) : Prop where
  l1 : sts.length = Ls.length
  l2 : bds.length = Ls.length
  ok : ∀ j, j < Ls.length → StOk (bds.getD j 0) (sts.getD j 0) (Ls.getD j [])

theorem getD_set_nat (sts : List Nat) (j i x : Nat) (hj : j < sts.length) : (sts.set j x).getD i 0 = if j = i then x else sts.getD i 0 := by
  simp only [List.getD, List.getElem?_set]
  by_cases h : j = i
  · subst h; simp [hj]
  · simp [h]

theorem StsOk.set {bds : List Int} {sts : List Nat} {Ls : List (List Int)} (h : StsOk bds sts Ls) {j x : Nat} (hx : j < Ls.length → StOk (bds.getD j 0) x (Ls.getD j [])) : StsOk bds (sts.set j x) Ls := by
  refine ⟨by rw [List.length_set]; exact h.l1, h.l2, fun i hi => ?_⟩
  by_cases hj : j < sts.length
  · rw [getD_set_nat _ _ _ _ hj]
    split
    · rename_i e; subst e; exact hx hi
    · exact h.ok i hi
  · rw [List.set_eq_of_length_le (by omega)]; exact h.ok i hi

/-! ## All numbers in a row: each list's length, its first six numbers; the integers -/
def pad6 (l : List Int) : List Int := (l ++ [0, 0, 0, 0, 0, 0]).take 6
theorem pad6_length (l : List Int) : (pad6 l).length = 6 := by simp [pad6]
theorem pad6_take {l : List Int} (h : l.length ≤ 6) : (pad6 l).take l.length = l := by
  rw [pad6, List.take_take, Nat.min_eq_left h]; exact List.take_left
def flat : List (List Int) → List Int → List Int
  | [], I => I
  | l :: r, I => (l.length : Int) :: (pad6 l ++ flat r I)
theorem flat_len : ∀ (Ls : List (List Int)) (I : List Int), (flat Ls I).length = 7 * Ls.length + I.length := by
  intro Ls
  induction Ls with
  | nil => intro I; simp [flat]
  | cons l r ih => intro I; simp [flat, ih, pad6_length]; omega
theorem flat_wf {Ls : List (List Int)} {I : List Int} (h : ∀ l, l ∈ Ls → (∀ z, z ∈ l → IntKind.i64.wrap z = z) ∧ l.length ≤ 9223372036854775807) (hI : ∀ z, z ∈ I → IntKind.i64.wrap z = z) : ∀ z, z ∈ flat Ls I → IntKind.i64.wrap z = z := by
  induction Ls with
  | nil => intro z hz; exact hI z hz
  | cons l r ih =>
    intro z hz
    simp only [flat, List.mem_cons, List.mem_append] at hz
    rcases hz with rfl | hz | hz
    · exact wrap_in (by omega) (by have := (h l (by simp)).2; omega)
    · have := List.mem_of_mem_take hz
      rcases List.mem_append.1 this with h1 | h1
      · exact (h l (by simp)).1 z h1
      · simp at h1; subst h1; exact wrap0
    · exact ih (fun l' hl' => h l' (by simp [hl'])) z hz

def segS (xs : List Sy) (j L : Nat) : List Sy := (xs.drop (7 * j + 1)).take L
def lenS (xs : List Sy) (j : Nat) : Sy := xs.getD (7 * j) (.c 0)

noncomputable def argsL : List Nat → List Sy → Nat → List (V Sy)
  | [], _, _ => []
  | st :: r, xs, j => bite (Nat.beq st 0) (.slice []) (bite (Nat.blt st 4) (.bsl j (xs.headD (.c 0))) (.slice (ints ((xs.drop 1).take (st - 3))))) :: argsL r (xs.drop 7) (j + 1)
def restL : List Nat → List Sy → List Sy
  | [], xs => xs
  | _ :: r, xs => restL r (xs.drop 7)
noncomputable def entsL : List Nat → List Int → List Sy → List VEnt
  | st :: r, bd :: bs, xs => bite (Nat.blt st 4) (entsL r bs (xs.drop 7)) (⟨bd, (xs.drop 1).take (st - 3), true⟩ :: entsL r bs (xs.drop 7))
  | _, _, _ => []
noncomputable def bentsL : List Nat → List Int → Nat → List BEnt
  | st :: r, bd :: bs, j => bite (Nat.beq st 2) (⟨bd, j, false⟩ :: bentsL r bs (j + 1)) (bite (Nat.beq st 3) (⟨bd, j, true⟩ :: bentsL r bs (j + 1)) (bentsL r bs (j + 1)))
  | _, _, _ => []
noncomputable def factsL : List Nat → List Sy → List Fact
  | [], _ => []
  | st :: r, xs => bite (Nat.beq st 0) (factsL r (xs.drop 7)) (bite (Nat.blt st 4) (⟨true, .c 1048576, xs.headD (.c 0), false⟩ :: ⟨true, xs.headD (.c 0), .c 1, false⟩ :: ⟨false, xs.headD (.c 0), .c 0, false⟩ ::
      bite (Nat.beq st 3) (⟨true, .c 6, xs.headD (.c 0), false⟩ :: factsL r (xs.drop 7)) (factsL r (xs.drop 7))) (factsL r (xs.drop 7)))
/-- Of valid numbers: between what they lie. -/
def rngF (bd : Int) : List Sy → List Fact
  | [] => []
  | x :: r => ⟨true, x, .c (-bd), false⟩ :: ⟨true, .c bd, x, false⟩ :: rngF bd r
noncomputable def rngL : List Nat → List Int → List Sy → List Fact
  | st :: r, bd :: bs, xs => bite (Nat.blt st 4) (rngL r bs (xs.drop 7)) (rngF bd ((xs.drop 1).take (st - 3)) ++ rngL r bs (xs.drop 7))
  | _, _, _ => []
noncomputable def lensL : List Nat → List Sy → List Sy
  | [], _ => []
  | st :: r, xs => bite (Nat.beq st 0) (.c 0) (bite (Nat.blt st 4) (xs.headD (.c 0)) (.c (st - 3 : Nat))) :: lensL r (xs.drop 7)
noncomputable def sumS : List Nat → List Sy → Sy → Sy
  | [], _, acc => acc
  | st :: r, xs, acc => sumS r (xs.drop 7) (bite (Nat.beq st 0) acc (plusS acc (bite (Nat.blt st 4) (xs.headD (.c 0)) (.c (st - 3 : Nat)))))

section
variable {ρ : Nat → Int} {s : Sms} {w : World}

/-- A list's part of the row. -/
theorem flat_cut {l : List Int} {r : List (List Int)} {I : List Int} {xs : List Sy} (h : xs.map (Sy.den ρ) = flat (l :: r) I) :
    (xs.headD (.c 0)).den ρ = (l.length : Int) ∧ (xs.drop 7).map (Sy.den ρ) = flat r I ∧ (l.length ≤ 6 → ((xs.drop 1).take l.length).map (Sy.den ρ) = l) := by
  cases xs with
  | nil => simp [flat] at h
  | cons x xs =>
    simp only [List.map_cons, flat, List.cons.injEq] at h
    obtain ⟨h1, h2⟩ := h
    refine ⟨h1, ?_, fun hl => ?_⟩
    · have := (take_flat (pad6_length l) h2).2
      simpa using this
    · have h3 := (take_flat (pad6_length l) h2).1
      simp only [List.drop_succ_cons, List.drop_zero]
      have h4 : xs.take l.length = (xs.take 6).take l.length := by rw [List.take_take, Nat.min_eq_left hl]
      rw [h4, List.map_take, h3]
      exact pad6_take hl

theorem getD_cons_zero' {α : Type} (a : α) (r : List α) (d : α) : (a :: r).getD 0 d = a := rfl
theorem getD_cons_succ' {α : Type} (a : α) (r : List α) (j : Nat) (d : α) : (a :: r).getD (j + 1) d = r.getD j d := rfl

theorem StsOk.tail {bd : Int} {bs : List Int} {st : Nat} {sts : List Nat} {l : List Int} {r : List (List Int)} (h : StsOk (bd :: bs) (st :: sts) (l :: r)) : StsOk bs sts r :=
  ⟨by simpa using h.l1, by simpa using h.l2, fun j hj => by have := h.ok (j + 1) (by simpa using hj); simpa [getD_cons_succ'] using this⟩
theorem StsOk.head {bd : Int} {bs : List Int} {st : Nat} {sts : List Nat} {l : List Int} {r : List (List Int)} (h : StsOk (bd :: bs) (st :: sts) (l :: r)) : StOk bd st l := by
  have := h.ok 0 (by simp); simpa [getD_cons_zero'] using this

theorem argsL_rel : ∀ {Ls : List (List Int)} {lv : List Value} {bds : List Int} {sts : List Nat} {xs : List Sy} {j : Nat} {I : List Int}, AllL w Ls lv → StsOk bds sts Ls → xs.map (Sy.den ρ) = flat Ls I →
    (∀ (i : Nat) (l : List Int), Ls[i]? = some l → l ≠ [] → s.l (j + i) = l) → VRs ⟨Sy.den ρ, s⟩ w.heap.size ⟨w, fun _ => none⟩ (argsL sts xs j) lv ∧ (restL sts xs).map (Sy.den ρ) = I := by
  intro Ls
  induction Ls with
  | nil =>
    intro lv bds sts xs j I hL hst hx _
    cases lv with
    | cons a b => exact hL.elim
    | nil =>
      cases sts with
      | nil => exact ⟨.nil, hx⟩
      | cons a b => have := hst.l1; simp at this
  | cons l r ih =>
    intro lv bds sts xs j I hL hst hx hs
    cases lv with
    | nil => exact hL.elim
    | cons v vs =>
      cases sts with
      | nil => have := hst.l1; simp at this
      | cons st sts =>
        cases bds with
        | nil => have := hst.l2; simp at this
        | cons bd bs =>
          obtain ⟨c1, c2, c3⟩ := flat_cut hx
          obtain ⟨g1, g2⟩ := ih (j := j + 1) hL.2 hst.tail c2 (fun i l' h1 h2 => by
            have := hs (i + 1) l' (by simpa using h1) h2
            rwa [show j + (i + 1) = j + 1 + i by omega] at this)
          refine ⟨.cons ?_ g1, g2⟩
          have ho := hst.head
          simp only [bite_eq]
          split
          · rename_i h0
            have := ho.none (Nat.eq_of_beq_eq_true h0)
            subst this
            exact hL.1.known (xs := []) rfl
          · rename_i h0
            have hne := ho.some (fun e => h0 (by rw [e]; rfl))
            split
            · exact hL.1.big (by have := hs 0 l rfl hne.1; simpa using this) c1
            · rename_i h4
              have h4' : 4 ≤ st := by simp [Nat.blt_eq] at h4; omega
              have hlen := ho.len h4'
              have hv := ho.good (by omega)
              rw [show st - 3 = l.length by omega]
              exact hL.1.known (c3 hv.2.2)

theorem entsL_ok : ∀ {Ls : List (List Int)} {bds : List Int} {sts : List Nat} {xs : List Sy} {I : List Int}, StsOk bds sts Ls → xs.map (Sy.den ρ) = flat Ls I → ∀ e, e ∈ entsL sts bds xs → e.Ok ρ := by
  intro Ls
  induction Ls with
  | nil =>
    intro bds sts xs I hst _ e he
    cases sts with
    | nil => simp [entsL] at he
    | cons a b => have := hst.l1; simp at this
  | cons l r ih =>
    intro bds sts xs I hst hx e he
    cases sts with
    | nil => simp [entsL] at he
    | cons st sts =>
      cases bds with
      | nil => simp [entsL] at he
      | cons bd bs =>
        obtain ⟨c1, c2, c3⟩ := flat_cut hx
        have hr := ih hst.tail c2
        simp only [entsL, bite_eq] at he
        split at he
        · exact hr e he
        · rename_i h4
          have h4' : 4 ≤ st := by simp [Nat.blt_eq] at h4; omega
          rcases List.mem_cons.1 he with rfl | he
          · have hlen := hst.head.len h4'
            have hv := hst.head.good (by omega)
            unfold VEnt.Ok
            simp only [show st - 3 = l.length by omega]
            rw [c3 hv.2.2]
            exact decide_eq_true hv
          · exact hr e he

theorem bentsL_ok : ∀ {Ls : List (List Int)} {bds : List Int} {sts : List Nat} {j : Nat}, StsOk bds sts Ls → (∀ (i : Nat) (l : List Int), Ls[i]? = some l → l ≠ [] → s.l (j + i) = l) → ∀ e, e ∈ bentsL sts bds j → e.Ok s := by
  intro Ls
  induction Ls with
  | nil =>
    intro bds sts j hst _ e he
    cases sts with
    | nil => simp [bentsL] at he
    | cons a b => have := hst.l1; simp at this
  | cons l r ih =>
    intro bds sts j hst hs e he
    cases sts with
    | nil => simp [bentsL] at he
    | cons st sts =>
      cases bds with
      | nil => simp [bentsL] at he
      | cons bd bs =>
        have hr := ih (j := j + 1) hst.tail (fun i l' h1 h2 => by
          have := hs (i + 1) l' (by simpa using h1) h2
          rwa [show j + (i + 1) = j + 1 + i by omega] at this)
        have ho := hst.head
        simp only [bentsL, bite_eq] at he
        split at he
        · rename_i h2
          have h2' := Nat.eq_of_beq_eq_true h2
          rcases List.mem_cons.1 he with rfl | he
          · have hne := ho.some (by omega)
            have h1 : s.l j = l := by simpa using hs 0 l rfl hne.1
            unfold BEnt.Ok
            simp only [h1]
            exact decide_eq_false (ho.bad h2')
          · exact hr e he
        · split at he
          · rename_i h3
            have h3' := Nat.eq_of_beq_eq_true h3
            rcases List.mem_cons.1 he with rfl | he
            · have hne := ho.some (by omega)
              have h1 : s.l j = l := by simpa using hs 0 l rfl hne.1
              unfold BEnt.Ok
              simp only [h1]
              exact decide_eq_true (ho.good (by omega))
            · exact hr e he
          · exact hr e he

theorem factsL_ok : ∀ {Ls : List (List Int)} {bds : List Int} {sts : List Nat} {xs : List Sy} {I : List Int}, StsOk bds sts Ls → xs.map (Sy.den ρ) = flat Ls I → ∀ f, f ∈ factsL sts xs → f.Ok ρ := by
  intro Ls
  induction Ls with
  | nil =>
    intro bds sts xs I hst _ f hf
    cases sts with
    | nil => simp [factsL] at hf
    | cons a b => have := hst.l1; simp at this
  | cons l r ih =>
    intro bds sts xs I hst hx f hf
    cases sts with
    | nil => simp [factsL] at hf
    | cons st sts =>
      cases bds with
      | nil => have := hst.l2; simp at this
      | cons bd bs =>
        obtain ⟨c1, c2, c3⟩ := flat_cut hx
        have hr := ih hst.tail c2
        have ho := hst.head
        simp only [factsL, bite_eq] at hf
        split at hf
        · exact hr f hf
        · rename_i h0
          have hne := ho.some (fun e => h0 (by rw [e]; rfl))
          have hpos : 1 ≤ l.length := by cases l with
            | nil => exact (hne.1 rfl).elim
            | cons a b => simp
          split at hf
          · simp only [List.mem_cons] at hf
            rcases hf with rfl | rfl | rfl | hf
            · exact Fact.lt_no (by rw [c1]; simp only [Sy.den]; omega)
            · exact Fact.lt_no (by rw [c1]; simp only [Sy.den]; omega)
            · exact Fact.eq_no (by rw [c1]; simp only [Sy.den]; omega)
            · split at hf
              · rename_i h3
                have h3' := Nat.eq_of_beq_eq_true h3
                rcases List.mem_cons.1 hf with rfl | hf
                · have := (ho.good (by omega)).2.2
                  exact Fact.lt_no (by rw [c1]; simp only [Sy.den]; omega)
                · exact hr f hf
              · exact hr f hf
          · exact hr f hf

theorem rngF_ok {bd : Int} : ∀ {xs : List Sy}, (∀ z, z ∈ xs.map (Sy.den ρ) → -bd ≤ z ∧ z ≤ bd) → ∀ f, f ∈ rngF bd xs → f.Ok ρ := by
  intro xs
  induction xs with
  | nil => intro _ f hf; simp [rngF] at hf
  | cons x r ih =>
    intro h f hf
    have hx := h (x.den ρ) (by simp)
    simp only [rngF, List.mem_cons] at hf
    rcases hf with rfl | rfl | hf
    · exact Fact.lt_no (by simp only [Sy.den]; exact Int.not_lt.2 hx.1)
    · exact Fact.lt_no (by simp only [Sy.den]; exact Int.not_lt.2 hx.2)
    · exact ih (fun z hz => h z (by simp only [List.map_cons, List.mem_cons]; exact .inr hz)) f hf

theorem rngL_ok : ∀ {Ls : List (List Int)} {bds : List Int} {sts : List Nat} {xs : List Sy} {I : List Int}, StsOk bds sts Ls → xs.map (Sy.den ρ) = flat Ls I → ∀ f, f ∈ rngL sts bds xs → f.Ok ρ := by
  intro Ls
  induction Ls with
  | nil =>
    intro bds sts xs I hst _ f hf
    cases sts with
    | nil => simp [rngL] at hf
    | cons a b => have := hst.l1; simp at this
  | cons l r ih =>
    intro bds sts xs I hst hx f hf
    cases sts with
    | nil => simp [rngL] at hf
    | cons st sts =>
      cases bds with
      | nil => simp [rngL] at hf
      | cons bd bs =>
        obtain ⟨c1, c2, c3⟩ := flat_cut hx
        have hr := ih hst.tail c2
        simp only [rngL, bite_eq] at hf
        split at hf
        · exact hr f hf
        · rename_i h4
          have h4' : 4 ≤ st := by simp [Nat.blt_eq] at h4; omega
          rcases List.mem_append.1 hf with hf | hf
          · have hlen := hst.head.len h4'
            have hv := hst.head.good (by omega)
            refine rngF_ok (fun z hz => ?_) f hf
            rw [show st - 3 = l.length by omega, c3 hv.2.2] at hz
            exact hv.1 z hz
          · exact hr f hf

theorem lensL_den : ∀ {Ls : List (List Int)} {bds : List Int} {sts : List Nat} {xs : List Sy} {I : List Int}, StsOk bds sts Ls → xs.map (Sy.den ρ) = flat Ls I → (lensL sts xs).map (Sy.den ρ) = Ls.map (fun l => (l.length : Int)) := by
  intro Ls
  induction Ls with
  | nil =>
    intro bds sts xs I hst _
    cases sts with
    | nil => rfl
    | cons a b => have := hst.l1; simp at this
  | cons l r ih =>
    intro bds sts xs I hst hx
    cases sts with
    | nil => have := hst.l1; simp at this
    | cons st sts =>
      cases bds with
      | nil => have := hst.l2; simp at this
      | cons bd bs =>
        obtain ⟨c1, c2, c3⟩ := flat_cut hx
        have ho := hst.head
        simp only [lensL, List.map_cons, ih hst.tail c2, List.cons.injEq, and_true, bite_eq]
        split
        · rename_i h0
          rw [ho.none (Nat.eq_of_beq_eq_true h0)]; rfl
        · split
          · exact c1
          · rename_i h4
            have h4' : 4 ≤ st := by simp [Nat.blt_eq] at h4; omega
            have := ho.len h4'
            simp only [Sy.den]; omega

theorem sumS_den : ∀ {Ls : List (List Int)} {bds : List Int} {sts : List Nat} {xs : List Sy} {I : List Int} {acc : Sy} {b : Nat}, StsOk bds sts Ls → xs.map (Sy.den ρ) = flat Ls I → 0 ≤ acc.den ρ → acc.den ρ ≤ b → b + Ls.length * 1048576 ≤ 1000000000 → 0 ≤ (sumS sts xs acc).den ρ := by
  intro Ls
  induction Ls with
  | nil =>
    intro bds sts xs I acc b hst _ h0 _ _
    cases sts with
    | nil => exact h0
    | cons a b => have := hst.l1; simp at this
  | cons l r ih =>
    intro bds sts xs I acc b hst hx h0 h1 hb
    cases sts with
    | nil => have := hst.l1; simp at this
    | cons st sts =>
      cases bds with
      | nil => have := hst.l2; simp at this
      | cons bd bs =>
        obtain ⟨c1, c2, c3⟩ := flat_cut hx
        have ho := hst.head
        simp only [List.length_cons] at hb
        simp only [sumS]
        have key : 0 ≤ (bite (Nat.beq st 0) acc (plusS acc (bite (Nat.blt st 4) (xs.headD (.c 0)) (.c ((st - 3 : Nat) : Int))))).den ρ ∧ (bite (Nat.beq st 0) acc (plusS acc (bite (Nat.blt st 4) (xs.headD (.c 0)) (.c ((st - 3 : Nat) : Int))))).den ρ ≤ b + 1048576 := by
          rw [bite_eq]
          split
          · omega
          · rename_i hs0
            have hne := ho.some (fun e => hs0 (by rw [e]; rfl))
            have hd : (bite (Nat.blt st 4) (xs.headD (.c 0)) (.c ((st - 3 : Nat) : Int))).den ρ = (l.length : Int) := by
              rw [bite_eq]
              split
              · exact c1
              · rename_i h4
                have h4' : 4 ≤ st := by simp [Nat.blt_eq] at h4; omega
                have := ho.len h4'
                simp only [Sy.den]; omega
            have hll := hne.2
            rw [plusS_den, hd, wrap_in (by omega) (by omega)]; omega
        exact ih (b := b + 1048576) hst.tail c2 key.1 (by have := key.2; omega) (by omega)
end

/-! ## The tree -/
inductive LSp where
  | leaf (t : Sp)
  | splitW (j : Nat) (i w : LSp)
  | splitV (j : Nat) (i : LSp) (v : Nat → LSp)
  | refine (j : Nat) (v : Nat → LSp)
  | same (i j : Nat) (v : Nat → LSp) (n : LSp)
  | lenIs (j L : Nat) (y n : LSp)
  | sub (i : Nat) (c : Int) (y n : LSp)
  | cmp (lt : Bool) (a b : List Sy → Sy) (y n : LSp)
  | val (bd : Int) (f : List Sy → Option (List Sy)) (y n : LSp)

noncomputable def chkL (run : List Nat → List Sy → List Fact → List VEnt → Sp → Bool) : LSp → List Nat → List Sy → List Fact → List VEnt → Bool
  | .leaf t, sts, xs, Γ, Vt => run sts xs Γ Vt t
  | .splitW j i w, sts, xs, Γ, Vt => bite (Nat.beq (sts.getD j 0) 1) (bite (chkL run i (sts.set j 2) xs Γ Vt) (chkL run w (sts.set j 3) xs Γ Vt) false) false
  | .splitV j i v, sts, xs, Γ, Vt => bite (Nat.beq (sts.getD j 0) 1) (bite (chkL run i (sts.set j 2) xs Γ Vt) (allTo (fun L => chkL run (v (L + 1)) (sts.set j (L + 4)) xs Γ Vt) 6) false) false
  | .refine j v, sts, xs, Γ, Vt => bite (Nat.beq (sts.getD j 0) 3) (allTo (fun L => chkL run (v (L + 1)) (sts.set j (L + 4)) xs Γ Vt) 6) false
  | .same i j v n, sts, xs, Γ, Vt => bite (Nat.beq (sts.getD i 0) 3) (bite (Nat.beq (sts.getD j 0) 3) (bite (allTo (fun L => chkL run (v (L + 1)) ((sts.set i (L + 4)).set j (L + 4)) xs Γ Vt) 6)
      (chkL run n sts xs (⟨false, lenS xs i, lenS xs j, false⟩ :: Γ) Vt) false) false) false
  | .lenIs j L y n, sts, xs, Γ, Vt => bite (Nat.beq (sts.getD j 0) 3) (bite (Nat.blt 0 L) (bite (chkL run y (sts.set j (L + 3)) xs Γ Vt) (chkL run n sts xs (⟨false, lenS xs j, .c (L : Nat), false⟩ :: Γ) Vt) false) false) false
  | .sub i c y n, sts, xs, Γ, Vt => bite (chkL run y sts (xs.set i (.c c)) Γ Vt) (chkL run n sts xs (⟨false, xs.getD i (.c 0), .c c, false⟩ :: Γ) Vt) false
  | .cmp lt a b y n, sts, xs, Γ, Vt => bite (chkL run y sts xs (⟨lt, a xs, b xs, true⟩ :: Γ) Vt) (chkL run n sts xs (⟨lt, a xs, b xs, false⟩ :: Γ) Vt) false
  | .val bd f y n, sts, xs, Γ, Vt => match f xs with
    | some ps => bite (chkL run y sts xs (bndF bd ps ++ Γ) (⟨bd, ps, true⟩ :: Vt)) (chkL run n sts xs Γ (⟨bd, ps, false⟩ :: Vt)) false
    | none => false

theorem chkL_ok {ρ : Nat → Int} {bds : List Int} {Ls : List (List Int)} {I : List Int} {G : Prop} {run : List Nat → List Sy → List Fact → List VEnt → Sp → Bool}
    (hrun : ∀ sts xs Γ Vt t, run sts xs Γ Vt t = true → StsOk bds sts Ls → xs.map (Sy.den ρ) = flat Ls I → (∀ f, f ∈ Γ → f.Ok ρ) → (∀ e, e ∈ Vt → e.Ok ρ) → G) :
    ∀ (t : LSp) (sts : List Nat) (xs : List Sy) (Γ : List Fact) (Vt : List VEnt), chkL run t sts xs Γ Vt = true → StsOk bds sts Ls → xs.map (Sy.den ρ) = flat Ls I → (∀ f, f ∈ Γ → f.Ok ρ) → (∀ e, e ∈ Vt → e.Ok ρ) → G := by
  intro t
  have lenden : ∀ {Ls : List (List Int)} {xs : List Sy}, xs.map (Sy.den ρ) = flat Ls I → ∀ j, j < Ls.length → (lenS xs j).den ρ = ((Ls.getD j []).length : Int) := by
    intro Ls
    induction Ls with
    | nil => intro xs _ j hj; simp at hj
    | cons l r ih =>
      intro xs hx j hj
      obtain ⟨c1, c2, _⟩ := flat_cut hx
      cases j with
      | zero =>
        have : lenS xs 0 = xs.headD (.c 0) := by unfold lenS; cases xs <;> rfl
        rw [this]; exact c1
      | succ j =>
        have := ih c2 j (by simpa using hj)
        rw [getD_cons_succ']
        rw [← this]
        unfold lenS
        simp only [List.getD, List.getElem?_drop]
        rw [show 7 * (j + 1) = 7 + 7 * j by omega]
  have hj1 : ∀ {sts : List Nat} {j k : Nat}, StsOk bds sts Ls → Nat.beq (sts.getD j 0) (k + 1) = true → j < Ls.length := by
    intro sts j k hst h
    rcases Nat.lt_or_ge j Ls.length with h1 | h1
    · exact h1
    · have : sts.getD j 0 = 0 := by simp [List.getD, List.getElem?_eq_none (show sts.length ≤ j by rw [hst.l1]; exact h1)]
      rw [this] at h
      have := Nat.eq_of_beq_eq_true h
      omega
  have atLen : ∀ {bd : Int} {l : List Int}, validP bd l → ∃ L, L < 6 ∧ l.length = L + 1 := fun {bd l} h => ⟨l.length - 1, by have := h.2.2; have := h.2.1; omega, by have := h.2.1; omega⟩
  have mkV : ∀ {bd : Int} {l : List Int} {L : Nat}, validP bd l → l ≠ [] ∧ l.length ≤ 1048576 → l.length = L + 1 → StOk bd (L + 4) l := fun h1 h2 h3 => ⟨fun h => by omega, fun _ => h2, fun h => by omega, fun _ => h1, fun _ => by omega⟩
  induction t with
  | leaf t => intro sts xs Γ Vt h hst hx hΓ hV; exact hrun sts xs Γ Vt t h hst hx hΓ hV
  | splitW j i w ihi ihw =>
    intro sts xs Γ Vt h hst hx hΓ hV
    simp only [chkL, bite_eq] at h
    split at h
    · rename_i h1
      split at h
      · rename_i h2
        have hj := hj1 (k := 0) hst h1
        have ho := hst.ok j hj
        rw [Nat.eq_of_beq_eq_true h1] at ho
        by_cases hv : validP (bds.getD j 0) (Ls.getD j [])
        · exact ihw _ _ _ _ h (hst.set (fun _ => ⟨fun h => by omega, fun _ => ho.some (by omega), fun h => by omega, fun _ => hv, fun h => by omega⟩)) hx hΓ hV
        · exact ihi _ _ _ _ h2 (hst.set (fun _ => ⟨fun h => by omega, fun _ => ho.some (by omega), fun _ => hv, fun h => by omega, fun h => by omega⟩)) hx hΓ hV
      · cases h
    · cases h
  | splitV j i v ihi ihv =>
    intro sts xs Γ Vt h hst hx hΓ hV
    simp only [chkL, bite_eq] at h
    split at h
    · rename_i h1
      split at h
      · rename_i h2
        have hj := hj1 (k := 0) hst h1
        have ho := hst.ok j hj
        rw [Nat.eq_of_beq_eq_true h1] at ho
        by_cases hv : validP (bds.getD j 0) (Ls.getD j [])
        · obtain ⟨L, hL, hlen⟩ := atLen hv
          exact ihv _ _ _ _ _ (allTo_ok h L hL) (hst.set (fun _ => mkV hv (ho.some (by omega)) hlen)) hx hΓ hV
        · exact ihi _ _ _ _ h2 (hst.set (fun _ => ⟨fun h => by omega, fun _ => ho.some (by omega), fun _ => hv, fun h => by omega, fun h => by omega⟩)) hx hΓ hV
      · cases h
    · cases h
  | refine j v ihv =>
    intro sts xs Γ Vt h hst hx hΓ hV
    simp only [chkL, bite_eq] at h
    split at h
    · rename_i h1
      have hj := hj1 (k := 2) hst h1
      have ho := hst.ok j hj
      rw [Nat.eq_of_beq_eq_true h1] at ho
      have hv := ho.good (by omega)
      obtain ⟨L, hL, hlen⟩ := atLen hv
      exact ihv _ _ _ _ _ (allTo_ok h L hL) (hst.set (fun _ => mkV hv (ho.some (by omega)) hlen)) hx hΓ hV
    · cases h
  | same i j v n ihv ihn =>
    intro sts xs Γ Vt h hst hx hΓ hV
    simp only [chkL, bite_eq] at h
    split at h
    · rename_i h1
      split at h
      · rename_i h2
        split at h
        · rename_i h3
          have hi := hj1 (k := 2) hst h1
          have hj := hj1 (k := 2) hst h2
          have hoi := hst.ok i hi
          have hoj := hst.ok j hj
          rw [Nat.eq_of_beq_eq_true h1] at hoi
          rw [Nat.eq_of_beq_eq_true h2] at hoj
          have hvi := hoi.good (by omega)
          have hvj := hoj.good (by omega)
          by_cases he : (Ls.getD i []).length = (Ls.getD j []).length
          · obtain ⟨L, hL, hlen⟩ := atLen hvi
            exact ihv _ _ _ _ _ (allTo_ok h3 L hL) ((hst.set (fun _ => mkV hvi (hoi.some (by omega)) hlen)).set (fun _ => mkV hvj (hoj.some (by omega)) (by omega))) hx hΓ hV
          · refine ihn _ _ _ _ h hst hx (fun f hf => ?_) hV
            rcases List.mem_cons.1 hf with rfl | hf
            · refine Fact.eq_no ?_
              rw [lenden hx i hi, lenden hx j hj]
              omega
            · exact hΓ f hf
        · cases h
      · cases h
    · cases h
  | lenIs j L y n ihy ihn =>
    intro sts xs Γ Vt h hst hx hΓ hV
    simp only [chkL, bite_eq] at h
    split at h
    · rename_i h1
      split at h
      · rename_i h2
        rw [Nat.blt_eq] at h2
        split at h
        · rename_i h3
          have hj := hj1 (k := 2) hst h1
          have ho := hst.ok j hj
          rw [Nat.eq_of_beq_eq_true h1] at ho
          have hv := ho.good (by omega)
          by_cases he : (Ls.getD j []).length = L
          · exact ihy _ _ _ _ h3 (hst.set (fun _ => ⟨fun h => by omega, fun _ => ho.some (by omega), fun h => by omega, fun _ => hv, fun _ => by omega⟩)) hx hΓ hV
          · refine ihn _ _ _ _ h hst hx (fun f hf => ?_) hV
            rcases List.mem_cons.1 hf with rfl | hf
            · refine Fact.eq_no ?_
              rw [lenden hx j hj]
              simp only [Sy.den]
              omega
            · exact hΓ f hf
        · cases h
      · cases h
    · cases h
  | sub i c y n ihy ihn =>
    intro sts xs Γ Vt h hst hx hΓ hV
    simp only [chkL, bite_eq] at h
    split at h
    · rename_i h1
      by_cases hc : (xs.getD i (.c 0)).den ρ = c
      · exact ihy _ _ _ _ h1 hst (map_set_den hx hc) hΓ hV
      · exact ihn _ _ _ _ h hst hx (List.forall_mem_cons.2 ⟨Fact.eq_no hc, hΓ⟩) hV
    · cases h
  | cmp lt a b y n ihy ihn =>
    intro sts xs Γ Vt h hst hx hΓ hV
    simp only [chkL, bite_eq] at h
    split at h
    · rename_i h1
      cases lt with
      | true =>
        by_cases hc : (a xs).den ρ < (b xs).den ρ
        · exact ihy _ _ _ _ h1 hst hx (List.forall_mem_cons.2 ⟨Fact.lt_yes hc, hΓ⟩) hV
        · exact ihn _ _ _ _ h hst hx (List.forall_mem_cons.2 ⟨Fact.lt_no hc, hΓ⟩) hV
      | false =>
        by_cases hc : (a xs).den ρ = (b xs).den ρ
        · exact ihy _ _ _ _ h1 hst hx (List.forall_mem_cons.2 ⟨Fact.eq_yes hc, hΓ⟩) hV
        · exact ihn _ _ _ _ h hst hx (List.forall_mem_cons.2 ⟨Fact.eq_no hc, hΓ⟩) hV
    · cases h
  | val bd f y n ihy ihn =>
    intro sts xs Γ Vt h hst hx hΓ hV
    simp only [chkL] at h
    split at h
    · rename_i ps hps
      rw [bite_eq] at h
      split at h
      · rename_i h1
        by_cases hc : validP bd (ps.map (Sy.den ρ))
        · exact ihy _ _ _ _ h1 hst hx (fun f hf => (List.mem_append.1 hf).elim (bndF_ok (decide_eq_true hc) f) (hΓ f)) (List.forall_mem_cons.2 ⟨decide_eq_true hc, hV⟩)
        · exact ihn _ _ _ _ h hst hx hΓ (List.forall_mem_cons.2 ⟨decide_eq_false hc, hV⟩)
      · cases h
    · cases h

/-! ## The law -/
structure LawU where
  k : FuncId
  bds : List Int
  m : Nat
  args : List (V Sy) → List (V Sy) → List (V Sy)
  tests : List Sy → List (Sy × Sy)
  tree : List Nat → LSp

noncomputable def LawU.xs (l : LawU) : List Sy := vxs (7 * l.bds.length + l.m)
noncomputable def LawU.testsAt (l : LawU) (sts : List Nat) : List (Sy × Sy) := l.tests (lensL sts l.xs)

noncomputable def LawU.huge (P : Program) (N : Nat) (l : LawU) : Bool :=
  allTo (fun i => match (l.testsAt (l.bds.map fun _ => 1))[i]? with
    | some p => saysTrue (symRun P noK (⟨true, p.1, p.2, true⟩ :: testF (l.testsAt (l.bds.map fun _ => 1)) i) N l.k (l.args (argsL (l.bds.map fun _ => 1) l.xs 0) (ints (restL (l.bds.map fun _ => 1) l.xs))) ⟨0, [], 0⟩)
    | none => true) (l.testsAt (l.bds.map fun _ => 1)).length

noncomputable def LawU.shape (l : LawU) (sts : List Nat) : Shape := ⟨fun xs => l.args (argsL sts xs 0) (ints (restL sts xs)), fun xs => entsL sts l.bds xs⟩
noncomputable def LawU.facts (l : LawU) (sts : List Nat) : List Fact :=
  ⟨true, sumS sts l.xs (.c 1), .c 0, false⟩ :: (factsL sts l.xs ++ (testF (l.testsAt sts) (l.testsAt sts).length ++ rngL sts l.bds l.xs))
noncomputable def LawU.run (P : Program) (D : Ids) (t : List Summ) (N : Nat) (l : LawU) (sts : List Nat) (xs : List Sy) (Γ : List Fact) (Vt : List VEnt) (sp : Sp) : Bool :=
  chk (runC P D t (bentsL sts l.bds 0) N l.k (l.shape sts) (Γ ++ l.facts sts)) sp xs [] Vt
noncomputable def LawU.at (P : Program) (D : Ids) (t : List Summ) (N : Nat) (l : LawU) (es : List Nat) : Bool :=
  chkL (l.run P D t N) (l.tree es) es l.xs [] []

theorem LawU.ok {P : Program} (hG : NoCount P) (hm : P.follows .mixedOrders = true) {D : Ids} (hD : D.Ok P) {t : List Summ} (ht : ∀ e, e ∈ t → e.Ok P) {N : Nat} {l : LawU}
    (h1 : l.huge P N = true) (h2 : ∀ es : List Nat, es.length = l.bds.length → (∀ x, x ∈ es → x ≤ 1) → l.at P D t N es = true) (hn : 7 * l.bds.length + l.m ≤ 40)
    {w : World} {Ls : List (List Int)} {lv : List Value} {I : List Int} {rargs : Array Value} (hL : AllL w Ls lv) (hlen : Ls.length = l.bds.length) (hwf : ∀ ls, ls ∈ Ls → (∀ z, z ∈ ls → IntKind.i64.wrap z = z) ∧ ls.length ≤ 9223372036854775807)
    (hI : I.length = l.m) (hwI : ∀ z, z ∈ I → IntKind.i64.wrap z = z)
    (hA : ∀ (ρ : Nat → Int) (s : Sms) (ll : List (V Sy)) (xi : List Sy), VRs ⟨Sy.den ρ, s⟩ w.heap.size ⟨w, fun _ => none⟩ ll lv → VRs ⟨Sy.den ρ, s⟩ w.heap.size ⟨w, fun _ => none⟩ (ints xi) (intVs I) → VRs ⟨Sy.den ρ, s⟩ w.heap.size ⟨w, fun _ => none⟩ (l.args ll (ints xi)) rargs.toList)
    (hT : ∀ (ρ : Nat → Int) (ys : List Sy), ys.map (Sy.den ρ) = Ls.map (fun l => (l.length : Int)) → (∀ p, p ∈ l.tests ys → ¬ p.1.den ρ < p.2.den ρ) → ∀ ls, ls ∈ Ls → ls.length ≤ 1048576)
    (hT2 : ∀ (ρ : Nat → Int) (ys zs : List Sy), ys.map (Sy.den ρ) = zs.map (Sy.den ρ) → (l.tests ys).map (fun p => (p.1.den ρ, p.2.den ρ)) = (l.tests zs).map (fun p => (p.1.den ρ, p.2.den ρ))) :
    LawTrue P l.k rargs w := by
  have hintsV : ∀ (ρ : Nat → Int) (s : Sms) (xi : List Sy), xi.map (Sy.den ρ) = I → VRs ⟨Sy.den ρ, s⟩ w.heap.size ⟨w, fun _ => none⟩ (ints xi) (intVs I) := by
    intro ρ s xi hxi
    subst hxi
    refine ⟨by simp [intVs], fun i x v hx hv => ?_⟩
    rw [ints_get] at hx
    rw [intVs, List.map_map, List.getElem?_map] at hv
    cases hz : xi[i]? with
    | none => rw [hz] at hx; simp at hx
    | some z => rw [hz] at hx hv; simp at hx hv; subst hx; subst hv; exact .int _ _
  have hfl := flat_len Ls I
  rw [hlen, hI] at hfl
  have hvx := vxs_den (zs := flat Ls I) (by rw [hfl]; omega) (flat_wf hwf hwI)
  rw [hfl] at hvx
  generalize hρ : (fun i => (flat Ls I).getD i 0) = ρ at hvx
  have hxs : l.xs.map (Sy.den ρ) = flat Ls I := hvx
  let s : Sms := ⟨fun _ _ => ByteArray.empty, fun j => if (Ls.getD j []) = [] then [0] else Ls.getD j []⟩
  have hsl : ∀ (i : Nat) (ls : List Int), Ls[i]? = some ls → ls ≠ [] → s.l (0 + i) = ls := by
    intro i ls hi hne
    have : Ls.getD i [] = ls := by simp [List.getD, hi]
    simp only [s, Nat.zero_add]
    rw [this, if_neg hne]
  have hget : ∀ j, Ls.getD j [] = [] ∨ Ls.getD j [] ∈ Ls := by
    intro j
    rcases Nat.lt_or_ge j Ls.length with h | h
    · right; simp [List.getD, h]
    · left; simp [List.getD, List.getElem?_eq_none h]
  -- the lengths, all as variables
  have hlen1 : (lensL (l.bds.map fun _ => 1) l.xs).map (Sy.den ρ) = Ls.map (fun l => (l.length : Int)) := by
    have aux : ∀ {Ls : List (List Int)} {bds : List Int} {xs : List Sy}, Ls.length = bds.length → xs.map (Sy.den ρ) = flat Ls I → (lensL (bds.map fun _ => 1) xs).map (Sy.den ρ) = Ls.map (fun l => (l.length : Int)) := by
      intro Ls
      induction Ls with
      | nil => intro bds xs hb _; cases bds with
        | nil => rfl
        | cons a b => simp at hb
      | cons a r ih =>
        intro bds xs hb hx
        cases bds with
        | nil => simp at hb
        | cons bd bs =>
          obtain ⟨c1, c2, _⟩ := flat_cut hx
          simp only [List.map_cons, lensL, List.cons.injEq]
          exact ⟨c1, ih (by simpa using hb) c2⟩
    exact aux hlen hxs
  by_cases hall : ∀ p, p ∈ l.testsAt (l.bds.map fun _ => 1) → ¬ p.1.den ρ < p.2.den ρ
  · have hsm := hT ρ _ hlen1 hall
    let es : List Nat := Ls.map fun ls => if ls = [] then 0 else 1
    have hes : l.at P D t N es = true := h2 es (by simp [es, hlen]) (fun x hx => by
      obtain ⟨ls, _, rfl⟩ := List.mem_map.1 hx
      split <;> omega)
    have hst0 : StsOk l.bds es Ls := by
      refine ⟨by simp [es], hlen.symm, fun j hj => ?_⟩
      have e1 : es.getD j 0 = if Ls.getD j [] = [] then 0 else 1 := by simp [es, List.getD, hj]
      rw [e1]
      have hmem : Ls.getD j [] ∈ Ls := by simp [List.getD, hj]
      by_cases he : Ls.getD j [] = []
      · rw [if_pos he]; exact ⟨fun _ => he, fun h => (h rfl).elim, fun h => by omega, fun h => by omega, fun h => by omega⟩
      · rw [if_neg he]; exact ⟨fun h => by omega, fun _ => ⟨he, hsm _ hmem⟩, fun h => by omega, fun h => by omega, fun h => by omega⟩
    refine chkL_ok (ρ := ρ) (bds := l.bds) (Ls := Ls) (I := I) (fun sts xs Γ Vt sp hr hst hxc hΓ hVt => ?_) _ _ _ _ _ hes hst0 hxs (by simp) (by simp)
    refine chk_ok (ρ := ρ) (zs := flat Ls I) (fun xs Γ' Vt hr hz hΓ' hV => ?_) _ _ _ _ hr hxc (by simp) hVt
    refine runC_ok (s := s) hG hm hD ht (fun e he => bentsL_ok (s := s) (j := 0) hst hsl e he) (fun j => ?_) (fun j z hz => ?_) (fun f hf => ?_) (fun xs hx => ?_) (fun xs hx e he => entsL_ok hst hx e he) xs Γ' Vt hr hz hΓ' hV
    · simp only [s]
      split
      · simp
      · rename_i hne
        rcases hget j with h | h
        · exact (hne h).elim
        · refine ⟨?_, hsm _ h⟩
          cases hg : Ls.getD j [] with
          | nil => exact (hne hg).elim
          | cons a b => simp
    · simp only [s] at hz
      split at hz
      · simp at hz; subst hz; exact wrap0
      · rename_i hne
        rcases hget j with h | h
        · exact (hne h).elim
        · exact (hwf _ h).1 z hz
    · rcases List.mem_append.1 hf with hf | hf
      · exact hΓ f hf
      · unfold LawU.facts at hf
        rcases List.mem_cons.1 hf with rfl | hf
        · refine Fact.lt_no ?_
          have := sumS_den (acc := .c 1) (b := 1) hst hxs (by simp [Sy.den]) (by simp [Sy.den]) (by omega)
          simp only [Sy.den] at this ⊢; omega
        · rcases List.mem_append.1 hf with hf | hf
          · exact factsL_ok hst hxs f hf
          refine (List.mem_append.1 hf).elim (fun hf => ?_) (fun hf => rngL_ok hst hxs f hf)
          · refine testF_ok (fun j p hp _ => ?_) f hf
            have e1 := hT2 ρ (lensL sts l.xs) (lensL (l.bds.map fun _ => 1) l.xs) (by rw [lensL_den hst hxs, hlen1])
            have e2 := congrArg (fun q => q[j]?) e1
            simp only [List.getElem?_map] at e2
            have hp' : (l.tests (lensL sts l.xs))[j]? = some p := hp
            rw [hp'] at e2
            cases hq : (l.tests (lensL (l.bds.map fun _ => 1) l.xs))[j]? with
            | none => rw [hq] at e2; cases e2
            | some q =>
              rw [hq] at e2
              simp only [Option.map_some, Option.some.injEq, Prod.mk.injEq] at e2
              rw [e2.1, e2.2]
              exact hall q (List.mem_of_getElem? hq)
    · obtain ⟨g1, g2⟩ := argsL_rel (s := s) (j := 0) hL hst hx hsl
      exact hA _ _ _ _ g1 (hintsV _ _ _ g2)
  · -- too long
    have hex : ∃ (i : Nat) (p : Sy × Sy), (l.testsAt (l.bds.map fun _ => 1))[i]? = some p ∧ p.1.den ρ < p.2.den ρ ∧ ∀ (j : Nat) (q : Sy × Sy), (l.testsAt (l.bds.map fun _ => 1))[j]? = some q → j < i → ¬ q.1.den ρ < q.2.den ρ := by
      generalize l.testsAt (l.bds.map fun _ => 1) = ts at hall
      induction ts with
      | nil => exact (hall (fun p hp => by cases hp)).elim
      | cons a r ih =>
        by_cases ha : a.1.den ρ < a.2.den ρ
        · exact ⟨0, a, rfl, ha, fun j q _ hj => by omega⟩
        · obtain ⟨i, p, k1, k2, k3⟩ := ih (fun h => hall (fun p hp => by
            rcases List.mem_cons.1 hp with rfl | hp
            · exact ha
            · exact h p hp))
          refine ⟨i + 1, p, by simpa using k1, k2, fun j q hj hji => ?_⟩
          cases j with
          | zero => simp at hj; subst hj; exact ha
          | succ j => exact k3 j q (by simpa using hj) (by omega)
    obtain ⟨i, p, k1, k2, k3⟩ := hex
    have hi := allTo_ok h1 i (List.getElem?_eq_some_iff.1 k1).1
    simp only [k1] at hi
    let s2 : Sms := ⟨fun _ _ => ByteArray.empty, fun j => Ls.getD j []⟩
    have aux : ∀ {Ls : List (List Int)} {lv : List Value} {bds : List Int} {xs : List Sy} {j : Nat}, AllL w Ls lv → Ls.length = bds.length → xs.map (Sy.den ρ) = flat Ls I → (∀ (i : Nat) (l : List Int), Ls[i]? = some l → s2.l (j + i) = l) →
        VRs ⟨Sy.den ρ, s2⟩ w.heap.size ⟨w, fun _ => none⟩ (argsL (bds.map fun _ => 1) xs j) lv ∧ (restL (bds.map fun _ => 1) xs).map (Sy.den ρ) = I := by
      intro Ls
      induction Ls with
      | nil =>
        intro lv bds xs j hL hb hx _
        cases bds with
        | cons a b => simp at hb
        | nil =>
          cases lv with
          | nil => exact ⟨.nil, hx⟩
          | cons a b => exact hL.elim
      | cons a r ih =>
        intro lv bds xs j hL hb hx hs
        cases bds with
        | nil => simp at hb
        | cons bd bs =>
          cases lv with
          | nil => exact hL.elim
          | cons v vs =>
            obtain ⟨c1, c2, _⟩ := flat_cut hx
            obtain ⟨g1, g2⟩ := ih (j := j + 1) hL.2 (by simpa using hb) c2 (fun i l' h1 => by
              have := hs (i + 1) l' (by simpa using h1)
              rwa [show j + (i + 1) = j + 1 + i by omega] at this)
            exact ⟨.cons (hL.1.big (by have := hs 0 a rfl; simpa using this) c1) g1, g2⟩
    obtain ⟨g1, g2⟩ := aux (j := 0) hL hlen hxs (fun i ls hi => by simp [s2, List.getD, hi])
    refine calls_true (Δ := ⟨Sy.den ρ, s2⟩) (symRun_ok hG hm (fun f hf => ?_) noK_ok N) (hA _ _ _ _ g1 (hintsV _ _ _ g2)) hi
    rcases List.mem_cons.1 hf with rfl | hf
    · exact Fact.lt_yes k2
    · exact testF_ok k3 f hf
end Go.Sx

/-
  Words for laws: what is asked of sizes; pairs of lists among a row's arguments.
-/
namespace Go.Sx
open Go.ChangeShapes Go.WideShapes Go.ChangeAt Go.RowKit

def lenT (ys : List Sy) : List (Sy × Sy) := ys.map fun x => (.c 1048576, x)
noncomputable def sumT : List Sy → Sy → List (Sy × Sy)
  | [], _ => []
  | x :: r, left => (minusS left x, .c 0) :: sumT r (minusS left x)
/-- The first n lists by themselves, the others together. -/
noncomputable def sizeT (n : Nat) (ys : List Sy) : List (Sy × Sy) := lenT (ys.take n) ++ sumT (ys.drop n) (.c 1048576)

theorem sumT_cg {ρ : Nat → Int} : ∀ {ys zs : List Sy} {a b : Sy}, ys.map (Sy.den ρ) = zs.map (Sy.den ρ) → a.den ρ = b.den ρ → (sumT ys a).map (fun p => (p.1.den ρ, p.2.den ρ)) = (sumT zs b).map (fun p => (p.1.den ρ, p.2.den ρ)) := by
  intro ys
  induction ys with
  | nil => intro zs a b h _; cases zs with
    | nil => rfl
    | cons z r => simp at h
  | cons y r ih =>
    intro zs a b h hab
    cases zs with
    | nil => simp at h
    | cons z q =>
      simp only [List.map_cons, List.cons.injEq] at h
      have hm : (minusS a y).den ρ = (minusS b z).den ρ := by rw [minusS_den, minusS_den, hab, h.1]
      simp only [sumT, List.map_cons, hm, ih h.2 hm]

theorem sizeT_cg {n : Nat} (ρ : Nat → Int) (ys zs : List Sy) (h : ys.map (Sy.den ρ) = zs.map (Sy.den ρ)) : (sizeT n ys).map (fun p => (p.1.den ρ, p.2.den ρ)) = (sizeT n zs).map (fun p => (p.1.den ρ, p.2.den ρ)) := by
  unfold sizeT lenT
  rw [List.map_append, List.map_append]
  have h1 : (ys.take n).map (Sy.den ρ) = (zs.take n).map (Sy.den ρ) := by rw [List.map_take, List.map_take, h]
  have h2 : (ys.drop n).map (Sy.den ρ) = (zs.drop n).map (Sy.den ρ) := by rw [List.map_drop, List.map_drop, h]
  rw [sumT_cg h2 rfl]
  congr 1
  have : ∀ (as bs : List Sy), as.map (Sy.den ρ) = bs.map (Sy.den ρ) → (as.map fun x => ((Sy.c 1048576, x) : Sy × Sy)).map (fun p => (p.1.den ρ, p.2.den ρ)) = (bs.map fun x => ((Sy.c 1048576, x) : Sy × Sy)).map (fun p => (p.1.den ρ, p.2.den ρ)) := by
    intro as
    induction as with
    | nil => intro bs h; cases bs with
      | nil => rfl
      | cons b r => simp at h
    | cons a r ih =>
      intro bs h
      cases bs with
      | nil => simp at h
      | cons b q =>
        simp only [List.map_cons, List.cons.injEq] at h
        simp only [List.map_cons, h.1, ih q h.2]
  exact this _ _ h1

theorem sumT_ok {ρ : Nat → Int} : ∀ {Ls : List (List Int)} {ys : List Sy} {a : Sy}, (∀ l, l ∈ Ls → l.length ≤ 9223372036854775807) → ys.map (Sy.den ρ) = Ls.map (fun l => (l.length : Int)) → 0 ≤ a.den ρ → a.den ρ ≤ 1048576 → (∀ p, p ∈ sumT ys a → ¬ p.1.den ρ < p.2.den ρ) → ∀ ls, ls ∈ Ls → ls.length ≤ 1048576 := by
  intro Ls
  induction Ls with
  | nil => intro ys a _ _ _ _ _ ls h; cases h
  | cons l r ih =>
    intro ys a hl hx h0 h1 hp ls hls
    cases ys with
    | nil => simp at hx
    | cons y q =>
      simp only [List.map_cons, List.cons.injEq] at hx
      have hll := hl l (by simp)
      have h2 := hp (minusS a y, .c 0) (by simp [sumT])
      have h3 : (minusS a y).den ρ = a.den ρ - (l.length : Int) := by rw [minusS_den, hx.1, wrap_in (by omega) (by omega)]
      have h2' : ¬ (minusS a y).den ρ < 0 := h2
      rw [h3] at h2'
      rcases List.mem_cons.1 hls with rfl | hls
      · omega
      · exact ih (a := minusS a y) (fun l' h => hl l' (by simp [h])) hx.2 (by rw [h3]; omega) (by rw [h3]; omega) (fun p h => hp p (by simp [sumT, h])) ls hls

theorem sizeT_ok {n : Nat} {Ls : List (List Int)} (hl : ∀ l, l ∈ Ls → l.length ≤ 9223372036854775807) (ρ : Nat → Int) (ys : List Sy) (hx : ys.map (Sy.den ρ) = Ls.map (fun l => (l.length : Int))) (h : ∀ p, p ∈ sizeT n ys → ¬ p.1.den ρ < p.2.den ρ) :
    ∀ ls, ls ∈ Ls → ls.length ≤ 1048576 := by
  unfold sizeT at h
  intro ls hls
  rw [← List.take_append_drop n Ls] at hls
  rcases List.mem_append.1 hls with hls | hls
  · have h1 : (ys.take n).map (Sy.den ρ) = (Ls.take n).map (fun l => (l.length : Int)) := by rw [List.map_take, hx, List.map_take]
    obtain ⟨i, hi, rfl⟩ := List.getElem_of_mem hls
    have hi2 : i < (ys.take n).length := by
      have := congrArg List.length h1
      simp only [List.length_map] at this
      rw [this]; exact hi
    have h2 := h (.c 1048576, (ys.take n)[i]) (List.mem_append_left _ (List.mem_map_of_mem (List.getElem_mem hi2)))
    have g5 : ((ys.take n)[i]).den ρ = (((Ls.take n)[i]).length : Int) := by
      have := congrArg (fun q => q[i]?) h1
      simp only [List.getElem?_map] at this
      rw [List.getElem?_eq_getElem hi2, List.getElem?_eq_getElem hi] at this
      simpa using this
    have h3 : ¬ (1048576 : Int) < ((ys.take n)[i]).den ρ := h2
    rw [g5] at h3
    omega
  · exact sumT_ok (Ls := Ls.drop n) (ys := ys.drop n) (a := .c 1048576) (fun l h => hl l (List.mem_of_mem_drop h)) (by rw [List.map_drop, hx, List.map_drop]) (by simp [Sy.den]) (by simp [Sy.den]) (fun p hp => h p (List.mem_append_right _ hp)) ls hls

theorem VRs.uncons {I : Type} {Δ : Den I} {B : Nat} {c : Cx} {ll : List (V I)} {v : Value} {vs : List Value} (h : VRs Δ B c ll (v :: vs)) : ∃ x r, ll = x :: r ∧ VR Δ B c x v ∧ VRs Δ B c r vs := by
  cases ll with
  | nil => simp [VRs] at h
  | cons x r => exact ⟨x, r, rfl, h.head, h.tail⟩
theorem VRs.unnil {I : Type} {Δ : Den I} {B : Nat} {c : Cx} {ll : List (V I)} (h : VRs Δ B c ll []) : ll = [] := List.eq_nil_of_length_eq_zero h.1
theorem VRs.agg {I : Type} {Δ : Den I} {B : Nat} {c : Cx} {ll : List (V I)} {vs : List Value} (h : VRs Δ B c ll vs) : VR Δ B c (.agg ll) (.agg vs.toArray) :=
  .agg (by simpa using h.1) (fun i x v hx hv => h.2 i x v hx (by simpa using hv))

theorem open_pair {H : Type} {enc : TypeId × Value → H} {P : Program} {t s e : TypeId} {f0 f1 : Field} {r : Reach} {base b0 : Nat} {W : World} {sp : Nat → Bool} {hd : Bool} {v : Value} {d : DataW H} {p : List MemPlace}
    (ht : P.underlying t = some (.struct #[f0, f1])) (hone : Go.Deep.oneCellFields P #[f0, f1] = true) (hC : P.cellsOf t = 2) (hct : P.cellTypes P.depth t = some [s, s]) (h0 : f0.type = s) (h1 : f1.type = s)
    (hs : P.underlying s = some (.slice e)) (he : P.underlying e = some (.int .i64)) (hc : P.cellsOf e = 1)
    (hval : Value.okWide P W r base t v) (h : DataW.Trod enc P W b0 sp hd t v d p) :
    ∃ (v0 v1 : Value) (z0 z1 : List Int), v = .agg #[v0, v1] ∧ (IsList W z0 v0 ∧ z0.length ≤ 9223372036854775807) ∧ (IsList W z1 v1 ∧ z1.length ≤ 9223372036854775807) := by
  obtain ⟨v0, v1, y0, y1, n, rfl, rfl, rfl, k0, k1⟩ := Go.Joins.open_agg2 ht hone hC hval h
  have hv := hval
  simp only [Value.okWide, ht] at hv
  obtain ⟨cs, hcs, _, hrow⟩ := hv
  cases hcs
  obtain ⟨ts, hts, _, hcell⟩ := hrow
  rw [hct] at hts
  cases hts
  have w0 : Value.okWide P W r base s v0 := by
    obtain ⟨u, hu, hw⟩ := hcell 0 v0 rfl
    cases hu
    simpa only [Value.okWide, hs] using hw
  have w1 : Value.okWide P W r base s v1 := by
    obtain ⟨u, hu, hw⟩ := hcell 1 v1 rfl
    cases hu
    simpa only [Value.okWide, hs] using hw
  rw [h0] at k0
  rw [h1] at k1
  have c0 : v0.cells.toList = [v0] := by
    obtain ⟨a, l, c, rfl⟩ := okWide_slice hs w0
    rfl
  have c1 : v1.cells.toList = [v1] := by
    obtain ⟨a, l, c, rfl⟩ := okWide_slice hs w1
    rfl
  obtain ⟨z0, g0⟩ := open_list2 hs he hc w0 (⟨n, by rw [c0]; exact k0⟩ : DataW.Trod enc P W b0 sp hd s v0 y0.1 y0.2)
  obtain ⟨z1, g1⟩ := open_list2 hs he hc w1 (⟨n, by rw [c1]; exact k1⟩ : DataW.Trod enc P W b0 sp hd s v1 y1.1 y1.2)
  exact ⟨v0, v1, z0, z1, rfl, g0, g1⟩
end Go.Sx

/-
  Trees for pairs.
-/
namespace Go.Sx

/-- The numbers that a pair's validity asks for: the first of the list g is 1 or -1, the first of f 0, its second 1 or -1. -/
def unitSp (g f : Nat) (M : Sp) : Sp :=
  .sub (7 * g + 1) 1 (.sub (7 * f + 1) 0 (.sub (7 * f + 2) 1 M (.sub (7 * f + 2) (-1) M .leaf)) .leaf)
    (.sub (7 * g + 1) (-1) (.sub (7 * f + 1) 0 (.sub (7 * f + 2) 1 M (.sub (7 * f + 2) (-1) M .leaf)) .leaf) .leaf)

/-- As above, without values in place of the numbers. -/
noncomputable def unitSq (g f : Nat) (M : Sp) : Sp :=
  .val 1 (fun xs => some [xs.getD (7 * g + 1) (.c 0)]) (.cmp false (fun xs => xs.getD (7 * g + 1) (.c 0)) (fun _ => .c 0) .leaf
    (.sub (7 * f + 1) 0 (.val 1 (fun xs => some [xs.getD (7 * f + 2) (.c 0)]) (.cmp false (fun xs => xs.getD (7 * f + 2) (.c 0)) (fun _ => .c 0) .leaf M) .leaf) .leaf)) .leaf
noncomputable def unitSqL (g f : Nat) (M : LSp) : LSp :=
  .val 1 (fun xs => some [xs.getD (7 * g + 1) (.c 0)]) (.cmp false (fun xs => xs.getD (7 * g + 1) (.c 0)) (fun _ => .c 0) (.leaf .leaf)
    (.sub (7 * f + 1) 0 (.val 1 (fun xs => some [xs.getD (7 * f + 2) (.c 0)]) (.cmp false (fun xs => xs.getD (7 * f + 2) (.c 0)) (fun _ => .c 0) (.leaf .leaf) M) (.leaf .leaf)) (.leaf .leaf))) (.leaf .leaf)

def lenEq (a b : List Sy → Sy) (y n : Sp) : Sp := .cmp false a b y n

/-- The lists g and f as a pair: 'ok' where both are valid and of one length of at least 2; 'wr': what stands over each leaf. -/
noncomputable def pairL (es : List Nat) (g f : Nat) (wr : Sp → Sp) (ok : Nat → LSp) : LSp :=
  bite (Nat.beq (es.getD g 0) 0) (.leaf (wr .leaf))
    (bite (Nat.beq (es.getD f 0) 0) (.splitW g (.leaf (wr .leaf)) (.leaf (wr .leaf)))
      (.splitV g (.leaf (wr (.cmp false (fun xs => lenS xs g) (fun xs => lenS xs f) (.cmp true (fun xs => lenS xs g) (fun _ => .c 2) .leaf .leaf) .leaf)))
        (fun L => .splitW f (.leaf (wr (.cmp false (fun _ => .c (L : Nat)) (fun xs => lenS xs f) (.sub (7 * g + 1) 1 .leaf (.sub (7 * g + 1) (-1) .leaf .leaf)) .leaf)))
          (.lenIs f L (bite (Nat.beq L 1) (.leaf (wr .leaf)) (ok L)) (.leaf (wr .leaf))))))

def slS (xs : List Sy) (j L : Nat) : V Sy := .slice (ints (segS xs j L))
def pairS (xs : List Sy) (g f L : Nat) : V Sy := .agg [slS xs g L, slS xs f L]

/-- One list. -/
noncomputable def oneL (es : List Nat) (bad : Sp) (M : Nat → Sp) : LSp :=
  bite (Nat.beq (es.getD 0 0) 0) (.leaf bad) (.splitV 0 (.leaf bad) (fun L => .leaf (M L)))

/-- Two lists of one length. -/
noncomputable def twoL (es : List Nat) (M : Nat → Sp) : LSp :=
  bite (Nat.beq (es.getD 0 0) 0) (.leaf .leaf)
    (bite (Nat.beq (es.getD 1 0) 0) (.splitW 0 (.leaf .leaf) (.leaf .leaf))
      (.splitW 0 (.leaf (.cmp false (fun xs => lenS xs 0) (fun xs => lenS xs 1) .leaf .leaf))
        (.splitW 1 (.leaf (.cmp false (fun xs => lenS xs 0) (fun xs => lenS xs 1) .leaf .leaf)) (.same 0 1 (fun L => .leaf (M L)) (.leaf .leaf)))))

/-- A number that is to lie between two. -/
def between (i : Nat) (lo hi : Int) (M out : Sp) : Sp := .cmp true (fun xs => xs.getD i (.c 0)) (fun _ => .c lo) out (.cmp true (fun _ => .c hi) (fun xs => xs.getD i (.c 0)) out M)

/-- Numbers that are to lie within bounds, one after the other. -/
def rngs (bd : Int) (f : List Sy → Option (List Sy)) (ok bad : Sp) : Nat → Nat → Sp
  | _, 0 => ok
  | i, n + 1 => .cmp true (fun xs => ((f xs).getD []).getD i (.c 0)) (fun _ => .c (-bd)) bad (.cmp true (fun _ => .c bd) (fun xs => ((f xs).getD []).getD i (.c 0)) bad (rngs bd f ok bad (i + 1) n))

/-- 1, c, c times c, and so on. -/
noncomputable def powS (c : Sy) : Nat → List Sy
  | 0 => []
  | n + 1 => .c 1 :: (powS c n).map fun x => (symArith .mul .i64 c x).getD (.c 0)

/-- A sum of products with integers. -/
noncomputable def linS (c : Nat → Int) : List Sy → Nat → Sy → Sy
  | [], _, a => a
  | y :: r, i, a => linS c r (i + 1) ((symArith .add .i64 a ((symArith .mul .i64 (.c (c i)) y).getD (.c 0))).getD (.c 0))

def stirT : List (List Int) := [[1], [0, 1], [0, 1, 1], [0, 1, 3, 1], [0, 1, 7, 6, 1], [0, 1, 15, 25, 10, 1]]
/-- By falling products. -/
noncomputable def stirS (ns : List Sy) : List Sy := (List.range ns.length).map fun k => linS (fun n => (stirT.getD n []).getD k 0) ns 0 (.c 0)

/-- Which number of a list is the first that is not 0? -/
def firstNz (f : List Sy → Option (List Sy)) (M : Sp) : Nat → Nat → Sp
  | _, 0 => M
  | i, n + 1 => .cmp false (fun xs => ((f xs).getD []).getD i (.c 0)) (fun _ => .c 0) (firstNz f M (i + 1) n) M
/-- n more numbers from place i on: a way to part things so far, or not. -/
def wayT (ok bad : Sp) : Nat → Nat → Nat → Sp
  | 0, _, _ => ok
  | n + 1, i, most => (List.range (most + 1)).foldr (fun t r => .sub i (t : Nat) (wayT ok bad n (i + 1) (if t = most then most + 1 else most)) r) bad
/-- The list j, of L numbers. -/
noncomputable def wayS (j L : Nat) (ok bad : Sp) : Sp := bite (Nat.blt 5 L) bad (wayT ok bad L (7 * j + 1) 0)

/-- One list that may be a way to part things. -/
noncomputable def wayL (es : List Nat) (j : Nat) (ok : Nat → Sp) (bad : Sp) : LSp :=
  bite (Nat.beq (es.getD j 0) 0) (.leaf (ok 0)) (.splitV j (.leaf bad) (fun L => .leaf (wayS j L (ok L) bad)))

/-- Two lists that may be ways to part the same number of things. -/
noncomputable def waysL (es : List Nat) (ok : Sp) : LSp :=
  bite (Nat.beq (es.getD 0 0) 0)
    (bite (Nat.beq (es.getD 1 0) 0) (.leaf ok) (.splitV 1 (.leaf .leaf) (fun L => .leaf (wayS 1 L .leaf .leaf))))
    (bite (Nat.beq (es.getD 1 0) 0) (.splitV 0 (.leaf .leaf) (fun L => .leaf (wayS 0 L .leaf .leaf)))
      (.splitV 0 (.leaf (.cmp false (fun xs => lenS xs 0) (fun xs => lenS xs 1) .leaf .leaf))
        (fun L => .splitV 1 (.leaf (.cmp false (fun _ => .c (L : Nat)) (fun xs => lenS xs 1) (wayS 0 L .leaf .leaf) (wayS 0 L .leaf .leaf)))
          (fun L' => .leaf (wayS 0 L (wayS 1 L' (bite (Nat.beq L L') ok .leaf) .leaf) .leaf)))))
end Go.Sx

/-
  Trees, leaf by leaf.
-/
namespace Go.Sx
open Go.RowKit

noncomputable def sumTo (f : Nat → Nat) : Nat → Nat
  | 0 => 0
  | n + 1 => Nat.add (sumTo f n) (f n)

noncomputable def Sp.count : Sp → Nat
  | .leaf => 1
  | .sub _ _ y n => Nat.add y.count n.count
  | .cmp _ _ _ y n => Nat.add y.count n.count
  | .rng _ _ n f out => Nat.add (sumTo (fun t => (f t).count) n) (Nat.add out.count out.count)
  | .val _ _ y n => Nat.add y.count n.count

/-- Which of some parts, and where in it. -/
noncomputable def pickTo (f : Nat → Nat) (g : Nat → Nat → Bool) (k : Nat → Bool) : Nat → Nat → Nat → Bool
  | 0, _, i => k i
  | n + 1, t, i => bite (Nat.blt i (f t)) (g t i) (pickTo f g k n (Nat.add t 1) (Nat.sub i (f t)))

noncomputable def chkN (run : List Sy → List Fact → List VEnt → Bool) : Sp → Nat → List Sy → List Fact → List VEnt → Bool
  | .leaf, _, xs, Γ, Vt => run xs Γ Vt
  | .sub i c y n, j, xs, Γ, Vt => bite (Nat.blt j y.count) (chkN run y j (xs.set i (.c c)) Γ Vt) (chkN run n (Nat.sub j y.count) xs (⟨false, xs.getD i (.c 0), .c c, false⟩ :: Γ) Vt)
  | .cmp lt a b y n, j, xs, Γ, Vt => bite (Nat.blt j y.count) (chkN run y j xs (⟨lt, a xs, b xs, true⟩ :: Γ) Vt) (chkN run n (Nat.sub j y.count) xs (⟨lt, a xs, b xs, false⟩ :: Γ) Vt)
  | .rng i lo n f out, j, xs, Γ, Vt => pickTo (fun t => (f t).count) (fun t j => chkN run (f t) j (xs.set i (.c (lo + t))) Γ Vt)
      (fun j => bite (Nat.blt j out.count) (chkN run out j xs (⟨true, xs.getD i (.c 0), .c lo, true⟩ :: Γ) Vt)
        (chkN run out (Nat.sub j out.count) xs (⟨true, xs.getD i (.c 0), .c lo, false⟩ :: ⟨true, .c (lo + n - 1), xs.getD i (.c 0), true⟩ :: Γ) Vt)) n 0 j
  | .val bd f y n, j, xs, Γ, Vt => match f xs with
    | some ps => bite (Nat.blt j y.count) (chkN run y j xs (bndF bd ps ++ Γ) (⟨bd, ps, true⟩ :: Vt)) (chkN run n (Nat.sub j y.count) xs Γ (⟨bd, ps, false⟩ :: Vt))
    | none => false

theorem count_pos : ∀ t : Sp, 1 ≤ t.count := by
  intro t
  induction t with
  | leaf => exact Nat.le_refl _
  | sub i c y n ihy ihn => show 1 ≤ y.count + n.count; omega
  | cmp lt a b y n ihy ihn => show 1 ≤ y.count + n.count; omega
  | rng i lo n f out ihf iho => show 1 ≤ _ + (out.count + out.count); omega
  | val bd f y n ihy ihn => show 1 ≤ y.count + n.count; omega

/-- Two parts. -/
theorem two_parts {a b : Nat} {p q : Nat → Bool} (h : ∀ j, j < a + b → bite (Nat.blt j a) (p j) (q (Nat.sub j a)) = true) : (∀ j, j < a → p j = true) ∧ ∀ j, j < b → q j = true := by
  constructor
  · intro j hj
    have := h j (by omega)
    rw [bite_eq, if_pos (by rw [Nat.blt_eq]; exact hj)] at this
    exact this
  · intro j hj
    have := h (a + j) (by omega)
    rw [bite_eq, if_neg (by rw [Nat.blt_eq]; omega)] at this
    rwa [show Nat.sub (a + j) a = j from Nat.add_sub_cancel_left a j] at this

theorem sumTo_shift (f : Nat → Nat) : ∀ n t, sumTo (fun i => f (t + i)) (n + 1) = f t + sumTo (fun i => f (t + 1 + i)) n := by
  intro n
  induction n with
  | zero => intro t; show 0 + f t = f t + 0; omega
  | succ n ih =>
    intro t
    show sumTo (fun i => f (t + i)) (n + 1) + f (t + (n + 1)) = f t + (sumTo (fun i => f (t + 1 + i)) n + f (t + 1 + n))
    rw [ih t, show t + (n + 1) = t + 1 + n by omega]; omega

theorem pickTo_ok {f : Nat → Nat} {g : Nat → Nat → Bool} {k : Nat → Bool} {m : Nat} : ∀ (n t : Nat), (∀ j, j < sumTo (fun i => f (t + i)) n + m → pickTo f g k n t j = true) → (∀ i, i < n → ∀ j, j < f (t + i) → g (t + i) j = true) ∧ ∀ j, j < m → k j = true := by
  intro n
  induction n with
  | zero => intro t h; exact ⟨fun i hi => by omega, fun j hj => h j (by show j < 0 + m; omega)⟩
  | succ n ih =>
    intro t h
    rw [sumTo_shift] at h
    have h2 := two_parts (a := f t) (b := sumTo (fun i => f (t + 1 + i)) n + m) (p := g t) (q := pickTo f g k n (t + 1)) (fun j hj => h j (by omega))
    obtain ⟨h3, h4⟩ := ih (t + 1) h2.2
    refine ⟨fun i hi j hj => ?_, h4⟩
    cases i with
    | zero => exact h2.1 j hj
    | succ i =>
      have := h3 i (by omega) j (by rw [show t + 1 + i = t + (i + 1) by omega]; exact hj)
      rwa [show t + 1 + i = t + (i + 1) by omega] at this

theorem allTo_mk {f : Nat → Bool} : ∀ {n : Nat}, (∀ i, i < n → f i = true) → allTo f n = true := by
  intro n
  induction n with
  | zero => intro _; rfl
  | succ n ih =>
    intro h
    simp only [allTo, bite_eq]
    rw [if_pos (ih (fun i hi => h i (by omega)))]
    exact h n (by omega)

theorem chkN_ok {run : List Sy → List Fact → List VEnt → Bool} : ∀ (t : Sp) (xs : List Sy) (Γ : List Fact) (Vt : List VEnt), (∀ j, j < t.count → chkN run t j xs Γ Vt = true) → chk run t xs Γ Vt = true := by
  intro t
  induction t with
  | leaf => intro xs Γ Vt h; exact h 0 (Nat.le_refl _)
  | sub i c y n ihy ihn =>
    intro xs Γ Vt h
    obtain ⟨h1, h2⟩ := two_parts (a := y.count) (b := n.count) (p := fun j => chkN run y j (xs.set i (.c c)) Γ Vt) (q := fun j => chkN run n j xs (⟨false, xs.getD i (.c 0), .c c, false⟩ :: Γ) Vt) h
    simp only [chk, bite_eq]
    rw [if_pos (ihy _ _ _ h1)]
    exact ihn _ _ _ h2
  | cmp lt a b y n ihy ihn =>
    intro xs Γ Vt h
    obtain ⟨h1, h2⟩ := two_parts (a := y.count) (b := n.count) (p := fun j => chkN run y j xs (⟨lt, a xs, b xs, true⟩ :: Γ) Vt) (q := fun j => chkN run n j xs (⟨lt, a xs, b xs, false⟩ :: Γ) Vt) h
    simp only [chk, bite_eq]
    rw [if_pos (ihy _ _ _ h1)]
    exact ihn _ _ _ h2
  | rng i lo n f out ihf iho =>
    intro xs Γ Vt h
    have h' := pickTo_ok (f := fun t => (f t).count) (g := fun t j => chkN run (f t) j (xs.set i (.c (lo + t))) Γ Vt)
      (k := fun j => bite (Nat.blt j out.count) (chkN run out j xs (⟨true, xs.getD i (.c 0), .c lo, true⟩ :: Γ) Vt)
        (chkN run out (Nat.sub j out.count) xs (⟨true, xs.getD i (.c 0), .c lo, false⟩ :: ⟨true, .c (lo + n - 1), xs.getD i (.c 0), true⟩ :: Γ) Vt)) (m := out.count + out.count) n 0 (fun j hj => h j (by
          show j < sumTo (fun t => (f t).count) n + (out.count + out.count)
          simpa using hj))
    obtain ⟨h1, h2⟩ := h'
    obtain ⟨h3, h4⟩ := two_parts (a := out.count) (b := out.count) (p := fun j => chkN run out j xs (⟨true, xs.getD i (.c 0), .c lo, true⟩ :: Γ) Vt)
      (q := fun j => chkN run out j xs (⟨true, xs.getD i (.c 0), .c lo, false⟩ :: ⟨true, .c (lo + n - 1), xs.getD i (.c 0), true⟩ :: Γ) Vt) h2
    simp only [chk]
    rw [allTo_mk (fun t ht => ihf t _ _ _ (fun j hj => by have := h1 t ht j (by rw [Nat.zero_add]; exact hj); rwa [Nat.zero_add] at this))]
    rw [iho _ _ _ h3, iho _ _ _ h4]
    rfl
  | val bd f y n ihy ihn =>
    intro xs Γ Vt h
    have h0 := h 0 (count_pos _)
    simp only [chkN] at h0
    cases hf : f xs with
    | none => rw [hf] at h0; cases h0
    | some ps =>
      obtain ⟨h1, h2⟩ := two_parts (a := y.count) (b := n.count) (p := fun j => chkN run y j xs (bndF bd ps ++ Γ) (⟨bd, ps, true⟩ :: Vt)) (q := fun j => chkN run n j xs Γ (⟨bd, ps, false⟩ :: Vt)) (fun j hj => by
        have := h j hj
        simp only [chkN, hf] at this
        exact this)
      simp only [chk, hf, bite_eq]
      rw [if_pos (ihy _ _ _ h1)]
      exact ihn _ _ _ h2

/-! ## Trees of lists -/
noncomputable def LSp.count : LSp → Nat
  | .leaf t => t.count
  | .splitW _ i w => Nat.add i.count w.count
  | .splitV _ i v => Nat.add i.count (sumTo (fun L => (v (L + 1)).count) 6)
  | .refine _ v => sumTo (fun L => (v (L + 1)).count) 6
  | .same _ _ v n => Nat.add (sumTo (fun L => (v (L + 1)).count) 6) n.count
  | .lenIs _ _ y n => Nat.add y.count n.count
  | .sub _ _ y n => Nat.add y.count n.count
  | .cmp _ _ _ y n => Nat.add y.count n.count
  | .val _ _ y n => Nat.add y.count n.count

noncomputable def chkLN (run : List Nat → List Sy → List Fact → List VEnt → Sp → Nat → Bool) : LSp → Nat → List Nat → List Sy → List Fact → List VEnt → Bool
  | .leaf t, j, sts, xs, Γ, Vt => run sts xs Γ Vt t j
  | .splitW l i w, j, sts, xs, Γ, Vt => bite (Nat.beq (sts.getD l 0) 1) (bite (Nat.blt j i.count) (chkLN run i j (sts.set l 2) xs Γ Vt) (chkLN run w (Nat.sub j i.count) (sts.set l 3) xs Γ Vt)) false
  | .splitV l i v, j, sts, xs, Γ, Vt => bite (Nat.beq (sts.getD l 0) 1) (bite (Nat.blt j i.count) (chkLN run i j (sts.set l 2) xs Γ Vt)
      (pickTo (fun L => (v (L + 1)).count) (fun L j => chkLN run (v (L + 1)) j (sts.set l (L + 4)) xs Γ Vt) (fun _ => false) 6 0 (Nat.sub j i.count))) false
  | .refine l v, j, sts, xs, Γ, Vt => bite (Nat.beq (sts.getD l 0) 3) (pickTo (fun L => (v (L + 1)).count) (fun L j => chkLN run (v (L + 1)) j (sts.set l (L + 4)) xs Γ Vt) (fun _ => false) 6 0 j) false
  | .same a b v n, j, sts, xs, Γ, Vt => bite (Nat.beq (sts.getD a 0) 3) (bite (Nat.beq (sts.getD b 0) 3)
      (pickTo (fun L => (v (L + 1)).count) (fun L j => chkLN run (v (L + 1)) j ((sts.set a (L + 4)).set b (L + 4)) xs Γ Vt) (fun j => chkLN run n j sts xs (⟨false, lenS xs a, lenS xs b, false⟩ :: Γ) Vt) 6 0 j) false) false
  | .lenIs l L y n, j, sts, xs, Γ, Vt => bite (Nat.beq (sts.getD l 0) 3) (bite (Nat.blt 0 L) (bite (Nat.blt j y.count) (chkLN run y j (sts.set l (L + 3)) xs Γ Vt) (chkLN run n (Nat.sub j y.count) sts xs (⟨false, lenS xs l, .c (L : Nat), false⟩ :: Γ) Vt)) false) false
  | .sub i c y n, j, sts, xs, Γ, Vt => bite (Nat.blt j y.count) (chkLN run y j sts (xs.set i (.c c)) Γ Vt) (chkLN run n (Nat.sub j y.count) sts xs (⟨false, xs.getD i (.c 0), .c c, false⟩ :: Γ) Vt)
  | .cmp lt a b y n, j, sts, xs, Γ, Vt => bite (Nat.blt j y.count) (chkLN run y j sts xs (⟨lt, a xs, b xs, true⟩ :: Γ) Vt) (chkLN run n (Nat.sub j y.count) sts xs (⟨lt, a xs, b xs, false⟩ :: Γ) Vt)
  | .val bd f y n, j, sts, xs, Γ, Vt => match f xs with
    | some ps => bite (Nat.blt j y.count) (chkLN run y j sts xs (bndF bd ps ++ Γ) (⟨bd, ps, true⟩ :: Vt)) (chkLN run n (Nat.sub j y.count) sts xs Γ (⟨bd, ps, false⟩ :: Vt))
    | none => false

theorem countL_pos : ∀ t : LSp, 1 ≤ t.count := by
  intro t
  have six : ∀ f : Nat → Nat, (∀ L, 1 ≤ f L) → 1 ≤ sumTo f 6 := by
    intro f h
    have := h 5
    show 1 ≤ Nat.add _ (f 5)
    show 1 ≤ _ + f 5
    omega
  induction t with
  | leaf t => exact count_pos t
  | splitW l i w ihi ihw => show 1 ≤ i.count + w.count; omega
  | splitV l i v ihi ihv => show 1 ≤ i.count + _; omega
  | refine l v ihv => exact six _ (fun L => ihv (L + 1))
  | same a b v n ihv ihn => show 1 ≤ _ + n.count; omega
  | lenIs j L y n ihy ihn => show 1 ≤ y.count + n.count; omega
  | sub i c y n ihy ihn => show 1 ≤ y.count + n.count; omega
  | cmp lt a b y n ihy ihn => show 1 ≤ y.count + n.count; omega
  | val bd f y n ihy ihn => show 1 ≤ y.count + n.count; omega

theorem guard_true {b c : Bool} (h : bite b c false = true) : b = true ∧ c = true := by
  cases b with
  | true => exact ⟨rfl, h⟩
  | false => cases h

theorem chkLN_ok {runN : List Nat → List Sy → List Fact → List VEnt → Sp → Nat → Bool} {run : List Nat → List Sy → List Fact → List VEnt → Sp → Bool} (hr : ∀ sts xs Γ Vt t, (∀ j, j < t.count → runN sts xs Γ Vt t j = true) → run sts xs Γ Vt t = true) :
    ∀ (t : LSp) (sts : List Nat) (xs : List Sy) (Γ : List Fact) (Vt : List VEnt), (∀ j, j < t.count → chkLN runN t j sts xs Γ Vt = true) → chkL run t sts xs Γ Vt = true := by
  intro t
  induction t with
  | leaf t => intro sts xs Γ Vt h; exact hr _ _ _ _ _ h
  | splitW l i w ihi ihw =>
    intro sts xs Γ Vt h
    have h0 := (guard_true (h 0 (countL_pos _))).1
    obtain ⟨h1, h2⟩ := two_parts (a := i.count) (b := w.count) (p := fun j => chkLN runN i j (sts.set l 2) xs Γ Vt) (q := fun j => chkLN runN w j (sts.set l 3) xs Γ Vt) (fun j hj => (guard_true (h j hj)).2)
    simp only [chkL]
    rw [h0, ihi _ _ _ _ h1, ihw _ _ _ _ h2]; rfl
  | splitV l i v ihi ihv =>
    intro sts xs Γ Vt h
    have h0 := (guard_true (h 0 (countL_pos _))).1
    obtain ⟨h1, h2⟩ := two_parts (a := i.count) (b := sumTo (fun L => (v (L + 1)).count) 6) (p := fun j => chkLN runN i j (sts.set l 2) xs Γ Vt)
      (q := fun j => pickTo (fun L => (v (L + 1)).count) (fun L j => chkLN runN (v (L + 1)) j (sts.set l (L + 4)) xs Γ Vt) (fun _ => false) 6 0 j) (fun j hj => (guard_true (h j hj)).2)
    have h3 := (pickTo_ok (m := 0) 6 0 (fun j hj => h2 j (by simpa using hj))).1
    simp only [chkL]
    rw [h0, ihi _ _ _ _ h1, allTo_mk (fun L hL => ihv (L + 1) _ _ _ _ (fun j hj => by have := h3 L hL j (by rw [Nat.zero_add]; exact hj); rwa [Nat.zero_add] at this))]; rfl
  | refine l v ihv =>
    intro sts xs Γ Vt h
    have h0 := (guard_true (h 0 (countL_pos _))).1
    have h3 := (pickTo_ok (f := fun L => (v (L + 1)).count) (g := fun L j => chkLN runN (v (L + 1)) j (sts.set l (L + 4)) xs Γ Vt) (k := fun _ => false) (m := 0) 6 0 (fun j hj => (guard_true (h j (by have h5 : j < sumTo (fun L => (v (L + 1)).count) 6 := (by simpa using hj); exact h5))).2)).1
    simp only [chkL]
    rw [h0, allTo_mk (fun L hL => ihv (L + 1) _ _ _ _ (fun j hj => by have := h3 L hL j (by rw [Nat.zero_add]; exact hj); rwa [Nat.zero_add] at this))]; rfl
  | same a b v n ihv ihn =>
    intro sts xs Γ Vt h
    have h0 := guard_true (h 0 (countL_pos _))
    have h0' := (guard_true h0.2).1
    obtain ⟨h3, h4⟩ := pickTo_ok (f := fun L => (v (L + 1)).count) (g := fun L j => chkLN runN (v (L + 1)) j ((sts.set a (L + 4)).set b (L + 4)) xs Γ Vt) (k := fun j => chkLN runN n j sts xs (⟨false, lenS xs a, lenS xs b, false⟩ :: Γ) Vt) (m := n.count) 6 0
      (fun j hj => (guard_true (guard_true (h j (by have h5 : j < sumTo (fun L => (v (L + 1)).count) 6 + n.count := (by simpa using hj); exact h5))).2).2)
    simp only [chkL]
    rw [h0.1, h0', allTo_mk (fun L hL => ihv (L + 1) _ _ _ _ (fun j hj => by have := h3 L hL j (by rw [Nat.zero_add]; exact hj); rwa [Nat.zero_add] at this)), ihn _ _ _ _ h4]; rfl
  | lenIs l L y n ihy ihn =>
    intro sts xs Γ Vt h
    have h0 := guard_true (h 0 (countL_pos _))
    have h0' := (guard_true h0.2).1
    obtain ⟨h1, h2⟩ := two_parts (a := y.count) (b := n.count) (p := fun j => chkLN runN y j (sts.set l (L + 3)) xs Γ Vt) (q := fun j => chkLN runN n j sts xs (⟨false, lenS xs l, .c (L : Nat), false⟩ :: Γ) Vt) (fun j hj => (guard_true (guard_true (h j hj)).2).2)
    simp only [chkL]
    rw [h0.1, h0', ihy _ _ _ _ h1, ihn _ _ _ _ h2]; rfl
  | sub i c y n ihy ihn =>
    intro sts xs Γ Vt h
    obtain ⟨h1, h2⟩ := two_parts (a := y.count) (b := n.count) (p := fun j => chkLN runN y j sts (xs.set i (.c c)) Γ Vt) (q := fun j => chkLN runN n j sts xs (⟨false, xs.getD i (.c 0), .c c, false⟩ :: Γ) Vt) h
    simp only [chkL]
    rw [ihy _ _ _ _ h1, ihn _ _ _ _ h2]; rfl
  | cmp lt a b y n ihy ihn =>
    intro sts xs Γ Vt h
    obtain ⟨h1, h2⟩ := two_parts (a := y.count) (b := n.count) (p := fun j => chkLN runN y j sts xs (⟨lt, a xs, b xs, true⟩ :: Γ) Vt) (q := fun j => chkLN runN n j sts xs (⟨lt, a xs, b xs, false⟩ :: Γ) Vt) h
    simp only [chkL]
    rw [ihy _ _ _ _ h1, ihn _ _ _ _ h2]; rfl
  | val bd f y n ihy ihn =>
    intro sts xs Γ Vt h
    have h0 := h 0 (countL_pos _)
    simp only [chkLN] at h0
    cases hf : f xs with
    | none => rw [hf] at h0; cases h0
    | some ps =>
      obtain ⟨h1, h2⟩ := two_parts (a := y.count) (b := n.count) (p := fun j => chkLN runN y j sts xs (bndF bd ps ++ Γ) (⟨bd, ps, true⟩ :: Vt)) (q := fun j => chkLN runN n j sts xs Γ (⟨bd, ps, false⟩ :: Vt)) (fun j hj => by
        have := h j hj
        simp only [chkLN, hf] at this
        exact this)
      simp only [chkL, hf]
      rw [ihy _ _ _ _ h1, ihn _ _ _ _ h2]; rfl

noncomputable def LawU.runN (P : Program) (D : Ids) (t : List Summ) (N : Nat) (l : LawU) (sts : List Nat) (xs : List Sy) (Γ : List Fact) (Vt : List VEnt) (sp : Sp) (j : Nat) : Bool :=
  chkN (runC P D t (bentsL sts l.bds 0) N l.k (l.shape sts) (Γ ++ l.facts sts)) sp j xs [] Vt
noncomputable def LawU.atN (P : Program) (D : Ids) (t : List Summ) (N : Nat) (l : LawU) (es : List Nat) (j : Nat) : Bool :=
  chkLN (l.runN P D t N) (l.tree es) j es l.xs [] []
/-- Some leaves, one after the other. -/
noncomputable def LawU.blk (P : Program) (D : Ids) (t : List Summ) (N : Nat) (l : LawU) (es : List Nat) (a n : Nat) : Bool := allTo (fun i => l.atN P D t N es (Nat.add a i)) n

theorem LawU.at_of {P : Program} {D : Ids} {t : List Summ} {N : Nat} {l : LawU} {es : List Nat} (h : ∀ j, j < (l.tree es).count → l.atN P D t N es j = true) : l.at P D t N es = true :=
  chkLN_ok (runN := l.runN P D t N) (fun sts xs Γ Vt sp h => chkN_ok sp _ _ _ h) (l.tree es) es l.xs [] [] h

theorem LawU.of_blk {P : Program} {D : Ids} {t : List Summ} {N : Nat} {l : LawU} {es : List Nat} {a n : Nat} (h : l.blk P D t N es a n = true) {j : Nat} (h1 : a ≤ j) (h2 : j < a + n) : l.atN P D t N es j = true := by
  have := allTo_ok h (j - a) (by omega)
  rwa [show Nat.add a (j - a) = j from by show a + (j - a) = j; omega] at this
end Go.Sx

/-
  Lists and integers that a function draws from bytes: what its run tells, as a contract.
-/
namespace Go.Sx
open Go.RowKit

inductive Cl where
  | l (j : Nat)
  | i (j : Nat)
  | s (b : ByteArray)
inductive Tp where
  | c (x : Cl)
  | a (xs : List Cl)

def Cl.val (ll ii : List (V Sy)) : Cl → V Sy
  | .l j => ll.getD j .any
  | .i j => ii.getD j .any
  | .s b => .str b
def Tp.val (ll ii : List (V Sy)) : Tp → V Sy
  | .c x => x.val ll ii
  | .a xs => .agg (xs.map (Cl.val ll ii))
/-- An answer of lists and integers. -/
def outV (ts : List Tp) (ll ii : List (V Sy)) : V Sy :=
  match ts with
  | [t] => t.val ll ii
  | ts => .tup (ts.map (Tp.val ll ii))

section
variable {Δ Δ' : Den Sy} {B B' : Nat} {c c' : Cx} {ll ii ll' ii' : List (V Sy)}
theorem Cl.tell (hl : ∀ j v, VR Δ B c (ll.getD j .any) v → VR Δ' B' c' (ll'.getD j .any) v) (hi : ∀ j v, VR Δ B c (ii.getD j .any) v → VR Δ' B' c' (ii'.getD j .any) v) {x : Cl} {v : Value}
    (h : VR Δ B c (x.val ll ii) v) : VR Δ' B' c' (x.val ll' ii') v := by
  cases x with
  | l j => exact hl j v h
  | i j => exact hi j v h
  | s b => cases h; exact .str _
theorem Tp.tell (hl : ∀ j v, VR Δ B c (ll.getD j .any) v → VR Δ' B' c' (ll'.getD j .any) v) (hi : ∀ j v, VR Δ B c (ii.getD j .any) v → VR Δ' B' c' (ii'.getD j .any) v) {x : Tp} {v : Value}
    (h : VR Δ B c (x.val ll ii) v) : VR Δ' B' c' (x.val ll' ii') v := by
  cases x with
  | c x => exact Cl.tell hl hi h
  | a xs =>
    simp only [Tp.val] at h ⊢
    cases h with
    | agg h1 h2 =>
      refine .agg (by simpa using h1) (fun i y u hy hu => ?_)
      rw [List.getElem?_map, Option.map_eq_some_iff] at hy
      obtain ⟨z, hz, rfl⟩ := hy
      exact Cl.tell hl hi (h2 i _ u (by rw [List.getElem?_map, hz]; rfl) hu)
theorem outV_tell (hl : ∀ j v, VR Δ B c (ll.getD j .any) v → VR Δ' B' c' (ll'.getD j .any) v) (hi : ∀ j v, VR Δ B c (ii.getD j .any) v → VR Δ' B' c' (ii'.getD j .any) v) {ts : List Tp} {v : Value}
    (h : VR Δ B c (outV ts ll ii) v) : VR Δ' B' c' (outV ts ll' ii') v := by
  have tup : ∀ {ts : List Tp} {v : Value}, VR Δ B c (.tup (ts.map (Tp.val ll ii))) v → VR Δ' B' c' (.tup (ts.map (Tp.val ll' ii'))) v := by
    intro ts v h
    cases h with
    | tup h1 h2 =>
      refine .tup (by simpa using h1) (fun i y u hy hu => ?_)
      rw [List.getElem?_map, Option.map_eq_some_iff] at hy
      obtain ⟨z, hz, rfl⟩ := hy
      exact Tp.tell hl hi (h2 i _ u (by rw [List.getElem?_map, hz]; rfl) hu)
  match ts with
  | [t] => exact Tp.tell hl hi h
  | [] => exact tup h
  | a :: b :: r => exact tup h
end

/-- The cells of bytes. -/
def u8s (bs : List Int) : List (V Sy) := bs.map fun b => V.int .u8 (.c b)
@[simp] theorem u8s_length (bs : List Int) : (u8s bs).length = bs.length := List.length_map ..
@[simp] theorem u8s_get (bs : List Int) (i : Nat) : (u8s bs)[i]? = bs[i]?.map fun b => V.int .u8 (.c b) := List.getElem?_map ..
theorem u8s_take (bs : List Int) (n : Nat) : (u8s bs).take n = u8s (bs.take n) := by simp [u8s, List.map_take]

section
variable {ρ ρ' : Nat → Int} {s : Sms} {B : Nat} {c : Cx} {sto : Sto Sy} {j : Nat} {m : Sy} {v : Value}

theorem bys_data (hinv : SInv ⟨Sy.den ρ, s⟩ B c sto) (h : VR ⟨Sy.den ρ, s⟩ B c (.bys j m) v) : VR ⟨Sy.den ρ', s⟩ c.w.heap.size ⟨c.w, fun _ => none⟩ (.slice (u8s (bytesOf (s.s j [])))) v := by
  cases h with
  | @bys _ b off cap _ h0 h1 h2 h3 =>
    have hl : (u8s (bytesOf (s.s j []))).length = (bytesOf (s.s j [])).length := by simp
    have := VR.slice (Δ := ⟨Sy.den ρ', s⟩) (B := c.w.heap.size) (c := ⟨c.w, fun _ => none⟩) (xs := u8s (bytesOf (s.s j []))) (b := b) (off := off) (cap := cap) ((bytesOf (s.s j [])).map (Value.int .u8)) (by rw [hl]; simp) (by rw [hl]; exact h1) (Nat.lt_of_lt_of_le h2 hinv.base)
      (fun i u hu => by
        rw [List.getElem?_map, Option.map_eq_some_iff] at hu
        obtain ⟨z, hz, rfl⟩ := hu
        exact h3 i z hz) (fun i x u hx hu => by
        rw [u8s_get] at hx
        rw [List.getElem?_map] at hu
        cases hz : (bytesOf (s.s j []))[i]? with
        | none => rw [hz] at hx; simp at hx
        | some z => rw [hz] at hx hu; simp at hx hu; subst hx; subst hu; exact VR_int' rfl)
    rwa [hl] at this
  | bys0 h0 h1 =>
    have h1' : bytesOf (s.s j []) = [] := h1
    rw [h1']; exact .snil
end

/-- A list that a run has made. -/
structure Made (S : Sto Sy) (zs : List Int) (o : Nat) (v : V Sy) : Prop where
  val : v = .rsl o 0 zs.length none ∨ v = .rsl o 0 zs.length (some zs.length)
  obj : look S.obs o = some (ints (nums zs))

/-- What a function draws from bytes. -/
def Drawn (P : Program) (k : FuncId) (outs : List Tp) (bs : List Int) (Ls : List (List Int)) (I : List Int) : Prop :=
  ∃ (K : Ctr) (n : Nat) (os : List Nat) (lvs : List (V Sy)) (S : Sto Sy), (∀ (ρ : Nat → Int) (s : Sms) (B : Nat), COk P ⟨Sy.den ρ, s⟩ B K) ∧ symRun P K [] n k [.slice (u8s bs)] ⟨0, [], 0⟩ = some (outV outs lvs (ints (nums I)), S) ∧ lvs.length = Ls.length ∧ os.length = Ls.length ∧ os.Nodup ∧ ∀ j, j < Ls.length → Made S (Ls.getD j []) (os.getD j 0) (lvs.getD j .any)

noncomputable def drawnV : List Nat → List Sy → Nat → Nat → List (V Sy)
  | [], _, _, _ => []
  | st :: r, xs, j, o => bite (Nat.beq st 0) .emp (bite (Nat.blt st 4) (.brs o j (xs.headD (.c 0))) (.rsl o 0 (st - 3) none)) :: drawnV r (xs.drop 7) (j + 1) (o + 1)
noncomputable def drawnO : List Nat → List Sy → Nat → Nat → List (Nat × Ob Sy) → List (Nat × Ob Sy)
  | [], _, _, _, acc => acc
  | st :: r, xs, j, o, acc => drawnO r (xs.drop 7) (j + 1) (o + 1) (bite (Nat.beq st 0) acc (bite (Nat.blt st 4) ((o, [.bc j]) :: acc) ((o, ints ((xs.drop 1).take (st - 3))) :: acc)))

theorem drawnV_len : ∀ (sts : List Nat) (xs : List Sy) (j o : Nat), (drawnV sts xs j o).length = sts.length := by
  intro sts
  induction sts with
  | nil => intro xs j o; rfl
  | cons st r ih => intro xs j o; simp [drawnV, ih]
theorem drawnV_get : ∀ (sts : List Nat) (xs : List Sy) (j o i : Nat), i < sts.length → (drawnV sts xs j o).getD i .any =
    if sts.getD i 0 = 0 then .emp else if sts.getD i 0 < 4 then .brs (o + i) (j + i) ((xs.drop (7 * i)).headD (.c 0)) else .rsl (o + i) 0 (sts.getD i 0 - 3) none := by
  intro sts
  induction sts with
  | nil => intro xs j o i hi; simp at hi
  | cons st r ih =>
    intro xs j o i hi
    cases i with
    | zero =>
      simp only [drawnV, getD_cons_zero', bite_eq, beq_dec, decide_eq_true_eq, Nat.mul_zero, List.drop_zero, Nat.add_zero]
      congr 1
      by_cases h4 : st < 4
      · rw [if_pos h4, if_pos (by simpa [Nat.blt_eq] using h4)]
      · rw [if_neg h4, if_neg (by simpa [Nat.blt_eq] using h4)]
    | succ i =>
      simp only [drawnV, getD_cons_succ']
      rw [ih (xs.drop 7) (j + 1) (o + 1) i (by simpa using hi), List.drop_drop, show 7 + 7 * i = 7 * (i + 1) by omega, show o + 1 + i = o + (i + 1) by omega, show j + 1 + i = j + (i + 1) by omega]
      rfl
theorem look_drawnO : ∀ (sts : List Nat) (xs : List Sy) (j o : Nat) (acc : List (Nat × Ob Sy)) (q : Nat) (x : Ob Sy), look (drawnO sts xs j o acc) q = some x →
    (∃ i, i < sts.length ∧ q = o + i ∧ sts.getD i 0 ≠ 0 ∧ x = if sts.getD i 0 < 4 then [.bc (j + i)] else ints (((xs.drop (7 * i)).drop 1).take (sts.getD i 0 - 3))) ∨ look acc q = some x := by
  intro sts
  induction sts with
  | nil => intro xs j o acc q x h; exact .inr h
  | cons st r ih =>
    intro xs j o acc q x h
    simp only [drawnO] at h
    rcases ih _ _ _ _ _ _ h with ⟨i, h1, h2, h3, h4⟩ | h
    · refine .inl ⟨i + 1, by simpa using h1, by omega, by simpa [getD_cons_succ'] using h3, ?_⟩
      rw [h4, getD_cons_succ', show ((xs.drop 7).drop (7 * i)) = xs.drop (7 * (i + 1)) by rw [List.drop_drop]; congr 1; omega, show j + 1 + i = j + (i + 1) by omega]
    · simp only [bite_eq, beq_dec, decide_eq_true_eq, Nat.blt_eq] at h
      split at h
      · exact .inr h
      · rename_i h0
        split at h
        · rename_i h4
          rw [look_cons] at h
          split at h
          · rename_i e
            cases h
            exact .inl ⟨0, by simp, by omega, by simpa [getD_cons_zero'] using h0, by simp [getD_cons_zero', h4]⟩
          · exact .inr h
        · rename_i h4
          rw [look_cons] at h
          split at h
          · rename_i e
            cases h
            exact .inl ⟨0, by simp, by omega, by simpa [getD_cons_zero'] using h0, by simp [getD_cons_zero', h4]⟩
          · exact .inr h
theorem desc_drawnO : ∀ (sts : List Nat) (xs : List Sy) (j o : Nat) (acc : List (Nat × Ob Sy)), Desc o acc → Desc (o + sts.length) (drawnO sts xs j o acc) := by
  intro sts
  induction sts with
  | nil => intro xs j o acc h; exact h
  | cons st r ih =>
    intro xs j o acc h
    simp only [drawnO, List.length_cons]
    rw [show o + (r.length + 1) = o + 1 + r.length by omega]
    refine ih _ _ _ _ ?_
    simp only [bite_eq]
    split
    · exact h.mono (by omega)
    · split
      · exact ⟨Nat.lt_succ_self _, h⟩
      · exact ⟨Nat.lt_succ_self _, h⟩

noncomputable def drawK (dk : FuncId) (outs : List Tp) (m : Nat) (sts : List Nat) (xs : List Sy) : Ctr := fun k args sto =>
  match args with
  | [.bys j _] => bite (Nat.beq k dk) (bite (Nat.beq j 0) (some (outV outs (drawnV sts xs 0 sto.next) (ints ((restL sts xs).take m)), ⟨sto.next + sts.length, drawnO sts xs 0 sto.next sto.obs, sto.low⟩)) none) none
  | _ => none

theorem restL_drop : ∀ (sts : List Nat) (xs : List Sy), restL sts xs = xs.drop (7 * sts.length) := by
  intro sts
  induction sts with
  | nil => intro xs; simp [restL]
  | cons st r ih => intro xs; simp only [restL, ih, List.drop_drop, List.length_cons]; congr 1; omega

theorem flat_at {ρ : Nat → Int} : ∀ {Ls : List (List Int)} {I : List Int} {xs : List Sy} {i : Nat}, xs.map (Sy.den ρ) = flat Ls I → i < Ls.length →
    ((xs.drop (7 * i)).headD (.c 0)).den ρ = ((Ls.getD i []).length : Int) ∧ ((Ls.getD i []).length ≤ 6 → (((xs.drop (7 * i)).drop 1).take (Ls.getD i []).length).map (Sy.den ρ) = Ls.getD i []) := by
  intro Ls
  induction Ls with
  | nil => intro I xs i _ hi; simp at hi
  | cons l r ih =>
    intro I xs i hx hi
    obtain ⟨c1, c2, c3⟩ := flat_cut hx
    cases i with
    | zero => exact ⟨by simpa [getD_cons_zero'] using c1, by simpa [getD_cons_zero'] using c3⟩
    | succ i =>
      have := ih c2 (i := i) (by simpa using hi)
      rw [List.drop_drop, show 7 + 7 * i = 7 * (i + 1) by omega] at this
      simpa [getD_cons_succ'] using this

theorem drawK_ok {P : Program} (hG : NoCount P) (hm : P.follows .mixedOrders = true) {ρ : Nat → Int} {s : Sms} {B : Nat} {dk : FuncId} {outs : List Tp} {bds : List Int} {sts : List Nat} {xs : List Sy} {Ls : List (List Int)} {I : List Int}
    {I' : List Int} (hD : Drawn P dk outs (bytesOf (s.s 0 [])) Ls I) (hbody : ∃ fn, P.funcs[dk]? = some fn ∧ fn.body.isSome = true) (hst : StsOk bds sts Ls) (hx : xs.map (Sy.den ρ) = flat Ls (I ++ I')) (hs : ∀ (i : Nat) (l : List Int), Ls[i]? = some l → l ≠ [] → s.l (0 + i) = l) :
    COk P ⟨Sy.den ρ, s⟩ B (drawK dk outs I.length sts xs) := by
  intro k args sto r sto' h
  unfold drawK at h
  split at h
  · rename_i j mm
    simp only [bite_eq] at h
    split at h
    · rename_i hk
      have hk := Nat.eq_of_beq_eq_true hk
      subst hk
      split at h
      · rename_i hj
        have hj := Nat.eq_of_beq_eq_true hj
        subst hj
        cases h
        refine ⟨?_, hbody⟩
        intro c rargs hinv hra
        obtain ⟨K, n, os, lvs, S, hK, hrun, hl1, hl2, hnd, hmade⟩ := hD
        have hinv0 : SInv ⟨Sy.den ρ, s⟩ c.w.heap.size ⟨c.w, fun _ => none⟩ (⟨0, [], 0⟩ : Sto Sy) :=
          ⟨Nat.le_refl _, fun _ _ => rfl, fun o b n h => (by cases h), fun o x h => (by cases h), fun o o' x x' b n n' h => (by cases h), trivial⟩
        obtain ⟨v0, hv0, hv1⟩ := hra.one
        refine Calls.mono (run_goodK hG hm hK ρ hrun c.w.heap.size ⟨c.w, fun _ => none⟩ rargs hinv0 (by rw [hv0]; exact .cons (bys_data hinv hv1) .nil)) ?_
        rintro ev w' ⟨rv, c', rfl, rfl, hst', hv⟩
        have hbe : Below c.w.heap.size c.w c'.w := hst'.below
        have hsl : sts.length = Ls.length := hst.l1
        let c'' : Cx := ⟨c'.w, fun o => if o < sto.next then c.κ o else if o - sto.next < Ls.length then c'.κ (os.getD (o - sto.next) 0) else none⟩
        have hκ : ∀ i b, i < Ls.length → c'.κ (os.getD i 0) = some b → c''.κ (sto.next + i) = some b := by
          intro i b hi hb
          simp only [c'']
          rw [if_neg (by omega), Nat.add_sub_cancel_left, if_pos hi]; exact hb
        have hold : ∀ o x, c.κ o = some x → c''.κ o = some x := by
          intro o x hx
          have : o < sto.next := by
            rcases Nat.lt_or_ge o sto.next with h1 | h1
            · exact h1
            · rw [hinv.fresh o h1] at hx; cases hx
          simp only [c'']; rw [if_pos this]; exact hx
        have hle : Cx.le B c c'' := ⟨fun b hb => hbe.block b (Nat.lt_of_lt_of_le hb hinv.base), hold, hst'.oth⟩
        have hnew : ∀ o b n, c'.κ o = some (b, n) → c.w.heap.size ≤ b ∧ b < c'.w.heap.size := fun o b n hk => hst'.inv.blk o b n hk
        have hnewκ : ∀ {o b n}, ¬ o < sto.next → c''.κ o = some (b, n) → ∃ i, i < Ls.length ∧ o = sto.next + i ∧ c'.κ (os.getD i 0) = some (b, n) := by
          intro o b n ho hk
          simp only [c''] at hk
          rw [if_neg ho] at hk
          split at hk
          · rename_i h1; exact ⟨_, h1, by omega, hk⟩
          · cases hk
        have hcase : ∀ o x, look (drawnO sts xs 0 sto.next sto.obs) o = some x → (∃ i, i < Ls.length ∧ o = sto.next + i ∧ sts.getD i 0 ≠ 0 ∧ x = if sts.getD i 0 < 4 then [.bc (0 + i)] else ints (((xs.drop (7 * i)).drop 1).take (sts.getD i 0 - 3))) ∨ (o < sto.next ∧ look sto.obs o = some x) := by
          intro o x hx
          rcases look_drawnO _ _ _ _ _ _ _ hx with ⟨i, h1, h2⟩ | h
          · exact .inl ⟨i, by omega, h2⟩
          · exact .inr ⟨hinv.desc.look_lt h, h⟩
        have hosne : ∀ {i i' : Nat}, i < Ls.length → i' < Ls.length → os.getD i 0 = os.getD i' 0 → i = i' := by
          intro i i' hi hi' he
          have e1 : os.getD i 0 = os[i]'(by omega) := by simp [List.getD, show i < os.length by omega]
          have e2 : os.getD i' 0 = os[i']'(by omega) := by simp [List.getD, show i' < os.length by omega]
          rw [e1, e2] at he
          have hp := List.pairwise_iff_getElem.1 hnd
          rcases Nat.lt_trichotomy i i' with h | h | h
          · exact (hp i i' (by omega) (by omega) h he).elim
          · exact h
          · exact (hp i' i (by omega) (by omega) h he.symm).elim
        have hfl := fun {i} hi => flat_at (i := i) hx hi
        have hne : ∀ {i : Nat}, i < Ls.length → sts.getD i 0 ≠ 0 → Ls.getD i [] ≠ [] ∧ s.l i = Ls.getD i [] := by
          intro i hi h0
          have h1 := ((hst.ok i hi).some h0).1
          have := hs i (Ls.getD i []) (by simp [List.getD, hi]) h1
          rw [Nat.zero_add] at this
          exact ⟨h1, this⟩
        refine ⟨rv, c'', rfl, rfl, ⟨⟨Nat.le_trans hinv.base hbe.size, fun o ho => ?_, fun o b n hk => ?_, fun o x hx => ?_, fun o o' x x' b n n' hx hx' hk hk' => ?_, ?_⟩, hold,
          hbe.mono hinv.base, Nat.le_add_right _ _, Nat.le_refl _, fun b hb _ => hbe.block b hb, fun o b n hk hn hb => ?_, fun o x hk hn => ?_, hst'.frz, hst'.oth⟩, ?_⟩
        · simp only at ho
          simp only [c'']
          rw [if_neg (by omega), if_neg (by omega)]
        · by_cases ho : o < sto.next
          · simp only [c''] at hk
            rw [if_pos ho] at hk
            have := hinv.blk o b n hk
            exact ⟨this.1, Nat.lt_of_lt_of_le this.2 hbe.size⟩
          · obtain ⟨i, h1, h2, h3⟩ := hnewκ ho hk
            have := hnew _ _ _ h3
            exact ⟨Nat.le_trans hinv.base this.1, this.2⟩
        · rcases hcase o x hx with ⟨i, h1, rfl, h0, rfl⟩ | ⟨h1, h2⟩
          · obtain ⟨hval, hobj⟩ := hmade i h1
            obtain ⟨b, cur, el, e1, e2, e3, e4⟩ := hst'.inv.obc _ _ (lookC_iff.2 ⟨hobj, isMp_ints _⟩)
            obtain ⟨f1, f2⟩ := hfl h1
            have hln : (ints (nums (Ls.getD i []))).length = (Ls.getD i []).length := by simp
            rw [hln] at e3
            have hus := intVs_of e4.vrs
            rw [hln] at hus
            obtain ⟨hn1, hn2⟩ := hne h1 h0
            have hpos : 1 ≤ (Ls.getD i []).length := by
              cases hz : Ls.getD i [] with
              | nil => exact (hn1 hz).elim
              | cons a r => simp
            refine ⟨b, _, cur.size, hκ i _ h1 e1, e2, .cells el ?_ ?_ ?_⟩
            · split
              · simp; omega
              · rename_i h4
                have := (hst.ok i h1).len (by omega)
                rw [ints_length]
                exact Nat.le_trans (List.length_take_le _ _) (by omega)
            · split
              · refine ⟨⟨by simp; omega, fun q x v hx hv => ?_⟩, fun q hq => ?_⟩
                · cases q with
                  | zero => simp at hx; subst hx; exact .bc _ _
                  | succ q => simp at hx
                · simp at hq
                  subst hq
                  refine ⟨cur.toList.drop (Ls.getD i []).length, ?_⟩
                  show cur.toList = intVs (s.l i) ++ _
                  rw [hn2, ← hus, List.take_append_drop]
              · rename_i h4
                have hlen := (hst.ok i h1).len (by omega)
                have hv6 := ((hst.ok i h1).good (by omega)).2.2
                have hmap := f2 hv6
                have hL3 : sts.getD i 0 - 3 = (Ls.getD i []).length := by omega
                rw [hL3]
                have hll : (ints (((xs.drop (7 * i)).drop 1).take (Ls.getD i []).length)).length = (Ls.getD i []).length := by
                  have := congrArg List.length hmap
                  simpa using this
                refine ⟨?_, fun q hq => ?_⟩
                · rw [hll, hus]
                  exact ints_rel (ρ := ρ) (ρ' := ρ) (ts := nums (Ls.getD i [])) (by rw [hmap]; simp [nums, Sy.den, Function.comp_def]) (VRs_intVs (B := B) (c := c''))
                · have := congrArg List.length hq
                  rw [hll] at this
                  cases hz : ((xs.drop (7 * i)).drop 1).take (Ls.getD i []).length with
                  | nil => rw [hz] at hq; simp [ints] at hq
                  | cons a r => rw [hz] at hq; simp [ints] at hq
            · split
              · intro ks vs h; simp at h
              · exact ints_nm _
          · obtain ⟨b, cur, el, e1, e2, e4⟩ := hinv.ob o x h2
            refine ⟨b, cur, el, hold _ _ e1, ?_, e4.mono hle⟩
            show c'.w.heap[b]? = _
            rw [hbe.block b (hinv.blk _ _ _ e1).2]; exact e2
        · rcases hcase o x hx with ⟨i, h1, rfl, h0, _⟩ | ⟨h1, h2⟩ <;> rcases hcase o' x' hx' with ⟨i', h1', rfl, h0', _⟩ | ⟨h1', h2'⟩
          · obtain ⟨a, a1, a2, a3⟩ := hnewκ (by omega) hk
            obtain ⟨a', a1', a2', a3'⟩ := hnewκ (by omega) hk'
            have : a = i := by omega
            subst this
            have : a' = i' := by omega
            subst this
            have := hst'.inv.inj _ _ _ _ b n n' (hmade _ a1).obj (hmade _ a1').obj a3 a3'
            rw [hosne a1 a1' this]
          · obtain ⟨a, a1, a2, a3⟩ := hnewκ (by omega) hk
            simp only [c''] at hk'
            rw [if_pos h1'] at hk'
            have h1 := (hnew _ _ _ a3).1
            have h2 := (hinv.blk _ _ _ hk').2
            omega
          · obtain ⟨a, a1, a2, a3⟩ := hnewκ (by omega) hk'
            simp only [c''] at hk
            rw [if_pos h1] at hk
            have h1 := (hnew _ _ _ a3).1
            have h2 := (hinv.blk _ _ _ hk).2
            omega
          · simp only [c''] at hk hk'
            rw [if_pos h1] at hk
            rw [if_pos h1'] at hk'
            exact hinv.inj o o' x x' b n n' h2 h2' hk hk'
        · exact desc_drawnO _ _ _ _ _ hinv.desc
        · by_cases ho : o < sto.next
          · simp only [c''] at hk
            rw [if_pos ho] at hk
            rw [hn] at hk; cases hk
          · obtain ⟨i, h1, h2, h3⟩ := hnewκ ho hk
            have := (hnew _ _ _ h3).1; omega
        · by_cases ho : o < sto.next
          · simp only [c''] at hk
            rw [if_pos ho] at hk
            rw [hn] at hk; cases hk
          · omega
        · refine outV_tell (fun j v hv => ?_) (fun j v hv => ?_) hv
          · by_cases hj : j < Ls.length
            · obtain ⟨hval, hobj⟩ := hmade j hj
              rw [drawnV_get _ _ _ _ _ (by omega)]
              obtain ⟨b0, cur0, el0, e10, _, e30, _⟩ := hst'.inv.obc _ _ (lookC_iff.2 ⟨hobj, isMp_ints _⟩)
              have hsz : (Ls.getD j []).length ≤ cur0.size := by simpa using e30
              have hown : ∃ b cap, c'.κ (os.getD j 0) = some (b, cur0.size) ∧ (Ls.getD j []).length ≤ cap ∧ cap ≤ cur0.size ∧ v = .slice (some ⟨b, 0, none⟩) (Ls.getD j []).length cap := by
                rcases hval with hval | hval
                · rw [hval] at hv
                  cases hv with
                  | rslo hk h1 h2 => rw [e10] at hk; cases hk; exact ⟨_, _, e10, h1, by omega, rfl⟩
                · rw [hval] at hv
                  cases hv with
                  | rsl hk => rw [e10] at hk; cases hk; exact ⟨_, _, e10, Nat.le_refl _, hsz, rfl⟩
              obtain ⟨b, cap, hk, hc1, hc2, rfl⟩ := hown
              split
              · rename_i h0
                have := (hst.ok j hj).none h0
                rw [this]
                exact .emp _ _ (.inr fun b hb => by cases hb; rfl)
              · rename_i h0
                obtain ⟨hn1, hn2⟩ := hne hj h0
                split
                · have := VR.brs (Δ := ⟨Sy.den ρ, s⟩) (B := B) (c := c'') (o := sto.next + j) (j := 0 + j) (b := b) (n := cur0.size) (cap := cap) (m := (xs.drop (7 * j)).headD (.c 0))
                    (by rw [Nat.zero_add]; show _ = ((s.l j).length : Int); rw [hn2]; exact (hfl hj).1) (by rw [Nat.zero_add]; show (s.l j).length ≤ cap; rw [hn2]; exact hc1) (hκ j _ hj hk)
                  rw [Nat.zero_add] at this
                  have e : (({ d := Sy.den ρ, s := s } : Den Sy).s.l j) = Ls.getD j [] := hn2
                  rw [e] at this
                  rw [Nat.zero_add]
                  exact this
                · rename_i h4
                  have hlen := (hst.ok j hj).len (by omega)
                  rw [show sts.getD j 0 - 3 = (Ls.getD j []).length by omega]
                  exact .rslo (hκ j _ hj hk) hc1 (by omega)
            · rw [show lvs.getD j .any = V.any by simp [List.getD, List.getElem?_eq_none (show lvs.length ≤ j by omega)]] at hv
              rw [show (drawnV sts xs 0 sto.next).getD j .any = V.any by simp [List.getD, List.getElem?_eq_none (show (drawnV sts xs 0 sto.next).length ≤ j by rw [drawnV_len]; omega)]]
              exact .any _
          · have hrest : (restL sts xs).map (Sy.den ρ) = I ++ I' := by
              rw [restL_drop, hsl]
              have key : ∀ {Ls : List (List Int)} {xs : List Sy} {J : List Int}, xs.map (Sy.den ρ) = flat Ls J → (xs.drop (7 * Ls.length)).map (Sy.den ρ) = J := by
                intro Ls
                induction Ls with
                | nil => intro xs J h; simpa [flat] using h
                | cons l r ih =>
                  intro xs J h
                  obtain ⟨_, c2, _⟩ := flat_cut h
                  have := ih c2
                  rwa [List.drop_drop, show 7 + 7 * r.length = 7 * (l :: r).length by simp; omega] at this
              exact key hx
            by_cases hj : j < I.length
            · have e1 : (ints (nums I)).getD j .any = V.int .i64 (.c I[j]) := by simp [List.getD, hj]
              rw [e1] at hv
              have h2 : ((restL sts xs).take I.length)[j]?.map (Sy.den ρ) = some I[j] := by
                rw [← List.getElem?_map, List.map_take, hrest, List.take_left, List.getElem?_eq_getElem hj]
              rw [Option.map_eq_some_iff] at h2
              obtain ⟨y, hy1, hy2⟩ := h2
              have e2 : (ints ((restL sts xs).take I.length)).getD j .any = V.int .i64 y := by simp [List.getD, hy1]
              rw [e2]
              cases hv
              exact VR_int' hy2
            · have e1 : (ints ((restL sts xs).take I.length)).getD j .any = V.any := by simp [List.getD, List.getElem?_eq_none (show ((restL sts xs).take I.length).length ≤ j by simp; omega)]
              rw [e1]
              exact .any _
      · cases h
    · cases h
  · cases h
end Go.Sx

/-
  Laws over what a function draws from bytes.
-/
namespace Go.Sx
open Go.RowKit

structure LawD where
  k : FuncId
  dk : FuncId
  outs : List Tp
  bds : List Int
  m : Nat
  tree : List Nat → LSp

noncomputable def LawD.xs (l : LawD) : List Sy := vxs (7 * l.bds.length + (l.m + 1))
/-- How many bytes there are. -/
noncomputable def LawD.lenv (l : LawD) : Sy := vx (7 * l.bds.length + l.m)

noncomputable def runD (P : Program) (D : Ids) (t : List Summ) (Vb : List BEnt) (N : Nat) (l : LawD) (sts : List Nat) (Γ0 : List Fact) : List Sy → List Fact → List VEnt → Bool :=
  fun xs Γ Vt => bite (saysTrue (symRun P (orK (drawK l.dk l.outs l.m sts xs) (orK (orK (bigK D (Vt ++ entsL sts l.bds xs) Vb) (uK D (Γ ++ Γ0) (Vt ++ entsL sts l.bds xs) Vb)) (summK t))) (Γ ++ Γ0) N l.k [.bys 0 l.lenv] ⟨0, [], 0⟩)) true (clash (Γ ++ Γ0))

noncomputable def LawD.facts (l : LawD) (sts : List Nat) : List Fact := ⟨true, .c 1048576, l.lenv, false⟩ :: ⟨true, l.lenv, .c 0, false⟩ :: (factsL sts l.xs ++ rngL sts l.bds l.xs)
noncomputable def LawD.run (P : Program) (D : Ids) (t : List Summ) (N : Nat) (l : LawD) (sts : List Nat) (xs : List Sy) (Γ : List Fact) (Vt : List VEnt) (sp : Sp) : Bool :=
  chk (runD P D t (bentsL sts l.bds 0) N l sts (Γ ++ l.facts sts)) sp xs [] Vt
noncomputable def LawD.at (P : Program) (D : Ids) (t : List Summ) (N : Nat) (l : LawD) (es : List Nat) : Bool :=
  chkL (l.run P D t N) (l.tree es) es l.xs [] []
noncomputable def LawD.huge (P : Program) (N : Nat) (l : LawD) : Bool := saysTrue (symRun P noK [⟨true, .c 1048576, l.lenv, true⟩] N l.k [.bys 0 l.lenv] ⟨0, [], 0⟩)

/-- Bytes among a world's values. -/
def IsBytes (w : World) (bs : List Int) (v : Value) : Prop := (∀ b, b ∈ bs → 0 ≤ b ∧ b < 256) ∧ ∀ (ρ : Nat → Int) (s : Sms) (m : Sy), bytesOf (s.s 0 []) = bs → m.den ρ = (bs.length : Int) → VR ⟨Sy.den ρ, s⟩ w.heap.size ⟨w, fun _ => none⟩ (.bys 0 m) v

def toBytes (bs : List Int) : ByteArray := ⟨(bs.map fun b => UInt8.ofNat b.toNat).toArray⟩
theorem toBytes_of {bs : List Int} (h : ∀ b, b ∈ bs → 0 ≤ b ∧ b < 256) : bytesOf (toBytes bs) = bs := by
  unfold bytesOf toBytes
  simp only [List.map_map]
  induction bs with
  | nil => rfl
  | cons b r ih =>
    have hb := h b (by simp)
    simp only [List.map_cons]
    rw [ih (fun x hx => h x (by simp [hx]))]
    congr 1
    simp only [Function.comp, UInt8.toNat_ofNat']
    omega

theorem LawD.okAt {P : Program} (hG : NoCount P) (hm : P.follows .mixedOrders = true) {D : Ids} (hD : D.Ok P) {t : List Summ} (ht : ∀ e, e ∈ t → e.Ok P) {N : Nat} {l : LawD}
    (h1 : l.huge P N = true) (h2 : ∀ es : List Nat, es.length = l.bds.length → (∀ x, x ∈ es → x ≤ 1) → l.at P D t N es = true) (hn : 7 * l.bds.length + l.m + 1 ≤ 40)
    (hb : ∃ fn, P.funcs[l.dk]? = some fn ∧ fn.body.isSome = true)
    {w : World} {bs : List Int} {v : Value} (hd : ∃ Ls I, Drawn P l.dk l.outs bs Ls I ∧ Ls.length = l.bds.length ∧ I.length = l.m ∧ (∀ ls, ls ∈ Ls → (∀ z, z ∈ ls → IntKind.i64.wrap z = z) ∧ ls.length ≤ 1048576) ∧ ∀ z, z ∈ I → IntKind.i64.wrap z = z)
    (hv : IsBytes w bs v) (hbl : bs.length ≤ 9223372036854775807) : LawTrue P l.k #[v] w := by
  obtain ⟨Ls, I, hdr, hlen, hI, hwf, hwI⟩ := hd
  have hfl := flat_len Ls (I ++ [(bs.length : Int)])
  rw [hlen, List.length_append, hI] at hfl
  simp only [List.length_cons, List.length_nil] at hfl
  have hvx := vxs_den (zs := flat Ls (I ++ [(bs.length : Int)])) (by rw [hfl]; omega) (flat_wf (fun ls hls => ⟨(hwf ls hls).1, by have := (hwf ls hls).2; omega⟩) (fun z hz => by
    rcases List.mem_append.1 hz with hz | hz
    · exact hwI z hz
    · simp at hz; subst hz; exact wrap_in (by omega) (by omega)))
  rw [hfl] at hvx
  generalize hρ : (fun i => (flat Ls (I ++ [(bs.length : Int)])).getD i 0) = ρ at hvx
  have hxs : l.xs.map (Sy.den ρ) = flat Ls (I ++ [(bs.length : Int)]) := hvx
  let s : Sms := ⟨fun _ _ => toBytes bs, fun j => if (Ls.getD j []) = [] then [0] else Ls.getD j []⟩
  have hs0 : bytesOf (s.s 0 []) = bs := toBytes_of hv.1
  have hlv : l.lenv.den ρ = (bs.length : Int) := by
    have e1 : (l.xs.map (Sy.den ρ))[7 * l.bds.length + l.m]? = some (bs.length : Int) := by
      rw [hxs]
      have : ∀ (Ls : List (List Int)) (J : List Int), (flat Ls J).drop (7 * Ls.length) = J := by
        intro Ls
        induction Ls with
        | nil => intro J; simp [flat]
        | cons a r ih =>
          intro J
          have h7 : (flat (a :: r) J).drop 7 = flat r J := by
            rw [flat]
            show (pad6 a ++ flat r J).drop 6 = _
            exact List.drop_left' (pad6_length a)
          rw [List.length_cons, show 7 * (r.length + 1) = 7 + 7 * r.length by omega, ← List.drop_drop, h7, ih]
      have h3 := this Ls (I ++ [(bs.length : Int)])
      have h4 : ((flat Ls (I ++ [(bs.length : Int)])).drop (7 * Ls.length))[l.m]? = some (bs.length : Int) := by rw [h3, ← hI]; simp
      rw [List.getElem?_drop, hlen] at h4
      exact h4
    rw [List.getElem?_map] at e1
    have e2 : l.xs[7 * l.bds.length + l.m]? = some (vx (7 * l.bds.length + l.m)) := by
      unfold LawD.xs vxs
      rw [List.getElem?_map, List.getElem?_range (by omega)]; rfl
    rw [e2] at e1
    exact Option.some.inj e1
  have hvr := hv.2 ρ s l.lenv hs0 hlv
  have hargs : VRs ⟨Sy.den ρ, s⟩ w.heap.size ⟨w, fun _ => none⟩ [.bys 0 l.lenv] (#[v] : Array Value).toList := .cons hvr .nil
  have hsl : ∀ (i : Nat) (ls : List Int), Ls[i]? = some ls → ls ≠ [] → s.l (0 + i) = ls := by
    intro i ls hi hne
    have : Ls.getD i [] = ls := by simp [List.getD, hi]
    simp only [s, Nat.zero_add]
    rw [this, if_neg hne]
  have hget : ∀ j, Ls.getD j [] = [] ∨ Ls.getD j [] ∈ Ls := by
    intro j
    rcases Nat.lt_or_ge j Ls.length with h | h
    · right; simp [List.getD, h]
    · left; simp [List.getD, List.getElem?_eq_none h]
  by_cases hbig : (1048576 : Int) < (bs.length : Int)
  · refine calls_true (Δ := ⟨Sy.den ρ, s⟩) (symRun_ok hG hm (fun f hf => ?_) noK_ok N) hargs h1
    simp only [List.mem_cons, List.not_mem_nil, or_false] at hf
    subst hf
    exact Fact.lt_yes (by rw [hlv]; exact hbig)
  · let es : List Nat := Ls.map fun ls => if ls = [] then 0 else 1
    have hes : l.at P D t N es = true := h2 es (by simp [es, hlen]) (fun x hx => by
      obtain ⟨ls, _, rfl⟩ := List.mem_map.1 hx
      split <;> omega)
    have hst0 : StsOk l.bds es Ls := by
      refine ⟨by simp [es], hlen.symm, fun j hj => ?_⟩
      have e1 : es.getD j 0 = if Ls.getD j [] = [] then 0 else 1 := by simp [es, List.getD, hj]
      rw [e1]
      have hmem : Ls.getD j [] ∈ Ls := by simp [List.getD, hj]
      by_cases he : Ls.getD j [] = []
      · rw [if_pos he]; exact ⟨fun _ => he, fun h => (h rfl).elim, fun h => by omega, fun h => by omega, fun h => by omega⟩
      · rw [if_neg he]; exact ⟨fun h => by omega, fun _ => ⟨he, (hwf _ hmem).2⟩, fun h => by omega, fun h => by omega, fun h => by omega⟩
    refine chkL_ok (ρ := ρ) (bds := l.bds) (Ls := Ls) (I := I ++ [(bs.length : Int)]) (fun sts xs Γ Vt sp hr hst hxc hΓ hVt => ?_) _ _ _ _ _ hes hst0 hxs (by simp) (by simp)
    refine chk_ok (ρ := ρ) (zs := flat Ls (I ++ [(bs.length : Int)])) (fun xs Γ' Vt hr hz hΓ' hV => ?_) _ _ _ _ hr hxc (by simp) hVt
    have hF : ∀ f, f ∈ Γ' ++ (Γ ++ l.facts sts) → f.Ok ρ := by
      intro f hf
      rcases List.mem_append.1 hf with hf | hf
      · exact hΓ' f hf
      · rcases List.mem_append.1 hf with hf | hf
        · exact hΓ f hf
        · simp only [LawD.facts, List.mem_cons] at hf
          rcases hf with rfl | rfl | hf
          · exact Fact.lt_no (by rw [hlv]; exact hbig)
          · exact Fact.lt_no (by rw [hlv]; simp only [Sy.den]; omega)
          · exact (List.mem_append.1 hf).elim (fun hf => factsL_ok hst hxs f hf) (fun hf => rngL_ok hst hxs f hf)
    have hVe : ∀ e, e ∈ Vt ++ entsL sts l.bds xs → e.Ok ρ := fun e he => by
      rcases List.mem_append.1 he with he | he
      · exact hV e he
      · exact entsL_ok hst hz e he
    have hs1 : ∀ j, 1 ≤ (s.l j).length ∧ (s.l j).length ≤ 1048576 := by
      intro j
      simp only [s]
      split
      · simp
      · rename_i hne
        rcases hget j with h | h
        · exact (hne h).elim
        · refine ⟨?_, (hwf _ h).2⟩
          cases hg : Ls.getD j [] with
          | nil => exact (hne hg).elim
          | cons a b => simp
    have hs2 : ∀ j z, z ∈ s.l j → IntKind.i64.wrap z = z := by
      intro j z hz
      simp only [s] at hz
      split at hz
      · simp at hz; subst hz; exact wrap0
      · rename_i hne
        rcases hget j with h | h
        · exact (hne h).elim
        · exact (hwf _ h).1 z hz
    have hrunD : runD P D t (bentsL sts l.bds 0) N l sts (Γ ++ l.facts sts) xs Γ' Vt = true := hr
    unfold runD at hrunD
    rw [bite_eq] at hrunD
    split at hrunD
    case isFalse => exact (clash_no hF hrunD).elim
    rename_i hrunE
    replace hrunD := hrunE
    refine calls_true (Δ := ⟨Sy.den ρ, s⟩) (symRun_ok hG hm hF (orK_ok ?_ (orK_ok (orK_ok (bigK_ok hG hm hD hVe (fun e he => bentsL_ok (s := s) (j := 0) hst hsl e he) hs1 hs2) (uK_ok hG hm hD hD.pok hF hVe (fun e he => bentsL_ok (s := s) (j := 0) hst hsl e he) hs1 hs2)) (summK_ok ht))) N) hargs hrunD
    · rw [← hI]
      exact drawK_ok hG hm (I' := [(bs.length : Int)]) (by rw [hs0]; exact hdr) hb hst hz hsl

theorem LawD.ok {P : Program} (hG : NoCount P) (hm : P.follows .mixedOrders = true) {D : Ids} (hD : D.Ok P) {t : List Summ} (ht : ∀ e, e ∈ t → e.Ok P) {N : Nat} {l : LawD}
    (h1 : l.huge P N = true) (h2 : ∀ es : List Nat, es.length = l.bds.length → (∀ x, x ∈ es → x ≤ 1) → l.at P D t N es = true) (hn : 7 * l.bds.length + l.m + 1 ≤ 40)
    (hb : ∃ fn, P.funcs[l.dk]? = some fn ∧ fn.body.isSome = true)
    (hd : ∀ bs : List Int, (∀ b, b ∈ bs → 0 ≤ b ∧ b < 256) → ∃ Ls I, Drawn P l.dk l.outs bs Ls I ∧ Ls.length = l.bds.length ∧ I.length = l.m ∧ (∀ ls, ls ∈ Ls → (∀ z, z ∈ ls → IntKind.i64.wrap z = z) ∧ ls.length ≤ 1048576) ∧ ∀ z, z ∈ I → IntKind.i64.wrap z = z)
    {w : World} {bs : List Int} {v : Value} (hv : IsBytes w bs v) (hbl : bs.length ≤ 9223372036854775807) : LawTrue P l.k #[v] w :=
  LawD.okAt hG hm hD ht h1 h2 hn hb (hd bs hv.1) hv hbl

noncomputable def LawD.runN (P : Program) (D : Ids) (t : List Summ) (N : Nat) (l : LawD) (sts : List Nat) (xs : List Sy) (Γ : List Fact) (Vt : List VEnt) (sp : Sp) (j : Nat) : Bool :=
  chkN (runD P D t (bentsL sts l.bds 0) N l sts (Γ ++ l.facts sts)) sp j xs [] Vt
noncomputable def LawD.atN (P : Program) (D : Ids) (t : List Summ) (N : Nat) (l : LawD) (es : List Nat) (j : Nat) : Bool :=
  chkLN (l.runN P D t N) (l.tree es) j es l.xs [] []
/-- Some leaves, one after the other. -/
noncomputable def LawD.blk (P : Program) (D : Ids) (t : List Summ) (N : Nat) (l : LawD) (es : List Nat) (a n : Nat) : Bool := allTo (fun i => l.atN P D t N es (Nat.add a i)) n

theorem LawD.at_of {P : Program} {D : Ids} {t : List Summ} {N : Nat} {l : LawD} {es : List Nat} (h : ∀ j, j < (l.tree es).count → l.atN P D t N es j = true) : l.at P D t N es = true :=
  chkLN_ok (runN := l.runN P D t N) (fun sts xs Γ Vt sp h => chkN_ok sp _ _ _ h) (l.tree es) es l.xs [] [] h

theorem LawD.of_blk {P : Program} {D : Ids} {t : List Summ} {N : Nat} {l : LawD} {es : List Nat} {a n : Nat} (h : l.blk P D t N es a n = true) {j : Nat} (h1 : a ≤ j) (h2 : j < a + n) : l.atN P D t N es j = true := by
  have := allTo_ok h (j - a) (by omega)
  rwa [show Nat.add a (j - a) = j from by show a + (j - a) = j; omega] at this

/-- What is drawn need only be so for one of the places. -/
theorem IsBytes.of_slice {w : World} {bs : List Int} {v : Value} (h0 : ∀ b, b ∈ bs → 0 ≤ b ∧ b < 256) (h : (bs = [] ∧ v = .slice none 0 0) ∨ ∃ b off cap, v = .slice (some ⟨b, off, none⟩) bs.length cap ∧ bs.length ≤ cap ∧ b < w.heap.size ∧ ∀ (i : Nat) (n : Int), bs[i]? = some n → w.cell? ⟨b, off + i, none⟩ = some (.int .u8 n)) : IsBytes w bs v := by
  refine ⟨h0, fun ρ s m hs hm => ?_⟩
  rcases h with ⟨h1, rfl⟩ | ⟨b, off, cap, rfl, h1, h2, h3⟩
  · exact .bys0 (by show m.den ρ = 0; rw [hm, h1]; rfl) (by show bytesOf (s.s 0 []) = []; rw [hs, h1])
  · have := VR.bys (Δ := ⟨Sy.den ρ, s⟩) (B := w.heap.size) (c := ⟨w, fun _ => none⟩) (j := 0) (b := b) (off := off) (cap := cap) (m := m) (by show m.den ρ = _; rw [hm]; show _ = ((bytesOf (s.s 0 [])).length : Int); rw [hs]) (by show (bytesOf (s.s 0 [])).length ≤ cap; rw [hs]; exact h1) h2
      (fun i n hn => h3 i n (by have hn' : (bytesOf (s.s 0 []))[i]? = some n := hn; rw [hs] at hn'; exact hn'))
    have e : (bytesOf (({ d := Sy.den ρ, s := s } : Den Sy).s.s 0 [])) = bs := hs
    rw [e] at this
    exact this
end Go.Sx

/-
  Words for runs by hand of functions that draw numbers from bytes.
-/
namespace Go.Sx

theorem sym_sub (Γ : List Fact) (a b : Int) : (symNum Γ).arith .sub .i64 (.c a) (.c b) = some (.c (IntKind.i64.wrap (a - b))) := rfl
theorem sym_mul (Γ : List Fact) (a b : Int) : (symNum Γ).arith .mul .i64 (.c a) (.c b) = some (.c (IntKind.i64.wrap (a * b))) := rfl
theorem sym_rem (Γ : List Fact) (a b : Int) (h : b ≠ 0) : (symNum Γ).arith .rem .i64 (.c a) (.c b) = some (.c (a.tmod b)) := by
  have h0 : symArith .rem .i64 (.c a) (.c b) = some (.c (a.tmod b)) := by simp [symArith, aritOk, h]
  show (match symArith .rem .i64 (.c a) (.c b) with | some z => some z | none => symQuo Γ .rem .i64 (.c a) (.c b)) = _
  rw [h0]
theorem sym_quo (Γ : List Fact) (a b : Int) (h : b ≠ 0) : (symNum Γ).arith .quo .i64 (.c a) (.c b) = some (.c (IntKind.i64.wrap (a.tdiv b))) := by
  have h0 : symArith .quo .i64 (.c a) (.c b) = some (.c (IntKind.i64.wrap (a.tdiv b))) := by simp [symArith, aritOk, h]
  show (match symArith .quo .i64 (.c a) (.c b) with | some z => some z | none => symQuo Γ .quo .i64 (.c a) (.c b)) = _
  rw [h0]
theorem sym_xor (Γ : List Fact) (a b : Int) : (symNum Γ).arith .xor .i64 (.c a) (.c b) = some (.c (IntKind.i64.wrap ((BitVec.ofInt IntKind.i64.bits a ^^^ BitVec.ofInt IntKind.i64.bits b).toNat))) := rfl

@[simp] theorem noBc_two (a b : V Sy) : noBc [a, b] = [a, b] := by
  refine noBc_one (fun j h => ?_) (fun ks vs h => ?_) <;> simp at h

attribute [simp] lookC isMp_ints
theorem noBc_isMp (cs : List (V Sy)) : isMp (noBc cs) = false := by
  cases h : isMp (noBc cs) with
  | false => rfl
  | true =>
    unfold isMp at h
    split at h
    · rename_i ks vs he; exact (noBc_nm cs ks vs he).elim
    · cases h
@[simp] theorem isMp_nil : isMp ([] : List (V Sy)) = false := rfl
@[simp] theorem isMp_two (a b : V Sy) (r : List (V Sy)) : isMp (a :: b :: r) = false := by cases a <;> rfl
@[simp] theorem isMp_int (k : IntKind) (n : Sy) : isMp [.int k n] = false := rfl
@[simp] theorem isMp_rsl (o a b : Nat) (c : Option Nat) : isMp ([.rsl o a b c] : List (V Sy)) = false := rfl
@[simp] theorem isMp_ptr (o a : Nat) : isMp ([.ptr o a] : List (V Sy)) = false := rfl
@[simp] theorem isMp_str (s : ByteArray) : isMp ([.str s] : List (V Sy)) = false := rfl
@[simp] theorem isMp_sl (xs : List (V Sy)) : isMp ([.slice xs] : List (V Sy)) = false := rfl
@[simp] theorem isMp_vnil : isMp ([.nil] : List (V Sy)) = false := rfl

@[simp] theorem u8s_getElem (bs : List Int) (i : Nat) (h : i < (u8s bs).length) : (u8s bs)[i] = .int .u8 (.c (bs[i]'(by simpa using h))) := by simp [u8s]

theorem tmod_in {a n : Int} (h : 0 ≤ a) (hn : 1 ≤ n) : 0 ≤ a.tmod n ∧ a.tmod n < n := by
  rw [Int.tmod_eq_emod_of_nonneg h]
  exact ⟨Int.emod_nonneg _ (by omega), Int.emod_lt_of_pos _ (by omega)⟩
theorem tdiv_in {a n : Int} (h : 0 ≤ a) (hn : 1 ≤ n) : 0 ≤ a.tdiv n ∧ a.tdiv n ≤ a := by
  rw [Int.tdiv_eq_ediv_of_nonneg h]
  exact ⟨Int.ediv_nonneg h (by omega), Int.ediv_le_self _ h⟩

/-- Two numbers that are not negative, bit by bit. -/
theorem xor_in {a b : Int} (ha : 0 ≤ a) (ha2 : a < 1000000000) (hb : 0 ≤ b) (hb2 : b < 1000000000) : ∃ x : Int, IntKind.i64.wrap ((BitVec.ofInt IntKind.i64.bits a ^^^ BitVec.ofInt IntKind.i64.bits b).toNat) = x ∧ 0 ≤ x ∧ x < 4000000000 := by
  obtain ⟨n, rfl⟩ := Int.eq_ofNat_of_zero_le ha
  obtain ⟨m, rfl⟩ := Int.eq_ofNat_of_zero_le hb
  have h1 : (BitVec.ofInt IntKind.i64.bits (n : Int) ^^^ BitVec.ofInt IntKind.i64.bits (m : Int)).toNat = n ^^^ m := by
    rw [BitVec.toNat_xor]
    have e : ∀ k : Nat, k < 1000000000 → (BitVec.ofInt IntKind.i64.bits (k : Int)).toNat = k := by
      intro k hk
      rw [BitVec.toNat_ofInt]
      have : (2 ^ IntKind.i64.bits : Nat) = 18446744073709551616 := by decide
      rw [this]
      omega
    rw [e n (by omega), e m (by omega)]
  rw [h1]
  have h2 : n ^^^ m < 2 ^ 30 := Nat.xor_lt_two_pow (by omega) (by omega)
  exact ⟨_, wrap_in (by omega) (by omega), by omega, by omega⟩

/-- A reader of bytes. -/
structure Rd (bs : List Int) (o : Nat) (p : Int) (sto : Sto Sy) : Prop where
  obj : look sto.obs o = some [.slice (u8s bs), .int .i64 (.c p)]
  desc : Desc sto.next sto.obs
  p0 : 0 ≤ p

/-- From one store on to a later one: the reader has gone on; what else was there stands; low: the reader has been written. -/
structure Nx (bs : List Int) (o : Nat) (p q : Int) (sto sto' : Sto Sy) : Prop where
  rd : ∃ p', p ≤ p' ∧ p' ≤ q ∧ Rd bs o p' sto'
  next : sto.next ≤ sto'.next
  low : sto'.low ≤ o
  keep : ∀ k x, k ≠ o → look sto.obs k = some x → look sto'.obs k = some x

theorem look_put_ne {α : Type} {l : List (Nat × α)} {o k : Nat} {y : α} (h : k ≠ o) : look (put l o y) k = look l k := by
  induction l with
  | nil => rfl
  | cons p r ih =>
    obtain ⟨i, z⟩ := p
    simp only [put, beq_dec]
    by_cases hk : i = o
    · subst hk
      simp only [decide_true, if_true]
      rw [look_cons, look_cons, if_neg (fun e => h e.symm), if_neg (fun e => h e.symm)]
    · simp only [hk, decide_false, Bool.false_eq_true, if_false, look_cons, ih]

theorem Rd.lt {bs : List Int} {o : Nat} {p : Int} {sto : Sto Sy} (h : Rd bs o p sto) : o < sto.next := h.desc.look_lt h.obj

/-- Nothing is cut off behind a call that has written something older. -/
theorem trim_low {n0 : Nat} {r : V Sy} {sto : Sto Sy} (h : sto.low < n0) : Sto.trim n0 r sto = sto := by
  unfold Sto.trim
  rw [if_pos (by rw [Nat.blt_eq]; exact h)]

/-- One reading. -/
theorem Rd.picked {bs : List Int} {o : Nat} {p : Int} {sto : Sto Sy} (h : Rd bs o p sto) : Nx bs o p (p + 1) sto ⟨sto.next, put sto.obs o [.slice (u8s bs), .int .i64 (.c (p + 1))], if o < sto.low then o else sto.low⟩ :=
  ⟨⟨p + 1, by omega, by omega, look_put_self h.obj, h.desc.put _ _, by have := h.p0; omega⟩, Nat.le_refl _, by simp only; split <;> omega, fun k x hk hx => by rw [look_put_ne hk]; exact hx⟩
end Go.Sx

/-
  Bytes among a row's arguments.
-/
namespace Go.Sx
open Go.ChangeShapes Go.WideShapes Go.ChangeAt Go.RowKit

theorem u8_of_wf {z : Int} (h : (Lit.int .u8 z).wf = true) : 0 ≤ z ∧ z < 256 := by
  have h1 : IntKind.u8.min = 0 := by decide
  have h2 : IntKind.u8.max = 255 := by decide
  simp only [Lit.wf, Bool.and_eq_true, decide_eq_true_eq, h1, h2] at h
  omega

theorem open_bytes {H : Type} {enc : TypeId × Value → H} {P : Program} {t e : TypeId} {r : Reach} {base b0 : Nat} {W : World} {sp : Nat → Bool} {hd : Bool} {v : Value} {d : DataW H} {p : List MemPlace}
    (ht : P.underlying t = some (.slice e)) (he : P.underlying e = some (.int .u8)) (hc : P.cellsOf e = 1) (hval : Value.okWide P W r base t v) (h : DataW.Trod enc P W b0 sp hd t v d p) :
    ∃ bs : List Int, IsBytes W bs v ∧ bs.length ≤ 9223372036854775807 := by
  obtain ⟨a, len, cap, rfl⟩ := okWide_slice ht hval
  obtain ⟨fuel, hf⟩ := h
  rcases open_ints ht he hc hf with ⟨hcs, _⟩ | ⟨x, l, c, zs, hcs, _, hl, hm, hz, _, hcell, hwz⟩
  · simp [Value.cells] at hcs
    obtain ⟨rfl, rfl, rfl⟩ := hcs
    exact ⟨[], IsBytes.of_slice (by simp) (.inl ⟨rfl, rfl⟩), by simp⟩
  · simp [Value.cells] at hcs
    obtain ⟨rfl, rfl, rfl⟩ := hcs
    obtain ⟨hs, hb⟩ := has_plain ht hval
    obtain ⟨b, off, spot⟩ := x
    simp only at hs hb
    subst hs
    have hlz : len ≤ zs.length := by rw [hz]; split <;> omega
    have hlen : (zs.take len).length = len := by simp [List.length_take]; omega
    refine ⟨zs.take len, IsBytes.of_slice (fun z hz => u8_of_wf (hwz z (List.mem_of_mem_take hz))) (.inr ⟨b, off, cap, ?_, ?_, hb, fun j z hz => ?_⟩), ?_⟩
    · rw [hlen]
    · rw [hlen]; exact hl
    · have hj' : j < len := by have := (List.getElem?_eq_some_iff.1 hz).1; omega
      rw [List.getElem?_take, if_pos hj'] at hz
      have := hcell j (by omega)
      rw [add_plain] at this
      rw [this]
      simp [List.getD, hz]
    · have hm : IntKind.i64.max = 9223372036854775807 := by decide
      simp only [Value.okWide, ht, Cell.okWide, Cell.ok] at hval
      obtain ⟨q1, q2, _⟩ := hval
      rw [hm] at q2
      rw [hlen]
      omega
end Go.Sx

/-
  What functions that draw from bytes leave behind: a reader that has gone on, lists that are made.
-/
namespace Go.Sx

/-- A reader of bytes that has read at most P of them. -/
def Rdy (bs : List Int) (o : Nat) (P : Int) (sto : Sto Sy) : Prop := ∃ p, p ≤ P ∧ Rd bs o p sto

theorem Rdy.lows {bs : List Int} {o : Nat} {P : Int} {sto : Sto Sy} (h : Rdy bs o P sto) (l : Nat) : Rdy bs o P ⟨sto.next, sto.obs, l⟩ := by
  obtain ⟨p, h1, h2⟩ := h
  exact ⟨p, h1, h2.obj, h2.desc, h2.p0⟩
theorem Rdy.lt {bs : List Int} {o : Nat} {P : Int} {sto : Sto Sy} (h : Rdy bs o P sto) : o < sto.next := h.elim fun p h => h.2.lt
theorem Rdy.desc {bs : List Int} {o : Nat} {P : Int} {sto : Sto Sy} (h : Rdy bs o P sto) : Desc sto.next sto.obs := h.elim fun p h => h.2.desc
theorem Rdy.mono {bs : List Int} {o : Nat} {P Q : Int} {sto : Sto Sy} (h : Rdy bs o P sto) (hq : P ≤ Q) : Rdy bs o Q sto := h.elim fun p h => ⟨p, Int.le_trans h.1 hq, h.2⟩
theorem Rdy.new {bs : List Int} {o : Nat} {P : Int} {sto : Sto Sy} (h : Rdy bs o P sto) (cs : List (V Sy)) : Rdy bs o P (sto.new cs) := by
  obtain ⟨p, h1, h2⟩ := h
  refine ⟨p, h1, ?_, ⟨Nat.lt_succ_self _, h2.desc⟩, h2.p0⟩
  show look ((sto.next, noBc cs) :: sto.obs) o = _
  rw [look_cons, if_neg (by have := h2.lt; omega)]
  exact h2.obj

/-- From one store on to a later one: the reader has gone on; what else was there stands, some objects apart; low: the reader has been written. -/
structure Nw (bs : List Int) (o : Nat) (P : Int) (ex : List Nat) (sto sto' : Sto Sy) : Prop where
  rd : Rdy bs o P sto'
  next : sto.next ≤ sto'.next
  low : sto'.low ≤ o
  keep : ∀ k x, k ≠ o → k ∉ ex → look sto.obs k = some x → look sto'.obs k = some x

theorem Nw.call {bs : List Int} {o : Nat} {P : Int} {ex : List Nat} {sto s1 : Sto Sy} (h : Nw bs o P ex ⟨sto.next, sto.obs, sto.next⟩ s1) : Nw bs o P ex sto ⟨s1.next, s1.obs, if s1.low < sto.low then s1.low else sto.low⟩ := by
  refine ⟨h.rd.lows _, h.next, ?_, h.keep⟩
  have := h.low
  simp only
  split <;> omega
theorem Nw.enter {bs : List Int} {o : Nat} {P : Int} {ex : List Nat} {sto s1 : Sto Sy} (h : Nw bs o P ex sto s1) (l : Nat) : Nw bs o P ex ⟨sto.next, sto.obs, l⟩ s1 := ⟨h.rd, h.next, h.low, h.keep⟩
theorem Nw.more {bs : List Int} {o : Nat} {P Q : Int} {ex : List Nat} {a b : Sto Sy} (h : Nw bs o P ex a b) (hq : P ≤ Q) : Nw bs o Q ex a b := ⟨h.rd.mono hq, h.next, h.low, h.keep⟩
theorem Nw.trans {bs : List Int} {o : Nat} {P Q : Int} {ex ex' : List Nat} {a b c : Sto Sy} (ha : Desc a.next a.obs) (h1 : Nw bs o P ex a b) (h2 : Nw bs o Q ex' b c) (he : ∀ k, k ∈ ex' → k ∈ ex ∨ a.next ≤ k) : Nw bs o Q ex a c :=
  ⟨h2.rd, Nat.le_trans h1.next h2.next, h2.low, fun k x hk hx hl => h2.keep k x hk (fun hk' => (he k hk').elim hx (fun h => by have := ha.look_lt hl; omega)) (h1.keep k x hk hx hl)⟩
/-- Something has been made ahead. -/
theorem Nw.ahead {bs : List Int} {o : Nat} {Q : Int} {ex ex' : List Nat} {a b : Sto Sy} {cs : List (V Sy)} (ha : Desc a.next a.obs) (h : Nw bs o Q ex' (a.new cs) b) (he : ∀ k, k ∈ ex' → k ∈ ex ∨ a.next ≤ k) : Nw bs o Q ex a b :=
  ⟨h.rd, by have := h.next; simp only [Sto.new] at this; omega, h.low, fun k x hk hx hl => h.keep k x hk (fun hk' => (he k hk').elim hx (fun h => by have := ha.look_lt hl; omega)) (by
    show look ((a.next, noBc cs) :: a.obs) k = _
    rw [look_cons, if_neg (by have := ha.look_lt hl; omega)]; exact hl)⟩
/-- Something has been made behind. -/
theorem Nw.behind {bs : List Int} {o : Nat} {P : Int} {ex : List Nat} {a b : Sto Sy} (h : Nw bs o P ex a b) (cs : List (V Sy)) : Nw bs o P ex a (b.new cs) :=
  ⟨h.rd.new cs, Nat.le_succ_of_le h.next, h.low, fun k x hk hx hl => by
    have := h.keep k x hk hx hl
    show look ((b.next, noBc cs) :: b.obs) k = _
    rw [look_cons, if_neg (by have := h.rd.desc.look_lt this; omega)]; exact this⟩
/-- An object has been written. -/
theorem Nw.wrote {bs : List Int} {o : Nat} {P : Int} {ex : List Nat} {a b : Sto Sy} (ha : Desc a.next a.obs) (h : Nw bs o P ex a b) {q : Nat} (hq : q ≠ o) (hx : q ∈ ex ∨ a.next ≤ q) (cs : Ob Sy) : Nw bs o P ex a (b.write q cs) := by
  obtain ⟨p, h1, h2⟩ := h.rd
  refine ⟨⟨p, h1, ?_, h2.desc.put _ _, h2.p0⟩, h.next, ?_, fun k x hk hxk hl => ?_⟩
  · show look (put b.obs q _) o = _
    rw [look_put_ne (fun e => hq e.symm)]; exact h2.obj
  · show (if Nat.blt q b.low then q else b.low) ≤ o
    have := h.low
    rcases Nat.lt_or_ge q b.low with hl | hl
    · rw [if_pos (by rw [Nat.blt_eq]; exact hl)]; omega
    · rw [if_neg (by rw [Nat.blt_eq]; omega)]; exact this
  · show look (put b.obs q _) k = _
    rw [look_put_ne (fun e => by subst e; exact hx.elim hxk (fun h => by have := ha.look_lt hl; omega))]
    exact h.keep k x hk hxk hl
/-- As above, whether or not the reader has been written. -/
structure Pre (bs : List Int) (o : Nat) (P : Int) (ex : List Nat) (sto sto' : Sto Sy) : Prop where
  rd : Rdy bs o P sto'
  next : sto.next ≤ sto'.next
  keep : ∀ k x, k ≠ o → k ∉ ex → look sto.obs k = some x → look sto'.obs k = some x
theorem Nw.pre {bs : List Int} {o : Nat} {P : Int} {ex : List Nat} {a b : Sto Sy} (h : Nw bs o P ex a b) : Pre bs o P ex a b := ⟨h.rd, h.next, h.keep⟩
theorem Pre.nw {bs : List Int} {o : Nat} {P : Int} {ex : List Nat} {a b : Sto Sy} (h : Pre bs o P ex a b) (hl : b.low ≤ o) : Nw bs o P ex a b := ⟨h.rd, h.next, hl, h.keep⟩
theorem Pre.made {bs : List Int} {o : Nat} {P : Int} {a : Sto Sy} (h : Rdy bs o P a) (cs : List (V Sy)) : Pre bs o P [] a (a.new cs) := ⟨h.new cs, Nat.le_succ _, fun k x _ _ hl => by
  show look ((a.next, noBc cs) :: a.obs) k = _
  rw [look_cons, if_neg (by have := h.desc.look_lt hl; omega)]; exact hl⟩
theorem Pre.sto {bs : List Int} {o : Nat} {P : Int} {ex : List Nat} {a b b' : Sto Sy} (h : Pre bs o P ex a b) (e1 : b'.next = b.next) (e2 : b'.obs = b.obs) : Pre bs o P ex a b' := by
  obtain ⟨n, ob, l⟩ := b'
  simp only at e1 e2
  subst e1 e2
  exact ⟨h.rd.lows l, h.next, h.keep⟩
theorem Pre.trans {bs : List Int} {o : Nat} {P Q : Int} {ex ex' : List Nat} {a b c : Sto Sy} (ha : Desc a.next a.obs) (h1 : Pre bs o P ex a b) (h2 : Nw bs o Q ex' b c) (he : ∀ k, k ∈ ex' → k ∈ ex ∨ a.next ≤ k) : Nw bs o Q ex a c :=
  ⟨h2.rd, Nat.le_trans h1.next h2.next, h2.low, fun k x hk hx hl => h2.keep k x hk (fun hk' => (he k hk').elim hx (fun h => by have := ha.look_lt hl; omega)) (h1.keep k x hk hx hl)⟩
theorem look_del_ne {α : Type} {l : List (Nat × α)} {o k : Nat} (h : k ≠ o) : look (del l o) k = look l k := by
  induction l with
  | nil => rfl
  | cons p r ih =>
    obtain ⟨i, z⟩ := p
    simp only [del, beq_dec]
    by_cases hk : i = o
    · subst hk
      simp only [decide_true, if_true, ih]
      rw [look_cons, if_neg (fun e => h e.symm)]
    · simp only [hk, decide_false, Bool.false_eq_true, if_false, look_cons, ih]
/-- A list has grown into a new object. -/
theorem Nw.grown {bs : List Int} {o : Nat} {P : Int} {ex : List Nat} {a b : Sto Sy} (ha : Desc a.next a.obs) (h : Nw bs o P ex a b) {q : Nat} (hq : q ≠ o) (hx : q ∈ ex ∨ a.next ≤ q) (cs : Ob Sy) :
    Nw bs o P ex a ⟨b.next + 1, (b.next, cs) :: del b.obs q, if Nat.blt q b.low then q else b.low⟩ := by
  obtain ⟨p, h1, h2⟩ := h.rd
  refine ⟨⟨p, h1, ?_, ⟨Nat.lt_succ_self _, Desc.del q h2.desc⟩, h2.p0⟩, Nat.le_succ_of_le h.next, ?_, fun k x hk hxk hl => ?_⟩
  · show look ((b.next, cs) :: del b.obs q) o = _
    rw [look_cons, if_neg (by have := h2.lt; omega), look_del_ne (fun e => hq e.symm)]; exact h2.obj
  · show (if Nat.blt q b.low then q else b.low) ≤ o
    have := h.low
    rcases Nat.lt_or_ge q b.low with hl | hl
    · rw [if_pos (by rw [Nat.blt_eq]; exact hl)]; omega
    · rw [if_neg (by rw [Nat.blt_eq]; omega)]; exact this
  · have h3 := h.keep k x hk hxk hl
    show look ((b.next, cs) :: del b.obs q) k = _
    rw [look_cons, if_neg (by have := h2.desc.look_lt h3; omega), look_del_ne (fun e => by subst e; exact hx.elim hxk (fun h => by have := ha.look_lt hl; omega))]
    exact h3

theorem Pre.nw0 {bs : List Int} {o : Nat} {P : Int} {ex : List Nat} {a b : Sto Sy} (h : Pre bs o P ex a b) : Nw bs o P ex a ⟨b.next, b.obs, 0⟩ := (h.sto (b' := ⟨b.next, b.obs, 0⟩) rfl rfl).nw (Nat.zero_le _)
theorem Pre.behind {bs : List Int} {o : Nat} {P : Int} {ex : List Nat} {a b : Sto Sy} (h : Pre bs o P ex a b) (cs : List (V Sy)) : Pre bs o P ex a (b.new cs) := (h.nw0.behind cs).pre.sto rfl rfl
theorem Pre.wrote {bs : List Int} {o : Nat} {P : Int} {ex : List Nat} {a b : Sto Sy} (ha : Desc a.next a.obs) (h : Pre bs o P ex a b) {q : Nat} (hq : q ≠ o) (hx : q ∈ ex ∨ a.next ≤ q) (cs : Ob Sy) : Pre bs o P ex a (b.write q cs) := (h.nw0.wrote ha hq hx cs).pre.sto rfl rfl
theorem Pre.grown {bs : List Int} {o : Nat} {P : Int} {ex : List Nat} {a b : Sto Sy} (ha : Desc a.next a.obs) (h : Pre bs o P ex a b) {q : Nat} (hq : q ≠ o) (hx : q ∈ ex ∨ a.next ≤ q) (cs : Ob Sy) :
    Pre bs o P ex a ⟨b.next + 1, (b.next, cs) :: del b.obs q, if Nat.blt q b.low then q else b.low⟩ := (h.nw0.grown ha hq hx cs).pre.sto rfl rfl
theorem Pre.more {bs : List Int} {o : Nat} {P Q : Int} {ex : List Nat} {a b : Sto Sy} (h : Pre bs o P ex a b) (hq : P ≤ Q) : Pre bs o Q ex a b := ⟨h.rd.mono hq, h.next, h.keep⟩
theorem Pre.after {bs : List Int} {o : Nat} {P Q : Int} {ex ex' : List Nat} {a b c : Sto Sy} (ha : Desc a.next a.obs) (h1 : Pre bs o P ex a b) (h2 : Pre bs o Q ex' b c) (he : ∀ k, k ∈ ex' → k ∈ ex ∨ a.next ≤ k) : Pre bs o Q ex a c :=
  (h1.trans ha h2.nw0 he).pre.sto rfl rfl
theorem Pre.self {bs : List Int} {o : Nat} {P : Int} {a : Sto Sy} (h : Rdy bs o P a) : Pre bs o P [] a a := ⟨h, Nat.le_refl _, fun _ _ _ _ h => h⟩

/-- A list of numbers that a run has made. -/
structure IsL (obs : List (Nat × Ob Sy)) (q : Nat) (zs : List Int) (v : V Sy) : Prop where
  val : ∃ cp, v = .rsl q 0 zs.length cp ∧ (cp = none ∨ cp = some zs.length)
  obj : look obs q = some (ints (nums zs))

/-- As above, new, of some length, within bounds. -/
def Lst (n lo hi : Nat) (B : Int) (v : V Sy) (obs : List (Nat × Ob Sy)) : Prop := ∃ q zs, n ≤ q ∧ IsL obs q zs v ∧ lo ≤ zs.length ∧ zs.length ≤ hi ∧ ∀ z, z ∈ zs → -B ≤ z ∧ z ≤ B
theorem Nw.weak {bs : List Int} {o : Nat} {P : Int} {a b : Sto Sy} (h : Nw bs o P [] a b) (ex : List Nat) : Nw bs o P ex a b := ⟨h.rd, h.next, h.low, fun k x hk _ hx => h.keep k x hk (by simp) hx⟩
theorem set_bound {zs : List Int} {B : Int} (h : ∀ z, z ∈ zs → -B ≤ z ∧ z ≤ B) {i : Nat} {x : Int} (hx : -B ≤ x ∧ x ≤ B) : ∀ z, z ∈ zs.set i x → -B ≤ z ∧ z ≤ B := fun z hz => (List.mem_or_eq_of_mem_set hz).elim (h z) (fun e => by rw [e]; exact hx)
theorem IsL.keepP {bs : List Int} {o : Nat} {P : Int} {ex : List Nat} {a b : Sto Sy} {q : Nat} {zs : List Int} {v : V Sy} (h : IsL a.obs q zs v) (hn : Pre bs o P ex a b) (h1 : q ≠ o) (h2 : q ∉ ex) : IsL b.obs q zs v := ⟨h.val, hn.keep q _ h1 h2 h.obj⟩
theorem IsL.keep {bs : List Int} {o : Nat} {P : Int} {ex : List Nat} {a b : Sto Sy} {q : Nat} {zs : List Int} {v : V Sy} (h : IsL a.obs q zs v) (hn : Nw bs o P ex a b) (h1 : q ≠ o) (h2 : q ∉ ex) : IsL b.obs q zs v := ⟨h.val, hn.keep q _ h1 h2 h.obj⟩
theorem IsL.new {n : Nat} {a : Sto Sy} {q : Nat} {zs : List Int} {v : V Sy} (h : IsL a.obs q zs v) (hd : Desc a.next a.obs) (cs : List (V Sy)) : IsL (a.new cs).obs q zs v := ⟨h.val, by
  show look ((a.next, noBc cs) :: a.obs) q = _
  rw [look_cons, if_neg (by have := hd.look_lt h.obj; omega)]; exact h.obj⟩
theorem look_new (a : Sto Sy) (ns : List Sy) : look (a.new (ints ns)).obs a.next = some (ints ns) := by
  show look ((a.next, noBc (ints ns)) :: a.obs) a.next = _
  rw [look_cons, if_pos rfl, noBc_ints]

theorem Nx.nw {bs : List Int} {o : Nat} {p q : Int} {sto s1 : Sto Sy} (h : Nx bs o p q sto s1) {Q : Int} (hq : q ≤ Q) : Nw bs o Q [] sto s1 := by
  obtain ⟨p', h1, h2, h3⟩ := h.rd
  exact ⟨⟨p', Int.le_trans h2 hq, h3⟩, h.next, h.low, fun k x hk _ hx => h.keep k x hk hx⟩

/-- What a contract tells of a call. -/
theorem call_K {P : Program} {K : Ctr} {n : Nat} {k : FuncId} {args : List (V Sy)} {sto : Sto Sy} {r : V Sy} {s1 : Sto Sy} (h : K k args ⟨sto.next, sto.obs, sto.next⟩ = some (r, s1)) (hk : (k : Nat) < 1000000 := by decide) :
    acallV (symIn P K [] (n + 1)) sto (.func k [] []) args = some (r, ⟨s1.next, s1.obs, if s1.low < sto.low then s1.low else sto.low⟩) := by
  rw [acallV_func hk, List.nil_append, List.append_nil]
  have hk' : Nat.blt k 1000000 = true := by simpa [Nat.blt_eq] using hk
  simp only [symIn, acallN, hk', bite_true, h, Nat.blt_eq]

/-- A run, as a call. -/
theorem run_call {P : Program} {K : Ctr} {bs : List Int} {o : Nat} {n : Nat} {k : FuncId} {args : List (V Sy)} {sto : Sto Sy} {Q : Int} {ex : List Nat} {Φ : V Sy → List (Nat × Ob Sy) → Prop}
    (h : ∃ r, symRun P K [] n k args ⟨sto.next, sto.obs, sto.next⟩ = some r ∧ Nw bs o Q ex ⟨sto.next, sto.obs, sto.next⟩ r.2 ∧ Φ r.1 r.2.obs) (hk : (k : Nat) < 1000000 := by decide) :
    ∃ v S, acallV (symIn P K [] n) sto (.func k [] []) args = some (v, S) ∧ Nw bs o Q ex sto S ∧ Φ v S.obs := by
  obtain ⟨⟨v, s1⟩, h1, h2, h3⟩ := h
  refine ⟨v, ⟨s1.next, s1.obs, if s1.low < sto.low then s1.low else sto.low⟩, ?_, h2.call, h3⟩
  rw [acallV_func hk, List.nil_append, List.append_nil, symIn_run hk, h1]
  simp only [Nat.blt_eq]

theorem answer_one {T : TypeId → Option Ti} {st : St Sy} {n0 t : Nat} {v : V Sy} {Ψ : V Sy × Sto Sy → Prop} (hv : st.tm.get .any t = v) (ho : st.sto.low < n0) (hp : Ψ (v, st.sto)) : ∃ r, answer T st n0 [.tmp t] = some r ∧ Ψ r :=
  ⟨(v, st.sto), by simp [answer, aresults, aresult, hv]; exact trim_low ho, hp⟩
theorem answer_two {T : TypeId → Option Ti} {st : St Sy} {n0 t u : Nat} {v w : V Sy} {Ψ : V Sy × Sto Sy → Prop} (hv : st.tm.get .any t = v) (hw : st.tm.get .any u = w) (ho : st.sto.low < n0) (hp : Ψ (.tup [v, w], st.sto)) : ∃ r, answer T st n0 [.tmp t, .tmp u] = some r ∧ Ψ r :=
  ⟨(.tup [v, w], st.sto), by simp [answer, aresults, aresult, hv, hw]; exact trim_low ho, hp⟩
theorem Nw.lowlt {bs : List Int} {o : Nat} {P Q : Int} {ex : List Nat} {a b : Sto Sy} {n : Nat} (h : Nw bs o P ex a b) (ha : Rdy bs o Q a) (e : a.next = n) : b.low < n := by rw [← e]; exact Nat.lt_of_le_of_lt h.low ha.lt

theorem nums_append (a b : List Int) : nums (a ++ b) = nums a ++ nums b := by simp [nums]
theorem ints_append (a b : List Sy) : ints (a ++ b) = ints a ++ ints b := by simp [ints]
theorem nums_set (zs : List Int) (i : Nat) (x : Int) : nums (zs.set i x) = (nums zs).set i (.c x) := by simp [nums, List.map_set]
theorem ints_oneCells (ns : List Sy) : (ints ns).all V.oneCell = true := by
  rw [List.all_eq_true]
  intro x hx
  obtain ⟨y, _, rfl⟩ := List.mem_map.1 hx
  rfl

section
variable {T : TypeId → Option Ti} {t e : TypeId} {za zb : Nat} {zv : Value} {ze ze2 : Bool} {bs : List Int} {o : Nat} {P : Int} {ex : List Nat} {S0 S : Sto Sy} {q : Nat} {zs : List Int} {v : V Sy}

/-- A list grows. -/
theorem append_ok (tS : T t = some ⟨.slice e, za, zb, zv, ze⟩) (tI : T e = some ⟨.int .i64, 1, 8, .int .i64 0, ze2⟩) (h : IsL S.obs q zs v) (hq : q ≠ o) (hx : q ∈ ex ∨ S0.next ≤ q) (hd : Desc S0.next S0.obs) (hn : Nw bs o P ex S0 S)
    {w : Int} {ws : List Int} (hl : zs.length + (w :: ws).length ≤ 1000000) :
    ∃ v' S', aappend (symNum []) T (S.new (ints (nums (w :: ws)))) t t v (.rsl S.next 0 (w :: ws).length (some (w :: ws).length)) = some (v', S') ∧ Nw bs o P ex S0 S' ∧ ∃ q', S.next ≤ q' ∧ IsL S'.obs q' (zs ++ w :: ws) v' := by
  obtain ⟨cp, rfl, hcp⟩ := h.val
  have hqn := hn.rd.desc.look_lt h.obj
  have ho : lookC (S.new (ints (nums (w :: ws)))).obs q = some (ints (nums zs)) := lookC_ints (IsL.new (n := 0) h hn.rd.desc _).obj
  have he : (S.new (ints (nums (w :: ws)))).elems (.rsl S.next 0 (w :: ws).length (some (w :: ws).length)) = some (ints (nums (w :: ws))) := by
    simp only [Sto.elems, Sto.cells, lookC_ints (look_new _ _)]
    rw [if_pos (by simp), List.drop_zero, List.take_of_length_le (by simp)]
  have hall := ints_oneCells (nums (w :: ws))
  have hyl : (ints (nums (w :: ws))).length = (w :: ws).length := by simp
  have hz : (ofV (symNum []) (Value.int .i64 0)).oneCell = true := rfl
  have happ : ints (nums zs) ++ ints (nums (w :: ws)) = ints (nums (zs ++ w :: ws)) := by rw [nums_append, ints_append]
  have hob : ∀ (l : List (Nat × Ob Sy)), look (((S.new (ints (nums (w :: ws)))).next, ints (nums (zs ++ w :: ws))) :: l) (S.next + 1) = some (ints (nums (zs ++ w :: ws))) := fun l => by
    rw [look_cons]; exact if_pos rfl
  have hlen : zs.length + (ints (nums (w :: ws))).length = (zs ++ w :: ws).length := by rw [hyl, List.length_append]
  have hb1 : (zs.length + (ints (nums (w :: ws))).length) * 8 ≤ 140737488355328 := by rw [hyl]; omega
  have hb2 : zs.length + (ints (nums (w :: ws))).length ≤ 9223372036854775807 := by rw [hyl]; omega
  cases hys : ints (nums (w :: ws)) with
  | nil => rw [hys] at hyl; simp at hyl
  | cons y ys =>
    rw [hys] at hall happ hlen hb1 hb2
    rcases hcp with rfl | rfl
    · refine ⟨.rsl (S.next + 1) 0 (zs ++ w :: ws).length none, ⟨S.next + 1 + 1, (S.next + 1, ints (nums (zs ++ w :: ws))) :: del (S.new (ints (nums (w :: ws)))).obs q, if Nat.blt q (S.new (ints (nums (w :: ws)))).low then q else (S.new (ints (nums (w :: ws)))).low⟩, ?_, ?_, S.next + 1, by omega, ⟨_, rfl, .inl rfl⟩, hob _⟩
      · rw [hys] at he ho ⊢
        rw [hlen] at hb1 hb2
        have htk : (ints (nums zs)).take zs.length = ints (nums zs) := List.take_of_length_le (by simp)
        simp only [aappend, tS, tI, he, ho, hz, hall, true_and, and_true, if_true, ints_length, nums_length, htk, happ, hlen, Nat.le_refl]
        rw [if_pos ⟨hb1, hb2⟩]
        rfl
      · exact (hn.behind _).grown hd hq hx _
    · have hc : ¬ zs.length + (y :: ys).length ≤ zs.length := by simp
      refine ⟨.rsl (S.next + 1) 0 (zs ++ w :: ws).length none, (S.new (ints (nums (w :: ws)))).new (ints (nums (zs ++ w :: ws))), ?_, (hn.behind _).behind _, S.next + 1, by omega, ⟨_, rfl, .inl rfl⟩, look_new (S.new _) _⟩
      rw [hys] at he ho ⊢
      have hdt : ((ints (nums zs)).drop 0).take zs.length ++ y :: ys = ints (nums (zs ++ w :: ws)) := by rw [← happ, List.drop_zero, List.take_of_length_le (by simp)]
      rw [hlen] at hc hb1 hb2
      simp only [aappend, tS, tI, he, ho, hz, hall, true_and, and_true, if_true, ints_length, nums_length, hlen, hdt, Nat.le_refl, Nat.zero_add]
      rw [if_pos ⟨hb1, hb2⟩, if_neg hc]
      rfl

/-- As above, whether or not the reader has been written. -/
theorem append_okP (tS : T t = some ⟨.slice e, za, zb, zv, ze⟩) (tI : T e = some ⟨.int .i64, 1, 8, .int .i64 0, ze2⟩) (h : IsL S.obs q zs v) (hq : q ≠ o) (hx : q ∈ ex ∨ S0.next ≤ q) (hd : Desc S0.next S0.obs) (hn : Pre bs o P ex S0 S)
    {w : Int} {ws : List Int} (hl : zs.length + (w :: ws).length ≤ 1000000) :
    ∃ v' S', aappend (symNum []) T (S.new (ints (nums (w :: ws)))) t t v (.rsl S.next 0 (w :: ws).length (some (w :: ws).length)) = some (v', S') ∧ Pre bs o P ex S0 S' ∧ ∃ q', S.next ≤ q' ∧ IsL S'.obs q' (zs ++ w :: ws) v' := by
  obtain ⟨cp, rfl, hcp⟩ := h.val
  have hqn := hn.rd.desc.look_lt h.obj
  have ho : lookC (S.new (ints (nums (w :: ws)))).obs q = some (ints (nums zs)) := lookC_ints (IsL.new (n := 0) h hn.rd.desc _).obj
  have he : (S.new (ints (nums (w :: ws)))).elems (.rsl S.next 0 (w :: ws).length (some (w :: ws).length)) = some (ints (nums (w :: ws))) := by
    simp only [Sto.elems, Sto.cells, lookC_ints (look_new _ _)]
    rw [if_pos (by simp), List.drop_zero, List.take_of_length_le (by simp)]
  have hall := ints_oneCells (nums (w :: ws))
  have hyl : (ints (nums (w :: ws))).length = (w :: ws).length := by simp
  have hz : (ofV (symNum []) (Value.int .i64 0)).oneCell = true := rfl
  have happ : ints (nums zs) ++ ints (nums (w :: ws)) = ints (nums (zs ++ w :: ws)) := by rw [nums_append, ints_append]
  have hob : ∀ (l : List (Nat × Ob Sy)), look (((S.new (ints (nums (w :: ws)))).next, ints (nums (zs ++ w :: ws))) :: l) (S.next + 1) = some (ints (nums (zs ++ w :: ws))) := fun l => by
    rw [look_cons]; exact if_pos rfl
  have hlen : zs.length + (ints (nums (w :: ws))).length = (zs ++ w :: ws).length := by rw [hyl, List.length_append]
  have hb1 : (zs.length + (ints (nums (w :: ws))).length) * 8 ≤ 140737488355328 := by rw [hyl]; omega
  have hb2 : zs.length + (ints (nums (w :: ws))).length ≤ 9223372036854775807 := by rw [hyl]; omega
  cases hys : ints (nums (w :: ws)) with
  | nil => rw [hys] at hyl; simp at hyl
  | cons y ys =>
    rw [hys] at hall happ hlen hb1 hb2
    rcases hcp with rfl | rfl
    · refine ⟨.rsl (S.next + 1) 0 (zs ++ w :: ws).length none, ⟨S.next + 1 + 1, (S.next + 1, ints (nums (zs ++ w :: ws))) :: del (S.new (ints (nums (w :: ws)))).obs q, if Nat.blt q (S.new (ints (nums (w :: ws)))).low then q else (S.new (ints (nums (w :: ws)))).low⟩, ?_, ?_, S.next + 1, by omega, ⟨_, rfl, .inl rfl⟩, hob _⟩
      · rw [hys] at he ho ⊢
        rw [hlen] at hb1 hb2
        have htk : (ints (nums zs)).take zs.length = ints (nums zs) := List.take_of_length_le (by simp)
        simp only [aappend, tS, tI, he, ho, hz, hall, true_and, and_true, if_true, ints_length, nums_length, htk, happ, hlen, Nat.le_refl]
        rw [if_pos ⟨hb1, hb2⟩]
        rfl
      · exact (hn.behind _).grown hd hq hx _
    · have hc : ¬ zs.length + (y :: ys).length ≤ zs.length := by simp
      refine ⟨.rsl (S.next + 1) 0 (zs ++ w :: ws).length none, (S.new (ints (nums (w :: ws)))).new (ints (nums (zs ++ w :: ws))), ?_, (hn.behind _).behind _, S.next + 1, by omega, ⟨_, rfl, .inl rfl⟩, look_new (S.new _) _⟩
      rw [hys] at he ho ⊢
      have hdt : ((ints (nums zs)).drop 0).take zs.length ++ y :: ys = ints (nums (zs ++ w :: ws)) := by rw [← happ, List.drop_zero, List.take_of_length_le (by simp)]
      rw [hlen] at hc hb1 hb2
      simp only [aappend, tS, tI, he, ho, hz, hall, true_and, and_true, if_true, ints_length, nums_length, hlen, hdt, Nat.le_refl, Nat.zero_add]
      rw [if_pos ⟨hb1, hb2⟩, if_neg hc]
      rfl

/-- A number of a list is written. -/
theorem store_ok (tI : T e = some ⟨.int .i64, 1, 8, .int .i64 0, ze2⟩) (h : IsL S.obs q zs v) {i : Nat} {x : Int} (hi : i < zs.length) : astore T S e (.ptr q i) (.int .i64 (.c x)) = some (S.write q (ints (nums (zs.set i x)))) := by
  have h1 : i + 1 ≤ (ints (nums zs)).length := by simp; omega
  simp only [astore, tI, V.cells, lookC_ints h.obj, List.length_cons, List.length_nil, true_and, List.all_cons, List.all_nil, V.oneCell, Bool.and_self, and_true, Nat.zero_add]
  rw [if_pos h1]
  simp only [setRange, nums_set, ints_set]
theorem IsL.wrote (h : IsL S.obs q zs v) (i : Nat) (x : Int) : IsL (S.write q (ints (nums (zs.set i x)))).obs q (zs.set i x) v := by
  refine ⟨?_, ?_⟩
  · rw [List.length_set]; exact h.val
  · show look (put S.obs q (noBc _)) q = _
    rw [noBc_ints]; exact look_put_self h.obj
end

/-! ## What a function that draws returns -/
theorem look_kept {n0 q : Nat} {ks : List Nat} (hq : ks.contains q = true) : ∀ l : List (Nat × Ob Sy), look (keepNew n0 ks l) q = look l q := by
  intro l
  induction l with
  | nil => rfl
  | cons p r ih =>
    obtain ⟨o, b⟩ := p
    simp only [keepNew]
    split
    · rfl
    · split
      · rw [look_cons, look_cons, ih]
      · rename_i h
        have : o ≠ q := fun e => by subst e; exact h hq
        rw [ih, look_cons, if_neg this]
theorem trim_look {n0 q : Nat} {r : V Sy} {sto : Sto Sy} (hq : q ∈ r.refs) : look (Sto.trim n0 r sto).obs q = look sto.obs q := by
  unfold Sto.trim
  split
  · rfl
  · split
    · rename_i h; rw [h] at hq; cases hq
    · split
      · exact look_kept (List.contains_iff_mem.2 hq) _
      · exact look_kept (List.contains_iff_mem.2 (List.mem_append.2 (.inl (List.mem_append.2 (.inl hq))))) _
theorem answer_trim1 {T : TypeId → Option Ti} {st : St Sy} {n0 t : Nat} {v : V Sy} {Ψ : V Sy × Sto Sy → Prop} (hv : st.tm.get .any t = v) (hp : Ψ (v, st.sto.trim n0 v)) : ∃ r, answer T st n0 [.tmp t] = some r ∧ Ψ r :=
  ⟨(v, st.sto.trim n0 v), by simp [answer, aresults, aresult, hv], hp⟩
theorem answer_trim2 {T : TypeId → Option Ti} {st : St Sy} {n0 t u : Nat} {v w : V Sy} {Ψ : V Sy × Sto Sy → Prop} (hv : st.tm.get .any t = v) (hw : st.tm.get .any u = w) (hp : Ψ (.tup [v, w], st.sto.trim n0 (.tup [v, w]))) : ∃ r, answer T st n0 [.tmp t, .tmp u] = some r ∧ Ψ r :=
  ⟨(.tup [v, w], st.sto.trim n0 (.tup [v, w])), by simp [answer, aresults, aresult, hv, hw], hp⟩
theorem IsL.refs {obs : List (Nat × Ob Sy)} {q : Nat} {zs : List Int} {v : V Sy} (h : IsL obs q zs v) : q ∈ v.refs := by
  obtain ⟨cp, rfl, _⟩ := h.val; simp [V.refs]
theorem IsL.trim1 {sto : Sto Sy} {q n0 : Nat} {zs : List Int} {v : V Sy} (h : IsL sto.obs q zs v) : IsL (sto.trim n0 v).obs q zs v := ⟨h.val, by rw [trim_look h.refs]; exact h.obj⟩
theorem IsL.trimIn {sto : Sto Sy} {q n0 : Nat} {zs : List Int} {v r : V Sy} (h : IsL sto.obs q zs v) (hr : ∀ k, k ∈ v.refs → k ∈ r.refs) : IsL (sto.trim n0 r).obs q zs v := ⟨h.val, by rw [trim_look (hr q h.refs)]; exact h.obj⟩
theorem IsL.made {S : Sto Sy} {q : Nat} {zs : List Int} {v : V Sy} (h : IsL S.obs q zs v) : Made S zs q v := by
  obtain ⟨cp, rfl, rfl | rfl⟩ := h.val
  · exact ⟨.inl rfl, h.obj⟩
  · exact ⟨.inr rfl, h.obj⟩

/-- Not long, of numbers of 64 bits. -/
def Fit (zs : List Int) : Prop := zs.length ≤ 25 ∧ ∀ z, z ∈ zs → IntKind.i64.wrap z = z
theorem Fit.wf {zs : List Int} (h : Fit zs) : (∀ z, z ∈ zs → IntKind.i64.wrap z = z) ∧ zs.length ≤ 1048576 := ⟨h.2, by have := h.1; omega⟩
theorem Fit.of {zs : List Int} (h1 : zs.length ≤ 25) (h : ∀ z, z ∈ zs → -4611686018427387904 ≤ z ∧ z ≤ 4611686018427387904) : Fit zs := ⟨h1, fun z hz => by have := h z hz; exact wrap_in (by omega) (by omega)⟩
theorem wrap_bounded {zs : List Int} {B : Int} (hB : B ≤ 4611686018427387904) (h : ∀ z, z ∈ zs → -B ≤ z ∧ z ≤ B) : ∀ z, z ∈ zs → IntKind.i64.wrap z = z := fun z hz => by have := h z hz; exact wrap_in (by omega) (by omega)

/-- What a law is to know of what is drawn. -/
def DrawnOk (P : Program) (dk : FuncId) (outs : List Tp) (bs : List Int) (n m : Nat) : Prop :=
  ∃ Ls I, Drawn P dk outs bs Ls I ∧ Ls.length = n ∧ I.length = m ∧ (∀ ls, ls ∈ Ls → (∀ z, z ∈ ls → IntKind.i64.wrap z = z) ∧ ls.length ≤ 1048576) ∧ ∀ z, z ∈ I → IntKind.i64.wrap z = z

section
variable {P : Program} {dk : FuncId} {bs : List Int} {n : Nat} {K : Ctr} (hK : ∀ (ρ : Nat → Int) (s : Sms) (B : Nat), COk P ⟨Sy.den ρ, s⟩ B K)
include hK
theorem drawn_l (h : ∃ r, symRun P K [] n dk [.slice (u8s bs)] ⟨0, [], 0⟩ = some r ∧ ∃ q zs, IsL r.2.obs q zs r.1 ∧ Fit zs) : DrawnOk P dk [.c (.l 0)] bs 1 0 := by
  obtain ⟨⟨v, S⟩, hr, q, zs, hz, hf⟩ := h
  refine ⟨[zs], [], ⟨K, n, [q], [v], S, hK, hr, rfl, rfl, by simp, fun j hj => ?_⟩, rfl, rfl, fun ls hls => ?_, fun z hz => by cases hz⟩
  · have h0 : j = 0 := by simp at hj; omega
    subst h0
    exact hz.made
  · simp at hls; subst hls; exact hf.wf
theorem drawn_i (h : ∃ r, symRun P K [] n dk [.slice (u8s bs)] ⟨0, [], 0⟩ = some r ∧ ∃ x, r.1 = .int .i64 (.c x) ∧ -1000000 ≤ x ∧ x ≤ 1000000) : DrawnOk P dk [.c (.i 0)] bs 0 1 := by
  obtain ⟨⟨w, S⟩, hr, x, rfl, hx⟩ := h
  exact ⟨[], [x], ⟨K, n, [], [], S, hK, hr, rfl, rfl, List.nodup_nil, fun j hj => absurd hj (by simp)⟩, rfl, rfl, by simp, fun z hz => by simp at hz; subst hz; exact wrap_in (by omega) (by omega)⟩
theorem drawn_ii (h : ∃ r, symRun P K [] n dk [.slice (u8s bs)] ⟨0, [], 0⟩ = some r ∧ ∃ x y, r.1 = .tup [.int .i64 (.c x), .int .i64 (.c y)] ∧ (-1000000 ≤ x ∧ x ≤ 1000000) ∧ -1000000 ≤ y ∧ y ≤ 1000000) : DrawnOk P dk [.c (.i 0), .c (.i 1)] bs 0 2 := by
  obtain ⟨⟨w, S⟩, hr, x, y, rfl, hx, hy⟩ := h
  exact ⟨[], [x, y], ⟨K, n, [], [], S, hK, hr, rfl, rfl, List.nodup_nil, fun j hj => absurd hj (by simp)⟩, rfl, rfl, by simp, fun z hz => by simp at hz; rcases hz with rfl | rfl <;> exact wrap_in (by omega) (by omega)⟩
theorem drawn_li (h : ∃ r, symRun P K [] n dk [.slice (u8s bs)] ⟨0, [], 0⟩ = some r ∧ ∃ q zs v x, r.1 = .tup [v, .int .i64 (.c x)] ∧ IsL r.2.obs q zs v ∧ Fit zs ∧ -1000000 ≤ x ∧ x ≤ 1000000) : DrawnOk P dk [.c (.l 0), .c (.i 0)] bs 1 1 := by
  obtain ⟨⟨w, S⟩, hr, q, zs, v, x, rfl, hz, hf, hx⟩ := h
  refine ⟨[zs], [x], ⟨K, n, [q], [v], S, hK, hr, rfl, rfl, by simp, fun j hj => ?_⟩, rfl, rfl, fun ls hls => ?_, fun z hz => ?_⟩
  · have h0 : j = 0 := by simp at hj; omega
    subst h0
    exact hz.made
  · simp at hls; subst hls; exact hf.wf
  · simp at hz; subst hz; exact wrap_in (by omega) (by omega)
theorem drawn_ll (h : ∃ r, symRun P K [] n dk [.slice (u8s bs)] ⟨0, [], 0⟩ = some r ∧ ∃ v1 v2 q1 q2 z1 z2, r.1 = .tup [v1, v2] ∧ q1 ≠ q2 ∧ IsL r.2.obs q1 z1 v1 ∧ IsL r.2.obs q2 z2 v2 ∧ Fit z1 ∧ Fit z2) : DrawnOk P dk [.c (.l 0), .c (.l 1)] bs 2 0 := by
  obtain ⟨⟨w, S⟩, hr, v1, v2, q1, q2, z1, z2, rfl, hq, h1, h2, f1, f2⟩ := h
  refine ⟨[z1, z2], [], ⟨K, n, [q1, q2], [v1, v2], S, hK, hr, rfl, rfl, by simp [hq], fun j hj => ?_⟩, rfl, rfl, fun ls hls => ?_, fun z hz => by cases hz⟩
  · have h0 : j = 0 ∨ j = 1 := by simp at hj; omega
    rcases h0 with rfl | rfl
    · exact h1.made
    · exact h2.made
  · simp at hls
    rcases hls with rfl | rfl
    · exact f1.wf
    · exact f2.wf
theorem drawn_p (h : ∃ r, symRun P K [] n dk [.slice (u8s bs)] ⟨0, [], 0⟩ = some r ∧ ∃ v1 v2 q1 q2 z1 z2, r.1 = .agg [v1, v2] ∧ q1 ≠ q2 ∧ IsL r.2.obs q1 z1 v1 ∧ IsL r.2.obs q2 z2 v2 ∧ Fit z1 ∧ Fit z2) : DrawnOk P dk [.a [.l 0, .l 1]] bs 2 0 := by
  obtain ⟨⟨w, S⟩, hr, v1, v2, q1, q2, z1, z2, rfl, hq, h1, h2, f1, f2⟩ := h
  refine ⟨[z1, z2], [], ⟨K, n, [q1, q2], [v1, v2], S, hK, hr, rfl, rfl, by simp [hq], fun j hj => ?_⟩, rfl, rfl, fun ls hls => ?_, fun z hz => by cases hz⟩
  · have h0 : j = 0 ∨ j = 1 := by simp at hj; omega
    rcases h0 with rfl | rfl
    · exact h1.made
    · exact h2.made
  · simp at hls
    rcases hls with rfl | rfl
    · exact f1.wf
    · exact f2.wf
theorem drawn_pl (h : ∃ r, symRun P K [] n dk [.slice (u8s bs)] ⟨0, [], 0⟩ = some r ∧ ∃ v1 v2 v3 q1 q2 q3 z1 z2 z3, r.1 = .tup [.agg [v1, v2], v3] ∧ q1 ≠ q2 ∧ q1 ≠ q3 ∧ q2 ≠ q3 ∧ IsL r.2.obs q1 z1 v1 ∧ IsL r.2.obs q2 z2 v2 ∧ IsL r.2.obs q3 z3 v3 ∧ Fit z1 ∧ Fit z2 ∧ Fit z3) : DrawnOk P dk [.a [.l 0, .l 1], .c (.l 2)] bs 3 0 := by
  obtain ⟨⟨w, S⟩, hr, v1, v2, v3, q1, q2, q3, z1, z2, z3, rfl, e12, e13, e23, h1, h2, h3, f1, f2, f3⟩ := h
  refine ⟨[z1, z2, z3], [], ⟨K, n, [q1, q2, q3], [v1, v2, v3], S, hK, hr, rfl, rfl, by simp [e12, e13, e23], fun j hj => ?_⟩, rfl, rfl, fun ls hls => ?_, fun z hz => by cases hz⟩
  · have h0 : j = 0 ∨ j = 1 ∨ j = 2 := by simp at hj; omega
    rcases h0 with rfl | rfl | rfl
    · exact h1.made
    · exact h2.made
    · exact h3.made
  · simp at hls
    rcases hls with rfl | rfl | rfl
    · exact f1.wf
    · exact f2.wf
    · exact f3.wf
end


theorem look_keptOld {n0 k : Nat} {ks : List Nat} (hk : k < n0) : ∀ l : List (Nat × Ob Sy), look (keepNew n0 ks l) k = look l k := by
  intro l
  induction l with
  | nil => rfl
  | cons p r ih =>
    obtain ⟨o, b⟩ := p
    simp only [keepNew]
    split
    · rfl
    · rename_i h
      have ho : ¬ o < n0 := fun e => h (by rw [Nat.blt_eq]; exact e)
      split
      · rw [look_cons, look_cons, ih]
      · rw [ih, look_cons, if_neg (by omega)]
theorem look_droppedOld {n0 k : Nat} (hk : k < n0) : ∀ l : List (Nat × Ob Sy), look (dropNew n0 l) k = look l k := by
  intro l
  induction l with
  | nil => rfl
  | cons p r ih =>
    obtain ⟨o, b⟩ := p
    simp only [dropNew]
    split
    · rfl
    · rename_i h
      have ho : ¬ o < n0 := fun e => h (by rw [Nat.blt_eq]; exact e)
      rw [ih, look_cons, if_neg (by omega)]
theorem trim_old {n0 k : Nat} {r : V Sy} {sto : Sto Sy} (hk : k < n0) : look (Sto.trim n0 r sto).obs k = look sto.obs k := by
  unfold Sto.trim
  split
  · rfl
  · split
    · exact look_droppedOld hk _
    · split
      · exact look_keptOld hk _
      · exact look_keptOld hk _
theorem trim_next {n0 : Nat} {r : V Sy} {sto : Sto Sy} : (Sto.trim n0 r sto).next = sto.next := by
  unfold Sto.trim
  split
  · rfl
  · split
    · rfl
    · split <;> rfl
theorem trim_desc {n0 : Nat} {r : V Sy} {sto : Sto Sy} (h : Desc sto.next sto.obs) : Desc (Sto.trim n0 r sto).next (Sto.trim n0 r sto).obs := by
  unfold Sto.trim
  split
  · exact h
  · split
    · exact dropNew_desc h
    · split
      · exact keepNew_desc h
      · exact keepNew_desc h
theorem Pre.trim {bs : List Int} {o : Nat} {P : Int} {ex : List Nat} {a b : Sto Sy} (ha : Desc a.next a.obs) (ho : o < a.next) (h : Pre bs o P ex a b) (r : V Sy) : Pre bs o P ex a (b.trim a.next r) := by
  obtain ⟨p, h1, h2⟩ := h.rd
  refine ⟨⟨p, h1, ?_, trim_desc h2.desc, h2.p0⟩, by rw [trim_next]; exact h.next, fun k x hk hx hl => ?_⟩
  · rw [trim_old ho]; exact h2.obj
  · rw [trim_old (ha.look_lt hl)]; exact h.keep k x hk hx hl

/-- A run that leaves the reader alone, as a call. -/
theorem run_callP {P : Program} {K : Ctr} {bs : List Int} {o : Nat} {n : Nat} {k : FuncId} {args : List (V Sy)} {sto : Sto Sy} {Q : Int} {ex : List Nat} {Φ : V Sy → List (Nat × Ob Sy) → Prop}
    (h : ∃ r, symRun P K [] n k args ⟨sto.next, sto.obs, sto.next⟩ = some r ∧ Pre bs o Q ex ⟨sto.next, sto.obs, sto.next⟩ r.2 ∧ Φ r.1 r.2.obs) (hk : (k : Nat) < 1000000 := by decide) :
    ∃ v S, acallV (symIn P K [] n) sto (.func k [] []) args = some (v, S) ∧ Pre bs o Q ex sto S ∧ S.low ≤ sto.low ∧ Φ v S.obs := by
  obtain ⟨⟨v, s1⟩, h1, h2, h3⟩ := h
  refine ⟨v, ⟨s1.next, s1.obs, if s1.low < sto.low then s1.low else sto.low⟩, ?_, (Pre.sto (b' := ⟨s1.next, s1.obs, if s1.low < sto.low then s1.low else sto.low⟩) h2 rfl rfl |> fun h => ⟨h.rd, h.next, h.keep⟩), ?_, h3⟩
  · rw [acallV_func hk, List.nil_append, List.append_nil, symIn_run hk, h1]
    simp only [Nat.blt_eq]
  · simp only
    split <;> omega

/-- Two lists of a length, new. -/
def Two (n0 n : Nat) (v1 v2 : V Sy) (obs : List (Nat × Ob Sy)) : Prop := ∃ q1 q2 z1 z2, n0 ≤ q1 ∧ n0 ≤ q2 ∧ q1 ≠ q2 ∧ IsL obs q1 z1 v1 ∧ IsL obs q2 z2 v2 ∧ z1.length = n ∧ z2.length = n ∧ (∀ z, z ∈ z1 → IntKind.i64.wrap z = z) ∧ ∀ z, z ∈ z2 → IntKind.i64.wrap z = z

theorem np_ok {P : Program} {K : Ctr} {bs : List Int} {o : Nat} {Q : Int} {S : Sto Sy} (h : Rdy bs o Q S) (hl : S.low ≤ o) {k : FuncId} {args : List (V Sy)} {f n : Nat} {v1 v2 : V Sy} {a b m : Nat} {za zb : List Int}
    (hK : K k args ⟨S.next, S.obs, S.next⟩ = some (.tup [.agg [v1, v2], .bool true], ⟨S.next + m, (S.next + a, ints (nums za)) :: (S.next + b, ints (nums zb)) :: S.obs, S.next⟩)) (hba : b < a) (ham : a < m)
    (hv : (∃ cp cq, v1 = .rsl (S.next + a) 0 n cp ∧ v2 = .rsl (S.next + b) 0 n cq ∧ (cp = none ∨ cp = some n) ∧ (cq = none ∨ cq = some n)) ∨ (∃ cp cq, v1 = .rsl (S.next + b) 0 n cp ∧ v2 = .rsl (S.next + a) 0 n cq ∧ (cp = none ∨ cp = some n) ∧ (cq = none ∨ cq = some n)))
    (h1 : za.length = n) (h2 : zb.length = n) (w1 : ∀ z, z ∈ za → -600 ≤ z ∧ z ≤ 600) (w2 : ∀ z, z ∈ zb → -600 ≤ z ∧ z ≤ 600) (hf : 1 ≤ f) (hk : (k : Nat) < 1000000 := by decide) :
    ∃ v1 v2 S1, acallV (symIn P K [] f) S (.func k [] []) args = some (.tup [.agg [v1, v2], .bool true], S1) ∧ Nw bs o Q [] S S1 ∧ Two S.next n v1 v2 S1.obs := by
  obtain ⟨g, rfl⟩ : ∃ g, f = g + 1 := ⟨f - 1, by omega⟩
  have hlt := h.lt
  have hd := h.desc
  have e1 : look ((S.next + a, ints (nums za)) :: (S.next + b, ints (nums zb)) :: S.obs) (S.next + a) = some (ints (nums za)) := by rw [look_cons, if_pos rfl]
  have e2 : look ((S.next + a, ints (nums za)) :: (S.next + b, ints (nums zb)) :: S.obs) (S.next + b) = some (ints (nums zb)) := by rw [look_cons, if_neg (by omega), look_cons, if_pos rfl]
  have e3 : ∀ q x, look S.obs q = some x → look ((S.next + a, ints (nums za)) :: (S.next + b, ints (nums zb)) :: S.obs) q = some x := fun q x hq => by
    have := hd.look_lt hq
    rw [look_cons, if_neg (by omega), look_cons, if_neg (by omega)]; exact hq
  obtain ⟨p, p1, p2⟩ := h
  refine ⟨v1, v2, _, call_K hK hk, ⟨⟨p, p1, e3 _ _ p2.obj, ⟨show S.next + a < S.next + m by omega, by omega, hd.mono (by omega)⟩, p2.p0⟩, by simp, ?_, fun q x _ _ hq => e3 q x hq⟩, ?_⟩
  · simp only
    split <;> omega
  · have b1 := wrap_bounded (by omega) w1
    have b2 := wrap_bounded (by omega) w2
    rcases hv with ⟨cp, cq, rfl, rfl, c1, c2⟩ | ⟨cp, cq, rfl, rfl, c1, c2⟩
    · exact ⟨S.next + a, S.next + b, za, zb, by omega, by omega, by omega, ⟨⟨cp, by rw [h1], by rw [h1]; exact c1⟩, e1⟩, ⟨⟨cq, by rw [h2], by rw [h2]; exact c2⟩, e2⟩, h1, h2, b1, b2⟩
    · exact ⟨S.next + b, S.next + a, zb, za, by omega, by omega, by omega, ⟨⟨cp, by rw [h2], by rw [h2]; exact c1⟩, e2⟩, ⟨⟨cq, by rw [h1], by rw [h1]; exact c2⟩, e1⟩, h2, h1, b2, b1⟩

/-- No summary speaks of a function. -/
noncomputable def Summ.free : List Summ → FuncId → Bool
  | [], _ => true
  | e :: r, k => bite (Nat.beq e.k k) false (Summ.free r k)
theorem Summ.free_none {k : FuncId} {args : List (V Sy)} {sto : Sto Sy} : ∀ {t : List Summ}, Summ.free t k = true → summK t k args sto = none := by
  intro t
  induction t with
  | nil => intro _; rfl
  | cons e r ih =>
    intro h
    simp only [Summ.free, bite_eq] at h
    split at h
    · cases h
    · rename_i hk
      simp only [summK, bite_eq]
      rw [if_neg hk]
      exact ih h
end Go.Sx


/-
  Texts of numbers: contracts over a world whose tables are laid. No condition.
-/
import Derived.Test.YtgaodlhdilhliaaGreatDoorRows
import Derived.Test.YtgaodlhdilhliaaGreatDoorSym
import Derived.Test.YtgaodlhdilhliaaGreatDoorSymF
import Derived.Test.YtgaodlhdilhliaaGreatDoorSh
import Derived.Lib.AppendIntMem
import Derived.WalkKit
import Derived.ProofKit
import Derived.OpenShut
namespace Go.Proofs.YtgaodlhdilhliaaGreatDoor.St
open Go.ChangeShapes Go.WideShapes Go.ChangeAt Go.RowKit Go.Sx
set_option linter.unusedVariables false
set_option linter.unusedSimpArgs false

/-- What is known of the world: the table of powers. -/
def Laid (w : World) : Prop := Lib.TabIs Tryz.prog w "internal/strconv.uint64pow10" .u64 Lib.pow10Tab
noncomputable def textZ (z : Int) : ByteArray := ⟨(Lib.itoa z).toArray⟩
noncomputable def itoaK : Ctr := fun k args sto => match args with
  | [.int .i64 (.c z)] => bite (Nat.beq k 59) (if IntKind.i64.wrap z = z then some (.str (textZ z), sto) else none) none
  | _ => none
theorem wrap_bound {z : Int} (h : IntKind.i64.wrap z = z) : -9223372036854775808 ≤ z ∧ z ≤ 9223372036854775807 := by
  have := wrap_range z
  rwa [h] at this
theorem itoaK_ok {ρ : Nat → Int} {s : Sms} {B : Nat} (hs : ∀ w, s.g w → Laid w) : COk Tryz.prog ⟨Sy.den ρ, s⟩ B itoaK := by
  intro k args sto r sto' h
  unfold itoaK at h
  split at h
  case h_2 => cases h
  rename_i z
  rw [bite_eq] at h
  split at h
  case isFalse => cases h
  rename_i hk
  have hk := Nat.eq_of_beq_eq_true hk
  subst hk
  split at h
  case isFalse => cases h
  rename_i hz
  cases h
  refine ⟨fun c rargs hinv hv => ?_, ?_⟩
  · obtain ⟨v, hv0, hv1⟩ := hv.one
    have hb := wrap_bound hz
    have hrv : rargs = #[.int .i64 z] := by
      cases hv1
      cases rargs with | mk l => simp only at hv0; subst hv0; rfl
    subst hrv
    refine (Tryz.strconv_Itoa z hb.1 hb.2 c.w (hs _ (hinv.g _ (KeepC.refl _ _)))).mono ?_
    rintro e w' ⟨rfl, kk, os, rfl⟩
    refine ⟨_, ⟨_, c.κ⟩, rfl, rfl, Step.world hinv (Lib.size_grow _ _ _) (fun b hb => Lib.heap_grow_old _ _ _ _ hb) rfl rfl rfl (fun a ha => ?_), .str _⟩
    exact World.frozen?_of_block (w := c.w) (Lib.heap_grow_old _ _ _ _ ha)
  · exact ⟨_, Tryz.func59, rfl⟩

/-! ## Join -/
def strs (xs : List ByteArray) : List (V Sy) := xs.map V.str
theorem strs_nm (xs : List ByteArray) : isMp (strs xs) = false := by
  match xs with
  | [] => rfl
  | [x] => rfl
  | x :: y :: r => rfl
noncomputable def joinB (xs : List ByteArray) (sep : ByteArray) : ByteArray := ⟨(Lib.join (xs.map (·.data.toList)) sep.data.toList).toArray⟩
def JoinD (sto : Sto Sy) (q n : Nat) (cap : Option Nat) (sep : ByteArray) (xs : List ByteArray) : Prop := Go.Sx.look sto.obs q = some (strs xs) ∧ xs.length = n ∧ (cap = none ∨ cap = some n) ∧ xs.length ≤ 1048576 ∧ (Lib.join (xs.map (·.data.toList)) sep.data.toList).length ≤ 140737488355328
open Classical in
noncomputable def joinK : Ctr := fun k args sto => match args with
  | [.rsl q 0 n cap, .str sep] => bite (Nat.beq k 60) (if h : ∃ xs, JoinD sto q n cap sep xs then some (.str (joinB (Classical.choose h) sep), sto) else none) none
  | _ => none
theorem strs_inj : ∀ {xs ys : List ByteArray}, strs xs = strs ys → xs = ys
  | [], [], _ => rfl
  | [], _ :: _, h => by cases h
  | _ :: _, [], h => by cases h
  | x :: xs, y :: ys, h => by
    simp only [strs, List.map_cons, List.cons.injEq, V.str.injEq] at h
    rw [h.1, strs_inj h.2]
theorem joinK_eq {sto : Sto Sy} {q n : Nat} {cap : Option Nat} {sep : ByteArray} {xs : List ByteArray} (h : JoinD sto q n cap sep xs) : joinK 60 [.rsl q 0 n cap, .str sep] sto = some (.str (joinB xs sep), sto) := by
  have hx : ∃ xs, JoinD sto q n cap sep xs := ⟨xs, h⟩
  have hc := Classical.choose_spec hx
  have e := hc.1
  rw [h.1] at e
  have e := strs_inj (Option.some.inj e)
  simp only [joinK, bite_eq]
  rw [if_pos (by rfl), dif_pos hx, ← e]
theorem str_cells {Δ : Den Sy} {B : Nat} {c : Cx} : ∀ {xs : List ByteArray} {us : List Value}, VRs Δ B c (strs xs) us → ∀ (j : Nat) x, xs[j]? = some x → us[j]? = some (.string x)
  | [], us, _, j, x, hx => by simp at hx
  | y :: ys, us, h, j, x, hx => by
    obtain ⟨u, us', rfl, h1, h2⟩ : ∃ u us', us = u :: us' ∧ VR Δ B c (.str y) u ∧ VRs Δ B c (strs ys) us' := by
      cases us with
      | nil => have := h.1; simp [strs] at this
      | cons u us' => exact ⟨u, us', rfl, h.2 0 _ _ rfl rfl, ⟨by have := h.1; simpa [strs] using this, fun i a b ha hb => h.2 (i + 1) a b ha hb⟩⟩
    cases j with
    | zero =>
      simp at hx
      subst hx
      cases h1
      rfl
    | succ j => exact str_cells h2 j x (by simpa using hx)
theorem joinK_ok {ρ : Nat → Int} {s : Sms} {B : Nat} : COk Tryz.prog ⟨Sy.den ρ, s⟩ B joinK := by
  intro k args sto r sto' h
  unfold joinK at h
  split at h
  case h_2 => cases h
  rename_i q n cap sep
  rw [bite_eq] at h
  split at h
  case isFalse => cases h
  rename_i hk
  have hk := Nat.eq_of_beq_eq_true hk
  subst hk
  split at h
  case isFalse => cases h
  rename_i hx
  obtain ⟨h1, h2, h3, h4, h5⟩ := Classical.choose_spec hx
  generalize Classical.choose hx = xs at h h1 h2 h3 h4 h5
  cases h
  subst h2
  refine ⟨fun c rargs hinv hv => ?_, ⟨_, Tryz.func60, rfl⟩⟩
  obtain ⟨v, w, hv0, hv1, hv2⟩ := hv.two
  have main : ∀ (b m cp : Nat), c.κ q = some (b, m) → xs.length ≤ cp → Calls Tryz.prog 60 #[.slice (some ⟨b, 0, none⟩) xs.length cp, .string sep] c.w fun e w' => ∃ rv c', e = .returned rv ∧ c'.w = w' ∧ Out ⟨Sy.den ρ, s⟩ B c sto (.str (joinB xs sep)) sto rv c' := by
    intro b m cp hκ hcp
    obtain ⟨us, u1, u2, u3, u4⟩ := hinv.cells (lookC_iff.2 ⟨h1, strs_nm xs⟩) hκ
    refine (Tryz.strings_Join b 0 cp xs sep c.w (fun j x hj => by rw [Nat.zero_add]; exact u2 j _ (str_cells u3 j x hj)) (hinv.blk _ _ _ hκ).2 (by omega) hcp h5).mono ?_
    rintro e w' ⟨rfl, hb⟩
    exact ⟨_, ⟨_, c.κ⟩, rfl, rfl, Step.world hinv hb.size (fun b hb' => hb.block b hb') hb.os hb.tape hb.output (fun a ha => World.frozen?_of_block (w := c.w) (hb.block _ ha)), .str _⟩
  have hrv : ∀ (x y : Value), v = x → w = y → rargs = #[x, y] := by
    intro x y hx' hy'
    subst hx'; subst hy'
    cases rargs with | mk l => simp only at hv0; subst hv0; rfl
  cases hv2
  cases hv1 with
  | rsl hκ =>
    rw [hrv _ _ rfl rfl]
    rcases h3 with h3 | h3
    · cases h3
    · cases h3
      exact main _ _ _ hκ (Nat.le_refl _)
  | rslo hκ hle hn =>
    rw [hrv _ _ rfl rfl]
    exact main _ _ _ hκ hle
end Go.Proofs.YtgaodlhdilhliaaGreatDoor.St

/-
  Ways to part things: laws over two lists, contracts of functions of lists that are known.
-/
import Derived.Test.YtgaodlhdilhliaaDoorSymB
import Derived.ProofKit
import Derived.OpenShut
import Derived.Lib.SmallJoins
set_option linter.unusedVariables false
set_option linter.unusedSimpArgs false
/-
  Laws over two lists that may be ways to part things: ways of one length as they stand, all else by what is told of lists that are not looked into.
-/
namespace Go.Sx
open Go.RowKit

/-! ## Ways of a number of things -/
end Go.Sx

/-
  Contracts of functions that answer one list of numbers; of functions that copy, at lists that are known.
-/
namespace Go.Sx
open Go.RowKit

/-- A call that answers one list, its object the next one. -/
theorem lift_one {P : Program} {ρ ρ' : Nat → Int} {s : Sms} {k : FuncId} {pat : List (V Sy)} {R : V Sy} {S : Sto Sy} (hG : ∀ B', Good P ⟨Sy.den ρ', s⟩ B' k pat ⟨0, [], 0⟩ R S)
    {zs : List Int} {q : Nat} (hM : Made S zs q R) {B : Nat} {args : List (V Sy)} {sto : Sto Sy}
    (hargs : ∀ (c : Cx), SInv ⟨Sy.den ρ, s⟩ B c sto → ∀ vs, VRs ⟨Sy.den ρ, s⟩ B c args vs → VRs ⟨Sy.den ρ', s⟩ c.w.heap.size ⟨c.w, fun _ => none⟩ pat vs) :
    Good P ⟨Sy.den ρ, s⟩ B k args sto (.rsl sto.next 0 zs.length none) ⟨sto.next + 1, (sto.next, ints (nums zs)) :: sto.obs, sto.low⟩ := by
  intro c rargs hinv hra
  have hp := hargs c hinv _ hra
  refine Calls.mono (hG c.w.heap.size ⟨c.w, fun _ => none⟩ rargs (inv0 _ _ hinv.at0) hp) ?_
  rintro ev w' ⟨rv, c', rfl, rfl, hst, hv⟩
  have hbe : Below c.w.heap.size c.w c'.w := hst.below
  let c'' : Cx := ⟨c'.w, fun o => if o < sto.next then c.κ o else if o = sto.next then c'.κ q else none⟩
  have hκ : ∀ b, c'.κ q = some b → c''.κ sto.next = some b := by
    intro b hb
    show (if sto.next < sto.next then c.κ sto.next else if sto.next = sto.next then c'.κ q else none) = some b
    rw [if_neg (by omega), if_pos rfl]; exact hb
  have hold : ∀ o x, c.κ o = some x → c''.κ o = some x := by
    intro o x hx
    have : o < sto.next := by
      rcases Nat.lt_or_ge o sto.next with h1 | h1
      · exact h1
      · rw [hinv.fresh o h1] at hx; cases hx
    simp only [c'']; rw [if_pos this]; exact hx
  have hle : Cx.le B c c'' := ⟨fun b hb => hbe.block b (Nat.lt_of_lt_of_le hb hinv.base), hold, hst.oth⟩
  have hnew : ∀ o b n, c'.κ o = some (b, n) → c.w.heap.size ≤ b ∧ b < c'.w.heap.size := fun o b n hk => hst.inv.blk o b n hk
  have hnewκ : ∀ {o b n}, ¬ o < sto.next → c''.κ o = some (b, n) → o = sto.next ∧ c'.κ q = some (b, n) := by
    intro o b n ho hk
    simp only [c''] at hk
    rw [if_neg ho] at hk
    split at hk
    · rename_i h1; exact ⟨h1, hk⟩
    · cases hk
  have hcase : ∀ o x, look ((sto.next, ints (nums zs)) :: sto.obs) o = some x → (o = sto.next ∧ x = ints (nums zs)) ∨ (o < sto.next ∧ look sto.obs o = some x) := by
    intro o x hx
    rw [look_cons] at hx
    split at hx
    · rename_i h; cases hx; exact .inl ⟨h.symm, rfl⟩
    · exact .inr ⟨hinv.desc.look_lt hx, hx⟩
  obtain ⟨hval, hobj⟩ := hM
  obtain ⟨b0, cur0, el0, e10, e20, e30, e40⟩ := hst.inv.obc _ _ (lookC_iff.2 ⟨hobj, isMp_ints _⟩)
  have hln : (ints (nums zs)).length = zs.length := by simp
  rw [hln] at e30
  have hus := intVs_of e40.vrs
  rw [hln] at hus
  refine ⟨rv, c'', rfl, rfl, ⟨⟨Nat.le_trans hinv.base hbe.size, fun o ho => ?_, fun o b n hk => ?_, fun o x hx => ?_, fun o o' x x' b n n' hx hx' hk hk' => ?_, ?_, fun w hb => hinv.g w ((hbe.mono hinv.base).keepC.trans hb)⟩, hold,
    hbe.mono hinv.base, Nat.le_succ _, Nat.le_refl _, fun b hb _ => hbe.block b hb, fun o b n hk hn hb => ?_, fun o x hk hn => ?_, hst.frz, hst.oth⟩, ?_⟩
  · simp only at ho
    simp only [c'']
    rw [if_neg (by omega), if_neg (by omega)]
  · by_cases ho : o < sto.next
    · simp only [c''] at hk
      rw [if_pos ho] at hk
      have := hinv.blk o b n hk
      exact ⟨this.1, Nat.lt_of_lt_of_le this.2 hbe.size⟩
    · obtain ⟨_, h3⟩ := hnewκ ho hk
      have := hnew _ _ _ h3
      exact ⟨Nat.le_trans hinv.base this.1, this.2⟩
  · rcases hcase o x hx with ⟨rfl, rfl⟩ | ⟨h1, h2⟩
    · refine ⟨b0, _, cur0.size, hκ _ e10, e20, .cells el0 (by rw [hln]; exact e30) ⟨?_, fun j hj => ?_⟩ (ints_nm _)⟩
      · rw [hln, hus]
        exact VRs_intVs (B := B) (c := c'')
      · cases zs with
        | nil => simp [ints, nums] at hj
        | cons a r => simp [ints, nums] at hj
    · obtain ⟨b, cur, el, e1, e2, e4⟩ := hinv.ob o x h2
      refine ⟨b, cur, el, hold _ _ e1, ?_, e4.mono hle⟩
      show c'.w.heap[b]? = _
      rw [hbe.block b (hinv.blk _ _ _ e1).2]; exact e2
  · rcases hcase o x hx with ⟨rfl, _⟩ | ⟨h1, h2⟩ <;> rcases hcase o' x' hx' with ⟨rfl, _⟩ | ⟨h1', h2'⟩
    · rfl
    · obtain ⟨_, a3⟩ := hnewκ (by omega) hk
      simp only [c''] at hk'
      rw [if_pos h1'] at hk'
      have h1 := (hnew _ _ _ a3).1
      have h2 := (hinv.blk _ _ _ hk').2
      omega
    · obtain ⟨_, a3⟩ := hnewκ (by omega) hk'
      simp only [c''] at hk
      rw [if_pos h1] at hk
      have h1 := (hnew _ _ _ a3).1
      have h2 := (hinv.blk _ _ _ hk).2
      omega
    · simp only [c''] at hk hk'
      rw [if_pos h1] at hk
      rw [if_pos h1'] at hk'
      exact hinv.inj o o' x x' b n n' h2 h2' hk hk'
  · exact ⟨Nat.lt_succ_self _, hinv.desc⟩
  · by_cases ho : o < sto.next
    · simp only [c''] at hk
      rw [if_pos ho] at hk
      rw [hn] at hk; cases hk
    · obtain ⟨_, h3⟩ := hnewκ ho hk
      have := (hnew _ _ _ h3).1; omega
  · by_cases ho : o < sto.next
    · simp only [c''] at hk
      rw [if_pos ho] at hk
      rw [hn] at hk; cases hk
    · omega
  · rcases hval with hval | hval
    · rw [hval] at hv
      cases hv with
      | rslo hk h1 h2 => exact .rslo (hκ _ hk) h1 h2
    · rw [hval] at hv
      cases hv with
      | rsl hk => rw [e10] at hk; cases hk; exact .rslo (hκ _ e10) (Nat.le_refl _) (by omega)

/-- A function of lists of numbers that are known, that answers one list. -/
structure OneOk (P : Program) (k : FuncId) (pat : List (V Sy)) (zs : List Int) : Prop where
  run : ∃ (K : Ctr) (n q : Nat) (R : V Sy) (S : Sto Sy), (∀ (ρ : Nat → Int) (s : Sms) (B : Nat), COk P ⟨Sy.den ρ, s⟩ B K) ∧ symRun P K [] n k pat ⟨0, [], 0⟩ = some (R, S) ∧ Made S zs q R

/-- The numbers, where they are known. -/
noncomputable def consts : List Sy → Option (List Int)
  | [] => some []
  | .c n :: r => match consts r with
    | some l => some (n :: l)
    | none => none
  | _ => none
theorem consts_nums : ∀ {ps : List Sy} {zs : List Int}, consts ps = some zs → ps = nums zs := by
  intro ps
  induction ps with
  | nil => intro zs h; cases h; rfl
  | cons p r ih =>
    intro zs h
    cases p with
    | c n =>
      simp only [consts] at h
      split at h
      · rename_i l hl; cases h; rw [ih hl]; rfl
      · cases h
    | p l => simp [consts] at h

/-- A list of a slice, its numbers known. -/
noncomputable def constsOf (sto : Sto Sy) (x : V Sy) : Option (List Int) := match sto.elems x with
  | some xs => match numsOf xs with
    | some ps => bite (capOk x) (consts ps) none
    | none => none
  | none => none
theorem constsOf_ok {sto : Sto Sy} {x : V Sy} {zs : List Int} (h : constsOf sto x = some zs) : sto.elems x = some (ints (nums zs)) ∧ capOk x = true := by
  unfold constsOf at h
  split at h
  · rename_i xs hxs
    split at h
    · rename_i ps hps
      have := numsOf_ints hps
      subst this
      rw [bite_eq] at h
      split at h
      · rename_i hc
        rw [consts_nums h] at hxs
        exact ⟨hxs, hc⟩
      · cases h
    · cases h
  · cases h
theorem constsOf_rel {ρ ρ' : Nat → Int} {s : Sms} {B : Nat} {c : Cx} {sto : Sto Sy} {x : V Sy} {v : Value} {zs : List Int} (h : constsOf sto x = some zs) (hne : zs ≠ []) (hl : zs.length ≤ 1048576) (hinv : SInv ⟨Sy.den ρ, s⟩ B c sto) (hx : VR ⟨Sy.den ρ, s⟩ B c x v) :
    VR ⟨Sy.den ρ', s⟩ c.w.heap.size ⟨c.w, fun _ => none⟩ (.slice (ints (nums zs))) v := by
  obtain ⟨h1, h2⟩ := constsOf_ok h
  have := (elems_data (ρ' := ρ') hinv hx h1 h2).2 (by cases zs with | nil => exact (hne rfl).elim | cons a r => simp [nums]) (by simpa using hl)
  have e : (nums zs).map (Sy.den ρ) = zs := by simp [nums, Sy.den, Function.comp_def]
  rwa [e] at this

end Go.Sx

/-
  Words for runs by hand without a reader: lists that grow; numbers in order of first coming.
-/
namespace Go.Sx
open Go.RowKit

section
variable {T : TypeId → Option Ti} {t e : TypeId} {za zb : Nat} {zv : Value} {ze ze2 : Bool} {S : Sto Sy} {q : Nat} {zs : List Int} {v : V Sy}
end

section
variable {I : Type} {N : Num I} {T : TypeId → Option Ti} {C : FuncId → List (V I) → Sto I → Option (V I × Sto I)} {nt : Nat} {D : List Oper → St I → Option (St I)} {kp : Code → Option (List Nat)} {fresh : Tr (V I)}
  {Qn : St I → Prop} {Qx : AExit → St I → Prop}
end

end Go.Sx

/-
  Lists that are known: copied, compared.
-/
namespace Go.Sx
open Go.RowKit

noncomputable def sameI : List Int → List Int → Bool
  | [], [] => true
  | a :: r, b :: r' => bite (ieq a b) (sameI r r') false
  | _, _ => false
theorem sameI_eq : ∀ {l l' : List Int}, sameI l l' = true → l = l' := by
  intro l
  induction l with
  | nil => intro l' h; cases l' with
    | nil => rfl
    | cons b r => simp [sameI] at h
  | cons a r ih =>
    intro l' h
    cases l' with
    | nil => simp [sameI] at h
    | cons b r' =>
      simp only [sameI, bite_eq] at h
      split at h
      · rename_i h1
        rw [ieq_eq] at h1
        have : a = b := by simpa using h1
        rw [this, ih h]
      · cases h

theorem oneOk_run {P : Program} {k n q : Nat} {pat : List (V Sy)} {zs : List Int} {r : V Sy × Sto Sy} (h : symRun P noK [] n k pat ⟨0, [], 0⟩ = some r) (hi : IsL r.2.obs q zs r.1) : OneOk P k pat zs :=
  ⟨noK, n, q, r.1, r.2, fun _ _ _ => noK_ok, h, hi.made⟩
end Go.Sx

/-
  Maps from things to the numbers in which they came first.
-/
namespace Go.Sx
open Go.RowKit

section
variable {α : Type} [DecidableEq α] {κ : α → V Sy} {T : TypeId → Option Ti} {t kt et : TypeId} {za zb za' : Nat} {zv zv' : Value} {ze ze' : Bool} {S : Sto Sy} {om : Nat} {ks : List α} {z : α}

omit [DecidableEq α] in
end

end Go.Sx

/-
  Answers of one list, by runs, one for each of some arguments; parts put together.
-/
namespace Go.Sx
open Go.RowKit

end Go.Sx

/-
  Pairs of ways, by blocks of runs; laws over two lists that may be ways.
-/
namespace Go.Sx
open Go.RowKit

end Go.Sx


/-
  Contracts at what is known, by what runs at symbols tell.
-/
import Derived.Test.YtgaodlhdilhliaaGreatDoorSymE
import Derived.ProofKit
import Derived.OpenShut
set_option linter.unusedVariables false
set_option linter.unusedSimpArgs false
/-
  What a run tells of every call, its objects numbered anew.
-/
namespace Go.Sx
open Go.RowKit

/-- One value of two stores, under either reading: the object at the place j of a list of objects is the one with the number n + j. -/
inductive RN (ρ' ρ : Nat → Int) (os : List Nat) (sz : Nat → Nat) (n : Nat) : V Sy → V Sy → Prop
  | any : RN ρ' ρ os sz n .any .any
  | bool (b : Bool) : RN ρ' ρ os sz n (.bool b) (.bool b)
  | int (k : IntKind) {s t : Sy} : t.den ρ = s.den ρ' → RN ρ' ρ os sz n (.int k s) (.int k t)
  | str (s : ByteArray) : RN ρ' ρ os sz n (.str s) (.str s)
  | nil : RN ρ' ρ os sz n .nil .nil
  | emp : RN ρ' ρ os sz n .emp .emp
  | nilPtr : RN ρ' ρ os sz n .nilPtr .nilPtr
  | nilFunc : RN ρ' ρ os sz n .nilFunc .nilFunc
  | nilIface : RN ρ' ρ os sz n .nilIface .nilIface
  | rsl {j o : Nat} (off len : Nat) (cap : Option Nat) : os[j]? = some o → RN ρ' ρ os sz n (.rsl o off len cap) (.rsl (n + j) off len cap)
  | rsn {j o off len cap : Nat} : os[j]? = some o → len ≤ cap → off + cap ≤ sz o → RN ρ' ρ os sz n (.rsl o off len (some cap)) (.rsl (n + j) off len none)
  | ptr {j o : Nat} (off : Nat) : os[j]? = some o → RN ρ' ρ os sz n (.ptr o off) (.ptr (n + j) off)
  | agg {cs ds : List (V Sy)} : cs.length = ds.length → (∀ (i : Nat) (x y : V Sy), cs[i]? = some x → ds[i]? = some y → RN ρ' ρ os sz n x y) → RN ρ' ρ os sz n (.agg cs) (.agg ds)
  | tup {cs ds : List (V Sy)} : cs.length = ds.length → (∀ (i : Nat) (x y : V Sy), cs[i]? = some x → ds[i]? = some y → RN ρ' ρ os sz n x y) → RN ρ' ρ os sz n (.tup cs) (.tup ds)

def RNs (ρ' ρ : Nat → Int) (os : List Nat) (sz : Nat → Nat) (n : Nat) (xs ys : List (V Sy)) : Prop := xs.length = ys.length ∧ ∀ (i : Nat) (x y : V Sy), xs[i]? = some x → ys[i]? = some y → RN ρ' ρ os sz n x y
section
variable {ρ' ρ : Nat → Int} {os : List Nat} {sz : Nat → Nat} {n : Nat}
theorem RNs.nil : RNs ρ' ρ os sz n [] [] := ⟨rfl, by simp⟩
theorem RNs.cons {x y : V Sy} {xs ys : List (V Sy)} (h : RN ρ' ρ os sz n x y) (hs : RNs ρ' ρ os sz n xs ys) : RNs ρ' ρ os sz n (x :: xs) (y :: ys) := by
  refine ⟨by simp [hs.1], fun i z u hz hu => ?_⟩
  cases i with
  | zero => simp at hz hu; subst hz; subst hu; exact h
  | succ i => simp at hz hu; exact hs.2 i z u hz hu
theorem RNs.ints {ps : List Sy} {zs : List Int} (h : ps.map (Sy.den ρ') = zs) : RNs ρ' ρ os sz n (Go.Sx.ints ps) (Go.Sx.ints (nums zs)) := by
  subst h
  refine ⟨by simp, fun i x y hx hy => ?_⟩
  rw [ints_get] at hx hy
  obtain ⟨p, hp, rfl⟩ := Option.map_eq_some_iff.1 hx
  rw [nums_get, List.getElem?_map, hp] at hy
  cases hy
  exact .int _ rfl
theorem RNs.nums {zs : List Int} : RNs ρ' ρ os sz n (Go.Sx.ints (nums zs)) (Go.Sx.ints (nums zs)) := RNs.ints (by simp [Go.Sx.nums, Sy.den, Function.comp_def])
theorem RNs.agg {xs ys : List (V Sy)} (h : RNs ρ' ρ os sz n xs ys) : RN ρ' ρ os sz n (.agg xs) (.agg ys) := .agg h.1 h.2
theorem RNs.tup {xs ys : List (V Sy)} (h : RNs ρ' ρ os sz n xs ys) : RN ρ' ρ os sz n (.tup xs) (.tup ys) := .tup h.1 h.2
end

theorem rn_VR {ρ ρ' : Nat → Int} {s : Sms} {os : List Nat} {sz : Nat → Nat} {n B B' : Nat} {c' c'' : Cx} (hκ : ∀ j o b, os[j]? = some o → c'.κ o = some b → c''.κ (n + j) = some b) (hsz : ∀ o b m, o ∈ os → c'.κ o = some (b, m) → sz o ≤ m) {x : V Sy} {v : Value}
    (h : VR ⟨Sy.den ρ', s⟩ B' c' x v) : ∀ {y}, RN ρ' ρ os sz n x y → VR ⟨Sy.den ρ, s⟩ B c'' y v := by
  induction h with
  | any v => intro y h; cases h; exact .any _
  | bool b => intro y h; cases h; exact .bool b
  | int k t => intro y h; cases h with | int _ h => exact VR_int' h
  | str t => intro y h; cases h; exact .str t
  | sst j xs => intro y h; cases h
  | nilIface => intro y h; cases h; exact .nilIface
  | nilPtr => intro y h; cases h; exact .nilPtr
  | nilFunc => intro y h; cases h; exact .nilFunc
  | nil => intro y h; cases h; exact .nil
  | emp ad cap hq => intro y h; cases h; exact .emp ad cap hq
  | slice => intro y h; cases h
  | snil => intro y h; cases h
  | bc => intro y h; cases h
  | aint => intro y h; cases h
  | bsl => intro y h; cases h
  | bsl0 => intro y h; cases h
  | bys => intro y h; cases h
  | bys0 => intro y h; cases h
  | brs => intro y h; cases h
  | rsl hk =>
    intro y h
    cases h with
    | rsl _ _ _ hj => exact .rsl (hκ _ _ _ hj hk)
    | rsn hj h1 h2 => exact .rslo (hκ _ _ _ hj hk) h1 (Nat.le_trans h2 (hsz _ _ _ (List.mem_of_getElem? hj) hk))
  | rslo hk hlc hn => intro y h; cases h with | rsl _ _ _ hj => exact .rslo (hκ _ _ _ hj hk) hlc hn
  | ptr hk => intro y h; cases h with | ptr _ hj => exact .ptr (hκ _ _ _ hj hk)
  | cel => intro y h; cases h
  | func => intro y h; cases h
  | yld => intro y h; cases h
  | mp => intro y h; cases h
  | mpc => intro y h; cases h
  | iface => intro y h; cases h
  | agg hl he ih =>
    intro y h
    cases h with
    | agg e1 e2 =>
    refine .agg (by rw [← e1]; exact hl) (fun i z v hz hv => ?_)
    obtain ⟨x, hx⟩ := get_of_len e1 hz
    exact ih i x v hx hv (e2 i x z hx hz)
  | tup hl he ih =>
    intro y h
    cases h with
    | tup e1 e2 =>
    refine .tup (by rw [← e1]; exact hl) (fun i z v hz hv => ?_)
    obtain ⟨x, hx⟩ := get_of_len e1 hz
    exact ih i x v hx hv (e2 i x z hx hz)
theorem rns_VRs {ρ ρ' : Nat → Int} {s : Sms} {os : List Nat} {sz : Nat → Nat} {n B B' : Nat} {c' c'' : Cx} (hκ : ∀ j o b, os[j]? = some o → c'.κ o = some b → c''.κ (n + j) = some b) (hsz : ∀ o b m, o ∈ os → c'.κ o = some (b, m) → sz o ≤ m) {xs ys : List (V Sy)} {vs : List Value}
    (h : VRs ⟨Sy.den ρ', s⟩ B' c' xs vs) (hr : RNs ρ' ρ os sz n xs ys) : VRs ⟨Sy.den ρ, s⟩ B c'' ys vs := by
  refine ⟨by rw [← hr.1]; exact h.1, fun i y v hy hv => ?_⟩
  obtain ⟨x, hx⟩ := get_of_len hr.1 hy
  exact rn_VR hκ hsz (h.2 i x v hx hv) (hr.2 i x y hx hy)

/-- Objects, one number after the other. -/
def numO : Nat → List (Ob Sy) → List (Nat × Ob Sy) → List (Nat × Ob Sy)
  | _, [], acc => acc
  | o, b :: r, acc => numO (o + 1) r ((o, b) :: acc)
theorem look_numO : ∀ (l : List (Ob Sy)) (o : Nat) (acc : List (Nat × Ob Sy)) (q : Nat) (x : Ob Sy), look (numO o l acc) q = some x → (∃ i, l[i]? = some x ∧ q = o + i) ∨ look acc q = some x
  | [], o, acc, q, x, h => .inr h
  | b :: r, o, acc, q, x, h => by
    simp only [numO] at h
    rcases look_numO r _ _ _ _ h with ⟨i, h1, h2⟩ | h
    · exact .inl ⟨i + 1, by simpa using h1, by omega⟩
    · rw [look_cons] at h
      split at h
      · rename_i e; cases h; exact .inl ⟨0, rfl, by omega⟩
      · exact .inr h
theorem desc_numO : ∀ (l : List (Ob Sy)) (o : Nat) (acc : List (Nat × Ob Sy)), Desc o acc → Desc (o + l.length) (numO o l acc)
  | [], o, acc, h => h
  | b :: r, o, acc, h => by
    simp only [numO, List.length_cons]
    rw [show o + (r.length + 1) = o + 1 + r.length by omega]
    exact desc_numO r _ _ ⟨Nat.lt_succ_self _, h⟩

theorem lift_ren {P : Program} {ρ ρ' : Nat → Int} {s : Sms} {k : FuncId} {pat : List (V Sy)} {R R' : V Sy} {S : Sto Sy} (hG : ∀ B', Good P ⟨Sy.den ρ', s⟩ B' k pat ⟨0, [], 0⟩ R S) {sz : Nat → Nat} {B : Nat} {args : List (V Sy)} {sto : Sto Sy}
    (os : List Nat) (news : List (Ob Sy)) (hl : os.length = news.length) (hnd : os.Nodup) (hob : ∀ (j o : Nat) (b : Ob Sy), os[j]? = some o → news[j]? = some b → ∃ x, look S.obs o = some x ∧ isMp x = false ∧ sz o = x.length ∧ b.length ≤ x.length ∧ RNs ρ' ρ os sz sto.next (x.take b.length) b)
    (hR : RN ρ' ρ os sz sto.next R R')
    (hargs : ∀ (c : Cx), SInv ⟨Sy.den ρ, s⟩ B c sto → ∀ vs, VRs ⟨Sy.den ρ, s⟩ B c args vs → VRs ⟨Sy.den ρ', s⟩ c.w.heap.size ⟨c.w, fun _ => none⟩ pat vs) :
    Good P ⟨Sy.den ρ, s⟩ B k args sto R' ⟨sto.next + news.length, numO sto.next news sto.obs, sto.low⟩ := by
  intro c rargs hinv hra
  have hp := hargs c hinv _ hra
  refine Calls.mono (hG c.w.heap.size ⟨c.w, fun _ => none⟩ rargs (inv0 _ _ hinv.at0) hp) ?_
  rintro ev w' ⟨rv, c', rfl, rfl, hst', hv⟩
  have hbe : Below c.w.heap.size c.w c'.w := hst'.below
  let c'' : Cx := ⟨c'.w, fun o => if o < sto.next then c.κ o else match os[o - sto.next]? with | some q => c'.κ q | none => none⟩
  have hκ : ∀ j o b, os[j]? = some o → c'.κ o = some b → c''.κ (sto.next + j) = some b := by
    intro j o b hj hb
    simp only [c'']
    rw [if_neg (by omega), Nat.add_sub_cancel_left, hj]; exact hb
  have hold : ∀ o x, c.κ o = some x → c''.κ o = some x := by
    intro o x hx
    have : o < sto.next := by
      rcases Nat.lt_or_ge o sto.next with h1 | h1
      · exact h1
      · rw [hinv.fresh o h1] at hx; cases hx
    simp only [c'']; rw [if_pos this]; exact hx
  have hle : Cx.le B c c'' := ⟨fun b hb => hbe.block b (Nat.lt_of_lt_of_le hb hinv.base), hold, hst'.oth⟩
  have hnew : ∀ o b n, c'.κ o = some (b, n) → c.w.heap.size ≤ b ∧ b < c'.w.heap.size := fun o b n hk => hst'.inv.blk o b n hk
  have hnewκ : ∀ {o b n}, ¬ o < sto.next → c''.κ o = some (b, n) → ∃ i q, os[i]? = some q ∧ o = sto.next + i ∧ c'.κ q = some (b, n) := by
    intro o b n ho hk
    simp only [c''] at hk
    rw [if_neg ho] at hk
    split at hk
    · rename_i q hq; exact ⟨_, q, hq, by omega, hk⟩
    · cases hk
  have hnews : ∀ {i : Nat} {x : Ob Sy}, news[i]? = some x → ∃ q, os[i]? = some q := fun {i x} hi => ⟨_, List.getElem?_eq_getElem (by have := (List.getElem?_eq_some_iff.1 hi).1; omega)⟩
  have hosne : ∀ {i i' q : Nat}, os[i]? = some q → os[i']? = some q → i = i' := by
    intro i i' q h1 h2
    have a1 := (List.getElem?_eq_some_iff.1 h1).1
    have a2 := (List.getElem?_eq_some_iff.1 h2).1
    have b1 := (List.getElem?_eq_some_iff.1 h1).2
    have b2 := (List.getElem?_eq_some_iff.1 h2).2
    have hp := List.pairwise_iff_getElem.1 hnd
    rcases Nat.lt_trichotomy i i' with h | h | h
    · exact (hp i i' a1 a2 h (b1.trans b2.symm)).elim
    · exact h
    · exact (hp i' i a2 a1 h (b2.trans b1.symm)).elim
  have nm : ∀ {x y : Ob Sy}, RNs ρ' ρ os sz sto.next x y → (∀ ks vs, y ≠ [.mpc ks vs]) ∧ (∀ j, y ≠ [.bc j]) := by
    intro x y h
    refine ⟨fun ks vs e => ?_, fun j e => ?_⟩
    · subst e
      cases x with
      | nil => have := h.1; simp at this
      | cons y0 r => exact nomatch (h.2 0 y0 _ rfl rfl)
    · subst e
      cases x with
      | nil => have := h.1; simp at this
      | cons y0 r => exact nomatch (h.2 0 y0 _ rfl rfl)
  have hsz : ∀ o b m, o ∈ os → c'.κ o = some (b, m) → sz o ≤ m := by
    intro o b m ho hk
    obtain ⟨j, hj⟩ := List.mem_iff_getElem?.1 ho
    obtain ⟨y, hy⟩ : ∃ y, news[j]? = some y := ⟨_, List.getElem?_eq_getElem (by have := (List.getElem?_eq_some_iff.1 hj).1; omega)⟩
    obtain ⟨x, h1, hm, h2, h5, h3⟩ := hob _ _ _ hj hy
    obtain ⟨b', cur, el, e1, e2, e3, e4⟩ := hst'.inv.obc _ x (lookC_iff.2 ⟨h1, hm⟩)
    rw [hk] at e1
    cases e1
    rw [h2]; exact e3
  have hcase : ∀ o x, look (numO sto.next news sto.obs) o = some x → (∃ i, news[i]? = some x ∧ o = sto.next + i) ∨ (o < sto.next ∧ look sto.obs o = some x) := by
    intro o x hx
    rcases look_numO _ _ _ _ _ hx with h | h
    · exact .inl h
    · exact .inr ⟨hinv.desc.look_lt h, h⟩
  refine ⟨rv, c'', rfl, rfl, ⟨⟨Nat.le_trans hinv.base hbe.size, fun o ho => ?_, fun o b n hk => ?_, fun o x hx => ?_, fun o o' x x' b n n' hx hx' hk hk' => ?_, ?_, fun w hb => hinv.g w ((hbe.mono hinv.base).keepC.trans hb)⟩, hold,
    hbe.mono hinv.base, Nat.le_add_right _ _, Nat.le_refl _, fun b hb _ => hbe.block b hb, fun o b n hk hn hb => ?_, fun o x hk hn => ?_, hst'.frz, hst'.oth⟩, rn_VR hκ hsz hv hR⟩
  · simp only at ho
    simp only [c'']
    rw [if_neg (by omega), List.getElem?_eq_none (by omega)]
  · by_cases ho : o < sto.next
    · simp only [c''] at hk
      rw [if_pos ho] at hk
      have := hinv.blk o b n hk
      exact ⟨this.1, Nat.lt_of_lt_of_le this.2 hbe.size⟩
    · obtain ⟨i, q, h1, h2, h3⟩ := hnewκ ho hk
      have := hnew _ _ _ h3
      exact ⟨Nat.le_trans hinv.base this.1, this.2⟩
  · rcases hcase o x hx with ⟨i, h1, rfl⟩ | ⟨h1, h2⟩
    · obtain ⟨q, hq⟩ := hnews h1
      obtain ⟨x0, k1, m1, k2, k5, k3⟩ := hob _ _ _ hq h1
      obtain ⟨m2, m3⟩ := nm k3
      obtain ⟨b, cur, el, e1, e2, e3, e4⟩ := hst'.inv.obc _ x0 (lookC_iff.2 ⟨k1, m1⟩)
      refine ⟨b, _, cur.size, hκ i q _ hq e1, e2, .cells el (Nat.le_trans k5 e3) ⟨?_, fun j hj => (m3 j hj).elim⟩ m2⟩
      have h4 := e4.vrs.sub 0 x.length
      simp only [List.drop_zero, List.take_take, Nat.min_eq_left k5] at h4
      exact rns_VRs hκ hsz h4 k3
    · obtain ⟨b, cur, el, e1, e2, e4⟩ := hinv.ob o x h2
      refine ⟨b, cur, el, hold _ _ e1, ?_, e4.mono hle⟩
      show c'.w.heap[b]? = _
      rw [hbe.block b (hinv.blk _ _ _ e1).2]; exact e2
  · rcases hcase o x hx with ⟨i, h1, rfl⟩ | ⟨h1, h2⟩ <;> rcases hcase o' x' hx' with ⟨i', h1', rfl⟩ | ⟨h1', h2'⟩
    · obtain ⟨a, q, a1, a2, a3⟩ := hnewκ (by omega) hk
      obtain ⟨a', q', a1', a2', a3'⟩ := hnewκ (by omega) hk'
      have : a = i := by omega
      subst this
      have : a' = i' := by omega
      subst this
      obtain ⟨x0, k1, _⟩ := hob _ _ _ a1 h1
      obtain ⟨x0', k1', _⟩ := hob _ _ _ a1' h1'
      have := hst'.inv.inj _ _ _ _ b n n' k1 k1' a3 a3'
      subst this
      rw [hosne a1 a1']
    · obtain ⟨a, q, a1, a2, a3⟩ := hnewκ (by omega) hk
      simp only [c''] at hk'
      rw [if_pos h1'] at hk'
      have h1 := (hnew _ _ _ a3).1
      have h2 := (hinv.blk _ _ _ hk').2
      omega
    · obtain ⟨a, q, a1, a2, a3⟩ := hnewκ (by omega) hk'
      simp only [c''] at hk
      rw [if_pos h1] at hk
      have h1 := (hnew _ _ _ a3).1
      have h2 := (hinv.blk _ _ _ hk).2
      omega
    · simp only [c''] at hk hk'
      rw [if_pos h1] at hk
      rw [if_pos h1'] at hk'
      exact hinv.inj o o' x x' b n n' h2 h2' hk hk'
  · exact desc_numO _ _ _ hinv.desc
  · by_cases ho : o < sto.next
    · simp only [c''] at hk
      rw [if_pos ho] at hk
      rw [hn] at hk; cases hk
    · obtain ⟨i, q, h1, h2, h3⟩ := hnewκ ho hk
      have := (hnew _ _ _ h3).1; omega
  · by_cases ho : o < sto.next
    · simp only [c''] at hk
      rw [if_pos ho] at hk
      rw [hn] at hk; cases hk
    · omega
end Go.Sx

/-
  Contracts at what is known, by what runs at symbols tell.
-/
namespace Go.Sx
open Go.RowKit

/-- Is a list valid, of such whose numbers are there. -/
noncomputable def vK (D : Ids) (Vt : List VEnt) : Ctr := fun k args sto =>
  bite (Nat.blt 100000 k) none (match args with
  | [x] => match boundOf k D.valid with
    | some bd => match sto.elems x with
      | some xs => match numsOf xs with
        | some ps => bite (Nat.ble ps.length 1048576) (bite (capOk x) (bite (fitsL ps) (match vdec Vt bd ps with
          | some q => some (.bool q, sto)
          | none => none) none) none) none
        | none => none
      | none => none
    | none => none
  | _ => none)
theorem vK_ok {P : Program} (hG : NoCount P) (hm : P.follows .mixedOrders = true) {D : Ids} (hD : D.Ok P) {ρ : Nat → Int} {s : Sms} {B : Nat} {Vt : List VEnt} (hV : ∀ e, e ∈ Vt → e.Ok ρ) : COk P ⟨Sy.den ρ, s⟩ B (vK D Vt) := by
  intro k args sto r sto' h
  unfold vK at h
  rw [bite_eq] at h
  split at h
  · cases h
  rename_i hk0
  have hk9 : (k : Nat) ≤ 100000 := by
    rw [Nat.blt_eq] at hk0
    exact Nat.le_of_not_lt hk0
  split at h
  · rename_i x
    split at h
    · rename_i bd hbd
      have hbd := boundOf_mem hbd
      split at h
      · rename_i xs hxs
        split at h
        · rename_i ps hps
          have hps := numsOf_ints hps
          subst hps
          simp only [bite_eq] at h
          split at h
          · rename_i hsz
            rw [Nat.ble_eq] at hsz
            split at h
            · rename_i hcap0
              split at h
              · rename_i hfit
                have hcap : capOk x = true ∧ fitsL ps = true := ⟨hcap0, hfit⟩
                split at h
                · rename_i q hq
                  cases h
                  refine ⟨?_, hD.body k hk9 (by simp; exact .inr (.inr (.inr ⟨bd, hbd⟩)))⟩
                  have hq' := vdec_ok hV (hD.small _ hbd) (fitsL_wrap ρ hcap.2) hq
                  by_cases hp : ps = []
                  · obtain ⟨n, S, hrun⟩ := hD.validE _ hbd
                    have : q = false := by rw [← hq', hp]; refine decide_eq_false (fun hv => ?_); have := hv.2.1; simp at this
                    subst this
                    refine lift_plain (ρ' := ρ) (run_good hG hm ρ hrun) (fun c hinv vs hv => ?_) rfl (.bool _)
                    obtain ⟨v, rfl, hv2⟩ := hv.one
                    exact .cons ((elems_data hinv hv2 hxs hcap.1).1 hp) .nil
                  · obtain ⟨S, hrun⟩ := hD.valid _ hbd (ps.map (Sy.den ρ)) (by simpa using hsz) (fitsL_wrap ρ hcap.2)
                    simp only at hrun
                    rw [hq'] at hrun
                    refine lift_plain (ρ' := ρ) (hrun ρ s) (fun c hinv vs hv => ?_) rfl (.bool _)
                    obtain ⟨v, rfl, hv2⟩ := hv.one
                    exact .cons ((elems_data hinv hv2 hxs hcap.1).2 hp hsz) .nil
                · cases h
              · cases h
            · cases h
          · cases h
        · cases h
      · cases h
    · cases h
  · cases h

/-- What runs at symbols may use: validity as told, 1 or -1 as told, summaries. -/
noncomputable def symK (D : Ids) (t : List Summ) (Γ : List Fact) (Vt : List VEnt) : Ctr := orK (orK (vK D Vt) (fun k args sto => match D.uids with
  | some U => unitK U Γ Vt k args sto
  | none => none)) (summK t)
theorem symK_ok {P : Program} (hG : NoCount P) (hm : P.follows .mixedOrders = true) {D : Ids} (hD : D.Ok P) {t : List Summ} (ht : ∀ e, e ∈ t → e.Ok P) {ρ : Nat → Int} {s : Sms} {B : Nat} {Γ : List Fact} {Vt : List VEnt} (hΓ : ∀ f, f ∈ Γ → f.Ok ρ) (hV : ∀ e, e ∈ Vt → e.Ok ρ) : COk P ⟨Sy.den ρ, s⟩ B (symK D t Γ Vt) :=
  orK_ok (orK_ok (vK_ok hG hm hD hV) (fun k args sto r sto' h => by
    split at h
    · rename_i U hU
      exact unitK_ok (hD.uok U hU) hΓ hV k args sto r sto' h
    · cases h)) (summK_ok ht)

/-- What a function answers at what is known: a value, and new objects. -/
def Tells (P : Program) (k0 : FuncId) (pats : List (V Sy)) (R' : Nat → V Sy) (news : Nat → List (Ob Sy)) : Prop :=
  ∃ (ρ' : Nat → Int) (pat : List (V Sy)) (R : V Sy) (S : Sto Sy) (os : List Nat) (sz : Nat → Nat), (∀ (s : Sms) (B' : Nat), Good P ⟨Sy.den ρ', s⟩ B' k0 pat ⟨0, [], 0⟩ R S) ∧ os.Nodup ∧
    (∀ (n : Nat) (ρ : Nat → Int), os.length = (news n).length ∧ (∀ (j o : Nat) (b : Ob Sy), os[j]? = some o → (news n)[j]? = some b → ∃ x, look S.obs o = some x ∧ isMp x = false ∧ sz o = x.length ∧ b.length ≤ x.length ∧ RNs ρ' ρ os sz n (x.take b.length) b) ∧ RN ρ' ρ os sz n R (R' n)) ∧
    ∀ (s : Sms) (B : Nat) (c : Cx) (vs : List Value), VRs ⟨Sy.den ρ', s⟩ B c pats vs → VRs ⟨Sy.den ρ', s⟩ B c pat vs

theorem Tells.good {P : Program} {k0 : FuncId} {pats : List (V Sy)} {R' : Nat → V Sy} {news : Nat → List (Ob Sy)} (h : Tells P k0 pats R' news) {ρ : Nat → Int} {s : Sms} {B : Nat} {args : List (V Sy)} {sto : Sto Sy}
    (ha : ∀ (c : Cx), SInv ⟨Sy.den ρ, s⟩ B c sto → ∀ vs, VRs ⟨Sy.den ρ, s⟩ B c args vs → ∀ ρ', VRs ⟨Sy.den ρ', s⟩ c.w.heap.size ⟨c.w, fun _ => none⟩ pats vs) :
    Good P ⟨Sy.den ρ, s⟩ B k0 args sto (R' sto.next) ⟨sto.next + (news sto.next).length, numO sto.next (news sto.next) sto.obs, sto.low⟩ := by
  obtain ⟨ρ', pat, R, S, os, sz, hG, hnd, hr, hp⟩ := h
  obtain ⟨h1, h2, h3⟩ := hr sto.next ρ
  exact lift_ren (hG s) os (news sto.next) h1 hnd h2 h3 (fun c hinv vs hv => hp _ _ _ _ (ha c hinv vs hv ρ'))

/-! ## A list and whether there is one -/
def ansR : Option (List Int) → Nat → V Sy
  | none, _ => .tup [.nil, .bool false]
  | some ys, n => .tup [.rsl n 0 ys.length none, .bool true]
def ansO : Option (List Int) → Nat → List (Ob Sy)
  | none, _ => []
  | some ys, _ => [ints (nums ys)]
/-- Does a run answer these? -/
noncomputable def ansIs (o : Option (List Sy)) (r : Option (V Sy × Sto Sy)) : Bool := match r with
  | some (.tup [.nil, .bool false], _) => match o with
    | none => true
    | some _ => false
  | some (.tup [.rsl q off len cap, .bool true], S) => match o with
    | none => false
    | some ps => bite (Nat.beq off 0) (bite (Nat.beq len ps.length) (match look S.obs q with
      | some b => match numsOf b with
        | some qs => bite (sames (qs.take len) ps) (bite (Nat.ble len qs.length) (match cap with
          | some cp => bite (Nat.ble len cp) (Nat.ble cp qs.length) false
          | none => true) false) false
        | none => false
      | none => false) false) false
  | _ => false

theorem tells_ans {P : Program} {k0 : FuncId} {pats pat : List (V Sy)} {ρ' : Nat → Int} {r : Option (V Sy × Sto Sy)} {o : Option (List Sy)} (h : ansIs o r = true) (hG : ∀ (R : V Sy) (S : Sto Sy), r = some (R, S) → ∀ (s : Sms) (B' : Nat), Good P ⟨Sy.den ρ', s⟩ B' k0 pat ⟨0, [], 0⟩ R S)
    (hp : ∀ (s : Sms) (B : Nat) (c : Cx) (vs : List Value), VRs ⟨Sy.den ρ', s⟩ B c pats vs → VRs ⟨Sy.den ρ', s⟩ B c pat vs) : Tells P k0 pats (ansR (o.map fun ps => ps.map (Sy.den ρ'))) (ansO (o.map fun ps => ps.map (Sy.den ρ'))) := by
  unfold ansIs at h
  split at h
  · split at h
    · rename_i S _
      exact ⟨ρ', pat, _, S, [], fun _ => 0, hG _ _ rfl, List.nodup_nil, fun n ρ => ⟨rfl, fun j o b hj => by simp at hj, RNs.tup (.cons .nil (.cons (.bool _) .nil))⟩, hp⟩
    · cases h
  · rename_i q off len cap S
    split at h
    · cases h
    · rename_i ps
      simp only [bite_eq] at h
      split at h
      case isFalse => cases h
      rename_i h0
      have h0 := Nat.eq_of_beq_eq_true h0
      subst h0
      split at h
      case isFalse => cases h
      rename_i hlen
      have hlen := Nat.eq_of_beq_eq_true hlen
      split at h
      case h_2 => cases h
      rename_i b hb
      split at h
      case h_2 => cases h
      rename_i qs hqs
      have hbi := numsOf_ints hqs
      subst hbi
      split at h
      case isFalse => cases h
      rename_i hs
      have hs := sames_eq hs
      split at h
      case isFalse => cases h
      rename_i hle
      rw [Nat.ble_eq] at hle
      refine ⟨ρ', pat, _, S, [q], fun _ => (ints qs).length, hG _ _ rfl, by simp, fun n ρ => ⟨rfl, fun j o b' hj hb' => ?_, ?_⟩, hp⟩
      · cases j with
        | succ j => simp at hj
        | zero =>
          simp at hj
          subst hj
          have e : b' = ints (nums (ps.map (Sy.den ρ'))) := by simpa [ansO] using hb'.symm
          have hl : b'.length = len := by rw [e]; simp [hlen]
          refine ⟨_, hb, isMp_ints _, rfl, by rw [hl]; simpa using hle, ?_⟩
          rw [hl, e, show (ints qs).take len = ints (qs.take len) by simp [ints, List.map_take], hs]
          exact RNs.ints rfl
      · have hl2 : (ps.map (Sy.den ρ')).length = len := by simp [hlen]
        show RN _ _ _ _ _ _ (.tup [.rsl n 0 (ps.map (Sy.den ρ')).length none, .bool true])
        rw [hl2]
        refine RNs.tup (.cons ?_ (.cons (.bool _) .nil))
        split at h
        · rename_i cp
          split at h
          · rename_i h1
            rw [Nat.ble_eq] at h1 h
            exact .rsn (j := 0) rfl h1 (by simpa using h)
          · cases h
        · exact .rsl (j := 0) 0 len none rfl
  · cases h

end Go.Sx


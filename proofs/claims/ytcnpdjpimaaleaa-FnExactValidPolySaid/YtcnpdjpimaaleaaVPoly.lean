/-
  For every list of integers the law on ValidPoly returns true, and the argument reads as it did. No condition.
  How: a machine over the model, proved right (Mach, Sym); each function that is called has its answer by a run over lists of any length.
-/
import Derived.Test.YtcnpdjpimaaleaaRows
import Derived.Test.YtcnpdjpimaaleaaSym
import Derived.WalkKit
import Derived.ProofKit
import Derived.OpenShut
namespace Go.Proofs.Ytcnpdjpimaaleaa.VPoly
open Go.ChangeShapes Go.WideShapes Go.ChangeAt Go.RowKit Go.Sx
set_option linter.unusedVariables false
set_option linter.unusedSimpArgs false

theorem ti23 : tiOf Try.prog 23 = some ⟨.slice 3, 1, 24, .slice none 0 0⟩ := by kernel_rfl
theorem ti3 : tiOf Try.prog 3 = some ⟨.int .i64, 1, 8, .int .i64 0⟩ := by kernel_rfl
theorem ti4 : tiOf Try.prog 4 = some ⟨.bool, 1, 1, .bool false⟩ := by kernel_rfl
variable {Γ : List Fact}

attribute [local simp] aops wants aop apure St.eval setTm_some Tr.get_set aload evals apureB alen ti23 ti3 ti4 abin aint isCmp sym_lt sym_eqs sym_neqs sym_eq sym_neq sym_gtr sym_leq sym_geq sym_add aeff amakeSlice idx? ofV aindexAddr astore look_cons aggDesc Sto.new setTm_none acallV aun Go.Sx.ints_set Go.Sx.ints_replicate

theorem inRange (x lo hi : Int) (sto : Sto Sy) (hd : Desc sto.next sto.obs) (m : Nat) :
    symRun Try.prog noK Γ (m + 1) 71 [.int .i64 (.c x), .int .i64 (.c lo), .int .i64 (.c hi)] sto = some (.bool (decide (lo ≤ x ∧ x ≤ hi)), sto) := by
  refine own_run rfl Try.func71 rfl rfl ?_
  simp only [Try.f71]
  by_cases h1 : lo ≤ x
  · by_cases h2 : x ≤ hi
    · repeat' (first | refine Wp.seq ?_ | refine Wp.block ?_ | (apply Wp.region; focus ((try simp [setArgs, Int.not_lt.2 h1, Int.not_lt.2 h2]); rfl)) | (refine Wp.cond_t ?_ ?_; focus (simp [setArgs, Int.not_lt.2 h1, Int.not_lt.2 h2]; done)) | (refine Wp.cond_f ?_ ?_; focus (simp [setArgs, Int.not_lt.2 h1, Int.not_lt.2 h2]; done)) | refine Wp.skip ?_ | refine Wp.ret ?_ | refine Wp.exit ?_ | refine Blk.here ?_ | (refine Blk.past ?_ ?_; focus (simp; done)))
      refine ⟨rfl, ?_⟩
      simp [answer, aresults, aresult, h1, h2]
      exact trim_plain hd rfl
    · repeat' (first | refine Wp.seq ?_ | refine Wp.block ?_ | (apply Wp.region; focus ((try simp [setArgs, Int.not_lt.2 h1, Int.not_le.1 h2]); rfl)) | (refine Wp.cond_t ?_ ?_; focus (simp [setArgs, Int.not_lt.2 h1, Int.not_le.1 h2]; done)) | (refine Wp.cond_f ?_ ?_; focus (simp [setArgs, Int.not_lt.2 h1, Int.not_le.1 h2]; done)) | refine Wp.skip ?_ | refine Wp.ret ?_ | refine Wp.exit ?_ | refine Blk.here ?_ | (refine Blk.past ?_ ?_; focus (simp; done)))
      refine ⟨rfl, ?_⟩
      simp [answer, aresults, aresult, h1, h2]
      exact trim_plain hd rfl
  · repeat' (first | refine Wp.seq ?_ | refine Wp.block ?_ | (apply Wp.region; focus ((try simp [setArgs, Int.not_le.1 h1]); rfl)) | (refine Wp.cond_t ?_ ?_; focus (simp [setArgs, Int.not_le.1 h1]; done)) | (refine Wp.cond_f ?_ ?_; focus (simp [setArgs, Int.not_le.1 h1]; done)) | refine Wp.skip ?_ | refine Wp.ret ?_ | refine Wp.exit ?_ | refine Blk.here ?_ | (refine Blk.past ?_ ?_; focus (simp; done)))
    refine ⟨rfl, ?_⟩
    simp [answer, aresults, aresult, h1]
    exact trim_plain hd rfl

def okP (z : Int) : Prop := -1000000 ≤ z ∧ z ≤ 1000000
instance (z : Int) : Decidable (okP z) := inferInstanceAs (Decidable (_ ∧ _))
def validP (zs : List Int) : Prop := (∀ z, z ∈ zs → okP z) ∧ 1 ≤ zs.length ∧ zs.length ≤ 6
instance (zs : List Int) : Decidable (validP zs) := inferInstanceAs (Decidable (_ ∧ _))

set_option maxRecDepth 10000 in
theorem validPoly (zs : List Int) (hl : zs.length ≤ 1048576) (sto : Sto Sy) (hd : Desc sto.next sto.obs) (hlo : sto.low ≤ sto.next) (a : Nat) (ha : Go.Sx.look sto.obs a = some (ints (nums zs)))
    (m : Nat) (hm : zs.length < m) :
    symRun Try.prog noK Γ (m + 2) 64 [.rsl a 0 zs.length (some zs.length)] sto = some (.bool (decide (validP zs)), sto) := by
  refine own_run rfl Try.func64 rfl rfl ?_
  simp only [Try.f64]
  have hbl : Nat.blt sto.next sto.low = false := by cases h : Nat.blt sto.next sto.low with
    | false => rfl
    | true => rw [Nat.blt_eq] at h; omega
  repeat' (first | refine Wp.seq ?_ | refine Wp.block ?_ | (apply Wp.region; focus ((try simp [setArgs]); rfl)) | (refine Wp.cond_t ?_ ?_; focus (simp [setArgs]; done)) | (refine Wp.cond_f ?_ ?_; focus (simp [setArgs]; done)) | refine Wp.skip ?_ | refine Wp.ret ?_ | refine Wp.exit ?_ | refine Blk.here ?_ | (refine Blk.past ?_ ?_; focus (simp; done)))
  refine Wp.loop rfl (fun i st => st.tm.get .any 0 = .rsl a 0 zs.length (some zs.length) ∧ st.tm.get .any 3 = .int .i64 (.c i) ∧ st.sto = sto ∧ ∀ j (h : j < zs.length), j < i → okP zs[j]) zs.length (by omega) ?_ ?_ ?_
  · simp [setArgs]
  · rintro f i ⟨tm, S⟩ hi ⟨h0, h3, hS, hall⟩
    obtain rfl : S = sto := hS
    simp only at h0 h3
    have hr := fun x lo hi => inRange (Γ := Γ) x lo hi ⟨S.next, S.obs, S.next⟩ hd m
    have hlt : (i : Int) < zs.length := by omega
    have hxi : zs[i]? = some zs[i] := List.getElem?_eq_getElem hi
    have hw := wrap_in (a := (i : Int) + 1) (by omega) (by omega)
    by_cases hok : -1000000 ≤ zs[i] ∧ zs[i] ≤ 1000000
    · repeat' (first | refine Wp.seq ?_ | refine Wp.block ?_ | (apply Wp.region; focus ((try simp [h0, h3, hlt, hxi, hi, hw, ha, hr, hbl, hok]); rfl)) | (refine Wp.cond_t ?_ ?_; focus (simp [h0, h3, hlt, hxi, hi, hw, ha, hr, hbl, hok]; done)) | (refine Wp.cond_f ?_ ?_; focus (simp [h0, h3, hlt, hxi, hi, hw, ha, hr, hbl, hok]; done)) | refine Wp.skip ?_ | refine Wp.ret ?_ | refine Wp.exit ?_ | refine Blk.here ?_ | (refine Blk.past ?_ ?_; focus (simp; done)))
      refine ⟨by simp [h0], by simp, rfl, fun j h hj => ?_⟩
      rcases Nat.lt_succ_iff_lt_or_eq.1 hj with h1 | rfl
      · exact hall j h h1
      · exact hok
    · repeat' (first | refine Wp.seq ?_ | refine Wp.block ?_ | (apply Wp.region; focus ((try simp [h0, h3, hlt, hxi, hi, hw, ha, hr, hbl, hok]); rfl)) | (refine Wp.cond_t ?_ ?_; focus (simp [h0, h3, hlt, hxi, hi, hw, ha, hr, hbl, hok]; done)) | (refine Wp.cond_f ?_ ?_; focus (simp [h0, h3, hlt, hxi, hi, hw, ha, hr, hbl, hok]; done)) | refine Wp.skip ?_ | refine Wp.ret ?_ | refine Wp.exit ?_ | refine Blk.here ?_ | (refine Blk.past ?_ ?_; focus (simp; done)))
      refine ⟨rfl, ?_⟩
      have hno : ¬ validP zs := fun h => hok (h.1 _ (List.getElem_mem hi))
      simp [answer, aresults, aresult, hno]
      exact trim_plain hd rfl
  · rintro f ⟨tm, S⟩ ⟨h0, h3, hS, hall⟩
    obtain rfl : S = sto := hS
    simp only at h0 h3
    have hr := fun x lo hi => inRange (Γ := Γ) x lo hi ⟨S.next, S.obs, S.next⟩ hd m
    repeat' (first | refine Wp.seq ?_ | refine Wp.block ?_ | (apply Wp.region; focus ((try simp [h0, h3, hr, hbl]); rfl)) | (refine Wp.cond_t ?_ ?_; focus (simp [h0, h3, hr, hbl]; done)) | (refine Wp.cond_f ?_ ?_; focus (simp [h0, h3, hr, hbl]; done)) | refine Wp.skip ?_ | refine Wp.ret ?_ | refine Wp.exit ?_ | refine Blk.here ?_ | (refine Blk.past ?_ ?_; focus (simp; done)))
    refine ⟨rfl, ?_⟩
    have hv : (decide ((1 : Int) ≤ zs.length ∧ (zs.length : Int) ≤ 6)) = decide (validP zs) := by
      have : ((1 : Int) ≤ zs.length ∧ (zs.length : Int) ≤ 6) ↔ validP zs := ⟨fun h => ⟨fun z hz => by obtain ⟨j, hj, rfl⟩ := List.mem_iff_getElem.1 hz; exact hall j hj hj, by omega, by omega⟩, fun h => ⟨by have := h.2.1; omega, by have := h.2.2; omega⟩⟩
      simp only [this]
    simp [answer, aresults, aresult, ← hv]
    exact trim_plain hd rfl

/-- The Min of the first numbers of a list. -/
def MinTo (zs : List Int) : Nat → Int
  | 0 => zs.getD 0 0
  | i + 1 => if zs.getD (i + 1) 0 < MinTo zs i then zs.getD (i + 1) 0 else MinTo zs i

set_option maxRecDepth 10000 in
theorem slicesMin (zs : List Int) (h1 : 1 ≤ zs.length) (hl : zs.length ≤ 1048576) (sto : Sto Sy) (hd : Desc sto.next sto.obs) (a : Nat) (ha : Go.Sx.look sto.obs a = some (ints (nums zs)))
    (m : Nat) (hm : zs.length < m) :
    symRun Try.prog noK Γ (m + 1) 62 [.rsl a 0 zs.length (some zs.length)] sto = some (.int .i64 (.c (MinTo zs (zs.length - 1))), sto) := by
  refine own_run rfl Try.func62 rfl rfl ?_
  simp only [Try.f62]
  have h10 : ¬ (zs.length : Int) < 1 := by omega
  have h11 : (0 : Int) < zs.length := by omega
  have hx0 : zs[0]? = some zs[0] := List.getElem?_eq_getElem h1
  have h12 : 0 < zs.length := h1
  have hne : zs ≠ [] := fun e => by rw [e] at h12; cases h12
  repeat' (first | refine Wp.seq ?_ | refine Wp.block ?_ | (apply Wp.region; focus ((try simp [setArgs, h10, h11, hx0, ha, h1, h12, hne]); rfl)) | (refine Wp.cond_t ?_ ?_; focus (simp [setArgs, h10, h11, hx0, ha, h1, h12, hne]; done)) | (refine Wp.cond_f ?_ ?_; focus (simp [setArgs, h10, h11, hx0, ha, h1, h12, hne]; done)) | refine Wp.skip ?_ | refine Wp.ret ?_ | refine Wp.exit ?_ | refine Blk.here ?_ | (refine Blk.past ?_ ?_; focus (simp; done)))
  refine Wp.loop rfl (fun i st => st.tm.get .any 0 = .rsl a 0 zs.length (some zs.length) ∧ st.tm.get .any 4 = .int .i64 (.c ((i : Int) + 1)) ∧ st.tm.get .any 3 = .int .i64 (.c (MinTo zs i)) ∧ st.sto = sto) (zs.length - 1) (by omega) ?_ ?_ ?_
  · simp [setArgs, MinTo, hx0]
  · rintro f i ⟨tm, S⟩ hi ⟨h0, h4, h3, hS⟩
    obtain rfl : S = sto := hS
    simp only at h0 h3 h4
    have hi' : i + 1 < zs.length := by omega
    have hlt : (i : Int) + 1 < zs.length := by omega
    have hge : (0 : Int) ≤ (i : Int) + 1 := by omega
    have hto : ((i : Int) + 1).toNat = i + 1 := by omega
    have hxi : zs[i + 1]? = some zs[i + 1] := List.getElem?_eq_getElem hi'
    have hw := wrap_in (a := (i : Int) + 1 + 1) (by omega) (by omega)
    by_cases hc : zs[i + 1] < MinTo zs i
    · repeat' (first | refine Wp.seq ?_ | refine Wp.block ?_ | (apply Wp.region; focus ((try simp [h0, h3, h4, hlt, hge, hto, hxi, hi', hw, ha, evals, aminmaxL, aminmax, hc]); rfl)) | (refine Wp.cond_t ?_ ?_; focus (simp [h0, h3, h4, hlt, hge, hto, hxi, hi', hw, ha, evals, aminmaxL, aminmax, hc]; done)) | (refine Wp.cond_f ?_ ?_; focus (simp [h0, h3, h4, hlt, hge, hto, hxi, hi', hw, ha, evals, aminmaxL, aminmax, hc]; done)) | refine Wp.skip ?_ | refine Wp.ret ?_ | refine Wp.exit ?_ | refine Blk.here ?_ | (refine Blk.past ?_ ?_; focus (simp; done)))
      simp [h0, MinTo, hxi, hc]
    · repeat' (first | refine Wp.seq ?_ | refine Wp.block ?_ | (apply Wp.region; focus ((try simp [h0, h3, h4, hlt, hge, hto, hxi, hi', hw, ha, evals, aminmaxL, aminmax, hc]); rfl)) | (refine Wp.cond_t ?_ ?_; focus (simp [h0, h3, h4, hlt, hge, hto, hxi, hi', hw, ha, evals, aminmaxL, aminmax, hc]; done)) | (refine Wp.cond_f ?_ ?_; focus (simp [h0, h3, h4, hlt, hge, hto, hxi, hi', hw, ha, evals, aminmaxL, aminmax, hc]; done)) | refine Wp.skip ?_ | refine Wp.ret ?_ | refine Wp.exit ?_ | refine Blk.here ?_ | (refine Blk.past ?_ ?_; focus (simp; done)))
      simp [h0, h3, MinTo, hxi, hc]
  · rintro f ⟨tm, S⟩ ⟨h0, h4, h3, hS⟩
    obtain rfl : S = sto := hS
    simp only at h0 h3 h4
    have hlt : ¬ ((zs.length - 1 : Nat) : Int) + 1 < zs.length := by omega
    repeat' (first | refine Wp.seq ?_ | refine Wp.block ?_ | (apply Wp.region; focus ((try simp [h0, h3, h4, hlt]); rfl)) | (refine Wp.cond_t ?_ ?_; focus (simp [h0, h3, h4, hlt]; done)) | (refine Wp.cond_f ?_ ?_; focus (simp [h0, h3, h4, hlt]; done)) | refine Wp.skip ?_ | refine Wp.ret ?_ | refine Wp.exit ?_ | refine Blk.here ?_ | (refine Blk.past ?_ ?_; focus (simp; done)))
    refine ⟨rfl, ?_⟩
    simp [answer, aresults, aresult]
    exact trim_plain hd rfl

/-- The Max of the first numbers of a list. -/
def MaxTo (zs : List Int) : Nat → Int
  | 0 => zs.getD 0 0
  | i + 1 => if MaxTo zs i < zs.getD (i + 1) 0 then zs.getD (i + 1) 0 else MaxTo zs i

set_option maxRecDepth 10000 in
theorem slicesMax (zs : List Int) (h1 : 1 ≤ zs.length) (hl : zs.length ≤ 1048576) (sto : Sto Sy) (hd : Desc sto.next sto.obs) (a : Nat) (ha : Go.Sx.look sto.obs a = some (ints (nums zs)))
    (m : Nat) (hm : zs.length < m) :
    symRun Try.prog noK Γ (m + 1) 63 [.rsl a 0 zs.length (some zs.length)] sto = some (.int .i64 (.c (MaxTo zs (zs.length - 1))), sto) := by
  refine own_run rfl Try.func63 rfl rfl ?_
  simp only [Try.f63]
  have h10 : ¬ (zs.length : Int) < 1 := by omega
  have h11 : (0 : Int) < zs.length := by omega
  have hx0 : zs[0]? = some zs[0] := List.getElem?_eq_getElem h1
  have h12 : 0 < zs.length := h1
  have hne : zs ≠ [] := fun e => by rw [e] at h12; cases h12
  repeat' (first | refine Wp.seq ?_ | refine Wp.block ?_ | (apply Wp.region; focus ((try simp [setArgs, h10, h11, hx0, ha, h1, h12, hne]); rfl)) | (refine Wp.cond_t ?_ ?_; focus (simp [setArgs, h10, h11, hx0, ha, h1, h12, hne]; done)) | (refine Wp.cond_f ?_ ?_; focus (simp [setArgs, h10, h11, hx0, ha, h1, h12, hne]; done)) | refine Wp.skip ?_ | refine Wp.ret ?_ | refine Wp.exit ?_ | refine Blk.here ?_ | (refine Blk.past ?_ ?_; focus (simp; done)))
  refine Wp.loop rfl (fun i st => st.tm.get .any 0 = .rsl a 0 zs.length (some zs.length) ∧ st.tm.get .any 4 = .int .i64 (.c ((i : Int) + 1)) ∧ st.tm.get .any 3 = .int .i64 (.c (MaxTo zs i)) ∧ st.sto = sto) (zs.length - 1) (by omega) ?_ ?_ ?_
  · simp [setArgs, MaxTo, hx0]
  · rintro f i ⟨tm, S⟩ hi ⟨h0, h4, h3, hS⟩
    obtain rfl : S = sto := hS
    simp only at h0 h3 h4
    have hi' : i + 1 < zs.length := by omega
    have hlt : (i : Int) + 1 < zs.length := by omega
    have hge : (0 : Int) ≤ (i : Int) + 1 := by omega
    have hto : ((i : Int) + 1).toNat = i + 1 := by omega
    have hxi : zs[i + 1]? = some zs[i + 1] := List.getElem?_eq_getElem hi'
    have hw := wrap_in (a := (i : Int) + 1 + 1) (by omega) (by omega)
    by_cases hc : MaxTo zs i < zs[i + 1]
    · repeat' (first | refine Wp.seq ?_ | refine Wp.block ?_ | (apply Wp.region; focus ((try simp [h0, h3, h4, hlt, hge, hto, hxi, hi', hw, ha, evals, aminmaxL, aminmax, hc]); rfl)) | (refine Wp.cond_t ?_ ?_; focus (simp [h0, h3, h4, hlt, hge, hto, hxi, hi', hw, ha, evals, aminmaxL, aminmax, hc]; done)) | (refine Wp.cond_f ?_ ?_; focus (simp [h0, h3, h4, hlt, hge, hto, hxi, hi', hw, ha, evals, aminmaxL, aminmax, hc]; done)) | refine Wp.skip ?_ | refine Wp.ret ?_ | refine Wp.exit ?_ | refine Blk.here ?_ | (refine Blk.past ?_ ?_; focus (simp; done)))
      simp [h0, MaxTo, hxi, hc]
    · repeat' (first | refine Wp.seq ?_ | refine Wp.block ?_ | (apply Wp.region; focus ((try simp [h0, h3, h4, hlt, hge, hto, hxi, hi', hw, ha, evals, aminmaxL, aminmax, hc]); rfl)) | (refine Wp.cond_t ?_ ?_; focus (simp [h0, h3, h4, hlt, hge, hto, hxi, hi', hw, ha, evals, aminmaxL, aminmax, hc]; done)) | (refine Wp.cond_f ?_ ?_; focus (simp [h0, h3, h4, hlt, hge, hto, hxi, hi', hw, ha, evals, aminmaxL, aminmax, hc]; done)) | refine Wp.skip ?_ | refine Wp.ret ?_ | refine Wp.exit ?_ | refine Blk.here ?_ | (refine Blk.past ?_ ?_; focus (simp; done)))
      simp [h0, h3, MaxTo, hxi, hc]
  · rintro f ⟨tm, S⟩ ⟨h0, h4, h3, hS⟩
    obtain rfl : S = sto := hS
    simp only at h0 h3 h4
    have hlt : ¬ ((zs.length - 1 : Nat) : Int) + 1 < zs.length := by omega
    repeat' (first | refine Wp.seq ?_ | refine Wp.block ?_ | (apply Wp.region; focus ((try simp [h0, h3, h4, hlt]); rfl)) | (refine Wp.cond_t ?_ ?_; focus (simp [h0, h3, h4, hlt]; done)) | (refine Wp.cond_f ?_ ?_; focus (simp [h0, h3, h4, hlt]; done)) | refine Wp.skip ?_ | refine Wp.ret ?_ | refine Wp.exit ?_ | refine Blk.here ?_ | (refine Blk.past ?_ ?_; focus (simp; done)))
    refine ⟨rfl, ?_⟩
    simp [answer, aresults, aresult]
    exact trim_plain hd rfl

theorem le_MinTo (zs : List Int) (lo : Int) : ∀ k, lo ≤ MinTo zs k ↔ ∀ j, j ≤ k → lo ≤ zs.getD j 0 := by
  intro k
  induction k with
  | zero => exact ⟨fun h j hj => by obtain rfl : j = 0 := by omega
                                    exact h, fun h => h 0 (by omega)⟩
  | succ k ih =>
    simp only [MinTo]
    constructor
    · intro h j hj
      have hk : lo ≤ MinTo zs k := by split at h <;> omega
      rcases Nat.lt_or_ge j (k + 1) with h1 | h1
      · exact ih.1 hk j (by omega)
      · obtain rfl : j = k + 1 := by omega
        split at h <;> omega
    · intro h
      have h1 := ih.2 (fun j hj => h j (by omega))
      have h2 := h (k + 1) (by omega)
      split <;> assumption
theorem MaxTo_le (zs : List Int) (hi : Int) : ∀ k, MaxTo zs k ≤ hi ↔ ∀ j, j ≤ k → zs.getD j 0 ≤ hi := by
  intro k
  induction k with
  | zero => exact ⟨fun h j hj => by obtain rfl : j = 0 := by omega
                                    exact h, fun h => h 0 (by omega)⟩
  | succ k ih =>
    simp only [MaxTo]
    constructor
    · intro h j hj
      have hk : MaxTo zs k ≤ hi := by split at h <;> omega
      rcases Nat.lt_or_ge j (k + 1) with h1 | h1
      · exact ih.1 hk j (by omega)
      · obtain rfl : j = k + 1 := by omega
        split at h <;> omega
    · intro h
      have h1 := ih.2 (fun j hj => h j (by omega))
      have h2 := h (k + 1) (by omega)
      split <;> assumption
theorem all_getD (zs : List Int) (h1 : 1 ≤ zs.length) (p : Int → Prop) : (∀ j, j ≤ zs.length - 1 → p (zs.getD j 0)) ↔ ∀ z, z ∈ zs → p z := by
  constructor
  · intro h z hz
    obtain ⟨j, hj, rfl⟩ := List.mem_iff_getElem.1 hz
    have := h j (by omega)
    simpa [List.getD, List.getElem?_eq_getElem hj] using this
  · intro h j hj
    have hj' : j < zs.length := by omega
    have := h zs[j] (List.getElem_mem hj')
    simpa [List.getD, List.getElem?_eq_getElem hj'] using this
theorem validP_iff (zs : List Int) (h1 : 1 ≤ zs.length) (h6 : zs.length ≤ 6) : validP zs ↔ -1000000 ≤ MinTo zs (zs.length - 1) ∧ MaxTo zs (zs.length - 1) ≤ 1000000 := by
  rw [le_MinTo, MaxTo_le, all_getD zs h1 (fun z => -1000000 ≤ z), all_getD zs h1 (fun z => z ≤ 1000000)]
  exact ⟨fun h => ⟨fun z hz => (h.1 z hz).1, fun z hz => (h.1 z hz).2⟩, fun h => ⟨fun z hz => ⟨h.1 z hz, h.2 z hz⟩, h1, h6⟩⟩

set_option maxRecDepth 10000 in
theorem implValid (zs : List Int) (hl : zs.length ≤ 1048576) (sto : Sto Sy) (hd : Desc sto.next sto.obs) (hlo : sto.low ≤ sto.next) (a : Nat) (ha : Go.Sx.look sto.obs a = some (ints (nums zs)))
    (m : Nat) (hm : zs.length < m) :
    symRun Try.prog noK Γ (m + 2) 16 [.rsl a 0 zs.length (some zs.length)] sto = some (.bool (decide (validP zs)), sto) := by
  refine own_run rfl Try.func16 rfl rfl ?_
  simp only [Try.f16]
  have hbl : Nat.blt sto.next sto.low = false := by cases h : Nat.blt sto.next sto.low with
    | false => rfl
    | true => rw [Nat.blt_eq] at h; omega
  by_cases h1 : 1 ≤ zs.length
  · have h1i : ¬ (zs.length : Int) < 1 := by omega
    have hne : zs ≠ [] := fun e => by rw [e] at h1; exact absurd h1 (by decide)
    by_cases h6 : zs.length ≤ 6
    · have h6i : ¬ (6 : Int) < zs.length := by omega
      have r1 := slicesMin (Γ := Γ) zs h1 hl ⟨sto.next, sto.obs, sto.next⟩ hd a ha m hm
      have r2 := slicesMax (Γ := Γ) zs h1 hl ⟨sto.next, sto.obs, sto.next⟩ hd a ha m hm
      have hv := validP_iff zs h1 h6
      by_cases h2 : -1000000 ≤ MinTo zs (zs.length - 1)
      · by_cases h3 : MaxTo zs (zs.length - 1) ≤ 1000000
        · repeat' (first | refine Wp.seq ?_ | refine Wp.block ?_ | (apply Wp.region; focus ((try simp [setArgs, h1i, h6i, r1, r2, hbl, Int.not_lt.2 h2, Int.not_lt.2 h3, hne]); rfl)) | (refine Wp.cond_t ?_ ?_; focus (simp [setArgs, h1i, h6i, r1, r2, hbl, Int.not_lt.2 h2, Int.not_lt.2 h3, hne]; done)) | (refine Wp.cond_f ?_ ?_; focus (simp [setArgs, h1i, h6i, r1, r2, hbl, Int.not_lt.2 h2, Int.not_lt.2 h3, hne]; done)) | refine Wp.skip ?_ | refine Wp.ret ?_ | refine Wp.exit ?_ | refine Blk.here ?_ | (refine Blk.past ?_ ?_; focus (simp; done)))
          refine ⟨rfl, ?_⟩
          simp [answer, aresults, aresult, hv.2 ⟨h2, h3⟩]
          exact trim_plain hd rfl
        · repeat' (first | refine Wp.seq ?_ | refine Wp.block ?_ | (apply Wp.region; focus ((try simp [setArgs, h1i, h6i, r1, r2, hbl, Int.not_lt.2 h2, Int.not_le.1 h3, hne]); rfl)) | (refine Wp.cond_t ?_ ?_; focus (simp [setArgs, h1i, h6i, r1, r2, hbl, Int.not_lt.2 h2, Int.not_le.1 h3, hne]; done)) | (refine Wp.cond_f ?_ ?_; focus (simp [setArgs, h1i, h6i, r1, r2, hbl, Int.not_lt.2 h2, Int.not_le.1 h3, hne]; done)) | refine Wp.skip ?_ | refine Wp.ret ?_ | refine Wp.exit ?_ | refine Blk.here ?_ | (refine Blk.past ?_ ?_; focus (simp; done)))
          refine ⟨rfl, ?_⟩
          simp [answer, aresults, aresult, show ¬ validP zs from fun h => h3 (hv.1 h).2]
          exact trim_plain hd rfl
      · repeat' (first | refine Wp.seq ?_ | refine Wp.block ?_ | (apply Wp.region; focus ((try simp [setArgs, h1i, h6i, r1, r2, hbl, Int.not_le.1 h2, hne]); rfl)) | (refine Wp.cond_t ?_ ?_; focus (simp [setArgs, h1i, h6i, r1, r2, hbl, Int.not_le.1 h2, hne]; done)) | (refine Wp.cond_f ?_ ?_; focus (simp [setArgs, h1i, h6i, r1, r2, hbl, Int.not_le.1 h2, hne]; done)) | refine Wp.skip ?_ | refine Wp.ret ?_ | refine Wp.exit ?_ | refine Blk.here ?_ | (refine Blk.past ?_ ?_; focus (simp; done)))
        refine ⟨rfl, ?_⟩
        simp [answer, aresults, aresult, show ¬ validP zs from fun h => h2 (hv.1 h).1]
        exact trim_plain hd rfl
    · have h6i : (6 : Int) < zs.length := by omega
      repeat' (first | refine Wp.seq ?_ | refine Wp.block ?_ | (apply Wp.region; focus ((try simp [setArgs, h1i, h6i, hbl, hne]); rfl)) | (refine Wp.cond_t ?_ ?_; focus (simp [setArgs, h1i, h6i, hbl, hne]; done)) | (refine Wp.cond_f ?_ ?_; focus (simp [setArgs, h1i, h6i, hbl, hne]; done)) | refine Wp.skip ?_ | refine Wp.ret ?_ | refine Wp.exit ?_ | refine Blk.here ?_ | (refine Blk.past ?_ ?_; focus (simp; done)))
      refine ⟨rfl, ?_⟩
      simp [answer, aresults, aresult, show ¬ validP zs from fun h => h6 h.2.2]
      exact trim_plain hd rfl
  · have h1i : (zs.length : Int) < 1 := by omega
    have he : zs = [] := by cases zs with
      | nil => rfl
      | cons x r => exact absurd (by simp) h1
    subst he
    repeat' (first | refine Wp.seq ?_ | refine Wp.block ?_ | (apply Wp.region; focus ((try simp [setArgs, hbl]); rfl)) | (refine Wp.cond_t ?_ ?_; focus (simp [setArgs, hbl]; done)) | (refine Wp.cond_f ?_ ?_; focus (simp [setArgs, hbl]; done)) | refine Wp.skip ?_ | refine Wp.ret ?_ | refine Wp.exit ?_ | refine Blk.here ?_ | (refine Blk.past ?_ ?_; focus (simp; done)))
    refine ⟨rfl, ?_⟩
    simp [answer, aresults, aresult, show ¬ validP [] from fun h => h1 h.2.1]
    exact trim_plain hd rfl

theorem specValid (zs : List Int) (hl : zs.length ≤ 1048576) (sto : Sto Sy) (hd : Desc sto.next sto.obs) (hlo : sto.low ≤ sto.next) (a : Nat) (ha : Go.Sx.look sto.obs a = some (ints (nums zs)))
    (m : Nat) (hm : zs.length < m) :
    symRun Try.prog noK Γ (m + 3) 17 [.rsl a 0 zs.length (some zs.length)] sto = some (.bool (decide (validP zs)), sto) := by
  refine own_run rfl Try.func17 rfl rfl ?_
  simp only [Try.f17]
  have hbl : Nat.blt sto.next sto.low = false := by cases h : Nat.blt sto.next sto.low with
    | false => rfl
    | true => rw [Nat.blt_eq] at h; omega
  have r1 := validPoly (Γ := Γ) zs hl ⟨sto.next, sto.obs, sto.next⟩ hd (Nat.le_refl _) a ha m hm
  repeat' (first | refine Wp.seq ?_ | refine Wp.block ?_ | (apply Wp.region; focus ((try simp [setArgs, r1, hbl]); rfl)) | (refine Wp.cond_t ?_ ?_; focus (simp [setArgs, r1, hbl]; done)) | (refine Wp.cond_f ?_ ?_; focus (simp [setArgs, r1, hbl]; done)) | refine Wp.skip ?_ | refine Wp.ret ?_ | refine Wp.exit ?_ | refine Blk.here ?_ | (refine Blk.past ?_ ?_; focus (simp; done)))
  refine ⟨rfl, ?_⟩
  simp [answer, aresults, aresult]
  exact trim_plain hd rfl
set_option maxRecDepth 10000 in
theorem toIntS (ns : List Sy) (hl : ns.length ≤ 1048576) (sto : Sto Sy) (hlow : sto.low ≤ sto.next) (m : Nat) (hm : ns.length < m)  :
    symRun Try.prog noK Γ (m + 1) 58 [.slice (ints ns)] sto = some (.rsl sto.next 0 ns.length (some ns.length), Sto.trim sto.next (.rsl sto.next 0 ns.length (some ns.length)) ⟨sto.next + 1, (sto.next, ints ns) :: sto.obs, sto.low⟩) := by
  have hb : (24 : Int) * (ns.length : Int) ≤ 140737488355328 ∧ (8 : Int) * (ns.length : Int) ≤ 140737488355328 ∧ (ns.length : Int) ≤ 9223372036854775807 := by omega
  have hlen : ns.length = (List.replicate ns.length (Sy.c 0)).length := by simp
  refine own_run rfl Try.func58 rfl rfl ?_
  simp only [Try.f58]
  repeat' (first | refine Wp.seq ?_ | refine Wp.block ?_ | (apply Wp.region; focus ((try simp [setArgs, hb.2.1, hb.2.2]); rfl)) | (refine Wp.cond_t ?_ ?_; focus (simp [setArgs, hb.2.1, hb.2.2]; done)) | (refine Wp.cond_f ?_ ?_; focus (simp [setArgs, hb.2.1, hb.2.2]; done)) | refine Wp.skip ?_ | refine Wp.ret ?_ | refine Wp.exit ?_ | refine Blk.here ?_ | (refine Blk.past ?_ ?_; focus (simp; done)))
  refine Wp.loop rfl (fun i st => st.tm.get .any 0 = .slice (ints ns) ∧ st.tm.get .any 3 = .rsl sto.next 0 ns.length (some ns.length) ∧ st.tm.get .any 4 = .int .i64 (.c i) ∧
    st.sto = ⟨sto.next + 1, (sto.next, ints (half i ns (List.replicate ns.length (.c 0)))) :: sto.obs, sto.low⟩) ns.length hm ?_ ?_ ?_
  · simp [setArgs, half_zero]
  · rintro f i ⟨tm, S⟩ hi ⟨h0, h3, h4, rfl⟩
    simp only at h0 h3 h4
    have hlt : (i : Int) < ns.length := by omega
    have hxi : ns[i]? = some ns[i] := List.getElem?_eq_getElem hi
    have hw := wrap_in (a := (i : Int) + 1) (by omega) (by omega)
    repeat' (first | refine Wp.seq ?_ | refine Wp.block ?_ | (apply Wp.region; focus ((try simp [h0, h3, h4, hlt, hxi, hi, Nat.succ_le_of_lt hi, half_set, ← hlen, hw]); rfl)) | (refine Wp.cond_t ?_ ?_; focus (simp [h0, h3, h4, hlt, hxi, hi, Nat.succ_le_of_lt hi, half_set, ← hlen, hw]; done)) | (refine Wp.cond_f ?_ ?_; focus (simp [h0, h3, h4, hlt, hxi, hi, Nat.succ_le_of_lt hi, half_set, ← hlen, hw]; done)) | refine Wp.skip ?_ | refine Wp.ret ?_ | refine Wp.exit ?_ | refine Blk.here ?_ | (refine Blk.past ?_ ?_; focus (simp; done)))
    simp [h0, h3, Sto.write, put]
    omega
  · rintro f ⟨tm, S⟩ ⟨h0, h3, h4, rfl⟩
    simp only at h0 h3 h4
    repeat' (first | refine Wp.seq ?_ | refine Wp.block ?_ | (apply Wp.region; focus ((try simp [h0, h3, h4]); rfl)) | (refine Wp.cond_t ?_ ?_; focus (simp [h0, h3, h4]; done)) | (refine Wp.cond_f ?_ ?_; focus (simp [h0, h3, h4]; done)) | refine Wp.skip ?_ | refine Wp.ret ?_ | refine Wp.exit ?_ | refine Blk.here ?_ | (refine Blk.past ?_ ?_; focus (simp; done)))
    refine ⟨rfl, ?_⟩
    simp [answer, aresults, aresult, half_all]
set_option maxRecDepth 10000 in
theorem eqIntS (ns : List Sy) (hl : ns.length ≤ 1048576) (sto : Sto Sy) (hd : Desc sto.next sto.obs) (a b : Nat) (ha : Go.Sx.look sto.obs a = some (ints ns)) (hb : Go.Sx.look sto.obs b = some (ints ns))
    (m : Nat) (hm : ns.length < m)  :
    symRun Try.prog noK Γ (m + 1) 59 [.rsl a 0 ns.length (some ns.length), .rsl b 0 ns.length (some ns.length)] sto = some (.bool true, sto) := by
  refine own_run rfl Try.func59 rfl rfl ?_
  simp only [Try.f59]
  repeat' (first | refine Wp.seq ?_ | refine Wp.block ?_ | (apply Wp.region; focus ((try simp [setArgs]); rfl)) | (refine Wp.cond_t ?_ ?_; focus (simp [setArgs]; done)) | (refine Wp.cond_f ?_ ?_; focus (simp [setArgs]; done)) | refine Wp.skip ?_ | refine Wp.ret ?_ | refine Wp.exit ?_ | refine Blk.here ?_ | (refine Blk.past ?_ ?_; focus (simp; done)))
  refine Wp.loop rfl (fun i st => st.tm.get .any 0 = .rsl a 0 ns.length (some ns.length) ∧ st.tm.get .any 1 = .rsl b 0 ns.length (some ns.length) ∧ st.tm.get .any 5 = .int .i64 (.c i) ∧ st.sto = sto) ns.length hm ?_ ?_ ?_
  · simp [setArgs]
  · rintro f i ⟨tm, S⟩ hi ⟨h0, h1, h5, rfl⟩
    simp only at h0 h1 h5
    have hlt : (i : Int) < ns.length := by omega
    have hxi : ns[i]? = some ns[i] := List.getElem?_eq_getElem hi
    have hw := wrap_in (a := (i : Int) + 1) (by omega) (by omega)
    repeat' (first | refine Wp.seq ?_ | refine Wp.block ?_ | (apply Wp.region; focus ((try simp [h0, h1, h5, hlt, hxi, hi, hw]); rfl)) | (refine Wp.cond_t ?_ ?_; focus (simp [h0, h1, h5, hlt, hxi, hi, hw]; done)) | (refine Wp.cond_f ?_ ?_; focus (simp [h0, h1, h5, hlt, hxi, hi, hw]; done)) | refine Wp.skip ?_ | refine Wp.ret ?_ | refine Wp.exit ?_ | refine Blk.here ?_ | (refine Blk.past ?_ ?_; focus (simp; done)))
    (apply Wp.drawn2 8; (focus kernel_rfl); (focus kernel_rfl); (focus intro F; simp [dhead, seenBy, keepOnly, looks, joinN, addN, bite_eq, Op.operands, takeNew_id hd, ha, hb, h0, h1, h5, hlt, hxi, hi]; exact ⟨rfl, rfl, rfl⟩); (focus (try simp [allN, takeNew_id hd, ha, hb, h0, h1, h5, hlt, hxi, hi]); rfl))
    repeat' (first | refine Wp.seq ?_ | refine Wp.block ?_ | (apply Wp.region; focus ((try simp [h0, h1, h5, hw]); rfl)) | (refine Wp.cond_t ?_ ?_; focus (simp [h0, h1, h5, hw]; done)) | (refine Wp.cond_f ?_ ?_; focus (simp [h0, h1, h5, hw]; done)) | refine Wp.skip ?_ | refine Wp.ret ?_ | refine Wp.exit ?_ | refine Blk.here ?_ | (refine Blk.past ?_ ?_; focus (simp; done)))
    simp [h0, h1]
  · rintro f ⟨tm, S⟩ ⟨h0, h1, h5, rfl⟩
    simp only at h0 h1 h5
    repeat' (first | refine Wp.seq ?_ | refine Wp.block ?_ | (apply Wp.region; focus ((try simp [h0, h1, h5]); rfl)) | (refine Wp.cond_t ?_ ?_; focus (simp [h0, h1, h5]; done)) | (refine Wp.cond_f ?_ ?_; focus (simp [h0, h1, h5]; done)) | refine Wp.skip ?_ | refine Wp.ret ?_ | refine Wp.exit ?_ | refine Blk.here ?_ | (refine Blk.past ?_ ?_; focus (simp; done)))
    refine ⟨rfl, ?_⟩
    simp [answer, aresults, aresult]
    exact trim_plain hd rfl


set_option maxRecDepth 10000 in
theorem law (zs : List Int) (m : Nat) (hm : 1048600 < m) : saysTrue (symRun Try.prog noK Γ (m + 4) 13 [.slice (ints (nums zs))] ⟨0, [], 0⟩) = true := by
  by_cases hl : zs.length ≤ 1048576
  · refine own_says rfl Try.func13 rfl rfl ?_
    simp only [Try.f13]
    have hl1 : ¬ (1048576 : Int) < zs.length := by omega
    have hnl : (nums zs).length = zs.length := nums_length zs
    have t1 := fun (n : Nat) (o : List (Nat × Ob Sy)) (h : Desc n o) => toIntS (Γ := Γ) (nums zs) (by omega) ⟨n, o, n⟩ (Nat.le_refl _) (m + 2) (by omega)
    have t2 := fun (n : Nat) (o : List (Nat × Ob Sy)) (h : Desc n o) => trim_ints (ns := nums zs) (len := zs.length) (cap := some zs.length) (sto := ⟨n, o, n⟩) h (Nat.le_refl _)
    have d0 : Desc 0 ([] : List (Nat × Ob Sy)) := trivial
    have d1 : Desc 1 [(0, ints (nums zs))] := ⟨by decide, trivial⟩
    have d2 : Desc 2 [(1, ints (nums zs)), (0, ints (nums zs))] := ⟨by decide, d1⟩
    have d3 : Desc 3 [(2, ints (nums zs)), (1, ints (nums zs)), (0, ints (nums zs))] := ⟨by decide, d2⟩
    have a1 := t1 0 [] d0
    have a2 := t1 1 _ d1
    have a3 := t1 2 _ d2
    rw [hnl] at a1 a2 a3
    have b1 := t2 0 [] d0
    have b2 := t2 1 _ d1
    have b3 := t2 2 _ d2
    simp only at b1 b2 b3
    rw [b1] at a1
    rw [b2] at a2
    rw [b3] at a3
    have v1 := specValid (Γ := Γ) zs hl ⟨1, [(0, ints (nums zs))], 1⟩ d1 (Nat.le_refl _) 0 (by simp [look_cons]) m (by omega)
    have v2 := implValid (Γ := Γ) zs hl ⟨2, [(1, ints (nums zs)), (0, ints (nums zs))], 2⟩ d2 (Nat.le_refl _) 1 (by simp [look_cons]) (m + 1) (by omega)
    have e1 := eqIntS (Γ := Γ) (nums zs) (by omega) ⟨3, [(2, ints (nums zs)), (1, ints (nums zs)), (0, ints (nums zs))], 3⟩ d3 1 2 (by simp [look_cons]) (by simp [look_cons]) (m + 2) (by omega)
    rw [hnl] at e1
    repeat' (first | refine Wp.seq ?_ | refine Wp.block ?_ | (apply Wp.region; focus ((try simp [setArgs, hl1, hnl, a1, a2, a3, v1, v2, e1, Nat.blt]); rfl)) | (refine Wp.cond_t ?_ ?_; focus (simp [setArgs, hl1, hnl, a1, a2, a3, v1, v2, e1, Nat.blt]; done)) | (refine Wp.cond_f ?_ ?_; focus (simp [setArgs, hl1, hnl, a1, a2, a3, v1, v2, e1, Nat.blt]; done)) | refine Wp.skip ?_ | refine Wp.ret ?_ | refine Wp.exit ?_ | refine Blk.here ?_ | (refine Blk.past ?_ ?_; focus (simp; done)))
    refine ⟨rfl, ?_⟩
    simp [answer, aresults, aresult]
  · refine own_says rfl Try.func13 rfl rfl ?_
    simp only [Try.f13]
    have hl1 : (1048576 : Int) < zs.length := by omega
    repeat' (first | refine Wp.seq ?_ | refine Wp.block ?_ | (apply Wp.region; focus ((try simp [setArgs, hl1]); rfl)) | (refine Wp.cond_t ?_ ?_; focus (simp [setArgs, hl1]; done)) | (refine Wp.cond_f ?_ ?_; focus (simp [setArgs, hl1]; done)) | refine Wp.skip ?_ | refine Wp.ret ?_ | refine Wp.exit ?_ | refine Blk.here ?_ | (refine Blk.past ?_ ?_; focus (simp; done)))
    refine ⟨rfl, ?_⟩
    simp [answer, aresults, aresult]
theorem own : ownKnob Try.prog.godebug = none := by kernel_rfl
theorem laidOut : laidOutB Try.prog = true := by kernel_rfl
theorem noCount : NoCount Try.prog := noCount_of (by kernel_rfl)
theorem mixed : Try.prog.follows .mixedOrders = true := by kernel_rfl

theorem walk {v0 : Value} (zs : List Int) (w : World) (hv : ∀ (ρ : Nat → Int) (s : Nat → List Int → ByteArray), VR ⟨Sy.den ρ, s⟩ w.heap.size ⟨w, fun _ => none⟩ (.slice (ints (nums zs))) v0) :
    Calls Try.prog 13 #[v0] w fun e w' => e = .returned (.bool true) ∧ Below w.heap.size w w' ∧ ∀ a, w'.frozen? a = w.frozen? a := by
  refine calls_true (Δ := ⟨Sy.den (fun _ => 0), fun _ _ => ByteArray.empty⟩) (symRun_ok noCount mixed (Γ := []) (by simp) noK_ok (1048700 + 4)) ?_ (law zs 1048700 (by decide))
  exact .cons (hv _ _) .nil

set_option maxRecDepth 100000 in
theorem lifted (os : Os) (started : os.Started) (H : Type) (enc : TypeId × Value → H) :
    ReturnsInHanded {} Try.checked os 13 .any (Rows.fnExactValidPolySpec.pre6 enc Try.prog Try.f13 Rows.fnExactValidPolyRow.domain false) (Rows.fnExactValidPolySpec.post enc Try.prog Try.f13 false true false false) := by
  refine returnsInHanded_of_change (C := Try.checked) own started (by kernel_rfl) Try.func13
    (ChangeSpec.witness6 (enc := enc) (C := Try.checked) false ⟨#[], #[.slice none 0 0], []⟩ 8 (by kernel_rfl) (by kernel_rfl) (by kernel_rfl) (by kernel_rfl)) ?_
  intro W base args ds gs before hval0 hW hcnd _
  have hval : ∀ (j : Nat) t v, Try.f13.params[j]? = some t → args[j]? = some v → Value.okWide Try.prog W .any base t v := hval0
  have hW' := hW
  obtain ⟨p, q, hA0, hV, rfl, hfz, hnd⟩ := hW
  have hA : DataW.TrodAll enc Try.prog W 0 (fun _ => true) true Try.f13.params.toList args.toList ds p := hA0
  rw [Try.params13] at hA hval
  obtain ⟨v0, vs0, d0, ds0, p0, q0, hargs, rfl, rfl, h0, r0⟩ := trodAll_cons hA
  obtain ⟨rfl, rfl, rfl⟩ := trodAll_nil r0
  obtain rfl : args = #[v0] := by cases args; simp_all
  obtain ⟨rfl, rfl⟩ := trodVars_none hV
  have k0 := h0
  have lt0 : ∀ x ∈ p0, x.block < W.heap.size := by obtain ⟨m, hm⟩ := k0; exact DataW.trod_lt m _ _ _ hm
  obtain ⟨zs, w0, hv⟩ := open_list Try.underlying23 Try.underlying3 (by kernel_rfl) (hval 0 23 v0 rfl rfl) h0
  clear hA0 hval0
  refine (walk zs W hv).mono fun e W' ⟨he, bel, hz⟩ => ?_
  subst he
  exact ⟨_, rfl, _, _, _, [], _, [], hW', trodAll_mk1 (shut_bool Try.underlying4 _), (trodAll_cons_mk (Below.trod laidOut (by kernel_rfl) (of_decide_eq_true (by kernel_rfl)) k0 bel lt0) trodAll_mk0), rfl, bel.frame _, fun h => by cases h⟩

theorem proved : Rows.FnExactValidPolySaid :=
  OpenClaim.holds_of_wide 13 Try.f13 rfl rfl rfl rfl rfl rfl rfl ⟨rfl, rfl, rfl, rfl, rfl⟩ rfl rfl rfl rfl rfl (by kernel_rfl) Try.func13 (by kernel_rfl)
    (of_decide_eq_true (by kernel_rfl)) (by unfold Func.isWrapper; first | (rw [if_pos (by decide +kernel)]; kernel_rfl) | (rw [if_neg (by decide +kernel)]; exact ⟨rfl, rfl⟩))
    (fun os started H enc _ => lifted os started H enc)
#print axioms proved

end Go.Proofs.Ytcnpdjpimaaleaa.VPoly

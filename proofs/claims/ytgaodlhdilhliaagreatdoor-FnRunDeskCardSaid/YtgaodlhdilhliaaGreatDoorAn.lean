/-
  Answers to lines: both sides give the same. No condition.
-/
import Derived.Test.YtgaodlhdilhliaaGreatDoorRows
import Derived.Test.YtgaodlhdilhliaaGreatDoorSym
import Derived.Test.YtgaodlhdilhliaaGreatDoorSymD
import Derived.Test.YtgaodlhdilhliaaGreatDoorSymE
import Derived.Test.YtgaodlhdilhliaaGreatDoorSymF
import Derived.Test.YtgaodlhdilhliaaGreatDoorIds
import Derived.Test.YtgaodlhdilhliaaGreatDoorSh
import Derived.Test.YtgaodlhdilhliaaGreatDoorSt
import Derived.Test.YtgaodlhdilhliaaGreatDoorTel
import Derived.Test.YtgaodlhdilhliaaGreatDoorNum
import Derived.Test.YtgaodlhdilhliaaGreatDoorTx
import Derived.Test.YtgaodlhdilhliaaGreatDoorTy
import Derived.Test.YtgaodlhdilhliaaGreatDoorTg
import Derived.Test.YtgaodlhdilhliaaGreatDoorPe
import Derived.Test.YtgaodlhdilhliaaGreatDoorAx
import Derived.Test.YtgaodlhdilhliaaGreatDoorBp
import Derived.WalkKit
import Derived.ProofKit
import Derived.OpenShut
namespace Go.Proofs.YtgaodlhdilhliaaGreatDoor.St
open Go.ChangeShapes Go.WideShapes Go.ChangeAt Go.RowKit Go.Sx Go.Proofs.YtgaodlhdilhliaaGreatDoor.Ids
set_option linter.unusedVariables false
set_option linter.unusedSimpArgs false

def w0 : ByteArray := ⟨#[101, 120, 112]⟩
def w1 : ByteArray := ⟨#[108, 111, 103]⟩
def w2 : ByteArray := ⟨#[105, 110, 118, 101, 114, 116]⟩
def w3 : ByteArray := ⟨#[114, 101, 118, 101, 114, 115, 101]⟩
def w4 : ByteArray := ⟨#[98, 105, 110, 111, 109, 105, 97, 108]⟩
def w5 : ByteArray := ⟨#[122, 105, 103, 122, 97, 103]⟩
def w6 : ByteArray := ⟨#[104, 97, 110, 107, 101, 108]⟩
noncomputable def wordJ (w : ByteArray) : Option Nat := if w = w0 then some 0 else if w = w1 then some 1 else if w = w2 then some 2 else if w = w3 then some 3 else if w = w4 then some 4 else if w = w5 then some 5 else if w = w6 then some 6 else none
noncomputable def funA (zs : List Int) : Nat → Option (List Int)
  | 0 => Bo.bothF 36 45 [] zs
  | 1 => Bo.bothF 37 46 [] zs
  | 2 => Bo.bothF 38 47 [] zs
  | 3 => Bo.bothF 39 48 [] zs
  | 4 => Bo.bothF 40 50 [1] zs
  | 5 => Bo.bothF 41 51 [] zs
  | 6 => some (Bo.bothL 42 53 zs)
  | _ => none
def fnJ : Nat → FuncId
  | 0 => 45
  | 1 => 46
  | 2 => 47
  | 3 => 48
  | 4 => 49
  | 5 => 51
  | _ => 52
theorem str_eq {a c : ByteArray} : (a.toList == c.toList) = decide (a = c) := by
  by_cases h : a = c
  · subst h; simp
  · rw [decide_eq_false h, beq_eq_false_iff_ne]
    exact fun e => h (ba_ext (by rw [← ba_toList, ← ba_toList]; exact e))
theorem str_ne {a c : ByteArray} (h : ¬ a = c) : (a.toList == c.data.toList) = false := by
  rw [beq_eq_false_iff_ne]
  exact fun e => h (ba_ext (by rw [← ba_toList]; exact e))
attribute [local simp] aops wants aop apure St.eval setTm_some setTm_none Tr.get_set evals pevals apureB alen tiS tiI tiB tiSs tiStr abin aint isCmp sym_lt sym_eqs sym_neqs sym_eq sym_neq sym_gtr sym_leq sym_geq sym_add sym_sub sym_mul aeff aeffB idx? ofV aindexAddr aindex aggDesc aifc_int aun aifc_str
set_option maxRecDepth 10000 in
theorem fun_run (w : ByteArray) {S : Sto Sy} (hS : Wst S) (f : Nat) (hf : 3 ≤ f) :
    acallV (symIn Tryz.prog KL [] f) S (.func 30 [] []) [.str w] = some (match wordJ w with | some j => .tup [.func (fnJ j) [] [], .bool true] | none => .tup [.nilFunc, .bool false], S) := by
  refine call_run hS ?_
  obtain ⟨g, rfl⟩ : ∃ g, f = g + 1 := ⟨f - 1, by omega⟩
  have hS0 : Wst ⟨S.next, S.obs, S.next⟩ := ⟨hS.desc, Nat.le_refl _⟩
  generalize (⟨S.next, S.obs, S.next⟩ : Sto Sy) = S1 at hS0 ⊢
  have hdz := fun v => trim_same hS0.desc v
  refine own_run (by rfl) Tryz.func30 rfl rfl ?_
  simp only [Tryz.f30]
  by_cases h0 : w = w0
  · have e : wordJ w = some 0 := by unfold wordJ; rw [if_pos h0]
    rw [e]
    subst h0
    repeat' (first | refine Wp.seq ?_ | refine Wp.block ?_ | (apply Wp.region; focus ((try simp [setArgs, str_eq, w0]) <;> rfl)) | (refine Wp.cond_t ?_ ?_; focus (simp [setArgs, str_eq, w0]; done)) | (refine Wp.cond_f ?_ ?_; focus (simp [setArgs, str_eq, w0]; done)) | refine Wp.skip ?_ | refine Wp.ret ?_ | refine Wp.exit ?_ | refine Blk.here ?_ | (refine Blk.past ?_ ?_; focus (simp; done)))
    refine ⟨rfl, ?_⟩
    simp [answer, aresults, aresult, hdz, fnJ]
  by_cases h1 : w = w1
  · have e : wordJ w = some 1 := by unfold wordJ; rw [if_neg h0, if_pos h1]
    rw [e]
    subst h1
    repeat' (first | refine Wp.seq ?_ | refine Wp.block ?_ | (apply Wp.region; focus ((try simp [setArgs, str_eq, w1]) <;> rfl)) | (refine Wp.cond_t ?_ ?_; focus (simp [setArgs, str_eq, w1]; done)) | (refine Wp.cond_f ?_ ?_; focus (simp [setArgs, str_eq, w1]; done)) | refine Wp.skip ?_ | refine Wp.ret ?_ | refine Wp.exit ?_ | refine Blk.here ?_ | (refine Blk.past ?_ ?_; focus (simp; done)))
    refine ⟨rfl, ?_⟩
    simp [answer, aresults, aresult, hdz, fnJ]
  by_cases h2 : w = w2
  · have e : wordJ w = some 2 := by unfold wordJ; rw [if_neg h0, if_neg h1, if_pos h2]
    rw [e]
    subst h2
    repeat' (first | refine Wp.seq ?_ | refine Wp.block ?_ | (apply Wp.region; focus ((try simp [setArgs, str_eq, w2]) <;> rfl)) | (refine Wp.cond_t ?_ ?_; focus (simp [setArgs, str_eq, w2]; done)) | (refine Wp.cond_f ?_ ?_; focus (simp [setArgs, str_eq, w2]; done)) | refine Wp.skip ?_ | refine Wp.ret ?_ | refine Wp.exit ?_ | refine Blk.here ?_ | (refine Blk.past ?_ ?_; focus (simp; done)))
    refine ⟨rfl, ?_⟩
    simp [answer, aresults, aresult, hdz, fnJ]
  by_cases h3 : w = w3
  · have e : wordJ w = some 3 := by unfold wordJ; rw [if_neg h0, if_neg h1, if_neg h2, if_pos h3]
    rw [e]
    subst h3
    repeat' (first | refine Wp.seq ?_ | refine Wp.block ?_ | (apply Wp.region; focus ((try simp [setArgs, str_eq, w3]) <;> rfl)) | (refine Wp.cond_t ?_ ?_; focus (simp [setArgs, str_eq, w3]; done)) | (refine Wp.cond_f ?_ ?_; focus (simp [setArgs, str_eq, w3]; done)) | refine Wp.skip ?_ | refine Wp.ret ?_ | refine Wp.exit ?_ | refine Blk.here ?_ | (refine Blk.past ?_ ?_; focus (simp; done)))
    refine ⟨rfl, ?_⟩
    simp [answer, aresults, aresult, hdz, fnJ]
  by_cases h4 : w = w4
  · have e : wordJ w = some 4 := by unfold wordJ; rw [if_neg h0, if_neg h1, if_neg h2, if_neg h3, if_pos h4]
    rw [e]
    subst h4
    repeat' (first | refine Wp.seq ?_ | refine Wp.block ?_ | (apply Wp.region; focus ((try simp [setArgs, str_eq, w4]) <;> rfl)) | (refine Wp.cond_t ?_ ?_; focus (simp [setArgs, str_eq, w4]; done)) | (refine Wp.cond_f ?_ ?_; focus (simp [setArgs, str_eq, w4]; done)) | refine Wp.skip ?_ | refine Wp.ret ?_ | refine Wp.exit ?_ | refine Blk.here ?_ | (refine Blk.past ?_ ?_; focus (simp; done)))
    refine ⟨rfl, ?_⟩
    simp [answer, aresults, aresult, hdz, fnJ]
  by_cases h5 : w = w5
  · have e : wordJ w = some 5 := by unfold wordJ; rw [if_neg h0, if_neg h1, if_neg h2, if_neg h3, if_neg h4, if_pos h5]
    rw [e]
    subst h5
    repeat' (first | refine Wp.seq ?_ | refine Wp.block ?_ | (apply Wp.region; focus ((try simp [setArgs, str_eq, w5]) <;> rfl)) | (refine Wp.cond_t ?_ ?_; focus (simp [setArgs, str_eq, w5]; done)) | (refine Wp.cond_f ?_ ?_; focus (simp [setArgs, str_eq, w5]; done)) | refine Wp.skip ?_ | refine Wp.ret ?_ | refine Wp.exit ?_ | refine Blk.here ?_ | (refine Blk.past ?_ ?_; focus (simp; done)))
    refine ⟨rfl, ?_⟩
    simp [answer, aresults, aresult, hdz, fnJ]
  by_cases h6 : w = w6
  · have e : wordJ w = some 6 := by unfold wordJ; rw [if_neg h0, if_neg h1, if_neg h2, if_neg h3, if_neg h4, if_neg h5, if_pos h6]
    rw [e]
    subst h6
    repeat' (first | refine Wp.seq ?_ | refine Wp.block ?_ | (apply Wp.region; focus ((try simp [setArgs, str_eq, w6]) <;> rfl)) | (refine Wp.cond_t ?_ ?_; focus (simp [setArgs, str_eq, w6]; done)) | (refine Wp.cond_f ?_ ?_; focus (simp [setArgs, str_eq, w6]; done)) | refine Wp.skip ?_ | refine Wp.ret ?_ | refine Wp.exit ?_ | refine Blk.here ?_ | (refine Blk.past ?_ ?_; focus (simp; done)))
    refine ⟨rfl, ?_⟩
    simp [answer, aresults, aresult, hdz, fnJ]
  have e : wordJ w = none := by unfold wordJ; rw [if_neg h0, if_neg h1, if_neg h2, if_neg h3, if_neg h4, if_neg h5, if_neg h6]
  rw [e]
  have q0 := str_ne h0
  have q0 : (w.toList == [101, 120, 112]) = false := q0
  have q1 := str_ne h1
  have q1 : (w.toList == [108, 111, 103]) = false := q1
  have q2 := str_ne h2
  have q2 : (w.toList == [105, 110, 118, 101, 114, 116]) = false := q2
  have q3 := str_ne h3
  have q3 : (w.toList == [114, 101, 118, 101, 114, 115, 101]) = false := q3
  have q4 := str_ne h4
  have q4 : (w.toList == [98, 105, 110, 111, 109, 105, 97, 108]) = false := q4
  have q5 := str_ne h5
  have q5 : (w.toList == [122, 105, 103, 122, 97, 103]) = false := q5
  have q6 := str_ne h6
  have q6 : (w.toList == [104, 97, 110, 107, 101, 108]) = false := q6
  repeat' (first | refine Wp.seq ?_ | refine Wp.block ?_ | (apply Wp.region; focus ((try simp [setArgs, q0, q1, q2, q3, q4, q5, q6]) <;> rfl)) | (refine Wp.cond_t ?_ ?_; focus (simp [setArgs, q0, q1, q2, q3, q4, q5, q6]; done)) | (refine Wp.cond_f ?_ ?_; focus (simp [setArgs, q0, q1, q2, q3, q4, q5, q6]; done)) | refine Wp.skip ?_ | refine Wp.ret ?_ | refine Wp.exit ?_ | refine Blk.here ?_ | (refine Blk.past ?_ ?_; focus (simp; done)))
  refine ⟨rfl, ?_⟩
  simp [answer, aresults, aresult, hdz]
/-- What a call answers that has a contract. -/
def Cls (S S' : Sto Sy) (o : Option (List Int)) (v : V Sy) (b : Bool) : Prop := Gro S S' ∧ ((o = none ∧ v = .nil ∧ b = false) ∨ ∃ ys q, o = some ys ∧ S.next ≤ q ∧ IsL S'.obs q ys v ∧ b = true)
theorem ansK_call {k : FuncId} {args : List (V Sy)} {o : Option (List Int)} {S : Sto Sy} (hS : Wst S) (h : KL k args ⟨S.next, S.obs, S.next⟩ = some (ansR o S.next, ⟨S.next + (ansO o S.next).length, numO S.next (ansO o S.next) S.obs, S.next⟩)) (f : Nat) (hf : 1 ≤ f) (hk : (k : Nat) < 1000000 := by decide) :
    ∃ v b S', acallV (symIn Tryz.prog KL [] f) S (.func k [] []) args = some (.tup [v, .bool b], S') ∧ Cls S S' o v b := by
  obtain ⟨g, rfl⟩ : ∃ g, f = g + 1 := ⟨f - 1, by omega⟩
  cases o with
  | none => exact ⟨.nil, false, S, call_same hS h (g + 1) (by omega) hk, Gro.refl hS, .inl ⟨rfl, rfl, rfl⟩⟩
  | some ys =>
    have h2 := call_K (P := Tryz.prog) (n := g) (hk := hk) h
    rw [if_neg (by have := hS.low; show ¬ S.next < S.low; omega)] at h2
    refine ⟨.rsl S.next 0 ys.length none, true, _, h2, ⟨⟨Nat.lt_succ_self _, hS.desc⟩, Nat.le_succ _, Nat.le_refl _, Nat.le_succ_of_le hS.low, fun k x hk => ?_⟩, .inr ⟨ys, S.next, rfl, Nat.le_refl _, ⟨⟨none, rfl, .inl rfl⟩, ?_⟩, rfl⟩⟩
    · show Go.Sx.look ((S.next, ints (nums ys)) :: S.obs) k = _
      rw [look_cons, if_neg (by have := hS.desc.look_lt hk; omega)]; exact hk
    · show Go.Sx.look ((S.next, ints (nums ys)) :: S.obs) S.next = _
      rw [look_cons, if_pos rfl]
theorem lstK_call {k : FuncId} {args : List (V Sy)} {ys : List Int} {S : Sto Sy} (hS : Wst S) (h : KL k args ⟨S.next, S.obs, S.next⟩ = some (Tel.lstR ys S.next, ⟨S.next + (Tel.lstO ys S.next).length, numO S.next (Tel.lstO ys S.next) S.obs, S.next⟩)) (f : Nat) (hf : 1 ≤ f) (hk : (k : Nat) < 1000000 := by decide) :
    ∃ v S', acallV (symIn Tryz.prog KL [] f) S (.func k [] []) args = some (v, S') ∧ Gro S S' ∧ ∃ q, S.next ≤ q ∧ IsL S'.obs q ys v := by
  obtain ⟨g, rfl⟩ : ∃ g, f = g + 1 := ⟨f - 1, by omega⟩
  have h2 := call_K (P := Tryz.prog) (n := g) (hk := hk) h
  rw [if_neg (by have := hS.low; show ¬ S.next < S.low; omega)] at h2
  refine ⟨.rsl S.next 0 ys.length none, _, h2, ⟨⟨Nat.lt_succ_self _, hS.desc⟩, Nat.le_succ _, Nat.le_refl _, Nat.le_succ_of_le hS.low, fun k x hk => ?_⟩, S.next, Nat.le_refl _, ⟨⟨none, rfl, .inl rfl⟩, ?_⟩⟩
  · show Go.Sx.look ((S.next, ints (nums ys)) :: S.obs) k = _
    rw [look_cons, if_neg (by have := hS.desc.look_lt hk; omega)]; exact hk
  · show Go.Sx.look ((S.next, ints (nums ys)) :: S.obs) S.next = _
    rw [look_cons, if_pos rfl]
section
variable {S : Sto Sy} (hS : Wst S) {zs : List Int} (hz : validP 600 zs) {v : V Sy} (hv : constsOf ⟨S.next, S.obs, S.next⟩ v = some zs) (f : Nat) (hf : 5 ≤ f)
include hS hz hv hf
theorem c_s0 : ∃ v' b S', acallV (symIn Tryz.prog KL [] f) S (.func 36 [] []) [v] = some (.tup [v', .bool b], S') ∧ Cls S S' (funA zs 0) v' b := by
  refine ansK_call hS ?_ f (by omega)
  unfold KL
  repeat (first | rw [swK_at] | rw [swK_ne (by decide)])
  unfold Tel.telK Bo.dBt
  have hc : validP 600 zs ∧ Bo.intsOf [] = some [] := ⟨hz, rfl⟩
  simp only [Nat.beq_refl, bite_true, hv, if_pos hc]
  rfl
theorem c_i0 : ∃ v' b S', acallV (symIn Tryz.prog KL [] f) S (.func 45 [] []) [v] = some (.tup [v', .bool b], S') ∧ Cls S S' (funA zs 0) v' b := by
  refine ansK_call hS ?_ f (by omega)
  unfold KL
  repeat (first | rw [swK_at] | rw [swK_ne (by decide)])
  unfold Tel.telK Bo.dBt
  have hc : validP 600 zs ∧ Bo.intsOf [] = some [] := ⟨hz, rfl⟩
  simp only [Nat.beq_refl, bite_true, hv, if_pos hc]
  rfl
theorem c_s1 : ∃ v' b S', acallV (symIn Tryz.prog KL [] f) S (.func 37 [] []) [v] = some (.tup [v', .bool b], S') ∧ Cls S S' (funA zs 1) v' b := by
  refine ansK_call hS ?_ f (by omega)
  unfold KL
  repeat (first | rw [swK_at] | rw [swK_ne (by decide)])
  unfold Tel.telK Bo.dBt
  have hc : validP 600 zs ∧ Bo.intsOf [] = some [] := ⟨hz, rfl⟩
  simp only [Nat.beq_refl, bite_true, hv, if_pos hc]
  rfl
theorem c_i1 : ∃ v' b S', acallV (symIn Tryz.prog KL [] f) S (.func 46 [] []) [v] = some (.tup [v', .bool b], S') ∧ Cls S S' (funA zs 1) v' b := by
  refine ansK_call hS ?_ f (by omega)
  unfold KL
  repeat (first | rw [swK_at] | rw [swK_ne (by decide)])
  unfold Tel.telK Bo.dBt
  have hc : validP 600 zs ∧ Bo.intsOf [] = some [] := ⟨hz, rfl⟩
  simp only [Nat.beq_refl, bite_true, hv, if_pos hc]
  rfl
theorem c_s2 : ∃ v' b S', acallV (symIn Tryz.prog KL [] f) S (.func 38 [] []) [v] = some (.tup [v', .bool b], S') ∧ Cls S S' (funA zs 2) v' b := by
  refine ansK_call hS ?_ f (by omega)
  unfold KL
  repeat (first | rw [swK_at] | rw [swK_ne (by decide)])
  unfold Tel.telK Bo.dBt
  have hc : validP 600 zs ∧ Bo.intsOf [] = some [] := ⟨hz, rfl⟩
  simp only [Nat.beq_refl, bite_true, hv, if_pos hc]
  rfl
theorem c_i2 : ∃ v' b S', acallV (symIn Tryz.prog KL [] f) S (.func 47 [] []) [v] = some (.tup [v', .bool b], S') ∧ Cls S S' (funA zs 2) v' b := by
  refine ansK_call hS ?_ f (by omega)
  unfold KL
  repeat (first | rw [swK_at] | rw [swK_ne (by decide)])
  unfold Tel.telK Bo.dBt
  have hc : validP 600 zs ∧ Bo.intsOf [] = some [] := ⟨hz, rfl⟩
  simp only [Nat.beq_refl, bite_true, hv, if_pos hc]
  rfl
theorem c_s3 : ∃ v' b S', acallV (symIn Tryz.prog KL [] f) S (.func 39 [] []) [v] = some (.tup [v', .bool b], S') ∧ Cls S S' (funA zs 3) v' b := by
  refine ansK_call hS ?_ f (by omega)
  unfold KL
  repeat (first | rw [swK_at] | rw [swK_ne (by decide)])
  unfold Tel.telK Bo.dBt
  have hc : validP 600 zs ∧ Bo.intsOf [] = some [] := ⟨hz, rfl⟩
  simp only [Nat.beq_refl, bite_true, hv, if_pos hc]
  rfl
theorem c_i3 : ∃ v' b S', acallV (symIn Tryz.prog KL [] f) S (.func 48 [] []) [v] = some (.tup [v', .bool b], S') ∧ Cls S S' (funA zs 3) v' b := by
  refine ansK_call hS ?_ f (by omega)
  unfold KL
  repeat (first | rw [swK_at] | rw [swK_ne (by decide)])
  unfold Tel.telK Bo.dBt
  have hc : validP 600 zs ∧ Bo.intsOf [] = some [] := ⟨hz, rfl⟩
  simp only [Nat.beq_refl, bite_true, hv, if_pos hc]
  rfl
theorem c_s4 : ∃ v' b S', acallV (symIn Tryz.prog KL [] f) S (.func 40 [] []) [v, .int .i64 (.c 1)] = some (.tup [v', .bool b], S') ∧ Cls S S' (funA zs 4) v' b := by
  refine ansK_call hS ?_ f (by omega)
  unfold KL
  repeat (first | rw [swK_at] | rw [swK_ne (by decide)])
  unfold Tel.telK Bo.dBt
  have hc : validP 600 zs ∧ Bo.intsOf [.int .i64 (.c 1)] = some [1] := ⟨hz, rfl⟩
  simp only [Nat.beq_refl, bite_true, hv, if_pos hc]
  rfl
theorem c_i4 : ∃ v' b S', acallV (symIn Tryz.prog KL [] f) S (.func 50 [] []) [v, .int .i64 (.c 1)] = some (.tup [v', .bool b], S') ∧ Cls S S' (funA zs 4) v' b := by
  refine ansK_call hS ?_ f (by omega)
  unfold KL
  repeat (first | rw [swK_at] | rw [swK_ne (by decide)])
  unfold Tel.telK Bo.dBt
  have hc : validP 600 zs ∧ Bo.intsOf [.int .i64 (.c 1)] = some [1] := ⟨hz, rfl⟩
  simp only [Nat.beq_refl, bite_true, hv, if_pos hc]
  rfl
theorem c_s5 : ∃ v' b S', acallV (symIn Tryz.prog KL [] f) S (.func 41 [] []) [v] = some (.tup [v', .bool b], S') ∧ Cls S S' (funA zs 5) v' b := by
  refine ansK_call hS ?_ f (by omega)
  unfold KL
  repeat (first | rw [swK_at] | rw [swK_ne (by decide)])
  unfold Tel.telK Bo.dBt
  have hc : validP 600 zs ∧ Bo.intsOf [] = some [] := ⟨hz, rfl⟩
  simp only [Nat.beq_refl, bite_true, hv, if_pos hc]
  rfl
theorem c_i5 : ∃ v' b S', acallV (symIn Tryz.prog KL [] f) S (.func 51 [] []) [v] = some (.tup [v', .bool b], S') ∧ Cls S S' (funA zs 5) v' b := by
  refine ansK_call hS ?_ f (by omega)
  unfold KL
  repeat (first | rw [swK_at] | rw [swK_ne (by decide)])
  unfold Tel.telK Bo.dBt
  have hc : validP 600 zs ∧ Bo.intsOf [] = some [] := ⟨hz, rfl⟩
  simp only [Nat.beq_refl, bite_true, hv, if_pos hc]
  rfl
theorem c_s6 : ∃ v' S', acallV (symIn Tryz.prog KL [] f) S (.func 42 [] []) [v] = some (v', S') ∧ Gro S S' ∧ ∃ ys q, funA zs 6 = some ys ∧ S.next ≤ q ∧ IsL S'.obs q ys v' := by
  obtain ⟨v', S', h1, h2, q, h3, h4⟩ := lstK_call (ys := Bo.bothL 42 53 zs) (k := 42) (args := [v]) hS (by
    unfold KL
    repeat (first | rw [swK_at] | rw [swK_ne (by decide)])
    unfold Tel.telK Bo.dHn
    simp only [Nat.beq_refl, bite_true, hv, if_pos hz]
    ) f (by omega)
  exact ⟨v', S', h1, h2, _, q, rfl, h3, h4⟩
theorem c_i6 : ∃ v' S', acallV (symIn Tryz.prog KL [] f) S (.func 53 [] []) [v] = some (v', S') ∧ Gro S S' ∧ ∃ ys q, funA zs 6 = some ys ∧ S.next ≤ q ∧ IsL S'.obs q ys v' := by
  obtain ⟨v', S', h1, h2, q, h3, h4⟩ := lstK_call (ys := Bo.bothL 42 53 zs) (k := 53) (args := [v]) hS (by
    unfold KL
    repeat (first | rw [swK_at] | rw [swK_ne (by decide)])
    unfold Tel.telK Bo.dHn
    simp only [Nat.beq_refl, bite_true, hv, if_pos hz]
    ) f (by omega)
  exact ⟨v', S', h1, h2, _, q, rfl, h3, h4⟩
end
theorem fun_bnd {zs : List Int} (hz : validP 600 zs) {j : Nat} (hj : j < 7) {ys : List Int} (h : funA zs j = some ys) : Bo.Bnd ys ∧ 1 ≤ ys.length ∧ ys.length ≤ 6 := by
  have h1 := hz.2.1
  have h6 := hz.2.2
  match j, hj with
  | 0, _ =>
    have := (Bo.bothF_ok (Bo.exp_all hz)).2.2 ys h
    exact ⟨this.2, by omega, by omega⟩
  | 1, _ =>
    have := (Bo.bothF_ok (Bo.log_all hz)).2.2 ys h
    exact ⟨this.2, by omega, by omega⟩
  | 2, _ =>
    have := (Bo.bothF_ok (Bo.inv_all hz)).2.2 ys h
    exact ⟨this.2, by omega, by omega⟩
  | 3, _ =>
    have := (Bo.bothF_ok (Bo.rev_all hz)).2.2 ys h
    exact ⟨this.2, by omega, by omega⟩
  | 4, _ =>
    have := (Bo.bothF_ok (Bo.bin_all hz)).2.2 ys h
    exact ⟨this.2, by omega, by omega⟩
  | 5, _ =>
    have := (Bo.bothF_ok (Bo.zig_all hz)).2.2 ys h
    exact ⟨this.2, by omega, by omega⟩
  | 6, _ =>
    have hb := Bo.bothL_ok (Bo.han_all hz)
    have h : some (Bo.bothL 42 53 zs) = some ys := h
    cases h
    exact ⟨hb.2.2.2.2, hb.2.2.1, hb.2.2.2.1⟩
end Go.Proofs.YtgaodlhdilhliaaGreatDoor.St

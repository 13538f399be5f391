/-
  Numbers that are read, and series that are read, by runs by hand (the document's model). No condition.
-/
import Derived.Test.YtgaodlhdilhliaaGreatDoorRows
import Derived.Test.YtgaodlhdilhliaaGreatDoorSym
import Derived.Test.YtgaodlhdilhliaaGreatDoorSymD
import Derived.Test.YtgaodlhdilhliaaGreatDoorSymE
import Derived.Test.YtgaodlhdilhliaaGreatDoorSymF
import Derived.Test.YtgaodlhdilhliaaGreatDoorIds
import Derived.Test.YtgaodlhdilhliaaGreatDoorSh
import Derived.Test.YtgaodlhdilhliaaGreatDoorShB
import Derived.Test.YtgaodlhdilhliaaGreatDoorSt
import Derived.Test.YtgaodlhdilhliaaGreatDoorSp
import Derived.Test.YtgaodlhdilhliaaGreatDoorTel
import Derived.Test.YtgaodlhdilhliaaGreatDoorNum
import Derived.Test.YtgaodlhdilhliaaGreatDoorTx
import Derived.Test.YtgaodlhdilhliaaGreatDoorTy
import Derived.Test.YtgaodlhdilhliaaGreatDoorTz
import Derived.Test.YtgaodlhdilhliaaGreatDoorSj
import Derived.Test.YtgaodlhdilhliaaGreatDoorAt
import Derived.Test.YtgaodlhdilhliaaGreatDoorPa
import Derived.Test.YtgaodlhdilhliaaGreatDoorCut
import Derived.Test.YtgaodlhdilhliaaGreatDoorPm
import Derived.Test.YtgaodlhdilhliaaGreatDoorPb
import Derived.WalkKit
import Derived.ProofKit
import Derived.OpenShut
namespace Go.Proofs.YtgaodlhdilhliaaGreatDoor.St
open Go.ChangeShapes Go.WideShapes Go.ChangeAt Go.RowKit Go.Sx Go.Proofs.YtgaodlhdilhliaaGreatDoor.Ids
set_option linter.unusedVariables false
set_option linter.unusedSimpArgs false

open Classical in
noncomputable def dB (x : ByteArray) : ByteArray := if isNeg x.data.toList = true then x.extract 1 x.size else x
theorem dB_list (x : ByteArray) : (dB x).data.toList = digs x.data.toList := by
  unfold dB
  cases h : x.data.toList with
  | nil => simp [isNeg, digs, h]
  | cons a r =>
    by_cases ha : a = 45
    · have hs : x.size = r.length + 1 := by rw [size_list, h]; rfl
      rw [if_pos (by simp [isNeg, ha]), ext_list, h, hs]
      simp [digs, ha]
    · rw [if_neg (by simp [isNeg, ha]), h]
      simp [digs, ha]
theorem dB_size (x : ByteArray) : (dB x).size ≤ x.size := by
  rw [size_list, size_list, dB_list]
  cases x.data.toList with
  | nil => simp [digs]
  | cons a r => simp only [digs]; split <;> simp
theorem dB_less (x : ByteArray) : (dB x).size < x.size ↔ isNeg x.data.toList = true := by
  rw [size_list, size_list, dB_list]
  cases x.data.toList with
  | nil => simp [digs, isNeg]
  | cons a r =>
    simp only [digs, isNeg]
    split
    · rename_i h; simp [h]
    · rename_i h; simp [h]
theorem sym_sub8 (a b : Int) : (symNum []).arith .sub .u8 (.c a) (.c b) = some (.c (IntKind.u8.wrap (a - b))) := rfl
theorem wrap8 {a : Int} (h1 : 0 ≤ a) (h2 : a ≤ 255) : IntKind.u8.wrap a = a := by
  have e : IntKind.u8.wrap a = a % 256 := by rfl
  omega
theorem rdN_cons (n : Nat) (a : UInt8) (r : List UInt8) : rdN n (a :: r) = if a.toNat < 48 ∨ 57 < a.toNat ∨ 1000 < n then none else rdN (10 * n + (a.toNat - 48)) r := rfl
attribute [local simp] aops wants aop apure St.eval setTm_some setTm_none Tr.get_set evals pevals apureB alen tiS tiI tiB Draw.tiU tiSs tiStr abin aint isCmp sym_lt sym_eqs sym_neqs sym_eq sym_neq sym_gtr sym_leq sym_geq sym_add sym_sub sym_sub8 sym_mul aeff aeffB idx? ofV aindexAddr aindex aggDesc aifc_int aun aifc_str
theorem ba_toList (s : ByteArray) : s.toList = s.data.toList := Lib.toList_data s
set_option maxRecDepth 10000 in
theorem readNum_run (x : ByteArray) (hx : x.size ≤ 1500000) {S : Sto Sy} (hS : Wst S) (m : Nat) (hm : x.size + 2 < m) :
    symRun Tryz.prog KL [] (m + 1) 61 [.str x] ⟨S.next, S.obs, S.next⟩ = some (.tup [.int .i64 (.c (rdZ x).1), .bool (rdZ x).2], ⟨S.next, S.obs, S.next⟩) := by
  have hS0 : Wst ⟨S.next, S.obs, S.next⟩ := ⟨hS.desc, Nat.le_refl _⟩
  generalize hS1 : (⟨S.next, S.obs, S.next⟩ : Sto Sy) = S1 at hS0 ⊢
  have hN : S1.next = S.next := by rw [← hS1]
  refine own_run (n := m) (by rfl) Tryz.func61 rfl rfl ?_
  simp only [Tryz.f61]
  have hD := dB_list x
  have hDs := dB_size x
  have hDl := dB_less x
  refine Wp.seq ?_
  (apply Wp.region; focus ((try simp [setArgs]) <;> rfl))
  refine Wp.seq ?_
  (apply Wp.region; focus ((try simp [setArgs]) <;> rfl))
  refine Wp.seq (Wp.mono (Qn := fun st => st.tm.get .any 0 = .str x ∧ st.tm.get .any 4 = .str (dB x) ∧ st.sto = S1) (fun st h => ?_) (fun _ _ h => h) ?_)
  · obtain ⟨tm, T⟩ := st
    obtain ⟨h0, h4, rfl⟩ := h
    simp only at h0 h4
    generalize dB x = D at hD hDs hDl h4
    have hDlen : D.data.toList.length = D.size := (size_list D).symm
    repeat' (first | refine Wp.seq ?_ | refine Wp.block ?_ | (apply Wp.region; focus ((try simp [h0, h4]) <;> rfl)) | (refine Wp.cond_t ?_ ?_; focus (simp [h0, h4]; done)) | (refine Wp.cond_f ?_ ?_; focus (simp [h0, h4]; done)) | refine Wp.skip ?_ | refine Wp.ret ?_ | refine Wp.exit ?_ | refine Blk.here ?_ | (refine Blk.past ?_ ?_; focus (simp; done)))
    refine Wp.loop rfl rfl (fun i st => st.tm.get .any 0 = .str x ∧ st.tm.get .any 4 = .str D ∧ st.tm.get .any 6 = .int .i64 (.c i) ∧ st.sto = T ∧ ∃ u : Nat, st.tm.get .any 5 = .int .i64 (.c (u : Int)) ∧ u ≤ 10009 ∧ rdN 0 D.data.toList = rdN u (D.data.toList.drop i)) D.size (by omega) ?_ ?_ ?_
    · exact ⟨by simp [h0], by simp [h4], by simp, rfl, 0, by simp, by omega, rfl⟩
    · rintro f i ⟨tm, T⟩ hi ⟨h0, h4, h6, rfl, u, h5, hu, hrd⟩
      simp only at h0 h4 h6 h5
      have hlt : (i : Int) < D.size := by omega
      have hw := wrap_in (a := (i : Int) + 1) (by omega) (by omega)
      have hil : i < D.data.toList.length := by omega
      have hxi := str_at hi
      rw [List.drop_eq_getElem_cons hil, rdN_cons] at hrd
      generalize D.data.toList[i] = b at hxi hrd
      have hb := b.toNat_lt
      by_cases c1 : b.toNat < 48
      · have c1' : (b.toNat : Int) < 48 := by omega
        rw [if_pos (.inl c1)] at hrd
        repeat' (first | refine Wp.seq ?_ | refine Wp.block ?_ | (apply Wp.region; focus ((try simp [h0, h4, h6, h5, hlt, hxi, c1']) <;> rfl)) | (refine Wp.cond_t ?_ ?_; focus (simp [h0, h4, h6, h5, hlt, hxi, c1']; done)) | (refine Wp.cond_f ?_ ?_; focus (simp [h0, h4, h6, h5, hlt, hxi, c1']; done)) | refine Wp.skip ?_ | refine Wp.ret ?_ | refine Wp.exit ?_ | refine Blk.here ?_ | (refine Blk.past ?_ ?_; focus (simp; done)))
        have e : rdZ x = (0, false) := by unfold rdZ; rw [← hD, hrd]
        refine ⟨rfl, ?_⟩
        simp [answer, aresults, aresult, e]
        exact trim_plain hS0.desc rfl
      have c1' : ¬ (b.toNat : Int) < 48 := by omega
      by_cases c2 : 57 < b.toNat
      · have c2' : (57 : Int) < b.toNat := by omega
        rw [if_pos (.inr (.inl c2))] at hrd
        repeat' (first | refine Wp.seq ?_ | refine Wp.block ?_ | (apply Wp.region; focus ((try simp [h0, h4, h6, h5, hlt, hxi, c1', c2']) <;> rfl)) | (refine Wp.cond_t ?_ ?_; focus (simp [h0, h4, h6, h5, hlt, hxi, c1', c2']; done)) | (refine Wp.cond_f ?_ ?_; focus (simp [h0, h4, h6, h5, hlt, hxi, c1', c2']; done)) | refine Wp.skip ?_ | refine Wp.ret ?_ | refine Wp.exit ?_ | refine Blk.here ?_ | (refine Blk.past ?_ ?_; focus (simp; done)))
        have e : rdZ x = (0, false) := by unfold rdZ; rw [← hD, hrd]
        refine ⟨rfl, ?_⟩
        simp [answer, aresults, aresult, e]
        exact trim_plain hS0.desc rfl
      have c2' : ¬ (57 : Int) < b.toNat := by omega
      by_cases c3 : 1000 < u
      · have c3' : (1000 : Int) < u := by omega
        rw [if_pos (.inr (.inr c3))] at hrd
        repeat' (first | refine Wp.seq ?_ | refine Wp.block ?_ | (apply Wp.region; focus ((try simp [h0, h4, h6, h5, hlt, hxi, c1', c2', c3']) <;> rfl)) | (refine Wp.cond_t ?_ ?_; focus (simp [h0, h4, h6, h5, hlt, hxi, c1', c2', c3']; done)) | (refine Wp.cond_f ?_ ?_; focus (simp [h0, h4, h6, h5, hlt, hxi, c1', c2', c3']; done)) | refine Wp.skip ?_ | refine Wp.ret ?_ | refine Wp.exit ?_ | refine Blk.here ?_ | (refine Blk.past ?_ ?_; focus (simp; done)))
        have e : rdZ x = (0, false) := by unfold rdZ; rw [← hD, hrd]
        refine ⟨rfl, ?_⟩
        simp [answer, aresults, aresult, e]
        exact trim_plain hS0.desc rfl
      have c3' : ¬ (1000 : Int) < u := by omega
      rw [if_neg (by omega)] at hrd
      have e1 : (b.toNat : Int) - 48 = ((b.toNat - 48 : Nat) : Int) := by omega
      have w8 : IntKind.u8.wrap ((b.toNat : Int) - 48) = ((b.toNat - 48 : Nat) : Int) := by rw [e1]; exact wrap8 (by omega) (by omega)
      have hcv := Draw.cvU ((b.toNat - 48 : Nat) : Int) ⟨by omega, by omega⟩
      have w1 := wrap_in (a := 10 * (u : Int)) (by omega) (by omega)
      have w2 : IntKind.i64.wrap (10 * (u : Int) + ((b.toNat - 48 : Nat) : Int)) = ((10 * u + (b.toNat - 48) : Nat) : Int) := by rw [wrap_in (by omega) (by omega)]; omega
      generalize hv : b.toNat - 48 = v at *
      repeat' (first | refine Wp.seq ?_ | refine Wp.block ?_ | (apply Wp.region; focus ((try simp [h0, h4, h6, h5, hlt, hxi, c1', c2', c3', w8, hcv, w1, w2, hw]) <;> rfl)) | (refine Wp.cond_t ?_ ?_; focus (simp [h0, h4, h6, h5, hlt, hxi, c1', c2', c3', w8, hcv, w1, w2, hw]; done)) | (refine Wp.cond_f ?_ ?_; focus (simp [h0, h4, h6, h5, hlt, hxi, c1', c2', c3', w8, hcv, w1, w2, hw]; done)) | refine Wp.skip ?_ | refine Wp.ret ?_ | refine Wp.exit ?_ | refine Blk.here ?_ | (refine Blk.past ?_ ?_; focus (simp; done)))
      exact ⟨by simp [h0], by simp [h4], by simp, rfl, 10 * u + v, by simp, by omega, hrd⟩
    · rintro f ⟨tm, T⟩ ⟨h0, h4, h6, rfl, u, h5, hu, hrd⟩
      simp only at h0 h4 h6 h5
      rw [List.drop_of_length_le (by omega)] at hrd
      have hrd : rdN 0 D.data.toList = some u := hrd
      have e : rdZ x = (if isNeg x.data.toList then -(u : Int) else u, decide (digs x.data.toList ≠ [] ∧ textZ (if isNeg x.data.toList then -(u : Int) else u) = x)) := by
        unfold rdZ
        rw [← hD, hrd]
      have key : ∀ n : Int, (-10009 ≤ n ∧ n ≤ 10009) → ∀ b : Bool, b = decide (D.data.toList ≠ [] ∧ textZ n = x) → True := fun _ _ _ _ => trivial
      by_cases hn : isNeg x.data.toList = true
      · have hl : (D.size : Int) < x.size := by have := hDl.2 hn; omega
        have wn := wrap_in (a := -(u : Int)) (by omega) (by omega)
        have hc := c_num hS0 m (by omega) (z := -(u : Int)) ⟨by omega, by omega⟩
        rw [if_pos hn] at e
        by_cases h1 : D.data.toList = []
        · have h1' : D.toList = [] := by rw [ba_toList]; exact h1
          repeat' (first | refine Wp.seq ?_ | refine Wp.block ?_ | (apply Wp.region; focus ((try simp [h0, h4, h6, h5, hl, wn, h1']) <;> rfl)) | (refine Wp.cond_t ?_ ?_; focus (simp [h0, h4, h6, h5, hl, wn, h1']; done)) | (refine Wp.cond_f ?_ ?_; focus (simp [h0, h4, h6, h5, hl, wn, h1']; done)) | refine Wp.skip ?_ | refine Wp.ret ?_ | refine Wp.exit ?_ | refine Blk.here ?_ | (refine Blk.past ?_ ?_; focus (simp; done)))
          refine ⟨rfl, ?_⟩
          rw [← hD, h1] at e
          simp [answer, aresults, aresult, e]
          exact trim_plain hS0.desc rfl
        · have h1' : D.toList.isEmpty = false := by
            rw [ba_toList]
            cases hq : D.data.toList with
            | nil => exact absurd hq h1
            | cons a r => rfl
          by_cases h2 : textZ (-(u : Int)) = x
          · have h2' : (textZ (-(u : Int))).toList = x.toList := by rw [h2]
            repeat' (first | refine Wp.seq ?_ | refine Wp.block ?_ | (apply Wp.region; focus ((try simp [h0, h4, h6, h5, hl, wn, h1', hc, h2']) <;> rfl)) | (refine Wp.cond_t ?_ ?_; focus (simp [h0, h4, h6, h5, hl, wn, h1', hc, h2']; done)) | (refine Wp.cond_f ?_ ?_; focus (simp [h0, h4, h6, h5, hl, wn, h1', hc, h2']; done)) | refine Wp.skip ?_ | refine Wp.ret ?_ | refine Wp.exit ?_ | refine Blk.here ?_ | (refine Blk.past ?_ ?_; focus (simp; done)))
            refine ⟨rfl, ?_⟩
            rw [← hD, decide_eq_true (And.intro h1 h2)] at e
            simp [answer, aresults, aresult, e]
            exact trim_plain hS0.desc rfl
          · have h2' : ¬ (textZ (-(u : Int))).toList = x.toList := fun e => h2 (ba_ext (by rw [← ba_toList, ← ba_toList]; exact e))
            repeat' (first | refine Wp.seq ?_ | refine Wp.block ?_ | (apply Wp.region; focus ((try simp [h0, h4, h6, h5, hl, wn, h1', hc, h2']) <;> rfl)) | (refine Wp.cond_t ?_ ?_; focus (simp [h0, h4, h6, h5, hl, wn, h1', hc, h2']; done)) | (refine Wp.cond_f ?_ ?_; focus (simp [h0, h4, h6, h5, hl, wn, h1', hc, h2']; done)) | refine Wp.skip ?_ | refine Wp.ret ?_ | refine Wp.exit ?_ | refine Blk.here ?_ | (refine Blk.past ?_ ?_; focus (simp; done)))
            refine ⟨rfl, ?_⟩
            rw [decide_eq_false (fun h => h2 h.2)] at e
            simp [answer, aresults, aresult, e, beq_eq_false_iff_ne.2 h2']
            exact trim_plain hS0.desc rfl
      · have hl : ¬ (D.size : Int) < x.size := by have h9 : ¬ D.size < x.size := fun h => hn (hDl.1 h); omega
        have hc := c_num hS0 m (by omega) (z := (u : Int)) ⟨by omega, by omega⟩
        rw [if_neg hn] at e
        by_cases h1 : D.data.toList = []
        · have h1' : D.toList = [] := by rw [ba_toList]; exact h1
          repeat' (first | refine Wp.seq ?_ | refine Wp.block ?_ | (apply Wp.region; focus ((try simp [h0, h4, h6, h5, hl, h1']) <;> rfl)) | (refine Wp.cond_t ?_ ?_; focus (simp [h0, h4, h6, h5, hl, h1']; done)) | (refine Wp.cond_f ?_ ?_; focus (simp [h0, h4, h6, h5, hl, h1']; done)) | refine Wp.skip ?_ | refine Wp.ret ?_ | refine Wp.exit ?_ | refine Blk.here ?_ | (refine Blk.past ?_ ?_; focus (simp; done)))
          refine ⟨rfl, ?_⟩
          rw [← hD, h1] at e
          simp [answer, aresults, aresult, e]
          exact trim_plain hS0.desc rfl
        · have h1' : D.toList.isEmpty = false := by
            rw [ba_toList]
            cases hq : D.data.toList with
            | nil => exact absurd hq h1
            | cons a r => rfl
          by_cases h2 : textZ (u : Int) = x
          · have h2' : (textZ (u : Int)).toList = x.toList := by rw [h2]
            repeat' (first | refine Wp.seq ?_ | refine Wp.block ?_ | (apply Wp.region; focus ((try simp [h0, h4, h6, h5, hl, h1', hc, h2']) <;> rfl)) | (refine Wp.cond_t ?_ ?_; focus (simp [h0, h4, h6, h5, hl, h1', hc, h2']; done)) | (refine Wp.cond_f ?_ ?_; focus (simp [h0, h4, h6, h5, hl, h1', hc, h2']; done)) | refine Wp.skip ?_ | refine Wp.ret ?_ | refine Wp.exit ?_ | refine Blk.here ?_ | (refine Blk.past ?_ ?_; focus (simp; done)))
            refine ⟨rfl, ?_⟩
            rw [← hD, decide_eq_true (And.intro h1 h2)] at e
            simp [answer, aresults, aresult, e]
            exact trim_plain hS0.desc rfl
          · have h2' : ¬ (textZ (u : Int)).toList = x.toList := fun e => h2 (ba_ext (by rw [← ba_toList, ← ba_toList]; exact e))
            repeat' (first | refine Wp.seq ?_ | refine Wp.block ?_ | (apply Wp.region; focus ((try simp [h0, h4, h6, h5, hl, h1', hc, h2']) <;> rfl)) | (refine Wp.cond_t ?_ ?_; focus (simp [h0, h4, h6, h5, hl, h1', hc, h2']; done)) | (refine Wp.cond_f ?_ ?_; focus (simp [h0, h4, h6, h5, hl, h1', hc, h2']; done)) | refine Wp.skip ?_ | refine Wp.ret ?_ | refine Wp.exit ?_ | refine Blk.here ?_ | (refine Blk.past ?_ ?_; focus (simp; done)))
            refine ⟨rfl, ?_⟩
            rw [decide_eq_false (fun h => h2 h.2)] at e
            simp [answer, aresults, aresult, e, beq_eq_false_iff_ne.2 h2']
            exact trim_plain hS0.desc rfl
  · by_cases h0 : x.size = 0
    · have hz : ¬ (0 : Int) < x.size := by omega
      have hl : x.data.toList = [] := List.eq_nil_of_length_eq_zero (by rw [← size_list]; exact h0)
      have hd : dB x = x := by unfold dB; rw [hl, if_neg (by simp [isNeg])]
      rw [hd]
      repeat' (first | refine Wp.seq ?_ | refine Wp.block ?_ | (apply Wp.region; focus ((try simp [setArgs, hz, h0]) <;> rfl)) | (refine Wp.cond_t ?_ ?_; focus (simp [setArgs, hz, h0]; done)) | (refine Wp.cond_f ?_ ?_; focus (simp [setArgs, hz, h0]; done)) | refine Wp.skip ?_ | refine Wp.ret ?_ | refine Wp.exit ?_ | refine Blk.here ?_ | (refine Blk.past ?_ ?_; focus (simp; done)))
      exact ⟨by simp [setArgs], by simp, rfl⟩
    · have hz : (0 : Int) < x.size := by omega
      have hp : 0 < x.size := by omega
      obtain ⟨a, hxi, hne⟩ : ∃ a : UInt8, x[0]? = some a ∧ isNeg x.data.toList = decide (a = 45) := by
        have hxi := str_at (s := x) (i := 0) (by omega)
        refine ⟨_, hxi, ?_⟩
        have hh : ∀ (l : List UInt8) (hl : 0 < l.length), isNeg l = decide (l[0] = 45) := fun l hl => by
          cases l with
          | nil => simp at hl
          | cons a r => simp [isNeg]
        exact hh _ _
      have hx0 : ∀ h : 0 < x.size, x[0]'h = a := fun h => by rw [getElem?_pos x 0 h] at hxi; exact Option.some.inj hxi
      by_cases ha : a = 45
      · have hd : dB x = x.extract 1 x.size := by unfold dB; rw [hne, if_pos (decide_eq_true ha)]
        have hs := sl_from (s := x) (l := 1) (by omega)
        rw [show ((1 : Nat) : Int) = 1 from rfl] at hs
        rw [hd]
        subst ha
        repeat' (first | refine Wp.seq ?_ | refine Wp.block ?_ | (apply Wp.region; focus ((try simp [setArgs, hz, hp, hx0, oeval, hs]) <;> rfl)) | (refine Wp.cond_t ?_ ?_; focus (simp [setArgs, hz, hp, hx0, oeval, hs]; done)) | (refine Wp.cond_f ?_ ?_; focus (simp [setArgs, hz, hp, hx0, oeval, hs]; done)) | refine Wp.skip ?_ | refine Wp.ret ?_ | refine Wp.exit ?_ | refine Blk.here ?_ | (refine Blk.past ?_ ?_; focus (simp; done)))
        exact ⟨by simp [setArgs], by simp, rfl⟩
      · have hd : dB x = x := by unfold dB; rw [hne, if_neg (by simp [ha])]
        have ha2 : ¬ (a.toNat : Int) = 45 := fun e => ha (UInt8.toNat_inj.1 (by show a.toNat = 45; omega))
        rw [hd]
        repeat' (first | refine Wp.seq ?_ | refine Wp.block ?_ | (apply Wp.region; focus ((try simp [setArgs, hz, hp, hx0, ha2, ha]) <;> rfl)) | (refine Wp.cond_t ?_ ?_; focus (simp [setArgs, hz, hp, hx0, ha2, ha]; done)) | (refine Wp.cond_f ?_ ?_; focus (simp [setArgs, hz, hp, hx0, ha2, ha]; done)) | refine Wp.skip ?_ | refine Wp.ret ?_ | refine Wp.exit ?_ | refine Blk.here ?_ | (refine Blk.past ?_ ?_; focus (simp; done)))
        exact ⟨by simp [setArgs], by simp, rfl⟩
end Go.Proofs.YtgaodlhdilhliaaGreatDoor.St

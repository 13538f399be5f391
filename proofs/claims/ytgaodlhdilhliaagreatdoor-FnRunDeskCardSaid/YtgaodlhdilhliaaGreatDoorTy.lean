/-
  Texts of series: both sides make the same, by runs by hand. No condition.
-/
import Derived.Test.YtgaodlhdilhliaaGreatDoorRows
import Derived.Test.YtgaodlhdilhliaaGreatDoorSym
import Derived.Test.YtgaodlhdilhliaaGreatDoorSymD
import Derived.Test.YtgaodlhdilhliaaGreatDoorSymE
import Derived.Test.YtgaodlhdilhliaaGreatDoorSymF
import Derived.Test.YtgaodlhdilhliaaGreatDoorIds
import Derived.Test.YtgaodlhdilhliaaGreatDoorSh
import Derived.Test.YtgaodlhdilhliaaGreatDoorSt
import Derived.Test.YtgaodlhdilhliaaGreatDoorTel
import Derived.Test.YtgaodlhdilhliaaGreatDoorNum
import Derived.Test.YtgaodlhdilhliaaGreatDoorTx
import Derived.WalkKit
import Derived.ProofKit
import Derived.OpenShut
namespace Go.Proofs.YtgaodlhdilhliaaGreatDoor.St
open Go.ChangeShapes Go.WideShapes Go.ChangeAt Go.RowKit Go.Sx Go.Proofs.YtgaodlhdilhliaaGreatDoor.Ids
set_option linter.unusedVariables false
set_option linter.unusedSimpArgs false

def comma : ByteArray := ⟨#[44]⟩
noncomputable def accT (zs : List Int) : Nat → ByteArray
  | 0 => ⟨#[]⟩
  | i + 1 => (if 0 < i then accT zs i ++ comma else accT zs i) ++ textZ (zs.getD i 0)
theorem dig_len (u : Nat) : (digN u).length ≤ 3 := by
  unfold digN
  rw [bite_eq, bite_eq]
  split
  · simp
  · split <;> simp
theorem text_size {z : Int} (h : -600 ≤ z ∧ z ≤ 600) : (textZ z).size ≤ 4 := by
  have e : (textZ z).size = (Lib.itoa z).length := by unfold textZ; simp [ByteArray.size]
  rw [e]
  unfold Lib.itoa
  split
  · rw [digN_eq (by omega), List.length_cons, List.length_map]
    have := dig_len z.natAbs; omega
  · rw [digN_eq (by omega), List.length_map]
    have := dig_len z.toNat; omega
theorem getD_at {zs : List Int} {i : Nat} (h : i < zs.length) : zs.getD i 0 = zs[i] := by simp [List.getD, h]
theorem acc_size {zs : List Int} (h : ∀ z, z ∈ zs → -600 ≤ z ∧ z ≤ 600) : ∀ i, i ≤ zs.length → (accT zs i).size ≤ 5 * i
  | 0, _ => by simp [accT, ByteArray.size]
  | i + 1, hi => by
    have ih := acc_size h i (by omega)
    have ht := text_size (h (zs.getD i 0) (by rw [getD_at (by omega)]; exact List.getElem_mem (by omega)))
    unfold accT
    rw [ByteArray.size_append]
    split
    · rw [ByteArray.size_append]
      have : comma.size = 1 := rfl
      omega
    · omega
theorem acc_join (zs : List Int) : ∀ i, i ≤ zs.length → accT zs i = joinB ((zs.take i).map textZ) comma
  | 0, _ => by simp [accT, joinB, Lib.join_nil]
  | i + 1, hi => by
    have ih := acc_join zs i (by omega)
    have e : zs.take (i + 1) = zs.take i ++ [zs.getD i 0] := by rw [getD_at (by omega), List.take_succ_eq_append_getElem (by omega)]
    unfold accT
    rw [e, ih]
    generalize zs.getD i 0 = z
    by_cases h : 0 < i
    · rw [if_pos h]
      cases hc : zs.take i with
      | nil =>
        have hl : (zs.take i).length = i := by rw [List.length_take]; omega
        rw [hc] at hl
        simp at hl
        omega
      | cons a r =>
        apply ByteArray.ext
        apply Array.toList_inj.1
        simp [joinB, Lib.join_cons, Lib.joinTail, comma, ByteArray.data_append]
    · rw [if_neg h]
      have h0 : i = 0 := by omega
      subst h0
      apply ByteArray.ext
      apply Array.toList_inj.1
      simp [joinB, Lib.join_nil, Lib.join_one, ByteArray.data_append]
theorem join_small {zs : List Int} (h : ∀ z, z ∈ zs → -600 ≤ z ∧ z ≤ 600) (h6 : zs.length ≤ 6) : (Lib.join ((zs.map textZ).map (·.data.toList)) comma.data.toList).length ≤ 140737488355328 := by
  have e := acc_join zs zs.length (Nat.le_refl _)
  rw [List.take_length] at e
  have hs := acc_size h zs.length (Nat.le_refl _)
  rw [e] at hs
  unfold joinB ByteArray.size at hs
  simp only [List.size_toArray] at hs
  omega
theorem loadI {S : Sto Sy} {q i : Nat} {zs : List Int} {x : Int} (h : Go.Sx.look S.obs q = some (ints (nums zs))) (hi : zs[i]? = some x) : aload (tiOf Tryz.prog) S 3 (.ptr q i) = some (.int .i64 (.c x)) := by
  have h2 := lookC_ints h
  simp only [aload, tiI, h2, aggDesc]
  rw [if_neg (by decide), ints_get, nums_get, hi]
  rfl
attribute [local simp] aops wants aop apure St.eval setTm_some setTm_none Tr.get_set evals pevals apureB alen tiS tiI tiB abin aint isCmp sym_lt sym_eqs sym_neqs sym_eq sym_neq sym_gtr sym_leq sym_geq sym_add sym_sub sym_mul aeff aeffB idx? ofV aindexAddr aggDesc aifc_int aun aifc_str
theorem call_run1 {k : FuncId} {args : List (V Sy)} {S : Sto Sy} {r : V Sy} {n : Nat} (hS : Wst S) (h : symRun Tryz.prog KL [] n k args ⟨S.next, S.obs, S.next⟩ = some (r, ⟨S.next + 1, S.obs, S.next⟩)) (hk : (k : Nat) < 1000000 := by decide) : acallV (symIn Tryz.prog KL [] n) S (.func k [] []) args = some (r, ⟨S.next + 1, S.obs, S.low⟩) := by
  rw [acallV_func hk, List.nil_append, List.append_nil, symIn_run hk, h]
  show some (r, (⟨S.next + 1, S.obs, if Nat.blt S.next S.low then S.next else S.low⟩ : Sto Sy)) = _
  simp only [Nat.blt_eq]
  rw [if_neg (by have := hS.low; omega)]
set_option maxRecDepth 10000 in
theorem specText (zs : List Int) (hz : ∀ z, z ∈ zs → -600 ≤ z ∧ z ≤ 600) (h6 : zs.length ≤ 6) {S : Sto Sy} (hS : Wst S) {q : Nat} {cp : Option Nat} (hl : Go.Sx.look S.obs q = some (ints (nums zs))) (f : Nat) (hf : 20 ≤ f) :
    acallV (symIn Tryz.prog KL [] f) S (.func 20 [] []) [.rsl q 0 zs.length cp] = some (.str (accT zs zs.length), S) := by
  refine call_run hS ?_
  obtain ⟨g, rfl⟩ : ∃ g, f = g + 1 := ⟨f - 1, by omega⟩
  have hS0 : Wst ⟨S.next, S.obs, S.next⟩ := ⟨hS.desc, Nat.le_refl _⟩
  generalize hS1 : (⟨S.next, S.obs, S.next⟩ : Sto Sy) = S1 at hS0
  have hl1 : Go.Sx.look S1.obs q = some (ints (nums zs)) := by rw [← hS1]; exact hl
  have hn1 : S1.low = S1.next := by rw [← hS1]
  refine own_run (by rfl) Tryz.func20 rfl rfl ?_
  simp only [Tryz.f20]
  repeat' (first | refine Wp.seq ?_ | refine Wp.block ?_ | (apply Wp.region; focus ((try simp [setArgs]) <;> rfl)) | (refine Wp.cond_t ?_ ?_; focus (simp [setArgs]; done)) | (refine Wp.cond_f ?_ ?_; focus (simp [setArgs]; done)) | refine Wp.skip ?_ | refine Wp.ret ?_ | refine Wp.exit ?_ | refine Blk.here ?_ | (refine Blk.past ?_ ?_; focus (simp; done)))
  refine Wp.loop rfl rfl (fun i st => st.tm.get .any 0 = .rsl q 0 zs.length cp ∧ st.tm.get .any 3 = .str (accT zs i) ∧ st.tm.get .any 4 = .int .i64 (.c i) ∧ st.sto = S1) zs.length (by omega) ?_ ?_ ?_
  · simp [setArgs, accT]
  · rintro f i ⟨tm, T⟩ hi ⟨h0, h3, h4, rfl⟩
    simp only at h0 h3 h4
    have hlt : (i : Int) < zs.length := by omega
    have hw := wrap_in (a := (i : Int) + 1) (by omega) (by omega)
    have ld : aload (tiOf Tryz.prog) T 3 (.ptr q i) = some (.int .i64 (.c zs[i])) := loadI hl1 (List.getElem?_eq_getElem hi)
    have hzi := hz zs[i] (List.getElem_mem hi)
    have hc := c_num hS0 g (by omega) (z := zs[i]) ⟨by omega, by omega⟩
    have hs1 := acc_size hz i (by omega)
    have hs2 := text_size hzi
    have hs3 : (ByteArray.mk #[44]).size = 1 := rfl
    have e : accT zs (i + 1) = (if 0 < i then accT zs i ++ comma else accT zs i) ++ textZ zs[i] := by
      show (if 0 < i then _ else _) ++ textZ (zs.getD i 0) = _
      rw [getD_at hi]
    generalize hA : accT zs i = A at h3 hs1 e
    by_cases h0i : 0 < i
    · rw [if_pos h0i] at e
      have hA2 : (A ++ comma).size = A.size + 1 := by rw [ByteArray.size_append]; rfl
      have g1 : A.size + (ByteArray.mk #[44]).size ≤ 9223372036854775807 := by omega
      have g2 : (A ++ ByteArray.mk #[44]).size + (textZ zs[i]).size ≤ 9223372036854775807 := by have : (A ++ ByteArray.mk #[44]).size = A.size + 1 := hA2; omega
      have h0z : (0 : Int) < i := by omega
      have g3 : A.size + (ByteArray.mk #[44]).size + (textZ zs[i]).size ≤ 9223372036854775807 := by omega
      repeat' (first | refine Wp.seq ?_ | refine Wp.block ?_ | (apply Wp.region; focus ((try simp [h0, h3, h4, hlt, hi, ld, hc, hw, g1, g3, h0z, h0i]) <;> rfl)) | (refine Wp.cond_t ?_ ?_; focus (simp [h0, h3, h4, hlt, hi, ld, hc, hw, g1, g3, h0z, h0i]; done)) | (refine Wp.cond_f ?_ ?_; focus (simp [h0, h3, h4, hlt, hi, ld, hc, hw, g1, g3, h0z, h0i]; done)) | refine Wp.skip ?_ | refine Wp.ret ?_ | refine Wp.exit ?_ | refine Blk.here ?_ | (refine Blk.past ?_ ?_; focus (simp; done)))
      exact ⟨by simp [h0], by simp [e, comma], by simp, rfl⟩
    · rw [if_neg h0i] at e
      have hi0 : i = 0 := by omega
      have g2 : A.size + (textZ zs[i]).size ≤ 9223372036854775807 := by omega
      have h0z : ¬ (0 : Int) < i := by omega
      repeat' (first | refine Wp.seq ?_ | refine Wp.block ?_ | (apply Wp.region; focus ((try simp [h0, h3, h4, hlt, hi, ld, hc, hw, g2, h0z, h0i]) <;> rfl)) | (refine Wp.cond_t ?_ ?_; focus (simp [h0, h3, h4, hlt, hi, ld, hc, hw, g2, h0z, h0i]; done)) | (refine Wp.cond_f ?_ ?_; focus (simp [h0, h3, h4, hlt, hi, ld, hc, hw, g2, h0z, h0i]; done)) | refine Wp.skip ?_ | refine Wp.ret ?_ | refine Wp.exit ?_ | refine Blk.here ?_ | (refine Blk.past ?_ ?_; focus (simp; done)))
      exact ⟨by simp [h0], by simp [e], by simp, rfl⟩
  · rintro f ⟨tm, T⟩ ⟨h0, h3, h4, rfl⟩
    simp only at h0 h3 h4
    repeat' (first | refine Wp.seq ?_ | refine Wp.block ?_ | (apply Wp.region; focus ((try simp [h0, h3, h4]) <;> rfl)) | (refine Wp.cond_t ?_ ?_; focus (simp [h0, h3, h4]; done)) | (refine Wp.cond_f ?_ ?_; focus (simp [h0, h3, h4]; done)) | refine Wp.skip ?_ | refine Wp.ret ?_ | refine Wp.exit ?_ | refine Blk.here ?_ | (refine Blk.past ?_ ?_; focus (simp; done)))
    refine ⟨rfl, ?_⟩
    simp [answer, aresults, aresult, h3]
    exact trim_plain hS0.desc rfl

/-! ## impl.textOf -/
noncomputable def halfT (zs : List Int) (i : Nat) : List ByteArray := (List.range zs.length).map fun j => if j < i then textZ (zs.getD j 0) else ⟨#[]⟩
theorem halfT_len (zs : List Int) (i : Nat) : (halfT zs i).length = zs.length := by simp [halfT]
theorem halfT_zero (zs : List Int) : strs (halfT zs 0) = List.replicate zs.length (V.str ⟨#[]⟩) := by
  refine List.ext_getElem? (fun j => ?_)
  simp only [strs, halfT, List.map_map, List.getElem?_map, List.getElem?_range', List.getElem?_replicate]
  by_cases h : j < zs.length
  · simp [h]
  · simp [h]
theorem halfT_all (zs : List Int) : halfT zs zs.length = zs.map textZ := by
  refine List.ext_getElem? (fun j => ?_)
  simp only [halfT, List.getElem?_map]
  by_cases h : j < zs.length
  · simp [h, List.getD]
  · simp [h]
theorem halfT_set (zs : List Int) (i : Nat) (hi : i < zs.length) : (strs (halfT zs i)).set i (.str (textZ zs[i])) = strs (halfT zs (i + 1)) := by
  refine List.ext_getElem? (fun j => ?_)
  rw [List.getElem?_set]
  by_cases hj : i = j
  · subst hj
    rw [if_pos rfl, if_pos (by simp [strs, halfT_len, hi])]
    simp [strs, halfT, hi, List.getD]
  · rw [if_neg hj]
    simp only [strs, halfT, List.getElem?_map]
    by_cases h : j < zs.length
    · have e : (j < i) = (j < i + 1) := propext ⟨fun h => by omega, fun h => by omega⟩
      simp [h, e]
    · simp [h]
noncomputable def Wt (S : Sto Sy) (zs : List Int) (i : Nat) : Sto Sy := ⟨S.next + 1, (S.next, strs (halfT zs i)) :: S.obs, S.low⟩
theorem Wt_step {S : Sto Sy} (hn : S.low = S.next) {zs : List Int} {i : Nat} (hi : i < zs.length) : astore (tiOf Tryz.prog) (Wt S zs i) 9 (.ptr S.next i) (.str (textZ zs[i])) = some (Wt S zs (i + 1)) := by
  have tiSr : tiOf Tryz.prog 9 = some ⟨.string, 1, 16, .string ⟨#[]⟩, true⟩ := by kernel_rfl
  have h2 : lookC (Wt S zs i).obs S.next = some (strs (halfT zs i)) := lookC_iff.2 ⟨by unfold Wt; rw [look_cons, if_pos rfl], strs_nm _⟩
  have h1 : i + 1 ≤ (strs (halfT zs i)).length := by simp [strs, halfT_len]; omega
  simp only [astore, tiSr, V.cells, h2, List.length_cons, List.length_nil, true_and, List.all_cons, List.all_nil, V.oneCell, Bool.and_self, and_true, Nat.zero_add]
  rw [if_pos h1]
  simp only [setRange, halfT_set zs i hi, Sto.write, noBc_strs]
  unfold Wt
  simp [put, hn]
set_option maxRecDepth 10000 in
theorem implText (zs : List Int) (hz : ∀ z, z ∈ zs → -600 ≤ z ∧ z ≤ 600) (h1 : 1 ≤ zs.length) (h6 : zs.length ≤ 6) {S : Sto Sy} (hS : Wst S) {q : Nat} {cp : Option Nat} (hl : Go.Sx.look S.obs q = some (ints (nums zs))) (f : Nat) (hf : 20 ≤ f) :
    acallV (symIn Tryz.prog KL [] f) S (.func 33 [] []) [.rsl q 0 zs.length cp] = some (.str (joinB (zs.map textZ) comma), ⟨S.next + 1, S.obs, S.low⟩) := by
  refine call_run1 hS ?_
  obtain ⟨g, rfl⟩ : ∃ g, f = g + 1 := ⟨f - 1, by omega⟩
  have hS0 : Wst ⟨S.next, S.obs, S.next⟩ := ⟨hS.desc, Nat.le_refl _⟩
  generalize hS1 : (⟨S.next, S.obs, S.next⟩ : Sto Sy) = S1 at hS0
  have hl1 : Go.Sx.look S1.obs q = some (ints (nums zs)) := by rw [← hS1]; exact hl
  have hn1 : S1.low = S1.next := by rw [← hS1]
  have hR : (⟨S.next + 1, S.obs, S.next⟩ : Sto Sy) = ⟨S1.next + 1, S1.obs, S1.low⟩ := by rw [← hS1]
  rw [hR]
  refine own_run (by rfl) Tryz.func33 rfl rfl ?_
  simp only [Tryz.f33]
  have tiSs : tiOf Tryz.prog 23 = some ⟨.slice 9, 1, 24, .slice none 0 0, true⟩ := by kernel_rfl
  have tiSr : tiOf Tryz.prog 9 = some ⟨.string, 1, 16, .string ⟨#[]⟩, true⟩ := by kernel_rfl
  have hb : (16 : Int) * (zs.length : Int) ≤ 140737488355328 ∧ (zs.length : Int) ≤ 9223372036854775807 ∧ (0 : Int) ≤ zs.length := by omega
  have hlq := hS0.desc.look_lt hl1
  repeat' (first | refine Wp.seq ?_ | refine Wp.block ?_ | (apply Wp.region; focus ((try simp [setArgs, tiSs, tiSr, amakeSlice, hb.1, hb.2.1, hb.2.2, V.oneCell]) <;> rfl)) | (refine Wp.cond_t ?_ ?_; focus (simp [setArgs, tiSs, tiSr, amakeSlice, hb.1, hb.2.1, hb.2.2, V.oneCell]; done)) | (refine Wp.cond_f ?_ ?_; focus (simp [setArgs, tiSs, tiSr, amakeSlice, hb.1, hb.2.1, hb.2.2, V.oneCell]; done)) | refine Wp.skip ?_ | refine Wp.ret ?_ | refine Wp.exit ?_ | refine Blk.here ?_ | (refine Blk.past ?_ ?_; focus (simp; done)))
  refine Wp.loop rfl rfl (fun i st => st.tm.get .any 3 = .rsl S1.next 0 zs.length (some zs.length) ∧ st.tm.get .any 9 = .rsl q 0 zs.length cp ∧ st.tm.get .any 10 = .int .i64 (.c zs.length) ∧ st.tm.get .any 11 = .int .i64 (.c i) ∧ st.sto = Wt S1 zs i) zs.length (by omega) ?_ ?_ ?_
  · refine ⟨by simp, by simp, by simp, by simp, ?_⟩
    show Sto.new S1 _ = _
    unfold Sto.new Wt
    rw [← halfT_zero, noBc_strs]
  · rintro f i ⟨tm, T⟩ hi ⟨h3, h9, h10, h11, rfl⟩
    simp only at h3 h9 h10 h11
    have hlt : (i : Int) < zs.length := by omega
    have hw := wrap_in (a := (i : Int) + 1) (by omega) (by omega)
    have hlw : Go.Sx.look (Wt S1 zs i).obs q = some (ints (nums zs)) := by unfold Wt; rw [look_cons, if_neg (by omega)]; exact hl1
    have ld : aload (tiOf Tryz.prog) (Wt S1 zs i) 3 (.ptr q i) = some (.int .i64 (.c zs[i])) := loadI hlw (List.getElem?_eq_getElem hi)
    have hzi := hz zs[i] (List.getElem_mem hi)
    have hWs : Wst (Wt S1 zs i) := ⟨⟨Nat.lt_succ_self _, hS0.desc⟩, Nat.le_succ_of_le hS0.low⟩
    have hc := c_itoa hWs g (by omega) (z := zs[i]) (wrap_in (by omega) (by omega))
    have st := Wt_step hn1 hi
    generalize Wt S1 zs (i + 1) = W' at st
    generalize Wt S1 zs i = W at ld hc st
    repeat' (first | refine Wp.seq ?_ | refine Wp.block ?_ | (apply Wp.region; focus ((try simp [h3, h9, h10, h11, hlt, hi, ld, hc, st, hw, tiSs, tiSr]) <;> rfl)) | (refine Wp.cond_t ?_ ?_; focus (simp [h3, h9, h10, h11, hlt, hi, ld, hc, st, hw, tiSs, tiSr]; done)) | (refine Wp.cond_f ?_ ?_; focus (simp [h3, h9, h10, h11, hlt, hi, ld, hc, st, hw, tiSs, tiSr]; done)) | refine Wp.skip ?_ | refine Wp.ret ?_ | refine Wp.exit ?_ | refine Blk.here ?_ | (refine Blk.past ?_ ?_; focus (simp; done)))
    exact ⟨by simp [h3], by simp [h9], by simp [h10], by simp, rfl⟩
  · rintro f ⟨tm, T⟩ ⟨h3, h9, h10, h11, rfl⟩
    simp only at h3 h9 h10 h11
    have hWs : Wst (Wt S1 zs zs.length) := ⟨⟨Nat.lt_succ_self _, hS0.desc⟩, Nat.le_succ_of_le hS0.low⟩
    have hjl : (Lib.join ((zs.map textZ).map (·.data.toList)) comma.data.toList).length ≤ 140737488355328 := join_small hz h6
    have hj := c_join hWs g (by omega) (q := S1.next) (n := zs.length) (cap := some zs.length) (sep := comma) (xs := zs.map textZ) ⟨by show Go.Sx.look ((S1.next, strs (halfT zs zs.length)) :: S1.obs) S1.next = _; rw [look_cons, if_pos rfl, halfT_all], by simp, .inr rfl, by simp; omega, hjl⟩
    have ht : Sto.trim S1.next (.str (joinB (zs.map textZ) comma)) (Wt S1 zs zs.length) = ⟨S1.next + 1, S1.obs, S1.low⟩ := by
      unfold Sto.trim Wt
      rw [if_neg (by rw [Nat.blt_eq]; show ¬ S1.low < S1.next; omega)]
      simp only [V.refs, dropNew]
      rw [if_neg (by rw [Nat.blt_eq]; omega), dropNew_id hS0.desc]
    generalize Wt S1 zs zs.length = W at hj ht
    have ec : comma = ByteArray.mk #[44] := rfl
    rw [ec] at hj ht ⊢
    repeat' (first | refine Wp.seq ?_ | refine Wp.block ?_ | (apply Wp.region; focus ((try simp [h3, h9, h10, h11, hj]) <;> rfl)) | (refine Wp.cond_t ?_ ?_; focus (simp [h3, h9, h10, h11, hj]; done)) | (refine Wp.cond_f ?_ ?_; focus (simp [h3, h9, h10, h11, hj]; done)) | refine Wp.skip ?_ | refine Wp.ret ?_ | refine Wp.exit ?_ | refine Blk.here ?_ | (refine Blk.past ?_ ?_; focus (simp; done)))
    refine ⟨rfl, ?_⟩
    simp [answer, aresults, aresult]
    exact ht
end Go.Proofs.YtgaodlhdilhliaaGreatDoor.St

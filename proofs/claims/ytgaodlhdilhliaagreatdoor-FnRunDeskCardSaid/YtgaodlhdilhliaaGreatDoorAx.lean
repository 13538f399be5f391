/-
  Texts of numbers of any size: both sides make the same. No condition.
-/
import Derived.Test.YtgaodlhdilhliaaGreatDoorRows
import Derived.Test.YtgaodlhdilhliaaGreatDoorSym
import Derived.Test.YtgaodlhdilhliaaGreatDoorSymD
import Derived.Test.YtgaodlhdilhliaaGreatDoorSymE
import Derived.Test.YtgaodlhdilhliaaGreatDoorSymF
import Derived.Test.YtgaodlhdilhliaaGreatDoorIds
import Derived.Test.YtgaodlhdilhliaaGreatDoorSh
import Derived.Test.YtgaodlhdilhliaaGreatDoorSt
import Derived.Test.YtgaodlhdilhliaaGreatDoorTel
import Derived.Test.YtgaodlhdilhliaaGreatDoorNum
import Derived.Test.YtgaodlhdilhliaaGreatDoorTx
import Derived.Test.YtgaodlhdilhliaaGreatDoorTy
import Derived.Test.YtgaodlhdilhliaaGreatDoorTg
import Derived.Test.YtgaodlhdilhliaaGreatDoorPe
import Derived.Test.YtgaodlhdilhliaaGreatDoorBp
import Derived.WalkKit
import Derived.ProofKit
import Derived.OpenShut
namespace Go.Proofs.YtgaodlhdilhliaaGreatDoor.St
open Go.ChangeShapes Go.WideShapes Go.ChangeAt Go.RowKit Go.Sx Go.Proofs.YtgaodlhdilhliaaGreatDoor.Ids
set_option linter.unusedVariables false
set_option linter.unusedSimpArgs false

theorem join_smallG {zs : List Int} (h : Bo.Bnd zs) (h6 : zs.length ≤ 6) : (Lib.join ((zs.map textZ).map (·.data.toList)) comma.data.toList).length ≤ 140737488355328 := by
  have e := acc_join zs zs.length (Nat.le_refl _)
  rw [List.take_length] at e
  have hs := acc_sizeG h zs.length (Nat.le_refl _)
  rw [e] at hs
  unfold joinB ByteArray.size at hs
  simp only [List.size_toArray] at hs
  omega
theorem joinT_size {zs : List Int} (h : Bo.Bnd zs) (h6 : zs.length ≤ 6) : (joinB (zs.map textZ) comma).size ≤ 200 := by
  have e := acc_join zs zs.length (Nat.le_refl _)
  rw [List.take_length] at e
  have hs := acc_sizeG h zs.length (Nat.le_refl _)
  rw [e] at hs
  omega
attribute [local simp] aops wants aop apure St.eval setTm_some setTm_none Tr.get_set evals pevals apureB alen tiS tiI tiB abin aint isCmp sym_lt sym_eqs sym_neqs sym_eq sym_neq sym_gtr sym_leq sym_geq sym_add sym_sub sym_mul aeff aeffB idx? ofV aindexAddr aggDesc aifc_int aun aifc_str
set_option maxRecDepth 10000 in
theorem implTextG (zs : List Int) (hz : Bo.Bnd zs) (h1 : 1 ≤ zs.length) (h6 : zs.length ≤ 6) {S : Sto Sy} (hS : Wst S) {q : Nat} {cp : Option Nat} (hl : Go.Sx.look S.obs q = some (ints (nums zs))) (f : Nat) (hf : 20 ≤ f) :
    acallV (symIn Tryz.prog KL [] f) S (.func 33 [] []) [.rsl q 0 zs.length cp] = some (.str (joinB (zs.map textZ) comma), ⟨S.next + 1, S.obs, S.low⟩) := by
  refine call_run1 hS ?_
  obtain ⟨g, rfl⟩ : ∃ g, f = g + 1 := ⟨f - 1, by omega⟩
  have hS0 : Wst ⟨S.next, S.obs, S.next⟩ := ⟨hS.desc, Nat.le_refl _⟩
  generalize hS1 : (⟨S.next, S.obs, S.next⟩ : Sto Sy) = S1 at hS0
  have hl1 : Go.Sx.look S1.obs q = some (ints (nums zs)) := by rw [← hS1]; exact hl
  have hn1 : S1.low = S1.next := by rw [← hS1]
  have hR : (⟨S.next + 1, S.obs, S.next⟩ : Sto Sy) = ⟨S1.next + 1, S1.obs, S1.low⟩ := by rw [← hS1]
  rw [hR]
  refine own_run (by rfl) Tryz.func33 rfl rfl ?_
  simp only [Tryz.f33]
  have tiSs : tiOf Tryz.prog 23 = some ⟨.slice 9, 1, 24, .slice none 0 0, true⟩ := by kernel_rfl
  have tiSr : tiOf Tryz.prog 9 = some ⟨.string, 1, 16, .string ⟨#[]⟩, true⟩ := by kernel_rfl
  have hb : (16 : Int) * (zs.length : Int) ≤ 140737488355328 ∧ (zs.length : Int) ≤ 9223372036854775807 ∧ (0 : Int) ≤ zs.length := by omega
  have hlq := hS0.desc.look_lt hl1
  repeat' (first | refine Wp.seq ?_ | refine Wp.block ?_ | (apply Wp.region; focus ((try simp [setArgs, tiSs, tiSr, amakeSlice, hb.1, hb.2.1, hb.2.2, V.oneCell]) <;> rfl)) | (refine Wp.cond_t ?_ ?_; focus (simp [setArgs, tiSs, tiSr, amakeSlice, hb.1, hb.2.1, hb.2.2, V.oneCell]; done)) | (refine Wp.cond_f ?_ ?_; focus (simp [setArgs, tiSs, tiSr, amakeSlice, hb.1, hb.2.1, hb.2.2, V.oneCell]; done)) | refine Wp.skip ?_ | refine Wp.ret ?_ | refine Wp.exit ?_ | refine Blk.here ?_ | (refine Blk.past ?_ ?_; focus (simp; done)))
  refine Wp.loop rfl rfl (fun i st => st.tm.get .any 3 = .rsl S1.next 0 zs.length (some zs.length) ∧ st.tm.get .any 9 = .rsl q 0 zs.length cp ∧ st.tm.get .any 10 = .int .i64 (.c zs.length) ∧ st.tm.get .any 11 = .int .i64 (.c i) ∧ st.sto = Wt S1 zs i) zs.length (by omega) ?_ ?_ ?_
  · refine ⟨by simp, by simp, by simp, by simp, ?_⟩
    show Sto.new S1 _ = _
    unfold Sto.new Wt
    rw [← halfT_zero, noBc_strs]
  · rintro f i ⟨tm, T⟩ hi ⟨h3, h9, h10, h11, rfl⟩
    simp only at h3 h9 h10 h11
    have hlt : (i : Int) < zs.length := by omega
    have hw := wrap_in (a := (i : Int) + 1) (by omega) (by omega)
    have hlw : Go.Sx.look (Wt S1 zs i).obs q = some (ints (nums zs)) := by unfold Wt; rw [look_cons, if_neg (by omega)]; exact hl1
    have ld : aload (tiOf Tryz.prog) (Wt S1 zs i) 3 (.ptr q i) = some (.int .i64 (.c zs[i])) := loadI hlw (List.getElem?_eq_getElem hi)
    have hzi := hz zs[i] (List.getElem_mem hi)
    have hWs : Wst (Wt S1 zs i) := ⟨⟨Nat.lt_succ_self _, hS0.desc⟩, Nat.le_succ_of_le hS0.low⟩
    have hc := c_itoa hWs g (by omega) (z := zs[i]) (wrap_in (by omega) (by omega))
    have st := Wt_step hn1 hi
    generalize Wt S1 zs (i + 1) = W' at st
    generalize Wt S1 zs i = W at ld hc st
    repeat' (first | refine Wp.seq ?_ | refine Wp.block ?_ | (apply Wp.region; focus ((try simp [h3, h9, h10, h11, hlt, hi, ld, hc, st, hw, tiSs, tiSr]) <;> rfl)) | (refine Wp.cond_t ?_ ?_; focus (simp [h3, h9, h10, h11, hlt, hi, ld, hc, st, hw, tiSs, tiSr]; done)) | (refine Wp.cond_f ?_ ?_; focus (simp [h3, h9, h10, h11, hlt, hi, ld, hc, st, hw, tiSs, tiSr]; done)) | refine Wp.skip ?_ | refine Wp.ret ?_ | refine Wp.exit ?_ | refine Blk.here ?_ | (refine Blk.past ?_ ?_; focus (simp; done)))
    exact ⟨by simp [h3], by simp [h9], by simp [h10], by simp, rfl⟩
  · rintro f ⟨tm, T⟩ ⟨h3, h9, h10, h11, rfl⟩
    simp only at h3 h9 h10 h11
    have hWs : Wst (Wt S1 zs zs.length) := ⟨⟨Nat.lt_succ_self _, hS0.desc⟩, Nat.le_succ_of_le hS0.low⟩
    have hjl : (Lib.join ((zs.map textZ).map (·.data.toList)) comma.data.toList).length ≤ 140737488355328 := join_smallG hz h6
    have hj := c_join hWs g (by omega) (q := S1.next) (n := zs.length) (cap := some zs.length) (sep := comma) (xs := zs.map textZ) ⟨by show Go.Sx.look ((S1.next, strs (halfT zs zs.length)) :: S1.obs) S1.next = _; rw [look_cons, if_pos rfl, halfT_all], by simp, .inr rfl, by simp; omega, hjl⟩
    have ht : Sto.trim S1.next (.str (joinB (zs.map textZ) comma)) (Wt S1 zs zs.length) = ⟨S1.next + 1, S1.obs, S1.low⟩ := by
      unfold Sto.trim Wt
      rw [if_neg (by rw [Nat.blt_eq]; show ¬ S1.low < S1.next; omega)]
      simp only [V.refs, dropNew]
      rw [if_neg (by rw [Nat.blt_eq]; omega), dropNew_id hS0.desc]
    generalize Wt S1 zs zs.length = W at hj ht
    have ec : comma = ByteArray.mk #[44] := rfl
    rw [ec] at hj ht ⊢
    repeat' (first | refine Wp.seq ?_ | refine Wp.block ?_ | (apply Wp.region; focus ((try simp [h3, h9, h10, h11, hj]) <;> rfl)) | (refine Wp.cond_t ?_ ?_; focus (simp [h3, h9, h10, h11, hj]; done)) | (refine Wp.cond_f ?_ ?_; focus (simp [h3, h9, h10, h11, hj]; done)) | refine Wp.skip ?_ | refine Wp.ret ?_ | refine Wp.exit ?_ | refine Blk.here ?_ | (refine Blk.past ?_ ?_; focus (simp; done)))
    refine ⟨rfl, ?_⟩
    simp [answer, aresults, aresult]
    exact ht
theorem specTextA (zs : List Int) (hz : Bo.Bnd zs) (h6 : zs.length ≤ 6) {S : Sto Sy} (hS : Wst S) {q : Nat} {cp : Option Nat} (hl : Go.Sx.look S.obs q = some (ints (nums zs))) (f : Nat) (hf : 20 ≤ f) :
    acallV (symIn Tryz.prog KL [] f) S (.func 20 [] []) [.rsl q 0 zs.length cp] = some (.str (joinB (zs.map textZ) comma), S) := by
  obtain ⟨g, rfl⟩ : ∃ g, f = g + 1 := ⟨f - 1, by omega⟩
  have h := specTextG (K := KL) (fun _ _ => rfl) g (fun S hS z h => c_num hS g (by omega) h) zs hz (by omega) hS (cp := cp) hl (by omega)
  have e := acc_join zs zs.length (Nat.le_refl _)
  rw [List.take_length] at e
  rw [h, e]
end Go.Proofs.YtgaodlhdilhliaaGreatDoor.St

/-
  Sequences: the law, by hand, by runs by hand. No condition.
-/
import Derived.Test.YtpjenggjcpahaaaRows
import Derived.Test.YtpjenggjcpahaaaSym
import Derived.Test.YtpjenggjcpahaaaSymD
import Derived.Test.YtpjenggjcpahaaaSymE
import Derived.Test.YtpjenggjcpahaaaIds
import Derived.Test.YtpjenggjcpahaaaSeq
import Derived.Test.YtpjenggjcpahaaaSeqB
import Derived.Test.YtpjenggjcpahaaaSeqC
import Derived.Test.YtpjenggjcpahaaaSeqE
import Derived.Test.YtpjenggjcpahaaaSeqF
import Derived.Test.YtpjenggjcpahaaaSeqG
import Derived.WalkKit
import Derived.ProofKit
import Derived.OpenShut
namespace Go.Proofs.Ytpjenggjcpahaaa.Seq
open Go.ChangeShapes Go.WideShapes Go.ChangeAt Go.RowKit Go.Sx Go.Proofs.Ytpjenggjcpahaaa.Ids
set_option linter.unusedVariables false
set_option linter.unusedSimpArgs false

theorem trim_lowv {n0 : Nat} {r : V Sy} {sto : Sto Sy} : (Sto.trim n0 r sto).low = sto.low := by
  unfold Sto.trim
  split
  · rfl
  · split
    · rfl
    · split <;> rfl
theorem callCopy (zs : List Int) (hl : zs.length ≤ 1048576) (S : Sto Sy) (hlow : S.low ≤ S.next) (f : Nat) : acallV (symIn Try.prog KL [] (f + 1)) S (.func 37 [] []) [patL zs] = some (.rsl S.next 0 zs.length none, ⟨S.next + 1, (S.next, ints (nums zs)) :: S.obs, S.low⟩) := by
  have h := call_K (P := Try.prog) (K := KL) (n := f) (k := 37) (args := [patL zs]) (sto := S) (r := .rsl S.next 0 zs.length none) (s1 := ⟨S.next + 1, (S.next, ints (nums zs)) :: S.obs, S.next⟩) (by
    have hb : Nat.ble zs.length 1048576 = true := by rw [Nat.ble_eq]; exact hl
    have e : copyK 37 37 [patL zs] ⟨S.next, S.obs, S.next⟩ = some (.rsl S.next 0 zs.length none, ⟨S.next + 1, (S.next, ints (nums zs)) :: S.obs, S.next⟩) := by
      unfold copyK
      simp only [constsOf_patL, hb, bite_true]
      rfl
    unfold KL orK
    rw [e])
  rw [h, if_neg (by show ¬ S.next < S.low; omega)]
section
attribute [local simp] aops wants aop apure St.eval setTm_some setTm_none Tr.get_set aload evals pevals apureB tiS tiI tiB abin aint isCmp sym_lt sym_eqs sym_neqs sym_eq sym_neq sym_gtr sym_leq sym_geq sym_add sym_sub sym_mul aeff aeffB idx? ofV aindexAddr aggDesc aifc_int aun amakeSlice
set_option maxRecDepth 10000 in
theorem toSS_run (zss : List (List Int)) (hl0 : zss.length ≤ 1048576) (hl : ∀ zs, zs ∈ zss → zs.length ≤ 1048576) (S : Sto Sy) (hd : Desc S.next S.obs) (m : Nat) (hm : zss.length < m) (p : V Sy) (hp : p = .slice (zss.map patL) ∨ (p = .emp ∧ zss = [])) :
    ∃ r, symRun Try.prog KL [] (m + 2) 31 [p] ⟨S.next, S.obs, S.next⟩ = some r ∧ Desc r.2.next r.2.obs ∧ S.next ≤ r.2.next ∧ S.next ≤ r.2.low ∧ r.2.low ≤ r.2.next ∧ IsS r.2.obs S.next zss r.1 ∧ ∀ k x, Go.Sx.look S.obs k = some x → Go.Sx.look r.2.obs k = some x := by
  refine own_run2 (n := m + 1) (by rfl) Try.func31 rfl rfl ?_
  simp only [Try.f31]
  have alS : alen (symNum []) (tiOf Try.prog) 23 p = some (.int .i64 (.c zss.length)) := by
    rcases hp with rfl | ⟨rfl, rfl⟩ <;> simp [alen, tiSS, symNum]
  have hxp : ∀ i, i < zss.length → p = .slice (zss.map patL) := fun i hi => hp.elim id (fun h => by rw [h.2] at hi; simp at hi)
  have hb : (24 : Int) * (zss.length : Int) ≤ 140737488355328 ∧ (zss.length : Int) ≤ 9223372036854775807 ∧ (0 : Int) ≤ zss.length := by omega
  have hlen : (zss.map patL).length = zss.length := List.length_map ..
  have hrep : List.replicate zss.length (V.nil : V Sy) = halfR (S.next + 1) zss 0 := (halfR_zero _ _).symm
  repeat' (first | refine Wp.seq ?_ | refine Wp.block ?_ | (apply Wp.region; focus ((try simp [setArgs, alS, hb.1, hb.2.1, hb.2.2, V.oneCell, tiSS]) <;> rfl)) | (refine Wp.cond_t ?_ ?_; focus (simp [setArgs, alS, hb.1, hb.2.1, hb.2.2, V.oneCell, tiSS]; done)) | (refine Wp.cond_f ?_ ?_; focus (simp [setArgs, alS, hb.1, hb.2.1, hb.2.2, V.oneCell, tiSS]; done)) | refine Wp.skip ?_ | refine Wp.ret ?_ | refine Wp.exit ?_ | refine Blk.here ?_ | (refine Blk.past ?_ ?_; focus (simp; done)))
  refine Wp.loop rfl rfl (fun i st => st.tm.get .any 0 = p ∧ st.tm.get .any 3 = .rsl S.next 0 zss.length (some zss.length) ∧ st.tm.get .any 4 = .int .i64 (.c i) ∧ st.sto.next = S.next + 1 + i ∧ st.sto.low = S.next ∧ Desc st.sto.next st.sto.obs ∧
    Go.Sx.look st.sto.obs S.next = some (halfR (S.next + 1) zss i) ∧ (∀ j z, j < i → zss[j]? = some z → Go.Sx.look st.sto.obs (S.next + 1 + j) = some (ints (nums z))) ∧ ∀ k x, Go.Sx.look S.obs k = some x → Go.Sx.look st.sto.obs k = some x) zss.length (by omega) ?_ ?_ ?_
  · refine ⟨by simp, by simp, by simp, rfl, rfl, ⟨Nat.lt_succ_self _, hd⟩, ?_, fun j z h => by omega, fun k x hx => ?_⟩
    · show Go.Sx.look ((S.next, noBc (List.replicate _ _)) :: S.obs) S.next = _
      rw [look_cons, if_pos rfl]
      rw [show (List.replicate zss.length (V.nil : V Sy)) = halfR (S.next + 1) zss 0 from hrep, (halfR_nm _ _ _ (Nat.zero_le _)).2]
    · show Go.Sx.look ((S.next, noBc (List.replicate _ _)) :: S.obs) k = _
      rw [look_cons, if_neg (by have := hd.look_lt hx; omega)]; exact hx
  · rintro f i ⟨tm, T⟩ hi ⟨h0, h3, h4, hn, hlow, hdT, ho, hrow, hold⟩
    simp only at h0 h3 h4 hn hlow hdT ho hrow hold
    have hpe := hxp i hi
    have alS' := alS
    rw [hpe] at alS' h0
    have hlt : (i : Int) < zss.length := by omega
    have hxi : (zss.map patL)[i]? = some (patL (zss.getD i [])) := by simp [List.getD, hi]
    have hxs : zss[i]? = some (zss.getD i []) := by simp [List.getD, hi]
    have hw := wrap_in (a := (i : Int) + 1) (by omega) (by omega)
    have hzl : (zss.getD i []).length ≤ 1048576 := hl _ (List.mem_of_getElem? hxs)
    have hset := halfR_set (S.next + 1) zss i hi
    generalize hz : zss.getD i [] = zs at hxi hxs hzl hset
    have hzi : zss[i] = zs := by rw [← hz]; simp [List.getD, hi]
    have hii : i < (zss.map patL).length := by omega
    have hc := callCopy zs hzl T (by omega) m
    have hnT : T.next = S.next + 1 + i := hn
    obtain ⟨T1, hT1⟩ : ∃ T1 : Sto Sy, T1 = ⟨T.next + 1, (T.next, ints (nums zs)) :: T.obs, T.low⟩ := ⟨_, rfl⟩
    rw [← hT1] at hc
    have o1 : Go.Sx.look T1.obs S.next = some (halfR (S.next + 1) zss i) := by rw [hT1]; show Go.Sx.look ((T.next, _) :: T.obs) _ = _; rw [look_cons, if_neg (by omega)]; exact ho
    have hst : astore (tiOf Try.prog) T1 25 (.ptr S.next i) (.rsl T.next 0 zs.length none) = some (T1.write S.next (halfR (S.next + 1) zss (i + 1))) := by
      have h1 := (halfR_nm (S.next + 1) zss i (by omega)).1
      have h2 := halfR_len (S.next + 1) zss i (by omega)
      rw [← hnT] at hset
      simp [astore, tiS, V.cells, lookC, o1, h1, h2, setRange, V.oneCell, Nat.succ_le_of_lt hi]
      rw [← hset, hnT]
    repeat' (first | refine Wp.seq ?_ | refine Wp.block ?_ | (apply Wp.region; focus ((try simp [h0, h3, h4, alS', hlt, hxi, hi, hii, hzi, hlen, tiSS, hc, hst, hw]) <;> rfl)) | (refine Wp.cond_t ?_ ?_; focus (simp [h0, h3, h4, alS', hlt, hxi, hi, hii, hzi, hlen, tiSS, hc, hst, hw]; done)) | (refine Wp.cond_f ?_ ?_; focus (simp [h0, h3, h4, alS', hlt, hxi, hi, hii, hzi, hlen, tiSS, hc, hst, hw]; done)) | refine Wp.skip ?_ | refine Wp.ret ?_ | refine Wp.exit ?_ | refine Blk.here ?_ | (refine Blk.past ?_ ?_; focus (simp; done)))
    have hnm := (halfR_nm (S.next + 1) zss (i + 1) (by omega)).2
    have e2 : (T1.write S.next (halfR (S.next + 1) zss (i + 1))).obs = put T1.obs S.next (halfR (S.next + 1) zss (i + 1)) := by
      show put T1.obs S.next (noBc _) = _
      rw [hnm]
    have l1 : T1.low = S.next := by rw [hT1]; exact hlow
    have n1 : T1.next = S.next + 1 + (i + 1) := by rw [hT1]; show T.next + 1 = _; omega
    have d1 : Desc T1.next T1.obs := by rw [hT1]; exact ⟨Nat.lt_succ_self _, hdT⟩
    refine ⟨by simp [h0, hpe], by simp [h3], by simp, n1, ?_, ?_, ?_, ?_, ?_⟩
    · show (if Nat.blt S.next T1.low then S.next else T1.low) = _
      rw [l1]; split <;> rfl
    · show Desc T1.next _
      rw [e2]; exact d1.put _ _
    · show Go.Sx.look (T1.write S.next _).obs S.next = _
      rw [e2]; exact look_put_self o1
    · intro j z hj hjz
      show Go.Sx.look (T1.write S.next _).obs _ = _
      rw [e2, look_put_ne (by omega), hT1]
      show Go.Sx.look ((T.next, _) :: T.obs) _ = _
      rcases Nat.lt_succ_iff_lt_or_eq.1 hj with q | rfl
      · rw [look_cons, if_neg (by omega)]; exact hrow j z q hjz
      · rw [look_cons, if_pos (by omega)]
        rw [hxs] at hjz; cases hjz; rfl
    · intro k x hk
      have hkl := hd.look_lt hk
      show Go.Sx.look (T1.write S.next _).obs k = _
      rw [e2, look_put_ne (by omega), hT1]
      show Go.Sx.look ((T.next, _) :: T.obs) k = _
      rw [look_cons, if_neg (by omega)]
      exact hold k x hk
  · rintro f ⟨tm, T⟩ ⟨h0, h3, h4, hn, hlow, hdT, ho, hrow, hold⟩
    simp only at h0 h3 h4 hn hlow hdT ho hrow hold
    rw [halfR_all] at ho
    repeat' (first | refine Wp.seq ?_ | refine Wp.block ?_ | (apply Wp.region; focus ((try simp [h0, h3, h4, alS]) <;> rfl)) | (refine Wp.cond_t ?_ ?_; focus (simp [h0, h3, h4, alS]; done)) | (refine Wp.cond_f ?_ ?_; focus (simp [h0, h3, h4, alS]; done)) | refine Wp.skip ?_ | refine Wp.ret ?_ | refine Wp.exit ?_ | refine Blk.here ?_ | (refine Blk.past ?_ ?_; focus (simp; done)))
    refine ⟨rfl, answer_trim1 (v := .rsl S.next 0 zss.length (some zss.length)) (by simp [h3]) ⟨trim_desc hdT, by rw [trim_next]; show S.next ≤ T.next; omega, by rw [trim_lowv]; show S.next ≤ T.low; omega, by rw [trim_lowv, trim_next]; show T.low ≤ T.next; omega, ⟨rfl, ?_, fun j z hz => ?_⟩, fun k x hk => ?_⟩⟩
    · rw [trim_look (by simp [V.refs])]; exact ho
    · have hj : j < zss.length := (List.getElem?_eq_some_iff.1 hz).1
      rw [trim_look2 (by simp only [V.refs, deeper, ho, List.append_nil]; exact rowsV_refs _ _ _ hj)]
      exact hrow j z hj hz
    · rw [trim_old (hd.look_lt hk)]; exact hold k x hk
end
end Go.Proofs.Ytpjenggjcpahaaa.Seq

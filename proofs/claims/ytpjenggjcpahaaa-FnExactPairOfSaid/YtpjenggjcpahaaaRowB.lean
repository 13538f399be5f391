/-
  Lists of lists: copied, marked, beside any other contract. No condition.
-/
import Derived.Test.YtpjenggjcpahaaaRows
import Derived.Test.YtpjenggjcpahaaaSym
import Derived.Test.YtpjenggjcpahaaaSymD
import Derived.Test.YtpjenggjcpahaaaSymE
import Derived.Test.YtpjenggjcpahaaaSymF
import Derived.Test.YtpjenggjcpahaaaIds
import Derived.Test.YtpjenggjcpahaaaSeq
import Derived.Test.YtpjenggjcpahaaaSeqB
import Derived.Test.YtpjenggjcpahaaaSeqC
import Derived.Test.YtpjenggjcpahaaaSeqE
import Derived.Test.YtpjenggjcpahaaaSeqF
import Derived.Test.YtpjenggjcpahaaaSeqG
import Derived.Test.YtpjenggjcpahaaaSeqH
import Derived.Test.YtpjenggjcpahaaaRow
import Derived.WalkKit
import Derived.ProofKit
import Derived.OpenShut
namespace Go.Proofs.Ytpjenggjcpahaaa.Row
open Go.ChangeShapes Go.WideShapes Go.ChangeAt Go.RowKit Go.Sx Go.Proofs.Ytpjenggjcpahaaa.Ids Go.Proofs.Ytpjenggjcpahaaa.Seq
set_option linter.unusedVariables false
set_option linter.unusedSimpArgs false

section
variable {X : Ctr}
theorem callCopy (zs : List Int) (hl : zs.length ≤ 1048576) (S : Sto Sy) (hlow : S.low ≤ S.next) (f : Nat) : acallV (symIn Try.prog (KX X) [] (f + 1)) S (.func 37 [] []) [patL zs] = some (.rsl S.next 0 zs.length none, ⟨S.next + 1, (S.next, ints (nums zs)) :: S.obs, S.low⟩) := by
  have h := call_K (P := Try.prog) (K := KX X) (n := f) (k := 37) (args := [patL zs]) (sto := S) (r := .rsl S.next 0 zs.length none) (s1 := ⟨S.next + 1, (S.next, ints (nums zs)) :: S.obs, S.next⟩) (by
    have hb : Nat.ble zs.length 1048576 = true := by rw [Nat.ble_eq]; exact hl
    have e : copyK 37 37 [patL zs] ⟨S.next, S.obs, S.next⟩ = some (.rsl S.next 0 zs.length none, ⟨S.next + 1, (S.next, ints (nums zs)) :: S.obs, S.next⟩) := by
      unfold copyK
      simp only [constsOf_patL, hb, bite_true]
      rfl
    unfold KX orK
    rw [e])
  rw [h, if_neg (by show ¬ S.next < S.low; omega)]
section
attribute [local simp] aops wants aop apure St.eval setTm_some setTm_none Tr.get_set aload evals pevals apureB tiS tiI tiB abin aint isCmp sym_lt sym_eqs sym_neqs sym_eq sym_neq sym_gtr sym_leq sym_geq sym_add sym_sub sym_mul aeff aeffB idx? ofV aindexAddr aggDesc aifc_int aun amakeSlice
set_option maxRecDepth 10000 in
theorem toSS_run (hX : NoX X) (zss : List (List Int)) (hl0 : zss.length ≤ 1048576) (hl : ∀ zs, zs ∈ zss → zs.length ≤ 1048576) (S : Sto Sy) (hd : Desc S.next S.obs) (m : Nat) (hm : zss.length < m) (p : V Sy) (hp : p = .slice (zss.map patL) ∨ (p = .emp ∧ zss = [])) :
    ∃ r, symRun Try.prog (KX X) [] (m + 2) 31 [p] ⟨S.next, S.obs, S.next⟩ = some r ∧ Desc r.2.next r.2.obs ∧ S.next ≤ r.2.next ∧ S.next ≤ r.2.low ∧ r.2.low ≤ r.2.next ∧ IsS r.2.obs S.next zss r.1 ∧ ∀ k x, Go.Sx.look S.obs k = some x → Go.Sx.look r.2.obs k = some x := by
  refine own_run2 (n := m + 1) (hX.at (by decide)) Try.func31 rfl rfl ?_
  simp only [Try.f31]
  have alS : alen (symNum []) (tiOf Try.prog) 23 p = some (.int .i64 (.c zss.length)) := by
    rcases hp with rfl | ⟨rfl, rfl⟩ <;> simp [alen, tiSS, symNum]
  have hxp : ∀ i, i < zss.length → p = .slice (zss.map patL) := fun i hi => hp.elim id (fun h => by rw [h.2] at hi; simp at hi)
  have hb : (24 : Int) * (zss.length : Int) ≤ 140737488355328 ∧ (zss.length : Int) ≤ 9223372036854775807 ∧ (0 : Int) ≤ zss.length := by omega
  have hlen : (zss.map patL).length = zss.length := List.length_map ..
  have hrep : List.replicate zss.length (V.nil : V Sy) = halfR (S.next + 1) zss 0 := (halfR_zero _ _).symm
  repeat' (first | refine Wp.seq ?_ | refine Wp.block ?_ | (apply Wp.region; focus ((try simp [setArgs, alS, hb.1, hb.2.1, hb.2.2, V.oneCell, tiSS]) <;> rfl)) | (refine Wp.cond_t ?_ ?_; focus (simp [setArgs, alS, hb.1, hb.2.1, hb.2.2, V.oneCell, tiSS]; done)) | (refine Wp.cond_f ?_ ?_; focus (simp [setArgs, alS, hb.1, hb.2.1, hb.2.2, V.oneCell, tiSS]; done)) | refine Wp.skip ?_ | refine Wp.ret ?_ | refine Wp.exit ?_ | refine Blk.here ?_ | (refine Blk.past ?_ ?_; focus (simp; done)))
  refine Wp.loop rfl rfl (fun i st => st.tm.get .any 0 = p ∧ st.tm.get .any 3 = .rsl S.next 0 zss.length (some zss.length) ∧ st.tm.get .any 4 = .int .i64 (.c i) ∧ st.sto.next = S.next + 1 + i ∧ st.sto.low = S.next ∧ Desc st.sto.next st.sto.obs ∧
    Go.Sx.look st.sto.obs S.next = some (halfR (S.next + 1) zss i) ∧ (∀ j z, j < i → zss[j]? = some z → Go.Sx.look st.sto.obs (S.next + 1 + j) = some (ints (nums z))) ∧ ∀ k x, Go.Sx.look S.obs k = some x → Go.Sx.look st.sto.obs k = some x) zss.length (by omega) ?_ ?_ ?_
  · refine ⟨by simp, by simp, by simp, rfl, rfl, ⟨Nat.lt_succ_self _, hd⟩, ?_, fun j z h => by omega, fun k x hx => ?_⟩
    · show Go.Sx.look ((S.next, noBc (List.replicate _ _)) :: S.obs) S.next = _
      rw [look_cons, if_pos rfl]
      rw [show (List.replicate zss.length (V.nil : V Sy)) = halfR (S.next + 1) zss 0 from hrep, (halfR_nm _ _ _ (Nat.zero_le _)).2]
    · show Go.Sx.look ((S.next, noBc (List.replicate _ _)) :: S.obs) k = _
      rw [look_cons, if_neg (by have := hd.look_lt hx; omega)]; exact hx
  · rintro f i ⟨tm, T⟩ hi ⟨h0, h3, h4, hn, hlow, hdT, ho, hrow, hold⟩
    simp only at h0 h3 h4 hn hlow hdT ho hrow hold
    have hpe := hxp i hi
    have alS' := alS
    rw [hpe] at alS' h0
    have hlt : (i : Int) < zss.length := by omega
    have hxi : (zss.map patL)[i]? = some (patL (zss.getD i [])) := by simp [List.getD, hi]
    have hxs : zss[i]? = some (zss.getD i []) := by simp [List.getD, hi]
    have hw := wrap_in (a := (i : Int) + 1) (by omega) (by omega)
    have hzl : (zss.getD i []).length ≤ 1048576 := hl _ (List.mem_of_getElem? hxs)
    have hset := halfR_set (S.next + 1) zss i hi
    generalize hz : zss.getD i [] = zs at hxi hxs hzl hset
    have hzi : zss[i] = zs := by rw [← hz]; simp [List.getD, hi]
    have hii : i < (zss.map patL).length := by omega
    have hc := callCopy (X := X) zs hzl T (by omega) m
    have hnT : T.next = S.next + 1 + i := hn
    obtain ⟨T1, hT1⟩ : ∃ T1 : Sto Sy, T1 = ⟨T.next + 1, (T.next, ints (nums zs)) :: T.obs, T.low⟩ := ⟨_, rfl⟩
    rw [← hT1] at hc
    have o1 : Go.Sx.look T1.obs S.next = some (halfR (S.next + 1) zss i) := by rw [hT1]; show Go.Sx.look ((T.next, _) :: T.obs) _ = _; rw [look_cons, if_neg (by omega)]; exact ho
    have hst : astore (tiOf Try.prog) T1 25 (.ptr S.next i) (.rsl T.next 0 zs.length none) = some (T1.write S.next (halfR (S.next + 1) zss (i + 1))) := by
      have h1 := (halfR_nm (S.next + 1) zss i (by omega)).1
      have h2 := halfR_len (S.next + 1) zss i (by omega)
      rw [← hnT] at hset
      simp [astore, tiS, V.cells, lookC, o1, h1, h2, setRange, V.oneCell, Nat.succ_le_of_lt hi]
      rw [← hset, hnT]
    repeat' (first | refine Wp.seq ?_ | refine Wp.block ?_ | (apply Wp.region; focus ((try simp [h0, h3, h4, alS', hlt, hxi, hi, hii, hzi, hlen, tiSS, hc, hst, hw]) <;> rfl)) | (refine Wp.cond_t ?_ ?_; focus (simp [h0, h3, h4, alS', hlt, hxi, hi, hii, hzi, hlen, tiSS, hc, hst, hw]; done)) | (refine Wp.cond_f ?_ ?_; focus (simp [h0, h3, h4, alS', hlt, hxi, hi, hii, hzi, hlen, tiSS, hc, hst, hw]; done)) | refine Wp.skip ?_ | refine Wp.ret ?_ | refine Wp.exit ?_ | refine Blk.here ?_ | (refine Blk.past ?_ ?_; focus (simp; done)))
    have hnm := (halfR_nm (S.next + 1) zss (i + 1) (by omega)).2
    have e2 : (T1.write S.next (halfR (S.next + 1) zss (i + 1))).obs = put T1.obs S.next (halfR (S.next + 1) zss (i + 1)) := by
      show put T1.obs S.next (noBc _) = _
      rw [hnm]
    have l1 : T1.low = S.next := by rw [hT1]; exact hlow
    have n1 : T1.next = S.next + 1 + (i + 1) := by rw [hT1]; show T.next + 1 = _; omega
    have d1 : Desc T1.next T1.obs := by rw [hT1]; exact ⟨Nat.lt_succ_self _, hdT⟩
    refine ⟨by simp [h0, hpe], by simp [h3], by simp, n1, ?_, ?_, ?_, ?_, ?_⟩
    · show (if Nat.blt S.next T1.low then S.next else T1.low) = _
      rw [l1]; split <;> rfl
    · show Desc T1.next _
      rw [e2]; exact d1.put _ _
    · show Go.Sx.look (T1.write S.next _).obs S.next = _
      rw [e2]; exact look_put_self o1
    · intro j z hj hjz
      show Go.Sx.look (T1.write S.next _).obs _ = _
      rw [e2, look_put_ne (by omega), hT1]
      show Go.Sx.look ((T.next, _) :: T.obs) _ = _
      rcases Nat.lt_succ_iff_lt_or_eq.1 hj with q | rfl
      · rw [look_cons, if_neg (by omega)]; exact hrow j z q hjz
      · rw [look_cons, if_pos (by omega)]
        rw [hxs] at hjz; cases hjz; rfl
    · intro k x hk
      have hkl := hd.look_lt hk
      show Go.Sx.look (T1.write S.next _).obs k = _
      rw [e2, look_put_ne (by omega), hT1]
      show Go.Sx.look ((T.next, _) :: T.obs) k = _
      rw [look_cons, if_neg (by omega)]
      exact hold k x hk
  · rintro f ⟨tm, T⟩ ⟨h0, h3, h4, hn, hlow, hdT, ho, hrow, hold⟩
    simp only at h0 h3 h4 hn hlow hdT ho hrow hold
    rw [halfR_all] at ho
    repeat' (first | refine Wp.seq ?_ | refine Wp.block ?_ | (apply Wp.region; focus ((try simp [h0, h3, h4, alS]) <;> rfl)) | (refine Wp.cond_t ?_ ?_; focus (simp [h0, h3, h4, alS]; done)) | (refine Wp.cond_f ?_ ?_; focus (simp [h0, h3, h4, alS]; done)) | refine Wp.skip ?_ | refine Wp.ret ?_ | refine Wp.exit ?_ | refine Blk.here ?_ | (refine Blk.past ?_ ?_; focus (simp; done)))
    refine ⟨rfl, answer_trim1 (v := .rsl S.next 0 zss.length (some zss.length)) (by simp [h3]) ⟨trim_desc hdT, by rw [trim_next]; show S.next ≤ T.next; omega, by rw [trim_lowv]; show S.next ≤ T.low; omega, by rw [trim_lowv, trim_next]; show T.low ≤ T.next; omega, ⟨rfl, ?_, fun j z hz => ?_⟩, fun k x hk => ?_⟩⟩
    · rw [trim_look (by simp [V.refs])]; exact ho
    · have hj : j < zss.length := (List.getElem?_eq_some_iff.1 hz).1
      rw [trim_look2 (by simp only [V.refs, deeper, ho, List.append_nil]; exact rowsV_refs _ _ _ hj)]
      exact hrow j z hj hz
    · rw [trim_old (hd.look_lt hk)]; exact hold k x hk
end

theorem copy2 (hX : NoX X) (zss : List (List Int)) (hl0 : zss.length ≤ 1048576) (hl : ∀ zs, zs ∈ zss → zs.length ≤ 1048576) (S : Sto Sy) (hS : WS S) (m : Nat) (hm : zss.length < m) : ∃ v S', acallV (symIn Try.prog (KX X) [] (m + 2)) S (.func 31 [] []) [patS zss] = some (v, S') ∧ WS S' ∧ IsS S'.obs S.next zss v ∧ S.next ≤ S'.next ∧ Keep S S' := by
  have hp : patS zss = .slice (zss.map patL) ∨ (patS zss = .emp ∧ zss = []) := by
    cases zss with
    | nil => exact .inr ⟨rfl, rfl⟩
    | cons a r => exact .inl rfl
  obtain ⟨⟨v, S1⟩, h1, h2, h3, h4, h5, h6, h7⟩ := toSS_run hX zss hl0 hl S hS.desc m hm _ hp
  have hlow := hS.low
  refine ⟨v, ⟨S1.next, S1.obs, if Nat.blt S1.low S.low then S1.low else S.low⟩, ?_, ⟨h2, ?_⟩, h6, h3, h7⟩
  · rw [acallV_func (by decide), List.nil_append, List.append_nil, symIn_run (by decide), h1]
  · simp only at h3 h4 h5 ⊢
    split <;> omega

/-! ## Marks -/
/-- Numbers one after the other. -/
def seqF (x : Int) : Nat → List Int
  | 0 => []
  | n + 1 => x :: seqF (x + 1) n
theorem seqF_len : ∀ (n : Nat) (x : Int), (seqF x n).length = n
  | 0, _ => rfl
  | n + 1, x => by simp [seqF, seqF_len n]
theorem seqF_get : ∀ (n : Nat) (x : Int) (i : Nat), i < n → (seqF x n)[i]? = some (x + i)
  | 0, _, i, h => by omega
  | n + 1, x, 0, _ => by simp [seqF]
  | n + 1, x, i + 1, h => by
    simp only [seqF, List.getElem?_cons_succ]
    rw [seqF_get n (x + 1) i (by omega)]
    congr 1; push_cast; omega
/-- What is marked so far. -/
def halfM (x : Int) (zs : List Int) (i : Nat) : List Int := seqF x i ++ zs.drop i
theorem halfM_len (x : Int) (zs : List Int) (i : Nat) (h : i ≤ zs.length) : (halfM x zs i).length = zs.length := by simp [halfM, seqF_len]; omega
theorem halfM_get (x : Int) (zs : List Int) (i j : Nat) (h : i ≤ zs.length) : (halfM x zs i)[j]? = if j < i then some (x + j) else zs[j]? := by
  unfold halfM
  by_cases hj : j < i
  · rw [if_pos hj, List.getElem?_append_left (by rw [seqF_len]; exact hj), seqF_get i x j hj]
  · rw [if_neg hj, List.getElem?_append_right (by rw [seqF_len]; omega), seqF_len, List.getElem?_drop]
    congr 1; omega
theorem halfM_set (x : Int) (zs : List Int) (i : Nat) (h : i < zs.length) : (halfM x zs i).set i (x + i) = halfM x zs (i + 1) := by
  apply List.ext_getElem?
  intro j
  rw [List.getElem?_set, halfM_len x zs i (by omega), halfM_get x zs (i + 1) j (by omega)]
  by_cases hij : i = j
  · subst hij; rw [if_pos rfl, if_pos h, if_pos (by omega)]
  · rw [if_neg hij, halfM_get x zs i j (by omega)]
    by_cases h1 : j < i
    · rw [if_pos h1, if_pos (by omega)]
    · rw [if_neg h1, if_neg (by omega)]
theorem halfM_all (x : Int) (zs : List Int) : halfM x zs zs.length = seqF x zs.length := by simp [halfM]
theorem trim_lows {n0 : Nat} {r : V Sy} {sto : Sto Sy} : (Sto.trim n0 r sto).low = sto.low := trim_lowv
/-- Other objects are as they were. -/
structure Marked (S S' : Sto Sy) (q : Nat) (n : Nat) : Prop where
  ws : WS S'
  next : S'.next = S.next
  other : ∀ k, (k < q ∨ q + n ≤ k) → Go.Sx.look S'.obs k = Go.Sx.look S.obs k
theorem Marked.trans {S S' S'' : Sto Sy} {q n q' n' : Nat} (h : Marked S S' q n) (h' : Marked S' S'' q' n') (hq : q + n = q') : Marked S S'' q (n + n') :=
  ⟨h'.ws, h'.next.trans h.next, fun k hk => by rw [h'.other k (by omega), h.other k (by omega)]⟩
section
attribute [local simp] aops wants aop apure St.eval setTm_some setTm_none Tr.get_set aload evals pevals apureB tiS tiI tiB abin aint isCmp sym_lt sym_eqs sym_neqs sym_eq sym_neq sym_gtr sym_leq sym_geq sym_add sym_sub sym_mul aeff aeffB idx? ofV aindexAddr aggDesc aifc_int aun
set_option maxRecDepth 10000 in
theorem mark1_run (hX : NoX X) (zs : List Int) (x : Int) (hx : 0 ≤ x ∧ x ≤ 9000000000000000000) (hl : zs.length ≤ 1048576) (S : Sto Sy) (hd : Desc S.next S.obs) (q : Nat) (v : V Sy) (hv : Made S zs q v) (m : Nat) (hm : zs.length < m) :
    ∃ r, symRun Try.prog (KX X) [] (m + 1) 39 [v, .int .i64 (.c x)] ⟨S.next, S.obs, S.next⟩ = some r ∧ r.1 = .int .i64 (.c (x + zs.length)) ∧ Desc r.2.next r.2.obs ∧ r.2.low ≤ S.next ∧ r.2.next = S.next ∧ (∀ k, k ≠ q → Go.Sx.look r.2.obs k = Go.Sx.look S.obs k) ∧ Go.Sx.look r.2.obs q = some (ints (nums (seqF x zs.length))) := by
  have hlk := hv.obj
  obtain ⟨cp, rfl⟩ : ∃ cp, v = .rsl q 0 zs.length cp := hv.val.elim (fun h => ⟨_, h⟩) (fun h => ⟨_, h⟩)
  refine own_run2 (n := m) (hX.at (by decide)) Try.func39 rfl rfl ?_
  simp only [Try.f39]
  have al : alen (symNum []) (tiOf Try.prog) 25 (.rsl q 0 zs.length cp : V Sy) = some (.int .i64 (.c zs.length)) := by simp [alen, tiS, symNum]
  repeat' (first | refine Wp.seq ?_ | refine Wp.block ?_ | (apply Wp.region; focus ((try simp [setArgs, al]) <;> rfl)) | (refine Wp.cond_t ?_ ?_; focus (simp [setArgs, al]; done)) | (refine Wp.cond_f ?_ ?_; focus (simp [setArgs, al]; done)) | refine Wp.skip ?_ | refine Wp.ret ?_ | refine Wp.exit ?_ | refine Blk.here ?_ | (refine Blk.past ?_ ?_; focus (simp; done)))
  refine Wp.loop rfl rfl (fun i st => st.tm.get .any 0 = .rsl q 0 zs.length cp ∧ st.tm.get .any 5 = .int .i64 (.c i) ∧ st.tm.get .any 1 = .int .i64 (.c (x + i)) ∧
    st.sto.next = S.next ∧ Desc st.sto.next st.sto.obs ∧ st.sto.low ≤ S.next ∧ (∀ k, k ≠ q → Go.Sx.look st.sto.obs k = Go.Sx.look S.obs k) ∧ Go.Sx.look st.sto.obs q = some (ints (nums (halfM x zs i)))) zs.length hm ?_ ?_ ?_
  · exact ⟨by simp, by simp, by simp, rfl, hd, Nat.le_refl _, fun _ _ => rfl, by simpa [halfM, seqF] using hlk⟩
  · rintro f i ⟨tm, T⟩ hi ⟨h0, h5, h1, hn, hdT, hlo, hoth, hob⟩
    simp only at h0 h5 h1 hn hdT hlo hoth hob
    have hlt : (i : Int) < zs.length := by omega
    have hw := wrap_in (a := (i : Int) + 1) (by omega) (by omega)
    have hw1 := wrap_in (a := x + (i : Int) + 1) (by omega) (by omega)
    have hin : i + 1 ≤ (halfM x zs i).length := by rw [halfM_len _ _ _ (by omega)]; omega
    have hst : astore (tiOf Try.prog) T 3 (.ptr q i) (.int .i64 (.c (x + i))) = some (T.write q (ints (nums (halfM x zs (i + 1))))) := by
      simp [astore, V.cells, lookC, hob, setRange, V.oneCell, hin]
      rw [Go.Sx.ints_set, ← halfM_set x zs i hi]
      simp [nums, List.map_set]
    repeat' (first | refine Wp.seq ?_ | refine Wp.block ?_ | (apply Wp.region; focus ((try simp [h0, h5, h1, al, hlt, hst, hw, hw1]) <;> rfl)) | (refine Wp.cond_t ?_ ?_; focus (simp [h0, h5, h1, al, hlt, hst, hw, hw1]; done)) | (refine Wp.cond_f ?_ ?_; focus (simp [h0, h5, h1, al, hlt, hst, hw, hw1]; done)) | refine Wp.skip ?_ | refine Wp.ret ?_ | refine Wp.exit ?_ | refine Blk.here ?_ | (refine Blk.past ?_ ?_; focus (simp; done)))
    have hnb : noBc (ints (nums (halfM x zs (i + 1)))) = ints (nums (halfM x zs (i + 1))) := by simp
    have e2 : (T.write q (ints (nums (halfM x zs (i + 1))))).obs = put T.obs q (ints (nums (halfM x zs (i + 1)))) := by
      show put T.obs q (noBc _) = _
      rw [hnb]
    refine ⟨by simp [h0], by simp, by simp; omega, hn, ?_, ?_, fun k hk => ?_, ?_⟩
    · show Desc T.next (T.write q _).obs
      rw [e2]; exact hdT.put _ _
    · show (if Nat.blt q T.low then q else T.low) ≤ S.next
      split
      · rename_i hb; rw [Nat.blt_eq] at hb; omega
      · exact hlo
    · show Go.Sx.look (T.write q _).obs k = _
      rw [e2, look_put_ne (by omega)]; exact hoth k hk
    · show Go.Sx.look (T.write q _).obs q = _
      rw [e2]; exact look_put_self hob
  · rintro f ⟨tm, T⟩ ⟨h0, h5, h1, hn, hdT, hlo, hoth, hob⟩
    simp only at h0 h5 h1 hn hdT hlo hoth hob
    rw [halfM_all] at hob
    repeat' (first | refine Wp.seq ?_ | refine Wp.block ?_ | (apply Wp.region; focus ((try simp [h0, h5, h1, al]) <;> rfl)) | (refine Wp.cond_t ?_ ?_; focus (simp [h0, h5, h1, al]; done)) | (refine Wp.cond_f ?_ ?_; focus (simp [h0, h5, h1, al]; done)) | refine Wp.skip ?_ | refine Wp.ret ?_ | refine Wp.exit ?_ | refine Blk.here ?_ | (refine Blk.past ?_ ?_; focus (simp; done)))
    have ht : Sto.trim S.next (.int .i64 (.c (x + zs.length))) T = T := by
      have := trim_plain (sto := T) (r := .int .i64 (.c (x + zs.length))) hdT rfl
      rwa [hn] at this
    refine ⟨rfl, (.int .i64 (.c (x + zs.length)), T), by simp [answer, aresults, aresult, h1, ht], rfl, hdT, hlo, hn, hoth, hob⟩
theorem mark1 (hX : NoX X) (zs : List Int) (x : Int) (hx : 0 ≤ x ∧ x ≤ 9000000000000000000) (hl : zs.length ≤ 1048576) (S : Sto Sy) (hS : WS S) (q : Nat) (v : V Sy) (hv : Made S zs q v) (m : Nat) (hm : zs.length < m) :
    ∃ S', acallV (symIn Try.prog (KX X) [] (m + 1)) S (.func 39 [] []) [v, .int .i64 (.c x)] = some (.int .i64 (.c (x + zs.length)), S') ∧ Marked S S' q 1 ∧ Made S' (seqF x zs.length) q v := by
  obtain ⟨⟨r, S1⟩, h1, rfl, h3, h4, h5, h6, h7⟩ := mark1_run hX zs x hx hl S hS.desc q v hv m hm
  simp only at h3 h4 h5 h6 h7
  have hlow := hS.low
  refine ⟨⟨S1.next, S1.obs, if Nat.blt S1.low S.low then S1.low else S.low⟩, ?_, ⟨⟨h3, ?_⟩, h5, fun k hk => h6 k (by omega)⟩, ⟨?_, h7⟩⟩
  · rw [acallV_func (by decide), List.nil_append, List.append_nil, symIn_run (by decide), h1]
  · simp only
    split <;> omega
  · rw [seqF_len]; exact hv.val
set_option maxRecDepth 10000 in
theorem markNil (hX : NoX X) (x : Int) (S : Sto Sy) (hS : WS S) (m : Nat) (hm : 3 ≤ m) : acallV (symIn Try.prog (KX X) [] (m + 1)) S (.func 39 [] []) [.nil, .int .i64 (.c x)] = some (.int .i64 (.c x), S) := by
  have hr : ∃ r, symRun Try.prog (KX X) [] (m + 1) 39 [.nil, .int .i64 (.c x)] ⟨S.next, S.obs, S.next⟩ = some r ∧ r = (.int .i64 (.c x), ⟨S.next, S.obs, S.next⟩) := by
    refine own_run2 (n := m) (hX.at (by decide)) Try.func39 rfl rfl ?_
    simp only [Try.f39]
    have al : alen (symNum []) (tiOf Try.prog) 25 (.nil : V Sy) = some (.int .i64 (.c 0)) := by simp [alen, tiS, symNum]
    repeat' (first | refine Wp.seq ?_ | refine Wp.block ?_ | (apply Wp.region; focus ((try simp [setArgs, al]) <;> rfl)) | (refine Wp.cond_t ?_ ?_; focus (simp [setArgs, al]; done)) | (refine Wp.cond_f ?_ ?_; focus (simp [setArgs, al]; done)) | refine Wp.skip ?_ | refine Wp.ret ?_ | refine Wp.exit ?_ | refine Blk.here ?_ | (refine Blk.past ?_ ?_; focus (simp; done)))
    refine Wp.loop rfl rfl (fun i st => st.tm.get .any 0 = .nil ∧ st.tm.get .any 5 = .int .i64 (.c 0) ∧ st.tm.get .any 1 = .int .i64 (.c x) ∧ st.sto = ⟨S.next, S.obs, S.next⟩) 0 (by omega) ?_ ?_ ?_
    · exact ⟨by simp, by simp, by simp, rfl⟩
    · rintro f i ⟨tm, T⟩ hi _; omega
    · rintro f ⟨tm, T⟩ ⟨h0, h5, h1, rfl⟩
      simp only at h0 h5 h1
      repeat' (first | refine Wp.seq ?_ | refine Wp.block ?_ | (apply Wp.region; focus ((try simp [h0, h5, h1, al]) <;> rfl)) | (refine Wp.cond_t ?_ ?_; focus (simp [h0, h5, h1, al]; done)) | (refine Wp.cond_f ?_ ?_; focus (simp [h0, h5, h1, al]; done)) | refine Wp.skip ?_ | refine Wp.ret ?_ | refine Wp.exit ?_ | refine Blk.here ?_ | (refine Blk.past ?_ ?_; focus (simp; done)))
      have ht := trim_plain (sto := (⟨S.next, S.obs, S.next⟩ : Sto Sy)) (r := .int .i64 (.c x)) hS.desc rfl
      exact ⟨rfl, _, by simp [answer, aresults, aresult, h1]; rfl, by rw [ht]⟩
  obtain ⟨_, h1, rfl⟩ := hr
  rw [acallV_func (by decide), List.nil_append, List.append_nil, symIn_run (by decide), h1]
  have hlow := hS.low
  have : (⟨S.next, S.obs, if Nat.blt S.next S.low then S.next else S.low⟩ : Sto Sy) = S := by
    rw [if_neg (by rw [Nat.blt_eq]; omega)]
  simp only [this]
set_option maxRecDepth 10000 in
theorem held1 (hX : NoX X) (n : Nat) (x : Int) (hx : 0 ≤ x ∧ x ≤ 9000000000000000000) (hl : n ≤ 1048576) (S : Sto Sy) (hS : WS S) (q : Nat) (v : V Sy) (hv : Made S (seqF x n) q v) (m : Nat) (hm : n < m) :
    acallV (symIn Try.prog (KX X) [] (m + 1)) S (.func 40 [] []) [v, .int .i64 (.c x)] = some (.int .i64 (.c (x + n)), S) := by
  have hr : ∃ r, symRun Try.prog (KX X) [] (m + 1) 40 [v, .int .i64 (.c x)] ⟨S.next, S.obs, S.next⟩ = some r ∧ r = (.int .i64 (.c (x + n)), ⟨S.next, S.obs, S.next⟩) := by
    have hlk := hv.obj
    obtain ⟨cp, rfl⟩ : ∃ cp, v = .rsl q 0 n cp := by have := hv.val; rw [seqF_len] at this; exact this.elim (fun h => ⟨_, h⟩) (fun h => ⟨_, h⟩)
    refine own_run2 (n := m) (hX.at (by decide)) Try.func40 rfl rfl ?_
    simp only [Try.f40]
    have al : alen (symNum []) (tiOf Try.prog) 25 (.rsl q 0 n cp : V Sy) = some (.int .i64 (.c n)) := by simp [alen, tiS, symNum]
    repeat' (first | refine Wp.seq ?_ | refine Wp.block ?_ | (apply Wp.region; focus ((try simp [setArgs, al]) <;> rfl)) | (refine Wp.cond_t ?_ ?_; focus (simp [setArgs, al]; done)) | (refine Wp.cond_f ?_ ?_; focus (simp [setArgs, al]; done)) | refine Wp.skip ?_ | refine Wp.ret ?_ | refine Wp.exit ?_ | refine Blk.here ?_ | (refine Blk.past ?_ ?_; focus (simp; done)))
    refine Wp.loop rfl rfl (fun i st => st.tm.get .any 0 = .rsl q 0 n cp ∧ st.tm.get .any 5 = .int .i64 (.c i) ∧ st.tm.get .any 1 = .int .i64 (.c (x + i)) ∧ st.sto = ⟨S.next, S.obs, S.next⟩) n hm ?_ ?_ ?_
    · exact ⟨by simp, by simp, by simp, rfl⟩
    · rintro f i ⟨tm, T⟩ hi ⟨h0, h5, h1, rfl⟩
      simp only at h0 h5 h1
      have hlt : (i : Int) < n := by omega
      have hw := wrap_in (a := (i : Int) + 1) (by omega) (by omega)
      have hw1 := wrap_in (a := x + (i : Int) + 1) (by omega) (by omega)
      have hg : (ints (nums (seqF x n)))[i]? = some (.int .i64 (.c (x + i))) := by rw [ints_get, nums_get, seqF_get n x i hi]; rfl
      have hcell : ∀ T : Sto Sy, Go.Sx.look T.obs q = some (ints (nums (seqF x n))) → aload (tiOf Try.prog) T 3 (.ptr q i) = some (.int .i64 (.c (x + i))) := fun T hT => by
        simp only [aload, tiI, lookC_ints hT]
        simpa [aggDesc] using hg
      have hld := hcell ⟨S.next, S.obs, S.next⟩ hlk
      simp only [aload, tiI, aggDesc] at hld
      repeat' (first | refine Wp.seq ?_ | refine Wp.block ?_ | (apply Wp.region; focus ((try simp [h0, h5, h1, al, hlt, lookC, hlk, lookC_ints hlk, hg, hw, hw1]) <;> rfl)) | (refine Wp.cond_t ?_ ?_; focus (simp [h0, h5, h1, al, hlt, lookC, hlk, lookC_ints hlk, hg, hw, hw1]; done)) | (refine Wp.cond_f ?_ ?_; focus (simp [h0, h5, h1, al, hlt, lookC, hlk, lookC_ints hlk, hg, hw, hw1]; done)) | refine Wp.skip ?_ | refine Wp.ret ?_ | refine Wp.exit ?_ | refine Blk.here ?_ | (refine Blk.past ?_ ?_; focus (simp; done)))
      exact ⟨by simp [h0], by simp, by simp; omega, rfl⟩
    · rintro f ⟨tm, T⟩ ⟨h0, h5, h1, rfl⟩
      simp only at h0 h5 h1
      repeat' (first | refine Wp.seq ?_ | refine Wp.block ?_ | (apply Wp.region; focus ((try simp [h0, h5, h1, al]) <;> rfl)) | (refine Wp.cond_t ?_ ?_; focus (simp [h0, h5, h1, al]; done)) | (refine Wp.cond_f ?_ ?_; focus (simp [h0, h5, h1, al]; done)) | refine Wp.skip ?_ | refine Wp.ret ?_ | refine Wp.exit ?_ | refine Blk.here ?_ | (refine Blk.past ?_ ?_; focus (simp; done)))
      have ht := trim_plain (sto := (⟨S.next, S.obs, S.next⟩ : Sto Sy)) (r := .int .i64 (.c (x + n))) hS.desc rfl
      exact ⟨rfl, _, by simp [answer, aresults, aresult, h1]; rfl, by rw [ht]⟩
  obtain ⟨_, h1, rfl⟩ := hr
  rw [acallV_func (by decide), List.nil_append, List.append_nil, symIn_run (by decide), h1]
  have hlow := hS.low
  have : (⟨S.next, S.obs, if Nat.blt S.next S.low then S.next else S.low⟩ : Sto Sy) = S := by
    rw [if_neg (by rw [Nat.blt_eq]; omega)]
  simp only [this]
set_option maxRecDepth 10000 in
theorem heldNil (hX : NoX X) (x : Int) (S : Sto Sy) (hS : WS S) (m : Nat) (hm : 3 ≤ m) : acallV (symIn Try.prog (KX X) [] (m + 1)) S (.func 40 [] []) [.nil, .int .i64 (.c x)] = some (.int .i64 (.c x), S) := by
  have hr : ∃ r, symRun Try.prog (KX X) [] (m + 1) 40 [.nil, .int .i64 (.c x)] ⟨S.next, S.obs, S.next⟩ = some r ∧ r = (.int .i64 (.c x), ⟨S.next, S.obs, S.next⟩) := by
    refine own_run2 (n := m) (hX.at (by decide)) Try.func40 rfl rfl ?_
    simp only [Try.f40]
    have al : alen (symNum []) (tiOf Try.prog) 25 (.nil : V Sy) = some (.int .i64 (.c 0)) := by simp [alen, tiS, symNum]
    repeat' (first | refine Wp.seq ?_ | refine Wp.block ?_ | (apply Wp.region; focus ((try simp [setArgs, al]) <;> rfl)) | (refine Wp.cond_t ?_ ?_; focus (simp [setArgs, al]; done)) | (refine Wp.cond_f ?_ ?_; focus (simp [setArgs, al]; done)) | refine Wp.skip ?_ | refine Wp.ret ?_ | refine Wp.exit ?_ | refine Blk.here ?_ | (refine Blk.past ?_ ?_; focus (simp; done)))
    refine Wp.loop rfl rfl (fun i st => st.tm.get .any 0 = .nil ∧ st.tm.get .any 5 = .int .i64 (.c 0) ∧ st.tm.get .any 1 = .int .i64 (.c x) ∧ st.sto = ⟨S.next, S.obs, S.next⟩) 0 (by omega) ?_ ?_ ?_
    · exact ⟨by simp, by simp, by simp, rfl⟩
    · rintro f i ⟨tm, T⟩ hi _; omega
    · rintro f ⟨tm, T⟩ ⟨h0, h5, h1, rfl⟩
      simp only at h0 h5 h1
      repeat' (first | refine Wp.seq ?_ | refine Wp.block ?_ | (apply Wp.region; focus ((try simp [h0, h5, h1, al]) <;> rfl)) | (refine Wp.cond_t ?_ ?_; focus (simp [h0, h5, h1, al]; done)) | (refine Wp.cond_f ?_ ?_; focus (simp [h0, h5, h1, al]; done)) | refine Wp.skip ?_ | refine Wp.ret ?_ | refine Wp.exit ?_ | refine Blk.here ?_ | (refine Blk.past ?_ ?_; focus (simp; done)))
      have ht := trim_plain (sto := (⟨S.next, S.obs, S.next⟩ : Sto Sy)) (r := .int .i64 (.c x)) hS.desc rfl
      exact ⟨rfl, _, by simp [answer, aresults, aresult, h1]; rfl, by rw [ht]⟩
  obtain ⟨_, h1, rfl⟩ := hr
  rw [acallV_func (by decide), List.nil_append, List.append_nil, symIn_run (by decide), h1]
  have hlow := hS.low
  have : (⟨S.next, S.obs, if Nat.blt S.next S.low then S.next else S.low⟩ : Sto Sy) = S := by
    rw [if_neg (by rw [Nat.blt_eq]; omega)]
  simp only [this]
end
end
end Go.Proofs.Ytpjenggjcpahaaa.Row

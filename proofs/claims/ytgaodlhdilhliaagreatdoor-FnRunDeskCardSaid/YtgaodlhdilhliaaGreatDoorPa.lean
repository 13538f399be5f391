/-
  Texts of series are read back, by runs by hand. No condition.
-/
import Derived.Test.YtgaodlhdilhliaaGreatDoorRows
import Derived.Test.YtgaodlhdilhliaaGreatDoorSym
import Derived.Test.YtgaodlhdilhliaaGreatDoorSymD
import Derived.Test.YtgaodlhdilhliaaGreatDoorSymE
import Derived.Test.YtgaodlhdilhliaaGreatDoorSymF
import Derived.Test.YtgaodlhdilhliaaGreatDoorIds
import Derived.Test.YtgaodlhdilhliaaGreatDoorSh
import Derived.Test.YtgaodlhdilhliaaGreatDoorShB
import Derived.Test.YtgaodlhdilhliaaGreatDoorSt
import Derived.Test.YtgaodlhdilhliaaGreatDoorSp
import Derived.Test.YtgaodlhdilhliaaGreatDoorTel
import Derived.Test.YtgaodlhdilhliaaGreatDoorNum
import Derived.Test.YtgaodlhdilhliaaGreatDoorTx
import Derived.Test.YtgaodlhdilhliaaGreatDoorTy
import Derived.Test.YtgaodlhdilhliaaGreatDoorTz
import Derived.Test.YtgaodlhdilhliaaGreatDoorSj
import Derived.Test.YtgaodlhdilhliaaGreatDoorAt
import Derived.WalkKit
import Derived.ProofKit
import Derived.OpenShut
namespace Go.Proofs.YtgaodlhdilhliaaGreatDoor.St
open Go.ChangeShapes Go.WideShapes Go.ChangeAt Go.RowKit Go.Sx Go.Proofs.YtgaodlhdilhliaaGreatDoor.Ids
set_option linter.unusedVariables false
set_option linter.unusedSimpArgs false

theorem txt_size {zs : List Int} (h : validP 600 zs) : (txt zs).size ≤ 30 ∧ zs.length ≤ (txt zs).size + 1 := by
  have e := acc_join zs zs.length (Nat.le_refl _)
  rw [List.take_length] at e
  have e2 : txt zs = joinB (zs.map textZ) comma := by unfold txt; rw [if_pos h]
  have hs := acc_size h.1 zs.length (Nat.le_refl _)
  rw [e, ← e2] at hs
  have h6 := h.2.2
  refine ⟨by omega, ?_⟩
  rw [e2, size_list]
  cases zs with
  | nil => simp
  | cons z r =>
    show (z :: r).length ≤ (Lib.join (((z :: r).map textZ).map (·.data.toList)) comma.data.toList).length + 1
    rw [List.map_cons, List.map_cons, Lib.join_length]
    simp [comma]
theorem txt_split {zs : List Int} (h : validP 600 zs) : splitX (txt zs) comma 7 = zs.map textZ := by
  have hs := txt_size h
  have e2 : txt zs = joinB (zs.map textZ) comma := by unfold txt; rw [if_pos h]
  unfold splitX
  have h1 := h.2.1
  have h6 := h.2.2
  rw [show ((7 : Int).toNat) = 7 from rfl]
  generalize hk : min 7 ((txt zs).size + 1) - 1 = k
  rw [e2]
  refine split_join _ (fun e => by have := congrArg List.length e; simp at this; subst this; simp at h1) (fun x hx => ?_) k (by simp; omega)
  obtain ⟨z, hz, rfl⟩ := List.mem_map.1 hx
  exact text_noC (h.1 z hz)
theorem refs_ints0 (ns : List Sy) : refsL (ints ns) = [] := by
  induction ns with
  | nil => rfl
  | cons b r ih => simpa [ints, refsL, V.refs] using ih
/-- The words, and the list half done. -/
def listL (zs : List Int) (i : Nat) : List Int := zs.take i ++ List.replicate (zs.length - i) 0
theorem listL_len (zs : List Int) {i : Nat} (hi : i ≤ zs.length) : (listL zs i).length = zs.length := by simp [listL]; omega
theorem listL_set (zs : List Int) {i : Nat} (hi : i < zs.length) : (listL zs i).set i zs[i] = listL zs (i + 1) := by
  unfold listL
  rw [List.set_append_right _ _ (by simp; omega), List.take_succ_eq_append_getElem hi, List.append_assoc]
  congr 1
  have e : i - (zs.take i).length = 0 := by simp; omega
  rw [e, show zs.length - i = (zs.length - (i + 1)) + 1 by omega, List.replicate_succ]
  rfl
theorem ints_replicate0 (n : Nat) : ints (nums (List.replicate n 0)) = List.replicate n (V.int .i64 (.c 0)) := by
  simp [ints, nums]
noncomputable def Wl (S : Sto Sy) (zs : List Int) (i : Nat) : Sto Sy := ⟨S.next + 2, (S.next + 1, ints (nums (listL zs i))) :: (S.next, strs (zs.map textZ)) :: S.obs, S.low⟩
theorem Wl_ok {S : Sto Sy} (hS : Wst S) (zs : List Int) (i : Nat) : Wst (Wl S zs i) := ⟨⟨Nat.lt_succ_self _, Nat.lt_succ_self _, hS.desc⟩, by have := hS.low; show S.low ≤ S.next + 2; omega⟩
theorem Wl_word (S : Sto Sy) {zs : List Int} {i : Nat} (hi : i < zs.length) : aload (tiOf Tryz.prog) (Wl S zs i) 9 (.ptr S.next i) = some (.str (textZ zs[i])) := by
  have tiSr : tiOf Tryz.prog 9 = some ⟨.string, 1, 16, .string ⟨#[]⟩, true⟩ := by kernel_rfl
  have h2 : lookC (Wl S zs i).obs S.next = some (strs (zs.map textZ)) := lookC_iff.2 ⟨by unfold Wl; rw [look_cons, if_neg (by omega), look_cons, if_pos rfl], strs_nm _⟩
  simp only [aload, tiSr, h2, aggDesc]
  rw [if_neg (by decide)]
  simp [strs, hi]
theorem Wl_list (S : Sto Sy) (zs : List Int) (i : Nat) : Go.Sx.look (Wl S zs i).obs (S.next + 1) = some (ints (nums (listL zs i))) := by unfold Wl; rw [look_cons, if_pos rfl]
theorem Wl_step {S : Sto Sy} (hn : S.low = S.next) {zs : List Int} {i : Nat} (hi : i < zs.length) : astore (tiOf Tryz.prog) (Wl S zs i) 3 (.ptr (S.next + 1) i) (.int .i64 (.c zs[i])) = some (Wl S zs (i + 1)) := by
  have hl := listL_len zs (i := i) (by omega)
  have hI : IsL (Wl S zs i).obs (S.next + 1) (listL zs i) (.rsl (S.next + 1) 0 (listL zs i).length none) := ⟨⟨none, rfl, .inl rfl⟩, Wl_list S zs i⟩
  rw [store_ok tiI hI (by omega), listL_set zs hi]
  unfold Wl Sto.write
  simp [put, hn]
attribute [local simp] aops wants aop apure St.eval setTm_some setTm_none Tr.get_set evals pevals apureB alen tiS tiI tiB abin aint isCmp sym_lt sym_eqs sym_neqs sym_eq sym_neq sym_gtr sym_leq sym_geq sym_add sym_sub sym_mul aeff aeffB idx? ofV aindexAddr aggDesc aifc_int aun aifc_str
set_option maxRecDepth 10000 in
theorem implPa (zs : List Int) (h : validP 600 zs) {S : Sto Sy} (hS : Wst S) (f : Nat) (hf : 60 ≤ f) :
    ∃ r, symRun Tryz.prog KL [] f 32 [.str (txt zs)] ⟨S.next, S.obs, S.next⟩ = some r ∧ ∃ q, S.next ≤ q ∧ r.1 = .tup [.rsl q 0 zs.length (some zs.length), .bool true] ∧ S.next ≤ r.2.low ∧ r.2.low ≤ r.2.next ∧ Desc r.2.next r.2.obs ∧ Go.Sx.look r.2.obs q = some (ints (nums zs)) ∧ ∀ k x, Go.Sx.look S.obs k = some x → Go.Sx.look r.2.obs k = some x := by
  obtain ⟨g, rfl⟩ : ∃ g, f = g + 1 := ⟨f - 1, by omega⟩
  have hS0 : Wst ⟨S.next, S.obs, S.next⟩ := ⟨hS.desc, Nat.le_refl _⟩
  have hn1 : (⟨S.next, S.obs, S.next⟩ : Sto Sy).low = (⟨S.next, S.obs, S.next⟩ : Sto Sy).next := rfl
  generalize hS1 : (⟨S.next, S.obs, S.next⟩ : Sto Sy) = S1 at hS0 hn1
  refine own_run2 (by rfl) Tryz.func32 rfl rfl ?_
  simp only [Tryz.f32]
  have tiSs : tiOf Tryz.prog 23 = some ⟨.slice 9, 1, 24, .slice none 0 0, true⟩ := by kernel_rfl
  have tiSr : tiOf Tryz.prog 9 = some ⟨.string, 1, 16, .string ⟨#[]⟩, true⟩ := by kernel_rfl
  have hs := txt_size h
  have c1 := c_split hS0 g (by omega) (s := txt zs) (sep := comma) (n := 7) ⟨by omega, by decide, by omega, by omega⟩
  rw [txt_split h] at c1
  have ec : comma = ByteArray.mk #[44] := rfl
  rw [ec] at c1
  have hlm : (zs.map textZ).length = zs.length := by simp
  rw [hlm] at c1
  have h6 := h.2.2
  have hb : (8 : Int) * (zs.length : Int) ≤ 140737488355328 ∧ (zs.length : Int) ≤ 9223372036854775807 ∧ (0 : Int) ≤ zs.length := by omega
  repeat' (first | refine Wp.seq ?_ | refine Wp.block ?_ | (apply Wp.region; focus ((try simp [setArgs, tiSs, tiSr, amakeSlice, hb.1, hb.2.1, hb.2.2, V.oneCell, c1]) <;> rfl)) | (refine Wp.cond_t ?_ ?_; focus (simp [setArgs, tiSs, tiSr, amakeSlice, hb.1, hb.2.1, hb.2.2, V.oneCell, c1]; done)) | (refine Wp.cond_f ?_ ?_; focus (simp [setArgs, tiSs, tiSr, amakeSlice, hb.1, hb.2.1, hb.2.2, V.oneCell, c1]; done)) | refine Wp.skip ?_ | refine Wp.ret ?_ | refine Wp.exit ?_ | refine Blk.here ?_ | (refine Blk.past ?_ ?_; focus (simp; done)))
  refine Wp.loop rfl rfl (fun i st => st.tm.get .any 0 = .str (txt zs) ∧ st.tm.get .any 5 = .rsl (S1.next + 1) 0 zs.length (some zs.length) ∧ st.tm.get .any 15 = .rsl S1.next 0 zs.length none ∧ st.tm.get .any 16 = .int .i64 (.c zs.length) ∧ st.tm.get .any 17 = .int .i64 (.c i) ∧ st.sto = Wl S1 zs i) zs.length (by omega) ?_ ?_ ?_
  · refine ⟨by simp [setArgs], by simp, by simp, by simp, by simp, ?_⟩
    show Sto.new _ _ = _
    unfold Sto.new Wl
    simp [listL, ints_replicate0]
    rw [← ints_replicate0, noBc_ints]
  · rintro f i ⟨tm, T⟩ hi ⟨h0, h5, h15, h16, h17, rfl⟩
    simp only at h0 h5 h15 h16 h17
    have hlt : (i : Int) < zs.length := by omega
    have hw := wrap_in (a := (i : Int) + 1) (by omega) (by omega)
    have hzi := h.1 zs[i] (List.getElem_mem hi)
    have hWs := Wl_ok hS0 zs i
    have ld := Wl_word S1 hi
    have hc := c_atoi hWs g (by omega) (s := textZ zs[i]) (v := zs[i]) (by have := text_size hzi; omega) (text_back hzi)
    have st := Wl_step hn1 hi
    generalize Wl S1 zs (i + 1) = W' at st
    generalize Wl S1 zs i = W at ld hc st
    repeat' (first | refine Wp.seq ?_ | refine Wp.block ?_ | (apply Wp.region; focus ((try simp [h0, h5, h15, h16, h17, hlt, hi, ld, hc, st, hw, tiSs, tiSr]) <;> rfl)) | (refine Wp.cond_t ?_ ?_; focus (simp [h0, h5, h15, h16, h17, hlt, hi, ld, hc, st, hw, tiSs, tiSr]; done)) | (refine Wp.cond_f ?_ ?_; focus (simp [h0, h5, h15, h16, h17, hlt, hi, ld, hc, st, hw, tiSs, tiSr]; done)) | refine Wp.skip ?_ | refine Wp.ret ?_ | refine Wp.exit ?_ | refine Blk.here ?_ | (refine Blk.past ?_ ?_; focus (simp; done)))
    exact ⟨by simp [h0], by simp [h5], by simp [h15], by simp [h16], by simp, rfl⟩
  · rintro f ⟨tm, T⟩ ⟨h0, h5, h15, h16, h17, rfl⟩
    simp only at h0 h5 h15 h16 h17
    have hWs := Wl_ok hS0 zs zs.length
    have hll : listL zs zs.length = zs := by simp [listL]
    have hlk := Wl_list S1 zs zs.length
    rw [hll] at hlk
    have hNm : Nm zs := fun z hz => by have := h.1 z hz; exact wrap_in (by omega) (by omega)
    have c2 := c_vi hWs g (by omega) (x := .rsl (S1.next + 1) 0 zs.length (some zs.length)) (zs := zs) (consts_cap (S := ⟨(Wl S1 zs zs.length).next, (Wl S1 zs zs.length).obs, (Wl S1 zs zs.length).next⟩) (.inr rfl) hlk) (by omega) hNm
    rw [decide_eq_true h] at c2
    obtain ⟨n', hn', c3⟩ := implST zs (by omega) hNm hWs (cp := some zs.length) (.inr rfl) hlk g (by omega)
    have ht : Sto.trim S1.next (.tup [.rsl (S1.next + 1) 0 zs.length (some zs.length), .bool true]) (⟨n', (Wl S1 zs zs.length).obs, (Wl S1 zs zs.length).low⟩ : Sto Sy) = ⟨n', (S1.next + 1, ints (nums zs)) :: S1.obs, S1.low⟩ := by
      unfold Sto.trim
      rw [if_neg (by rw [Nat.blt_eq]; show ¬ S1.low < S1.next; omega)]
      have hd : deeper (Wl S1 zs zs.length).obs [S1.next + 1] = [] := by simp only [deeper, hlk]; rw [refs_ints0]; rfl
      simp only [V.refs, refsL, List.append_nil, hd]
      unfold Wl
      rw [hll]
      simp only [keepNew]
      rw [if_neg (by rw [Nat.blt_eq]; omega), if_pos (by simp), if_neg (by rw [Nat.blt_eq]; omega), if_neg (by simp), keepNew_id hS0.desc]
    have hn2 : S1.next + 2 ≤ n' := hn'
    generalize Wl S1 zs zs.length = W at c2 c3 ht
    repeat' (first | refine Wp.seq ?_ | refine Wp.block ?_ | (apply Wp.region; focus ((try simp [h0, h5, h15, h16, h17, c2, c3]) <;> rfl)) | (refine Wp.cond_t ?_ ?_; focus (simp [h0, h5, h15, h16, h17, c2, c3]; done)) | (refine Wp.cond_f ?_ ?_; focus (simp [h0, h5, h15, h16, h17, c2, c3]; done)) | refine Wp.skip ?_ | refine Wp.ret ?_ | refine Wp.exit ?_ | refine Blk.here ?_ | (refine Blk.past ?_ ?_; focus (simp; done)))
    refine ⟨rfl, (.tup [.rsl (S1.next + 1) 0 zs.length (some zs.length), .bool true], ⟨n', (S1.next + 1, ints (nums zs)) :: S1.obs, S1.low⟩), ?_, S1.next + 1, by rw [← hS1]; exact Nat.le_succ _, rfl, ?_, ?_, ?_, ?_, fun k x hk => ?_⟩
    · simp [answer, aresults, aresult, h5]
      exact ht
    · show S.next ≤ S1.low
      rw [← hS1]
      exact Nat.le_refl _
    · show S1.low ≤ n'
      omega
    · exact ⟨by show S1.next + 1 < n'; omega, desc_up hS0.desc (Nat.le_succ _)⟩
    · rw [look_cons, if_pos rfl]
    · have hk1 : Go.Sx.look S1.obs k = some x := by rw [← hS1]; exact hk
      have := hS0.desc.look_lt hk1
      rw [look_cons, if_neg (by omega)]; exact hk1
end Go.Proofs.YtgaodlhdilhliaaGreatDoor.St

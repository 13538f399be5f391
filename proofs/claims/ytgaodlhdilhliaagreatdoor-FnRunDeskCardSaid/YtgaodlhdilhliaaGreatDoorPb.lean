/-
  Texts that are cut, by a run by hand; numbers that are read, by a run by hand. No condition.
-/
import Derived.Test.YtgaodlhdilhliaaGreatDoorRows
import Derived.Test.YtgaodlhdilhliaaGreatDoorSym
import Derived.Test.YtgaodlhdilhliaaGreatDoorSymD
import Derived.Test.YtgaodlhdilhliaaGreatDoorSymE
import Derived.Test.YtgaodlhdilhliaaGreatDoorSymF
import Derived.Test.YtgaodlhdilhliaaGreatDoorIds
import Derived.Test.YtgaodlhdilhliaaGreatDoorDraw
import Derived.Test.YtgaodlhdilhliaaGreatDoorSh
import Derived.Test.YtgaodlhdilhliaaGreatDoorShB
import Derived.Test.YtgaodlhdilhliaaGreatDoorSt
import Derived.Test.YtgaodlhdilhliaaGreatDoorSp
import Derived.Test.YtgaodlhdilhliaaGreatDoorTel
import Derived.Test.YtgaodlhdilhliaaGreatDoorNum
import Derived.Test.YtgaodlhdilhliaaGreatDoorTx
import Derived.Test.YtgaodlhdilhliaaGreatDoorTy
import Derived.Test.YtgaodlhdilhliaaGreatDoorTz
import Derived.Test.YtgaodlhdilhliaaGreatDoorSj
import Derived.Test.YtgaodlhdilhliaaGreatDoorAt
import Derived.Test.YtgaodlhdilhliaaGreatDoorPa
import Derived.Test.YtgaodlhdilhliaaGreatDoorCut
import Derived.Test.YtgaodlhdilhliaaGreatDoorPm
import Derived.WalkKit
import Derived.ProofKit
import Derived.OpenShut
namespace Go.Proofs.YtgaodlhdilhliaaGreatDoor.St
open Go.ChangeShapes Go.WideShapes Go.ChangeAt Go.RowKit Go.Sx Go.Proofs.YtgaodlhdilhliaaGreatDoor.Ids
set_option linter.unusedVariables false
set_option linter.unusedSimpArgs false

/-- From one store on to a later one: what was there stands. -/
structure Gro (a b : Sto Sy) : Prop where
  desc : Desc b.next b.obs
  next : a.next ≤ b.next
  low1 : a.low ≤ b.low
  low2 : b.low ≤ b.next
  keep : ∀ k x, Go.Sx.look a.obs k = some x → Go.Sx.look b.obs k = some x
theorem Gro.refl {a : Sto Sy} (h : Wst a) : Gro a a := ⟨h.desc, Nat.le_refl _, Nat.le_refl _, h.low, fun _ _ h => h⟩
theorem Gro.wst {a b : Sto Sy} (h : Gro a b) : Wst b := ⟨h.desc, h.low2⟩
theorem Gro.trans {a b c : Sto Sy} (h : Gro a b) (h' : Gro b c) : Gro a c := ⟨h'.desc, Nat.le_trans h.next h'.next, Nat.le_trans h.low1 h'.low1, h'.low2, fun k x hk => h'.keep k x (h.keep k x hk)⟩
theorem look_new1 (S : Sto Sy) (cs : List (V Sy)) {k : Nat} (hk : k < S.next) : Go.Sx.look (S.new cs).obs k = Go.Sx.look S.obs k := by
  show Go.Sx.look ((S.next, noBc cs) :: S.obs) k = _
  rw [look_cons, if_neg (by omega)]
theorem Gro.new {a b : Sto Sy} (h : Gro a b) (cs : List (V Sy)) : Gro a (b.new cs) := ⟨⟨Nat.lt_succ_self _, h.desc⟩, Nat.le_succ_of_le h.next, h.low1, Nat.le_succ_of_le h.low2, fun k x hk => by
  have := h.keep k x hk
  rw [look_new1 b cs (h.desc.look_lt this)]
  exact this⟩
/-- A list of texts that a run has made. -/
structure IsT (obs : List (Nat × Ob Sy)) (q : Nat) (xs : List ByteArray) (v : V Sy) : Prop where
  val : ∃ cp, v = .rsl q 0 xs.length cp ∧ (cp = none ∨ cp = some xs.length)
  obj : Go.Sx.look obs q = some (strs xs)
theorem strs_len (xs : List ByteArray) : (strs xs).length = xs.length := by simp [strs]
theorem strs_app (xs ys : List ByteArray) : strs xs ++ strs ys = strs (xs ++ ys) := by simp [strs]
theorem new_strs (S : Sto Sy) (xs : List ByteArray) : Go.Sx.look (S.new (strs xs)).obs S.next = some (strs xs) := by
  show Go.Sx.look ((S.next, noBc (strs xs)) :: S.obs) S.next = _
  rw [look_cons, if_pos rfl, noBc_strs]
theorem tiSs : tiOf Tryz.prog 23 = some ⟨.slice 9, 1, 24, .slice none 0 0, true⟩ := by kernel_rfl
/-- A list of texts grows by one. -/
theorem append_str {a S : Sto Sy} (hG : Gro a S) (ha : Wst a) {q : Nat} {xs : List ByteArray} {v : V Sy} (hq : a.next ≤ q) (h : IsT S.obs q xs v) (hx : xs.length ≤ 2000000) (x : ByteArray) :
    ∃ v' S' q', aappend (symNum []) (tiOf Tryz.prog) (S.new (strs [x])) 23 23 v (.rsl S.next 0 1 (some 1)) = some (v', S') ∧ Gro a S' ∧ a.next ≤ q' ∧ IsT S'.obs q' (xs ++ [x]) v' := by
  obtain ⟨cp, rfl, hcp⟩ := h.val
  have hqn := hG.desc.look_lt h.obj
  have ho : lookC (S.new (strs [x])).obs q = some (strs xs) := lookC_iff.2 ⟨by rw [look_new1 S _ hqn]; exact h.obj, strs_nm _⟩
  have hy : lookC (S.new (strs [x])).obs S.next = some (strs [x]) := lookC_iff.2 ⟨new_strs S [x], strs_nm _⟩
  have he : (S.new (strs [x])).elems (.rsl S.next 0 1 (some 1)) = some [V.str x] := by
    simp only [Sto.elems, Sto.cells, hy]
    rfl
  have hz : (ofV (symNum []) (Value.string ⟨#[]⟩)).oneCell = true := rfl
  have happ : strs xs ++ [V.str x] = strs (xs ++ [x]) := by rw [← strs_app]; rfl
  have hb1 : (xs.length + 1) * 16 ≤ 140737488355328 := by omega
  have hb2 : xs.length + 1 ≤ 9223372036854775807 := by omega
  have hle : (xs ++ [x]).length = xs.length + 1 := by simp
  have hd1 : Desc (S.next + 1) (S.new (strs [x])).obs := ⟨Nat.lt_succ_self _, hG.desc⟩
  have hkeep : ∀ k y, Go.Sx.look a.obs k = some y → k < a.next → Go.Sx.look (S.new (strs [x])).obs k = some y := fun k y hk hka => by
    have h1 := hG.keep k y hk
    rw [look_new1 S _ (hG.desc.look_lt h1)]; exact h1
  have hn := hG.next
  have hl := ha.low
  have hlo1 := hG.low1
  have hlo2 := hG.low2
  rcases hcp with rfl | rfl
  · refine ⟨.rsl (S.next + 1) 0 (xs.length + 1) none, ⟨S.next + 1 + 1, (S.next + 1, strs (xs ++ [x])) :: del (S.new (strs [x])).obs q, if Nat.blt q S.low then q else S.low⟩, S.next + 1, ?_, ⟨⟨Nat.lt_succ_self _, Desc.del q hd1⟩, by show a.next ≤ S.next + 1 + 1; omega, ?_, ?_, fun k y hk => ?_⟩, by omega, ⟨⟨none, by rw [hle], .inl rfl⟩, by show Go.Sx.look ((S.next + 1, _) :: _) (S.next + 1) = _; rw [look_cons, if_pos rfl]⟩⟩
    · have htk : (strs xs).take xs.length = strs xs := List.take_of_length_le (by rw [strs_len]; exact Nat.le_refl _)
      simp only [aappend, tiSs, tiStr, he, ho, hz, List.all_cons, List.all_nil, V.oneCell, Bool.and_true, true_and, and_true, if_true, strs_len, List.length_cons, List.length_nil, Nat.zero_add, htk, happ, Nat.le_refl]
      rw [if_pos (show (xs.length + 1) * 16 ≤ 140737488355328 ∧ xs.length + 1 ≤ 9223372036854775807 from ⟨hb1, hb2⟩)]
      rfl
    · show a.low ≤ (if Nat.blt q S.low then q else S.low)
      split <;> omega
    · show (if Nat.blt q S.low then q else S.low) ≤ S.next + 1 + 1
      split <;> omega
    · have hka := ha.desc.look_lt hk
      show Go.Sx.look ((S.next + 1, _) :: del _ q) k = _
      rw [look_cons, if_neg (by omega), look_del_ne (by omega)]
      exact hkeep k y hk hka
  · have hc : ¬ xs.length + 1 ≤ xs.length := by omega
    refine ⟨.rsl (S.next + 1) 0 (xs.length + 1) none, (S.new (strs [x])).new (strs (xs ++ [x])), S.next + 1, ?_, (hG.new _).new _, by omega, ⟨⟨none, by rw [hle], .inl rfl⟩, new_strs (S.new (strs [x])) _⟩⟩
    have hdt : ((strs xs).drop 0).take xs.length ++ [V.str x] = strs (xs ++ [x]) := by rw [← happ, List.drop_zero, List.take_of_length_le (by rw [strs_len]; exact Nat.le_refl _)]
    simp only [aappend, tiSs, tiStr, he, ho, hz, List.all_cons, List.all_nil, V.oneCell, Bool.and_true, true_and, and_true, if_true, strs_len, List.length_cons, List.length_nil, Nat.zero_add, hdt, Nat.le_refl]
    rw [if_pos (show (xs.length + 1) * 16 ≤ 140737488355328 ∧ xs.length + 1 ≤ 9223372036854775807 from ⟨hb1, hb2⟩)]
    simp only [if_neg hc]
    rfl

theorem litS0 (sto : Sto Sy) : abuildSlice (symNum []) (tiOf Tryz.prog) sto 23 0 [] = some (.rsl sto.next 0 0 (some 0), sto.new (strs [])) := by kernel_rfl
theorem litS1 (sto : Sto Sy) (x : ByteArray) : abuildSlice (symNum []) (tiOf Tryz.prog) sto 23 1 [(0, .str x)] = some (.rsl sto.next 0 1 (some 1), sto.new (strs [x])) := by kernel_rfl
theorem str_at {s : ByteArray} {i : Nat} (hi : i < s.size) : s[i]? = some (s.data.toList[i]'(by rw [← size_list]; exact hi)) := by
  rw [getElem?_pos s i hi]
  rfl
theorem ext_list (s : ByteArray) (a b : Nat) : (s.extract a b).data.toList = (s.data.toList.take b).drop a := by
  rw [ByteArray.data_extract, Array.toList_extract, List.extract_eq_take_drop, List.drop_take]
attribute [local simp] aops wants aop apure St.eval setTm_some setTm_none Tr.get_set evals pevals apureB alen tiS tiI tiB Draw.tiU tiSs tiStr abin aint isCmp sym_lt sym_eqs sym_neqs sym_eq sym_neq sym_gtr sym_leq sym_geq sym_add sym_sub sym_mul aeff aeffB idx? ofV aindexAddr aindex aggDesc aifc_int aun aifc_str
/-- What a call leaves, seen from where it was called. -/
theorem call_gro {k : FuncId} {args : List (V Sy)} {S : Sto Sy} {r : V Sy × Sto Sy} {n : Nat} (hS : Wst S) (h : symRun Tryz.prog KL [] n k args ⟨S.next, S.obs, S.next⟩ = some r) (hg : Gro ⟨S.next, S.obs, S.next⟩ r.2) (hk : (k : Nat) < 1000000 := by decide) :
    ∃ S', acallV (symIn Tryz.prog KL [] n) S (.func k [] []) args = some (r.1, S') ∧ Gro S S' ∧ S'.obs = r.2.obs ∧ S'.next = r.2.next := by
  have h1 := hg.low1
  have h2 := hg.low2
  have h3 := hg.next
  have h4 := hS.low
  simp only at h1 h3
  refine ⟨⟨r.2.next, r.2.obs, if Nat.blt r.2.low S.low then r.2.low else S.low⟩, ?_, ⟨hg.desc, h3, ?_, ?_, hg.keep⟩, rfl, rfl⟩
  · rw [acallV_func hk, List.nil_append, List.append_nil, symIn_run hk, h]
  · show S.low ≤ (if Nat.blt r.2.low S.low then r.2.low else S.low)
    split <;> omega
  · show (if Nat.blt r.2.low S.low then r.2.low else S.low) ≤ r.2.next
    split <;> omega
theorem trim_lowv {n0 : Nat} {r : V Sy} {sto : Sto Sy} : (Sto.trim n0 r sto).low = sto.low := by
  unfold Sto.trim
  split
  · rfl
  · split
    · rfl
    · split <;> rfl
/-- What a function returns: the store is cut. -/
theorem gro_trim {a S : Sto Sy} (ha : Wst a) (h : Gro a S) (v : V Sy) : Gro a (Sto.trim a.next v S) :=
  ⟨trim_desc h.desc, by rw [trim_next]; exact h.next, by rw [trim_lowv]; exact h.low1, by rw [trim_lowv, trim_next]; exact h.low2, fun k x hk => by
    rw [trim_old (ha.desc.look_lt hk)]; exact h.keep k x hk⟩
set_option maxRecDepth 10000 in
theorem splitAt_run (s : ByteArray) (c : UInt8) (hs : s.size ≤ 1500000) {S : Sto Sy} (hS : Wst S) (m : Nat) (hm : s.size < m) :
    ∃ r, symRun Tryz.prog KL [] (m + 1) 34 [.str s, .int .u8 (.c (c.toNat : Int))] ⟨S.next, S.obs, S.next⟩ = some r ∧ Gro ⟨S.next, S.obs, S.next⟩ r.2 ∧ ∃ q, S.next ≤ q ∧ IsT r.2.obs q (cutB c s) r.1 := by
  have hS0 : Wst ⟨S.next, S.obs, S.next⟩ := ⟨hS.desc, Nat.le_refl _⟩
  have hN : (⟨S.next, S.obs, S.next⟩ : Sto Sy).next = S.next := rfl
  generalize (⟨S.next, S.obs, S.next⟩ : Sto Sy) = S1 at hS0 hN ⊢
  have hcl := cutB_len c s
  refine own_run2 (n := m) (by rfl) Tryz.func34 rfl rfl ?_
  simp only [Tryz.f34]
  repeat' (first | refine Wp.seq ?_ | refine Wp.block ?_ | (apply Wp.region; focus ((try simp [setArgs, litS0]) <;> rfl)) | (refine Wp.cond_t ?_ ?_; focus (simp [setArgs, litS0]; done)) | (refine Wp.cond_f ?_ ?_; focus (simp [setArgs, litS0]; done)) | refine Wp.skip ?_ | refine Wp.ret ?_ | refine Wp.exit ?_ | refine Blk.here ?_ | (refine Blk.past ?_ ?_; focus (simp; done)))
  refine Wp.loop rfl rfl (fun i st => st.tm.get .any 0 = .str s ∧ st.tm.get .any 1 = .int .u8 (.c (c.toNat : Int)) ∧ st.tm.get .any 7 = .int .i64 (.c i) ∧ ∃ (fr q : Nat) (xs : List ByteArray), st.tm.get .any 6 = .int .i64 (.c fr) ∧ fr ≤ i ∧ S1.next ≤ q ∧ IsT st.sto.obs q xs (st.tm.get .any 5) ∧
    c ∉ (s.data.toList.take i).drop fr ∧ cutL c s.data.toList = xs.map (·.data.toList) ++ cutL c (s.data.toList.drop fr) ∧ Gro S1 st.sto) s.size hm ?_ ?_ ?_
  · refine ⟨by simp [setArgs], by simp [setArgs], by simp, 0, S1.next, [], by simp, Nat.le_refl _, Nat.le_refl _, ⟨⟨some 0, by simp, .inr rfl⟩, new_strs S1 []⟩, by simp, by simp, (Gro.refl hS0).new _⟩
  · rintro f i ⟨tm, T⟩ hi ⟨h0, h1, h7, fr, q, xs, h6, hfi, hq, hT, hnc, hcut, hG⟩
    simp only at h0 h1 h7 h6 hT hG
    have hlt : (i : Int) < s.size := by omega
    have hw := wrap_in (a := (i : Int) + 1) (by omega) (by omega)
    have hsl : s.data.toList.length = s.size := (size_list s).symm
    have hil : i < s.data.toList.length := by omega
    have hxi := str_at hi
    have htk : s.data.toList.take (i + 1) = s.data.toList.take i ++ [s.data.toList[i]] := List.take_succ_eq_append_getElem hil
    have hdr : s.data.toList.drop fr = (s.data.toList.take i).drop fr ++ s.data.toList[i] :: s.data.toList.drop (i + 1) := by
      have h8 : s.data.toList = s.data.toList.take i ++ s.data.toList[i] :: s.data.toList.drop (i + 1) := by
        rw [← List.drop_eq_getElem_cons hil, List.take_append_drop]
      have h9 : fr ≤ (s.data.toList.take i).length := by rw [List.length_take]; omega
      calc s.data.toList.drop fr = (s.data.toList.take i ++ s.data.toList[i] :: s.data.toList.drop (i + 1)).drop fr := by rw [← h8]
        _ = _ := List.drop_append_of_le_length h9
    have hdt : (s.data.toList.take (i + 1)).drop fr = (s.data.toList.take i).drop fr ++ [s.data.toList[i]] := by
      rw [htk, List.drop_append_of_le_length (by rw [List.length_take]; omega)]
    generalize s.data.toList[i] = b at hxi htk hdr hdt
    by_cases hbc : b = c
    · subst hbc
      have hxs : xs.length ≤ 2000000 := by
        have := congrArg List.length hcut
        rw [List.length_append, List.length_map, ← cutB_lists, List.length_map] at this
        omega
      obtain ⟨v', S', q', k1, k2, k3, k4⟩ := append_str hG hS0 hq hT hxs (s.extract fr i)
      have hsm := sl_mid (s := s) hfi (Nat.le_of_lt hi)
      obtain ⟨cp, hv, hcp⟩ := hT.val
      rw [hv] at k1
      repeat' (first | refine Wp.seq ?_ | refine Wp.block ?_ | (apply Wp.region; focus ((try simp [h0, h1, h7, h6, hv, hlt, hxi, oeval, hsm, litS1, k1, hw]) <;> rfl)) | (refine Wp.cond_t ?_ ?_; focus (simp [h0, h1, h7, h6, hv, hlt, hxi, oeval, hsm, litS1, k1, hw]; done)) | (refine Wp.cond_f ?_ ?_; focus (simp [h0, h1, h7, h6, hv, hlt, hxi, oeval, hsm, litS1, k1, hw]; done)) | refine Wp.skip ?_ | refine Wp.ret ?_ | refine Wp.exit ?_ | refine Blk.here ?_ | (refine Blk.past ?_ ?_; focus (simp; done)))
      refine ⟨by simp [h0], by simp [h1], by simp, i + 1, q', xs ++ [s.extract fr i], by simp, Nat.le_refl _, k3, by simpa using k4, ?_, ?_, k2⟩
      · rw [List.drop_of_length_le (by rw [List.length_take]; omega)]; simp
      · rw [hcut, hdr, cutL_hit _ hnc, List.map_append, List.append_assoc]
        congr 1
        rw [List.map_cons, List.map_nil, List.singleton_append, ext_list]
    · have hbn : ¬ (b.toNat : Int) = (c.toNat : Int) := fun e => hbc (UInt8.toNat_inj.1 (by omega))
      repeat' (first | refine Wp.seq ?_ | refine Wp.block ?_ | (apply Wp.region; focus ((try simp [h0, h1, h7, h6, hlt, hxi, hbc, hbn, hw]) <;> rfl)) | (refine Wp.cond_t ?_ ?_; focus (simp [h0, h1, h7, h6, hlt, hxi, hbc, hbn, hw]; done)) | (refine Wp.cond_f ?_ ?_; focus (simp [h0, h1, h7, h6, hlt, hxi, hbc, hbn, hw]; done)) | refine Wp.skip ?_ | refine Wp.ret ?_ | refine Wp.exit ?_ | refine Blk.here ?_ | (refine Blk.past ?_ ?_; focus (simp; done)))
      refine ⟨by simp [h0], by simp [h1], by simp, fr, q, xs, by simp [h6], by omega, hq, by simpa using hT, ?_, hcut, hG⟩
      rw [hdt, List.mem_append]
      rintro (e | e)
      · exact hnc e
      · simp at e; exact hbc e.symm
  · rintro f ⟨tm, T⟩ ⟨h0, h1, h7, fr, q, xs, h6, hfi, hq, hT, hnc, hcut, hG⟩
    simp only at h0 h1 h7 h6 hT hG
    have hsl : s.data.toList.length = s.size := (size_list s).symm
    rw [List.take_of_length_le (by omega)] at hnc
    rw [cutL_none hnc] at hcut
    have hxs : xs.length ≤ 2000000 := by
      have := congrArg List.length hcut
      rw [List.length_append, List.length_map, ← cutB_lists, List.length_map] at this
      omega
    obtain ⟨v', S', q', k1, k2, k3, k4⟩ := append_str hG hS0 hq hT hxs (s.extract fr s.size)
    have hsm := sl_from (s := s) hfi
    obtain ⟨cp, hv, hcp⟩ := hT.val
    rw [hv] at k1
    repeat' (first | refine Wp.seq ?_ | refine Wp.block ?_ | (apply Wp.region; focus ((try simp [h0, h1, h7, h6, hv, oeval, hsm, litS1, k1]) <;> rfl)) | (refine Wp.cond_t ?_ ?_; focus (simp [h0, h1, h7, h6, hv, oeval, hsm, litS1, k1]; done)) | (refine Wp.cond_f ?_ ?_; focus (simp [h0, h1, h7, h6, hv, oeval, hsm, litS1, k1]; done)) | refine Wp.skip ?_ | refine Wp.ret ?_ | refine Wp.exit ?_ | refine Blk.here ?_ | (refine Blk.past ?_ ?_; focus (simp; done)))
    have hall : xs ++ [s.extract fr s.size] = cutB c s := by
      apply lists_inj
      rw [cutB_lists, hcut, List.map_append, List.map_cons, List.map_nil, ext_list, List.take_of_length_le (by omega)]
    rw [hall] at k4
    refine ⟨rfl, answer_trim1 (v := v') (by simp) ⟨gro_trim hS0 k2 v', q', by omega, k4.val, ?_⟩⟩
    obtain ⟨cp', hv', _⟩ := k4.val
    rw [trim_look (by rw [hv']; simp [V.refs])]
    exact k4.obj
end Go.Proofs.YtgaodlhdilhliaaGreatDoor.St

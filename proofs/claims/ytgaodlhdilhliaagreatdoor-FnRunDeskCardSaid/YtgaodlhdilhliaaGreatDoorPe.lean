/-
  Series that are read, by runs by hand (both sides, at every text). No condition.
-/
import Derived.Test.YtgaodlhdilhliaaGreatDoorRows
import Derived.Test.YtgaodlhdilhliaaGreatDoorSym
import Derived.Test.YtgaodlhdilhliaaGreatDoorSymD
import Derived.Test.YtgaodlhdilhliaaGreatDoorSymE
import Derived.Test.YtgaodlhdilhliaaGreatDoorSymF
import Derived.Test.YtgaodlhdilhliaaGreatDoorIds
import Derived.Test.YtgaodlhdilhliaaGreatDoorSh
import Derived.Test.YtgaodlhdilhliaaGreatDoorShB
import Derived.Test.YtgaodlhdilhliaaGreatDoorSt
import Derived.Test.YtgaodlhdilhliaaGreatDoorSp
import Derived.Test.YtgaodlhdilhliaaGreatDoorTel
import Derived.Test.YtgaodlhdilhliaaGreatDoorNum
import Derived.Test.YtgaodlhdilhliaaGreatDoorTx
import Derived.Test.YtgaodlhdilhliaaGreatDoorTy
import Derived.Test.YtgaodlhdilhliaaGreatDoorTz
import Derived.Test.YtgaodlhdilhliaaGreatDoorSj
import Derived.Test.YtgaodlhdilhliaaGreatDoorAt
import Derived.Test.YtgaodlhdilhliaaGreatDoorPa
import Derived.Test.YtgaodlhdilhliaaGreatDoorCut
import Derived.Test.YtgaodlhdilhliaaGreatDoorPm
import Derived.Test.YtgaodlhdilhliaaGreatDoorPb
import Derived.Test.YtgaodlhdilhliaaGreatDoorPc
import Derived.Test.YtgaodlhdilhliaaGreatDoorPd
import Derived.WalkKit
import Derived.ProofKit
import Derived.OpenShut
namespace Go.Proofs.YtgaodlhdilhliaaGreatDoor.St
open Go.ChangeShapes Go.WideShapes Go.ChangeAt Go.RowKit Go.Sx Go.Proofs.YtgaodlhdilhliaaGreatDoor.Ids
set_option linter.unusedVariables false
set_option linter.unusedSimpArgs false

noncomputable def valA (x : ByteArray) : Int := match Lib.atoiAll x.data.toList with
  | .ok v => v
  | _ => 0
theorem valA_ok {x : ByteArray} {v : Int} (h : Lib.atoiAll x.data.toList = .ok v) : valA x = v := by
  unfold valA; rw [h]
theorem splitB_size {sep : ByteArray} {save : Nat} : ∀ (k : Nat) (s x : ByteArray), x ∈ Lib.splitB sep save k s → x.size ≤ s.size
  | 0, s, x, h => by
    have : x = s := by simpa [Lib.splitB] using h
    rw [this]; exact Nat.le_refl _
  | k + 1, s, x, h => by
    unfold Lib.splitB at h
    split at h
    · have : x = s := by simpa using h
      rw [this]; exact Nat.le_refl _
    · rcases List.mem_cons.1 h with rfl | h
      · rw [size_list, size_list, ext_list, List.length_drop, List.length_take]; omega
      · have := splitB_size k _ x h
        refine Nat.le_trans this ?_
        rw [size_list, size_list s, ext_list, List.length_drop, List.length_take]; omega
/-- The numbers so far, and zeros. -/
noncomputable def halfV (xs : List ByteArray) (i : Nat) : List Int := (xs.take i).map valA ++ List.replicate (xs.length - i) 0
theorem halfV_len (xs : List ByteArray) {i : Nat} (hi : i ≤ xs.length) : (halfV xs i).length = xs.length := by simp [halfV]; omega
theorem halfV_set (xs : List ByteArray) {i : Nat} (hi : i < xs.length) : (halfV xs i).set i (valA xs[i]) = halfV xs (i + 1) := by
  unfold halfV
  rw [List.set_append_right _ _ (by simp; omega), map_take_succ _ hi, List.append_assoc]
  congr 1
  have e : i - ((xs.take i).map valA).length = 0 := by simp; omega
  rw [e, show xs.length - i = (xs.length - (i + 1)) + 1 by omega, List.replicate_succ]
  rfl
theorem halfV_all (xs : List ByteArray) : halfV xs xs.length = xs.map valA := by simp [halfV]
noncomputable def Wv (S : Sto Sy) (xs : List ByteArray) (i : Nat) : Sto Sy := ⟨S.next + 2, (S.next + 1, ints (nums (halfV xs i))) :: (S.next, strs xs) :: S.obs, S.low⟩
theorem Wv_gro {S : Sto Sy} (hS : Wst S) (xs : List ByteArray) (i : Nat) : Gro S (Wv S xs i) := ⟨⟨Nat.lt_succ_self _, Nat.lt_succ_self _, hS.desc⟩, by show S.next ≤ S.next + 2; omega, Nat.le_refl _, by have := hS.low; show S.low ≤ S.next + 2; omega, fun k x hk => by
  have := hS.desc.look_lt hk
  unfold Wv
  rw [look_cons, if_neg (by omega), look_cons, if_neg (by omega)]; exact hk⟩
theorem Wv_words (S : Sto Sy) (xs : List ByteArray) (i : Nat) : Go.Sx.look (Wv S xs i).obs S.next = some (strs xs) := by unfold Wv; rw [look_cons, if_neg (by omega), look_cons, if_pos rfl]
theorem Wv_list (S : Sto Sy) (xs : List ByteArray) (i : Nat) : Go.Sx.look (Wv S xs i).obs (S.next + 1) = some (ints (nums (halfV xs i))) := by unfold Wv; rw [look_cons, if_pos rfl]
theorem Wv_step {S : Sto Sy} (hn : S.low = S.next) {xs : List ByteArray} {i : Nat} (hi : i < xs.length) : astore (tiOf Tryz.prog) (Wv S xs i) 3 (.ptr (S.next + 1) i) (.int .i64 (.c (valA xs[i]))) = some (Wv S xs (i + 1)) := by
  have hl := halfV_len xs (i := i) (by omega)
  have hI : IsL (Wv S xs i).obs (S.next + 1) (halfV xs i) (.rsl (S.next + 1) 0 (halfV xs i).length none) := ⟨⟨none, rfl, .inl rfl⟩, Wv_list S xs i⟩
  rw [store_ok tiI hI (by omega), halfV_set xs hi]
  unfold Wv Sto.write
  simp [put, hn]
attribute [local simp] aops wants aop apure St.eval setTm_some setTm_none Tr.get_set evals pevals apureB alen tiS tiI tiB Draw.tiU tiSs tiStr abin aint isCmp sym_lt sym_eqs sym_neqs sym_eq sym_neq sym_gtr sym_leq sym_geq sym_add sym_sub sym_sub8 sym_mul aeff aeffB idx? ofV aindexAddr aindex aggDesc aifc_int aun aifc_str
theorem aifc_err : aifc (I := Sy) (tiOf Tryz.prog) .neq 46 (.tmp 27) (.const .nilIface) (.iface errT .any) .nilIface = some (.bool true) := by kernel_rfl
set_option maxRecDepth 10000 in
theorem implPb (s : ByteArray) (hs : s.size ≤ 1048577) (hno : ¬ ∃ zs, OkT s zs) {S : Sto Sy} (hS : Wst S) (f : Nat) (hf : 60 ≤ f) :
    ∃ r, symRun Tryz.prog KL [] f 32 [.str s] ⟨S.next, S.obs, S.next⟩ = some r ∧ Ans ⟨S.next, S.obs, S.next⟩ none r := by
  obtain ⟨g, rfl⟩ : ∃ g, f = g + 1 := ⟨f - 1, by omega⟩
  have hS0 : Wst ⟨S.next, S.obs, S.next⟩ := ⟨hS.desc, Nat.le_refl _⟩
  have hn1 : (⟨S.next, S.obs, S.next⟩ : Sto Sy).low = (⟨S.next, S.obs, S.next⟩ : Sto Sy).next := rfl
  generalize (⟨S.next, S.obs, S.next⟩ : Sto Sy) = S1 at hS0 hn1 ⊢
  refine own_run2 (by rfl) Tryz.func32 rfl rfl ?_
  simp only [Tryz.f32]
  have c1 := c_split hS0 g (by omega) (s := s) (sep := comma) (n := 7) ⟨by omega, by decide, by omega, by omega⟩
  have hl7 : (splitX s comma 7).length ≤ 7 := by
    have := Lib.splitB_length_le comma 0 (min (7 : Int).toNat (s.size + 1) - 1) s
    have e7 : (7 : Int).toNat = 7 := rfl
    unfold splitX
    omega
  have hxz : ∀ x, x ∈ splitX s comma 7 → x.size ≤ s.size := fun x hx => splitB_size _ s x hx
  have ec : comma = ByteArray.mk #[44] := rfl
  rw [ec] at c1
  rw [← ec] at c1
  generalize splitX s comma 7 = xs at c1 hl7 hxz
  rw [ec] at c1
  have hb : (8 : Int) * (xs.length : Int) ≤ 140737488355328 ∧ (xs.length : Int) ≤ 9223372036854775807 ∧ (0 : Int) ≤ xs.length := by omega
  repeat' (first | refine Wp.seq ?_ | refine Wp.block ?_ | (apply Wp.region; focus ((try simp [setArgs, amakeSlice, hb.1, hb.2.1, hb.2.2, V.oneCell, c1]) <;> rfl)) | (refine Wp.cond_t ?_ ?_; focus (simp [setArgs, amakeSlice, hb.1, hb.2.1, hb.2.2, V.oneCell, c1]; done)) | (refine Wp.cond_f ?_ ?_; focus (simp [setArgs, amakeSlice, hb.1, hb.2.1, hb.2.2, V.oneCell, c1]; done)) | refine Wp.skip ?_ | refine Wp.ret ?_ | refine Wp.exit ?_ | refine Blk.here ?_ | (refine Blk.past ?_ ?_; focus (simp; done)))
  refine Wp.loop rfl rfl (fun i st => st.tm.get .any 0 = .str s ∧ st.tm.get .any 5 = .rsl (S1.next + 1) 0 xs.length (some xs.length) ∧ st.tm.get .any 15 = .rsl S1.next 0 xs.length none ∧ st.tm.get .any 16 = .int .i64 (.c xs.length) ∧ st.tm.get .any 17 = .int .i64 (.c i) ∧ st.sto = Wv S1 xs i ∧ ∀ x, x ∈ xs.take i → ∃ v, Lib.atoiAll x.data.toList = .ok v) xs.length (by omega) ?_ ?_ ?_
  · refine ⟨by simp [setArgs], by simp, by simp, by simp, by simp, ?_, by simp⟩
    show Sto.new _ _ = _
    unfold Sto.new Wv
    simp [halfV, ints_replicate0]
    rw [← ints_replicate0, noBc_ints]
  · rintro f i ⟨tm, T⟩ hi ⟨h0, h5, h15, h16, h17, rfl, hall⟩
    simp only at h0 h5 h15 h16 h17
    have hlt : (i : Int) < xs.length := by omega
    have hw := wrap_in (a := (i : Int) + 1) (by omega) (by omega)
    have hG := Wv_gro hS0 xs i
    have ld := loadS (Wv_words S1 xs i) hi
    have hsz := hxz xs[i] (List.getElem_mem hi)
    have hts2 : ∀ x, x ∈ xs.take (i + 1) → x ∈ xs.take i ∨ x = xs[i] := fun x hx => by
      rw [List.take_succ_eq_append_getElem hi, List.mem_append] at hx
      exact hx.imp id (fun h => by simpa using h)
    by_cases hok : ∃ v, Lib.atoiAll xs[i].data.toList = .ok v
    · obtain ⟨v, hv⟩ := hok
      have hc := c_atoi hG.wst g (by omega) (s := xs[i]) (v := v) (by omega) hv
      have st := Wv_step hn1 hi
      rw [valA_ok hv] at st
      have hall' : ∀ x, x ∈ xs.take (i + 1) → ∃ v, Lib.atoiAll x.data.toList = .ok v := fun x hx => (hts2 x hx).elim (hall x) (fun e => by rw [e]; exact ⟨v, hv⟩)
      generalize Wv S1 xs (i + 1) = W' at st
      generalize Wv S1 xs i = W at ld hc st
      repeat' (first | refine Wp.seq ?_ | refine Wp.block ?_ | (apply Wp.region; focus ((try simp [h0, h5, h15, h16, h17, hlt, hi, ld, hc, st, hw]) <;> rfl)) | (refine Wp.cond_t ?_ ?_; focus (simp [h0, h5, h15, h16, h17, hlt, hi, ld, hc, st, hw]; done)) | (refine Wp.cond_f ?_ ?_; focus (simp [h0, h5, h15, h16, h17, hlt, hi, ld, hc, st, hw]; done)) | refine Wp.skip ?_ | refine Wp.ret ?_ | refine Wp.exit ?_ | refine Blk.here ?_ | (refine Blk.past ?_ ?_; focus (simp; done)))
      exact ⟨by simp [h0], by simp [h5], by simp [h15], by simp [h16], by simp, rfl, hall'⟩
    · have hc := c_atoiE hG.wst g (by omega) (s := xs[i]) (by omega) (fun v hv => hok ⟨v, hv⟩)
      generalize Wv S1 xs i = W at ld hc hG
      repeat' (first | refine Wp.seq ?_ | refine Wp.block ?_ | (apply Wp.region; focus ((try simp [h0, h5, h15, h16, h17, hlt, hi, ld, hc, aifc_err]) <;> rfl)) | (refine Wp.cond_t ?_ ?_; focus (simp [h0, h5, h15, h16, h17, hlt, hi, ld, hc, aifc_err]; done)) | (refine Wp.cond_f ?_ ?_; focus (simp [h0, h5, h15, h16, h17, hlt, hi, ld, hc, aifc_err]; done)) | refine Wp.skip ?_ | refine Wp.ret ?_ | refine Wp.exit ?_ | refine Blk.here ?_ | (refine Blk.past ?_ ?_; focus (simp; done)))
      exact ⟨rfl, answer_trim2 (v := .nil) (w := .bool false) (by simp) (by simp) (ans_none hS0 hG)⟩
  · rintro f ⟨tm, T⟩ ⟨h0, h5, h15, h16, h17, rfl, hall⟩
    simp only at h0 h5 h15 h16 h17
    have hG := Wv_gro hS0 xs xs.length
    have hlk := Wv_list S1 xs xs.length
    rw [halfV_all] at hlk
    rw [List.take_length] at hall
    have hNm : Nm (xs.map valA) := fun z hz => by
      obtain ⟨x, hx, rfl⟩ := List.mem_map.1 hz
      obtain ⟨v, hv⟩ := hall x hx
      rw [valA_ok hv]
      have := Lib.atoiAll_bounds hv
      exact wrap_in (by omega) (by omega)
    have hzl : (xs.map valA).length = xs.length := List.length_map ..
    generalize xs.map valA = zs at hlk hNm hzl
    have c2 := c_vi hG.wst g (by omega) (x := .rsl (S1.next + 1) 0 zs.length (some zs.length)) (zs := zs) (consts_cap (S := ⟨(Wv S1 xs xs.length).next, (Wv S1 xs xs.length).obs, (Wv S1 xs xs.length).next⟩) (.inr rfl) hlk) (by omega) hNm
    obtain ⟨n', hn', c3⟩ := implST zs (by omega) hNm hG.wst (cp := some zs.length) (.inr rfl) hlk g (by omega)
    rw [hzl] at c2 c3
    by_cases h : validP 600 zs
    · rw [decide_eq_true h] at c2
      have hne : ¬ (txt zs).toList = s.toList := fun e => hno ⟨zs, h, ba_ext (by rw [← ba_toList, ← ba_toList]; exact e.symm)⟩
      have hG2 : Gro S1 ⟨n', (Wv S1 xs xs.length).obs, (Wv S1 xs xs.length).low⟩ := ⟨desc_up hG.desc hn', Nat.le_trans hG.next hn', hG.low1, Nat.le_trans hG.low2 hn', hG.keep⟩
      generalize hW2 : (⟨n', (Wv S1 xs xs.length).obs, (Wv S1 xs xs.length).low⟩ : Sto Sy) = W2 at c3 hG2
      generalize Wv S1 xs xs.length = W at c2 c3
      repeat' (first | refine Wp.seq ?_ | refine Wp.block ?_ | (apply Wp.region; focus ((try simp [h0, h5, h15, h16, h17, c2, c3, hne]) <;> rfl)) | (refine Wp.cond_t ?_ ?_; focus (simp [h0, h5, h15, h16, h17, c2, c3, hne]; done)) | (refine Wp.cond_f ?_ ?_; focus (simp [h0, h5, h15, h16, h17, c2, c3, hne]; done)) | refine Wp.skip ?_ | refine Wp.ret ?_ | refine Wp.exit ?_ | refine Blk.here ?_ | (refine Blk.past ?_ ?_; focus (simp; done)))
      exact ⟨rfl, answer_trim2 (v := .nil) (w := .bool false) (by simp) (by simp) (ans_none hS0 hG2)⟩
    · rw [decide_eq_false h] at c2
      generalize Wv S1 xs xs.length = W at c2 hG
      repeat' (first | refine Wp.seq ?_ | refine Wp.block ?_ | (apply Wp.region; focus ((try simp [h0, h5, h15, h16, h17, c2]) <;> rfl)) | (refine Wp.cond_t ?_ ?_; focus (simp [h0, h5, h15, h16, h17, c2]; done)) | (refine Wp.cond_f ?_ ?_; focus (simp [h0, h5, h15, h16, h17, c2]; done)) | refine Wp.skip ?_ | refine Wp.ret ?_ | refine Wp.exit ?_ | refine Blk.here ?_ | (refine Blk.past ?_ ?_; focus (simp; done)))
      exact ⟨rfl, answer_trim2 (v := .nil) (w := .bool false) (by simp) (by simp) (ans_none hS0 hG)⟩
/-- impl.ParseSeries at every text. -/
theorem implParse (s : ByteArray) (hs : s.size ≤ 1048577) {S : Sto Sy} (hS : Wst S) (f : Nat) (hf : 60 ≤ f) :
    ∃ r, symRun Tryz.prog KL [] f 32 [.str s] ⟨S.next, S.obs, S.next⟩ = some r ∧ Ans ⟨S.next, S.obs, S.next⟩ (parseV s) r := by
  by_cases h : ∃ zs, OkT s zs
  · obtain ⟨zs, hz⟩ := h
    rw [parseV_some hz]
    obtain ⟨r, h1, q, hq, h2, h3, h4, h5, h6, h7⟩ := implPa zs hz.1 hS f hf
    rw [← hz.2] at h1
    exact ⟨r, h1, ⟨h5, Nat.le_trans h3 h4, h3, h4, h7⟩, .inr ⟨zs, q, _, rfl, hq, ⟨⟨_, rfl, .inr rfl⟩, h6⟩, h2⟩⟩
  · rw [parseV_none h]
    exact implPb s hs h hS f hf
/-- A call that answers. -/
theorem call_ans {k : FuncId} {args : List (V Sy)} {S : Sto Sy} {o : Option (List Int)} {n : Nat} (hS : Wst S) (h : ∃ r, symRun Tryz.prog KL [] n k args ⟨S.next, S.obs, S.next⟩ = some r ∧ Ans ⟨S.next, S.obs, S.next⟩ o r) (hk : (k : Nat) < 1000000 := by decide) :
    ∃ v b S', acallV (symIn Tryz.prog KL [] n) S (.func k [] []) args = some (.tup [v, .bool b], S') ∧ Gro S S' ∧ ((o = none ∧ v = .nil ∧ b = false) ∨ ∃ zs q, o = some zs ∧ S.next ≤ q ∧ IsL S'.obs q zs v ∧ b = true) := by
  obtain ⟨⟨rv, rs⟩, h1, hg, h2⟩ := h
  obtain ⟨S2, c1, hg2, ho2, _⟩ := call_gro hS h1 hg hk
  simp only at c1 h2 ho2
  rcases h2 with ⟨e, rfl⟩ | ⟨zs, q, v, e, hq, hv, rfl⟩
  · exact ⟨_, _, S2, c1, hg2, .inl ⟨e, rfl, rfl⟩⟩
  · rw [← ho2] at hv
    exact ⟨_, _, S2, c1, hg2, .inr ⟨zs, q, e, hq, hv, rfl⟩⟩
end Go.Proofs.YtgaodlhdilhliaaGreatDoor.St

/-
  Series that are read, by runs by hand (the document's model). No condition.
-/
import Derived.Test.YtgaodlhdilhliaaGreatDoorRows
import Derived.Test.YtgaodlhdilhliaaGreatDoorSym
import Derived.Test.YtgaodlhdilhliaaGreatDoorSymD
import Derived.Test.YtgaodlhdilhliaaGreatDoorSymE
import Derived.Test.YtgaodlhdilhliaaGreatDoorSymF
import Derived.Test.YtgaodlhdilhliaaGreatDoorIds
import Derived.Test.YtgaodlhdilhliaaGreatDoorSh
import Derived.Test.YtgaodlhdilhliaaGreatDoorShB
import Derived.Test.YtgaodlhdilhliaaGreatDoorSt
import Derived.Test.YtgaodlhdilhliaaGreatDoorSp
import Derived.Test.YtgaodlhdilhliaaGreatDoorTel
import Derived.Test.YtgaodlhdilhliaaGreatDoorNum
import Derived.Test.YtgaodlhdilhliaaGreatDoorTx
import Derived.Test.YtgaodlhdilhliaaGreatDoorTy
import Derived.Test.YtgaodlhdilhliaaGreatDoorTz
import Derived.Test.YtgaodlhdilhliaaGreatDoorSj
import Derived.Test.YtgaodlhdilhliaaGreatDoorAt
import Derived.Test.YtgaodlhdilhliaaGreatDoorPa
import Derived.Test.YtgaodlhdilhliaaGreatDoorCut
import Derived.Test.YtgaodlhdilhliaaGreatDoorPm
import Derived.Test.YtgaodlhdilhliaaGreatDoorPb
import Derived.Test.YtgaodlhdilhliaaGreatDoorPc
import Derived.WalkKit
import Derived.ProofKit
import Derived.OpenShut
namespace Go.Proofs.YtgaodlhdilhliaaGreatDoor.St
open Go.ChangeShapes Go.WideShapes Go.ChangeAt Go.RowKit Go.Sx Go.Proofs.YtgaodlhdilhliaaGreatDoor.Ids
set_option linter.unusedVariables false
set_option linter.unusedSimpArgs false

theorem trim_same {S : Sto Sy} (h : Desc S.next S.obs) (v : V Sy) : Sto.trim S.next v S = S := by
  unfold Sto.trim
  split
  · rfl
  · split
    · rw [dropNew_id h]
    · split <;> rw [keepNew_id h]
theorem litI0 (sto : Sto Sy) : abuildSlice (symNum []) (tiOf Tryz.prog) sto 35 0 [] = some (.rsl sto.next 0 0 (some 0), sto.new (ints (nums []))) := by kernel_rfl
theorem litI1 (sto : Sto Sy) (x : Int) : abuildSlice (symNum []) (tiOf Tryz.prog) sto 35 1 [(0, .int .i64 (.c x))] = some (.rsl sto.next 0 1 (some 1), sto.new (ints (nums [x]))) := by kernel_rfl
/-- A list of numbers grows by one. -/
theorem append_int {a S : Sto Sy} (hG : Gro a S) (ha : Wst a) {q : Nat} {zs : List Int} {v : V Sy} (hq : a.next ≤ q) (h : IsL S.obs q zs v) (hx : zs.length ≤ 2000000) (x : Int) :
    ∃ v' S' q', aappend (symNum []) (tiOf Tryz.prog) (S.new (ints (nums [x]))) 35 35 v (.rsl S.next 0 1 (some 1)) = some (v', S') ∧ Gro a S' ∧ S.next ≤ q' ∧ IsL S'.obs q' (zs ++ [x]) v' ∧ ∀ k y, k ≠ q → Go.Sx.look S.obs k = some y → Go.Sx.look S'.obs k = some y := by
  obtain ⟨cp, rfl, hcp⟩ := h.val
  have hqn := hG.desc.look_lt h.obj
  have hnew : Go.Sx.look (S.new (ints (nums [x]))).obs S.next = some (ints (nums [x])) := Go.Sx.look_new S (nums [x])
  have ho : lookC (S.new (ints (nums [x]))).obs q = some (ints (nums zs)) := lookC_ints (by rw [look_new1 S _ hqn]; exact h.obj)
  have hy : lookC (S.new (ints (nums [x]))).obs S.next = some (ints (nums [x])) := lookC_ints hnew
  have he : (S.new (ints (nums [x]))).elems (.rsl S.next 0 1 (some 1)) = some [V.int .i64 (.c x)] := by
    simp only [Sto.elems, Sto.cells, hy]
    rfl
  have hz : (ofV (symNum []) (Value.int .i64 0)).oneCell = true := rfl
  have happ : ints (nums zs) ++ [V.int .i64 (.c x)] = ints (nums (zs ++ [x])) := by rw [nums_append, ints_append]; rfl
  have hb1 : (zs.length + 1) * 8 ≤ 140737488355328 := by omega
  have hb2 : zs.length + 1 ≤ 9223372036854775807 := by omega
  have hle : (zs ++ [x]).length = zs.length + 1 := by simp
  have hd1 : Desc (S.next + 1) (S.new (ints (nums [x]))).obs := ⟨Nat.lt_succ_self _, hG.desc⟩
  have hkeep : ∀ k y, Go.Sx.look S.obs k = some y → Go.Sx.look (S.new (ints (nums [x]))).obs k = some y := fun k y hk => by
    rw [look_new1 S _ (hG.desc.look_lt hk)]; exact hk
  have hn := hG.next
  have hl := ha.low
  have hlo1 := hG.low1
  have hlo2 := hG.low2
  rcases hcp with rfl | rfl
  · have hk2 : ∀ k y, k ≠ q → Go.Sx.look S.obs k = some y → Go.Sx.look ((S.next + 1, ints (nums (zs ++ [x]))) :: del (S.new (ints (nums [x]))).obs q) k = some y := fun k y hkq hk => by
      have := hG.desc.look_lt hk
      rw [look_cons, if_neg (by omega), look_del_ne hkq]
      exact hkeep k y hk
    refine ⟨.rsl (S.next + 1) 0 (zs.length + 1) none, ⟨S.next + 1 + 1, (S.next + 1, ints (nums (zs ++ [x]))) :: del (S.new (ints (nums [x]))).obs q, if Nat.blt q S.low then q else S.low⟩, S.next + 1, ?_, ⟨⟨Nat.lt_succ_self _, Desc.del q hd1⟩, by show a.next ≤ S.next + 1 + 1; omega, ?_, ?_, fun k y hk => ?_⟩, by omega, ⟨⟨none, by rw [hle], .inl rfl⟩, by show Go.Sx.look ((S.next + 1, _) :: _) (S.next + 1) = _; rw [look_cons, if_pos rfl]⟩, hk2⟩
    · have htk : (ints (nums zs)).take zs.length = ints (nums zs) := List.take_of_length_le (by simp)
      simp only [aappend, tiS, tiI, he, ho, hz, List.all_cons, List.all_nil, V.oneCell, Bool.and_true, true_and, and_true, if_true, ints_length, nums_length, List.length_cons, List.length_nil, Nat.zero_add, htk, happ, Nat.le_refl]
      rw [if_pos (show (zs.length + 1) * 8 ≤ 140737488355328 ∧ zs.length + 1 ≤ 9223372036854775807 from ⟨hb1, hb2⟩)]
      rfl
    · show a.low ≤ (if Nat.blt q S.low then q else S.low)
      split <;> omega
    · show (if Nat.blt q S.low then q else S.low) ≤ S.next + 1 + 1
      split <;> omega
    · have hka := ha.desc.look_lt hk
      exact hk2 k y (by omega) (hG.keep k y hk)
  · have hc : ¬ zs.length + 1 ≤ zs.length := by omega
    have hq2 : q < (S.new (ints (nums [x]))).next := Nat.lt_succ_of_lt hqn
    refine ⟨.rsl (S.next + 1) 0 (zs.length + 1) none, (S.new (ints (nums [x]))).new (ints (nums (zs ++ [x]))), S.next + 1, ?_, (hG.new _).new _, by omega, ⟨⟨none, by rw [hle], .inl rfl⟩, Go.Sx.look_new (S.new (ints (nums [x]))) _⟩, fun k y hkq hk => ?_⟩
    · have hdt : ((ints (nums zs)).drop 0).take zs.length ++ [V.int .i64 (.c x)] = ints (nums (zs ++ [x])) := by rw [← happ, List.drop_zero, List.take_of_length_le (by simp)]
      simp only [aappend, tiS, tiI, he, ho, hz, List.all_cons, List.all_nil, V.oneCell, Bool.and_true, true_and, and_true, if_true, ints_length, nums_length, List.length_cons, List.length_nil, Nat.zero_add, hdt, Nat.le_refl]
      rw [if_pos (show (zs.length + 1) * 8 ≤ 140737488355328 ∧ zs.length + 1 ≤ 9223372036854775807 from ⟨hb1, hb2⟩)]
      simp only [if_neg hc]
      rfl
    · have h1 := hkeep k y hk
      rw [look_new1 (S.new _) _ (hd1.look_lt h1)]; exact h1
/-- What a function of a text answers: none, or a list that it has made. -/
def Ans (a : Sto Sy) (o : Option (List Int)) (r : V Sy × Sto Sy) : Prop := Gro a r.2 ∧ ((o = none ∧ r.1 = .tup [.nil, .bool false]) ∨ ∃ zs q v, o = some zs ∧ a.next ≤ q ∧ IsL r.2.obs q zs v ∧ r.1 = .tup [v, .bool true])
theorem isL_consts {S : Sto Sy} {q : Nat} {zs : List Int} {v : V Sy} (h : IsL S.obs q zs v) : constsOf S v = some zs := by
  obtain ⟨cp, rfl, hcp⟩ := h.val
  exact consts_cap hcp h.obj
theorem loadS {S : Sto Sy} {q i : Nat} {xs : List ByteArray} (h : Go.Sx.look S.obs q = some (strs xs)) (hi : i < xs.length) : aload (tiOf Tryz.prog) S 9 (.ptr q i) = some (.str xs[i]) := by
  have h2 : lookC S.obs q = some (strs xs) := lookC_iff.2 ⟨h, strs_nm _⟩
  simp only [aload, tiStr, h2, aggDesc]
  rw [if_neg (by decide)]
  simp [strs, hi]
attribute [local simp] aops wants aop apure St.eval setTm_some setTm_none Tr.get_set evals pevals apureB alen tiS tiI tiB Draw.tiU tiSs tiStr abin aint isCmp sym_lt sym_eqs sym_neqs sym_eq sym_neq sym_gtr sym_leq sym_geq sym_add sym_sub sym_sub8 sym_mul aeff aeffB idx? ofV aindexAddr aindex aggDesc aifc_int aun aifc_str
set_option maxRecDepth 10000 in
theorem checked_run (zs : List Int) (hl9 : zs.length ≤ 1048576) {S : Sto Sy} (hS : Wst S) {q : Nat} {v : V Sy} (hv : IsL S.obs q zs v) (f : Nat) (hf : 3 ≤ f) :
    acallV (symIn Tryz.prog KL [] f) S (.func 62 [] []) [v] = some (if validP 600 zs then (.tup [v, .bool true], S) else (.tup [.nil, .bool false], S)) := by
  have key : ∃ r : V Sy, symRun Tryz.prog KL [] f 62 [v] ⟨S.next, S.obs, S.next⟩ = some (r, ⟨S.next, S.obs, S.next⟩) ∧ r = (if validP 600 zs then .tup [v, .bool true] else .tup [.nil, .bool false]) := by
    obtain ⟨g, rfl⟩ : ∃ g, f = g + 1 := ⟨f - 1, by omega⟩
    have hS0 : Wst ⟨S.next, S.obs, S.next⟩ := ⟨hS.desc, Nat.le_refl _⟩
    have hc := c_vs hS0 g (by omega) (x := v) (zs := zs) (isL_consts (S := ⟨S.next, S.obs, S.next⟩) hv) hl9
    have hdz := trim_same (S := ⟨S.next, S.obs, S.next⟩) hS.desc
    simp only at hdz
    by_cases h : validP 600 zs
    · refine ⟨_, ?_, (if_pos h).symm⟩
      rw [decide_eq_true h] at hc
      refine own_run (by rfl) Tryz.func62 rfl rfl ?_
      simp only [Tryz.f62]
      repeat' (first | refine Wp.seq ?_ | refine Wp.block ?_ | (apply Wp.region; focus ((try simp [setArgs, hc]) <;> rfl)) | (refine Wp.cond_t ?_ ?_; focus (simp [setArgs, hc]; done)) | (refine Wp.cond_f ?_ ?_; focus (simp [setArgs, hc]; done)) | refine Wp.skip ?_ | refine Wp.ret ?_ | refine Wp.exit ?_ | refine Blk.here ?_ | (refine Blk.past ?_ ?_; focus (simp; done)))
      refine ⟨rfl, ?_⟩
      simp [answer, aresults, aresult, hdz]
    · refine ⟨_, ?_, (if_neg h).symm⟩
      rw [decide_eq_false h] at hc
      refine own_run (by rfl) Tryz.func62 rfl rfl ?_
      simp only [Tryz.f62]
      repeat' (first | refine Wp.seq ?_ | refine Wp.block ?_ | (apply Wp.region; focus ((try simp [setArgs, hc]) <;> rfl)) | (refine Wp.cond_t ?_ ?_; focus (simp [setArgs, hc]; done)) | (refine Wp.cond_f ?_ ?_; focus (simp [setArgs, hc]; done)) | refine Wp.skip ?_ | refine Wp.ret ?_ | refine Wp.exit ?_ | refine Blk.here ?_ | (refine Blk.past ?_ ?_; focus (simp; done)))
      refine ⟨rfl, ?_⟩
      simp [answer, aresults, aresult, hdz]
  obtain ⟨r, h1, h2⟩ := key
  rw [call_run hS h1, h2]
  split <;> rfl
theorem ans_trim {a S : Sto Sy} (ha : Wst a) (h : Gro a S) {q : Nat} {zs : List Int} {v : V Sy} (hq : a.next ≤ q) (hv : IsL S.obs q zs v) : Ans a (some zs) (.tup [v, .bool true], Sto.trim a.next (.tup [v, .bool true]) S) := by
  refine ⟨gro_trim ha h _, .inr ⟨zs, q, v, rfl, hq, ⟨hv.val, ?_⟩, rfl⟩⟩
  obtain ⟨cp, hv', _⟩ := hv.val
  rw [trim_look (by rw [hv']; simp [V.refs, refsL])]
  exact hv.obj
theorem ans_none {a S : Sto Sy} (ha : Wst a) (h : Gro a S) : Ans a none (.tup [.nil, .bool false], Sto.trim a.next (.tup [.nil, .bool false]) S) := ⟨gro_trim ha h (.tup [.nil, .bool false]), .inl ⟨rfl, rfl⟩⟩
theorem map_take_succ {α β : Type} (g : α → β) {xs : List α} {i : Nat} (hi : i < xs.length) : (xs.take (i + 1)).map g = (xs.take i).map g ++ [g xs[i]] := by
  rw [List.take_succ_eq_append_getElem hi, List.map_append]; rfl
set_option maxRecDepth 10000 in
theorem parse_run (s : ByteArray) (hs : s.size ≤ 1048577) {S : Sto Sy} (hS : Wst S) (m : Nat) (hm : s.size + 5 < m) :
    ∃ r, symRun Tryz.prog KL [] (m + 1) 35 [.str s] ⟨S.next, S.obs, S.next⟩ = some r ∧ Ans ⟨S.next, S.obs, S.next⟩ (parseV s) r := by
  have hS0 : Wst ⟨S.next, S.obs, S.next⟩ := ⟨hS.desc, Nat.le_refl _⟩
  have hN : (⟨S.next, S.obs, S.next⟩ : Sto Sy).next = S.next := rfl
  generalize (⟨S.next, S.obs, S.next⟩ : Sto Sy) = S1 at hS0 hN ⊢
  obtain ⟨m, rfl⟩ : ∃ k, m = k + 1 := ⟨m - 1, by omega⟩
  have hcl := cutB_len 44 s
  have hG1 := (Gro.refl hS0).new (ints (nums []))
  obtain ⟨r, h1, hg, ql, hql, hT⟩ := splitAt_run s 44 (by omega) hG1.wst m (by omega)
  obtain ⟨S2, c1, hg2, ho2, hn2⟩ := call_gro hG1.wst h1 hg
  rw [← ho2] at hT
  obtain ⟨rv, rs⟩ := r
  simp only at c1 hT
  obtain ⟨lcp, hlv, hlcp⟩ := hT.val
  subst hlv
  have hto := hT.obj
  have e44 : ((44 : UInt8).toNat : Int) = 44 := rfl
  rw [e44] at c1
  have hG2 := hG1.trans hg2
  have hz2 : IsL S2.obs S1.next [] (.rsl S1.next 0 0 (some 0)) := ⟨⟨some 0, rfl, .inr rfl⟩, hg2.keep _ _ (Go.Sx.look_new S1 _)⟩
  have hqn : ql ≠ S1.next := by have : S1.next + 1 ≤ ql := hql; omega
  have hxs : ∀ x, x ∈ cutB 44 s → x.size ≤ s.size := fun x hx => cutB_short hx
  have hdef : ∀ xs, xs = cutB 44 s → (∀ zs, OkT s zs → xs = zs.map textZ) ∧ (∀ zs, validP 600 zs → xs = zs.map textZ → OkT s zs) ∧ (∀ i, i ≤ xs.length → (∀ x, x ∈ xs.take i → x.size ≠ 0) → 2 * i ≤ s.size + 1) := fun xs e => by
    subst e
    exact ⟨fun zs h => by rw [h.2, cutB_txt h.1], fun zs h e => ⟨h, txt_of_cut h e⟩, fun i hi h => cutB_half hi h⟩
  obtain ⟨f1, f2, f3⟩ := hdef _ rfl
  generalize cutB 44 s = xs at hcl hT hto c1 hxs f1 f2 f3
  refine own_run2 (n := m + 1) (by rfl) Tryz.func35 rfl rfl ?_
  simp only [Tryz.f35]
  repeat' (first | refine Wp.seq ?_ | refine Wp.block ?_ | (apply Wp.region; focus ((try simp [setArgs, litI0, c1]) <;> rfl)) | (refine Wp.cond_t ?_ ?_; focus (simp [setArgs, litI0, c1]; done)) | (refine Wp.cond_f ?_ ?_; focus (simp [setArgs, litI0, c1]; done)) | refine Wp.skip ?_ | refine Wp.ret ?_ | refine Wp.exit ?_ | refine Blk.here ?_ | (refine Blk.past ?_ ?_; focus (simp; done)))
  refine Wp.loop rfl rfl (fun i st => st.tm.get .any 5 = .rsl ql 0 xs.length lcp ∧ st.tm.get .any 6 = .int .i64 (.c i) ∧ (∀ x, x ∈ xs.take i → (rdZ x).2 = true) ∧ ∃ q, S1.next ≤ q ∧ q ≠ ql ∧ IsL st.sto.obs q ((xs.take i).map fun x => (rdZ x).1) (st.tm.get .any 4) ∧ Go.Sx.look st.sto.obs ql = some (strs xs) ∧ Gro S1 st.sto) xs.length (by omega) ?_ ?_ ?_
  · exact ⟨by simp, by simp, by simp, S1.next, Nat.le_refl _, fun e => hqn e.symm, by simpa using hz2, hto, hG2⟩
  · rintro f i ⟨tm, T⟩ hi ⟨h5, h6, hall, q, hq, hqq, hz, hlk, hG⟩
    simp only at h5 h6 hz hlk hG
    have hlt : (i : Int) < xs.length := by omega
    have hw := wrap_in (a := (i : Int) + 1) (by omega) (by omega)
    have ld := loadS hlk hi
    have hxm : xs[i] ∈ xs := List.getElem_mem hi
    have hxz := hxs xs[i] hxm
    have c2 := call_run hG.wst (readNum_run xs[i] (by omega) hG.wst m (by omega))
    have hts := map_take_succ (fun x => (rdZ x).1) hi
    have hts2 : ∀ x, x ∈ xs.take (i + 1) → x ∈ xs.take i ∨ x = xs[i] := fun x hx => by
      rw [List.take_succ_eq_append_getElem hi, List.mem_append] at hx
      exact hx.imp id (fun h => by simpa using h)
    cases hrd : (rdZ xs[i]).2 with
    | false =>
      rw [hrd] at c2
      have hno : parseV s = none := parseV_none (fun ⟨zs, hz⟩ => by
        have e := f1 zs hz
        have hx : ∀ y, y ∈ xs → ∃ z, z ∈ zs ∧ textZ z = y := fun y hy => by rw [e] at hy; exact List.mem_map.1 hy
        obtain ⟨z, hz1, hz2⟩ := hx _ hxm
        rw [← hz2, rdZ_text (hz.1.1 z hz1)] at hrd
        cases hrd)
      rw [hno]
      generalize xs[i] = x at ld c2
      repeat' (first | refine Wp.seq ?_ | refine Wp.block ?_ | (apply Wp.region; focus ((try simp [h5, h6, hlt, hi, ld, c2]) <;> rfl)) | (refine Wp.cond_t ?_ ?_; focus (simp [h5, h6, hlt, hi, ld, c2]; done)) | (refine Wp.cond_f ?_ ?_; focus (simp [h5, h6, hlt, hi, ld, c2]; done)) | refine Wp.skip ?_ | refine Wp.ret ?_ | refine Wp.exit ?_ | refine Blk.here ?_ | (refine Blk.past ?_ ?_; focus (simp; done)))
      exact ⟨rfl, answer_trim2 (v := .nil) (w := .bool false) (by simp) (by simp) (ans_none hS0 hG)⟩
    | true =>
      rw [hrd] at c2
      have hzl : ((xs.take i).map fun x => (rdZ x).1).length ≤ 2000000 := by rw [List.length_map, List.length_take]; omega
      generalize ((xs.take i).map fun x => (rdZ x).1) = zs at hz hts hzl
      obtain ⟨v', S', q', k1, k2, k3, k4, k5⟩ := append_int hG hS0 hq hz hzl (rdZ xs[i]).1
      rw [← hts] at k4
      have hall' : ∀ x, x ∈ xs.take (i + 1) → (rdZ x).2 = true := fun x hx => (hts2 x hx).elim (hall x) (fun e => by rw [e]; exact hrd)
      obtain ⟨cp, hv, hcp⟩ := hz.val
      rw [hv] at k1
      have hlT := hG.desc.look_lt hlk
      generalize xs[i] = x at ld c2 k1
      generalize (rdZ x).1 = n at c2 k1
      repeat' (first | refine Wp.seq ?_ | refine Wp.block ?_ | (apply Wp.region; focus ((try simp [h5, h6, hv, hlt, hi, ld, c2, litI1, k1, hw]) <;> rfl)) | (refine Wp.cond_t ?_ ?_; focus (simp [h5, h6, hv, hlt, hi, ld, c2, litI1, k1, hw]; done)) | (refine Wp.cond_f ?_ ?_; focus (simp [h5, h6, hv, hlt, hi, ld, c2, litI1, k1, hw]; done)) | refine Wp.skip ?_ | refine Wp.ret ?_ | refine Wp.exit ?_ | refine Blk.here ?_ | (refine Blk.past ?_ ?_; focus (simp; done)))
      exact ⟨by simp [h5], by simp, hall', q', by have := hG.next; omega, by omega, by simpa using k4, k5 ql _ (fun e => hqq e.symm) hlk, k2⟩
  · rintro f ⟨tm, T⟩ ⟨h5, h6, hall, q, hq, hqq, hz, hlk, hG⟩
    simp only at h5 h6 hz hlk hG
    rw [List.take_length] at hz hall
    have hlen : 2 * xs.length ≤ s.size + 1 := f3 xs.length (Nat.le_refl _) (fun x hx => by rw [List.take_length] at hx; exact (rdZ_true (hall x hx)).2.2.2)
    have hc := checked_run _ (by rw [List.length_map]; omega) hG.wst hz (m + 1) (by omega)
    have htx : xs = (xs.map fun x => (rdZ x).1).map textZ := by
      rw [List.map_map]
      refine (List.map_id xs).symm.trans (List.map_congr_left (fun x hx => ?_))
      exact (rdZ_true (hall x hx)).1.symm
    have hlx : ¬ (xs.length : Int) < xs.length := by omega
    generalize hZ : (xs.map fun x => (rdZ x).1) = zs at hz hc htx
    generalize hv : Tr.get V.any tm 4 = v at hz hc
    by_cases h : validP 600 zs
    · rw [if_pos h] at hc
      rw [parseV_some (f2 zs h htx)]
      repeat' (first | refine Wp.seq ?_ | refine Wp.block ?_ | (apply Wp.region; focus ((try simp [h5, h6, hv, hc]) <;> rfl)) | (refine Wp.cond_t ?_ ?_; focus (simp [h5, h6, hv, hc]; done)) | (refine Wp.cond_f ?_ ?_; focus (simp [h5, h6, hv, hc]; done)) | refine Wp.skip ?_ | refine Wp.ret ?_ | refine Wp.exit ?_ | refine Blk.here ?_ | (refine Blk.past ?_ ?_; focus (simp; done)))
      exact ⟨rfl, answer_trim2 (v := v) (w := .bool true) (by simp) (by simp) (ans_trim hS0 hG hq hz)⟩
    · rw [if_neg h] at hc
      have hno : parseV s = none := parseV_none (fun ⟨ws, hws⟩ => by
        have e := f1 ws hws
        apply h
        have : zs = ws := by
          rw [← hZ, e, List.map_map]
          refine (List.map_congr_left (fun z hz => ?_)).trans (List.map_id ws)
          show (rdZ (textZ z)).1 = z
          rw [rdZ_text (hws.1.1 z hz)]
        rw [this]; exact hws.1)
      rw [hno]
      repeat' (first | refine Wp.seq ?_ | refine Wp.block ?_ | (apply Wp.region; focus ((try simp [h5, h6, hv, hc]) <;> rfl)) | (refine Wp.cond_t ?_ ?_; focus (simp [h5, h6, hv, hc]; done)) | (refine Wp.cond_f ?_ ?_; focus (simp [h5, h6, hv, hc]; done)) | refine Wp.skip ?_ | refine Wp.ret ?_ | refine Wp.exit ?_ | refine Blk.here ?_ | (refine Blk.past ?_ ?_; focus (simp; done)))
      exact ⟨rfl, answer_trim2 (v := .nil) (w := .bool false) (by simp) (by simp) (ans_none hS0 hG)⟩
end Go.Proofs.YtgaodlhdilhliaaGreatDoor.St

/-
  Lists that are marked, and marks that are held. No condition.
-/
import Derived.Test.YtgaodlhdilhliaaDoorRows
import Derived.Test.YtgaodlhdilhliaaDoorSym
import Derived.Test.YtgaodlhdilhliaaDoorSymD
import Derived.Test.YtgaodlhdilhliaaDoorSymE
import Derived.Test.YtgaodlhdilhliaaDoorSymF
import Derived.Test.YtgaodlhdilhliaaDoorIds
import Derived.Test.YtgaodlhdilhliaaDoorTx
import Derived.Test.YtgaodlhdilhliaaDoorTy
import Derived.Test.YtgaodlhdilhliaaDoorTz
import Derived.Test.YtgaodlhdilhliaaDoorPb
import Derived.WalkKit
import Derived.ProofKit
import Derived.OpenShut
namespace Go.Proofs.YtgaodlhdilhliaaDoor.St
open Go.ChangeShapes Go.WideShapes Go.ChangeAt Go.RowKit Go.Sx Go.Proofs.YtgaodlhdilhliaaDoor.Ids
set_option linter.unusedVariables false
set_option linter.unusedSimpArgs false

/-! ## Marks -/
/-- Numbers one after the other. -/
def seqF (x : Int) : Nat → List Int
  | 0 => []
  | n + 1 => x :: seqF (x + 1) n
theorem seqF_len : ∀ (n : Nat) (x : Int), (seqF x n).length = n
  | 0, _ => rfl
  | n + 1, x => by simp [seqF, seqF_len n]
theorem seqF_get : ∀ (n : Nat) (x : Int) (i : Nat), i < n → (seqF x n)[i]? = some (x + i)
  | 0, _, i, h => by omega
  | n + 1, x, 0, _ => by simp [seqF]
  | n + 1, x, i + 1, h => by
    simp only [seqF, List.getElem?_cons_succ]
    rw [seqF_get n (x + 1) i (by omega)]
    congr 1; push_cast; omega
/-- What is marked so far. -/
def halfM (x : Int) (zs : List Int) (i : Nat) : List Int := seqF x i ++ zs.drop i
theorem halfM_len (x : Int) (zs : List Int) (i : Nat) (h : i ≤ zs.length) : (halfM x zs i).length = zs.length := by simp [halfM, seqF_len]; omega
theorem halfM_get (x : Int) (zs : List Int) (i j : Nat) (h : i ≤ zs.length) : (halfM x zs i)[j]? = if j < i then some (x + j) else zs[j]? := by
  unfold halfM
  by_cases hj : j < i
  · rw [if_pos hj, List.getElem?_append_left (by rw [seqF_len]; exact hj), seqF_get i x j hj]
  · rw [if_neg hj, List.getElem?_append_right (by rw [seqF_len]; omega), seqF_len, List.getElem?_drop]
    congr 1; omega
theorem halfM_set (x : Int) (zs : List Int) (i : Nat) (h : i < zs.length) : (halfM x zs i).set i (x + i) = halfM x zs (i + 1) := by
  apply List.ext_getElem?
  intro j
  rw [List.getElem?_set, halfM_len x zs i (by omega), halfM_get x zs (i + 1) j (by omega)]
  by_cases hij : i = j
  · subst hij; rw [if_pos rfl, if_pos h, if_pos (by omega)]
  · rw [if_neg hij, halfM_get x zs i j (by omega)]
    by_cases h1 : j < i
    · rw [if_pos h1, if_pos (by omega)]
    · rw [if_neg h1, if_neg (by omega)]
theorem halfM_all (x : Int) (zs : List Int) : halfM x zs zs.length = seqF x zs.length := by simp [halfM]
theorem trim_lows {n0 : Nat} {r : V Sy} {sto : Sto Sy} : (Sto.trim n0 r sto).low = sto.low := trim_lowv
/-- Other objects are as they were. -/
structure Marked (S S' : Sto Sy) (q : Nat) (n : Nat) : Prop where
  ws : Wst S'
  next : S'.next = S.next
  other : ∀ k, (k < q ∨ q + n ≤ k) → Go.Sx.look S'.obs k = Go.Sx.look S.obs k
theorem Marked.trans {S S' S'' : Sto Sy} {q n q' n' : Nat} (h : Marked S S' q n) (h' : Marked S' S'' q' n') (hq : q + n = q') : Marked S S'' q (n + n') :=
  ⟨h'.ws, h'.next.trans h.next, fun k hk => by rw [h'.other k (by omega), h.other k (by omega)]⟩
section
attribute [local simp] aops wants aop apure St.eval setTm_some setTm_none Tr.get_set aload evals pevals apureB tiS tiI tiB abin aint isCmp sym_lt sym_eqs sym_neqs sym_eq sym_neq sym_gtr sym_leq sym_geq sym_add sym_sub sym_mul aeff aeffB idx? ofV aindexAddr aggDesc aifc_int aun
set_option maxRecDepth 10000 in
theorem mark1_run (zs : List Int) (x : Int) (hx : 0 ≤ x ∧ x ≤ 9000000000000000000) (hl : zs.length ≤ 1048576) (S : Sto Sy) (hd : Desc S.next S.obs) (q : Nat) (v : V Sy) (hv : Made S zs q v) (m : Nat) (hm : zs.length < m) :
    ∃ r, symRun Tryd.prog (KL) [] (m + 1) 17 [v, .int .i64 (.c x)] ⟨S.next, S.obs, S.next⟩ = some r ∧ r.1 = .int .i64 (.c (x + zs.length)) ∧ Desc r.2.next r.2.obs ∧ r.2.low ≤ S.next ∧ r.2.next = S.next ∧ (∀ k, k ≠ q → Go.Sx.look r.2.obs k = Go.Sx.look S.obs k) ∧ Go.Sx.look r.2.obs q = some (ints (nums (seqF x zs.length))) := by
  have hlk := hv.obj
  obtain ⟨cp, rfl⟩ : ∃ cp, v = .rsl q 0 zs.length cp := hv.val.elim (fun h => ⟨_, h⟩) (fun h => ⟨_, h⟩)
  refine own_run2 (n := m) (by rfl) Tryd.func17 rfl rfl ?_
  simp only [Tryd.f17]
  have al : alen (symNum []) (tiOf Tryd.prog) 23 (.rsl q 0 zs.length cp : V Sy) = some (.int .i64 (.c zs.length)) := by simp [alen, tiS, symNum]
  repeat' (first | refine Wp.seq ?_ | refine Wp.block ?_ | (apply Wp.region; focus ((try simp [setArgs, al]) <;> rfl)) | (refine Wp.cond_t ?_ ?_; focus (simp [setArgs, al]; done)) | (refine Wp.cond_f ?_ ?_; focus (simp [setArgs, al]; done)) | refine Wp.skip ?_ | refine Wp.ret ?_ | refine Wp.exit ?_ | refine Blk.here ?_ | (refine Blk.past ?_ ?_; focus (simp; done)))
  refine Wp.loop rfl rfl (fun i st => st.tm.get .any 0 = .rsl q 0 zs.length cp ∧ st.tm.get .any 5 = .int .i64 (.c i) ∧ st.tm.get .any 1 = .int .i64 (.c (x + i)) ∧
    st.sto.next = S.next ∧ Desc st.sto.next st.sto.obs ∧ st.sto.low ≤ S.next ∧ (∀ k, k ≠ q → Go.Sx.look st.sto.obs k = Go.Sx.look S.obs k) ∧ Go.Sx.look st.sto.obs q = some (ints (nums (halfM x zs i)))) zs.length hm ?_ ?_ ?_
  · exact ⟨by simp, by simp, by simp, rfl, hd, Nat.le_refl _, fun _ _ => rfl, by simpa [halfM, seqF] using hlk⟩
  · rintro f i ⟨tm, T⟩ hi ⟨h0, h5, h1, hn, hdT, hlo, hoth, hob⟩
    simp only at h0 h5 h1 hn hdT hlo hoth hob
    have hlt : (i : Int) < zs.length := by omega
    have hw := wrap_in (a := (i : Int) + 1) (by omega) (by omega)
    have hw1 := wrap_in (a := x + (i : Int) + 1) (by omega) (by omega)
    have hin : i + 1 ≤ (halfM x zs i).length := by rw [halfM_len _ _ _ (by omega)]; omega
    have hst : astore (tiOf Tryd.prog) T 3 (.ptr q i) (.int .i64 (.c (x + i))) = some (T.write q (ints (nums (halfM x zs (i + 1))))) := by
      simp [astore, V.cells, lookC, hob, setRange, V.oneCell, hin]
      rw [Go.Sx.ints_set, ← halfM_set x zs i hi]
      simp [nums, List.map_set]
    repeat' (first | refine Wp.seq ?_ | refine Wp.block ?_ | (apply Wp.region; focus ((try simp [h0, h5, h1, al, hlt, hst, hw, hw1]) <;> rfl)) | (refine Wp.cond_t ?_ ?_; focus (simp [h0, h5, h1, al, hlt, hst, hw, hw1]; done)) | (refine Wp.cond_f ?_ ?_; focus (simp [h0, h5, h1, al, hlt, hst, hw, hw1]; done)) | refine Wp.skip ?_ | refine Wp.ret ?_ | refine Wp.exit ?_ | refine Blk.here ?_ | (refine Blk.past ?_ ?_; focus (simp; done)))
    have hnb : noBc (ints (nums (halfM x zs (i + 1)))) = ints (nums (halfM x zs (i + 1))) := by simp
    have e2 : (T.write q (ints (nums (halfM x zs (i + 1))))).obs = put T.obs q (ints (nums (halfM x zs (i + 1)))) := by
      show put T.obs q (noBc _) = _
      rw [hnb]
    refine ⟨by simp [h0], by simp, by simp; omega, hn, ?_, ?_, fun k hk => ?_, ?_⟩
    · show Desc T.next (T.write q _).obs
      rw [e2]; exact hdT.put _ _
    · show (if Nat.blt q T.low then q else T.low) ≤ S.next
      split
      · rename_i hb; rw [Nat.blt_eq] at hb; omega
      · exact hlo
    · show Go.Sx.look (T.write q _).obs k = _
      rw [e2, look_put_ne (by omega)]; exact hoth k hk
    · show Go.Sx.look (T.write q _).obs q = _
      rw [e2]; exact look_put_self hob
  · rintro f ⟨tm, T⟩ ⟨h0, h5, h1, hn, hdT, hlo, hoth, hob⟩
    simp only at h0 h5 h1 hn hdT hlo hoth hob
    rw [halfM_all] at hob
    repeat' (first | refine Wp.seq ?_ | refine Wp.block ?_ | (apply Wp.region; focus ((try simp [h0, h5, h1, al]) <;> rfl)) | (refine Wp.cond_t ?_ ?_; focus (simp [h0, h5, h1, al]; done)) | (refine Wp.cond_f ?_ ?_; focus (simp [h0, h5, h1, al]; done)) | refine Wp.skip ?_ | refine Wp.ret ?_ | refine Wp.exit ?_ | refine Blk.here ?_ | (refine Blk.past ?_ ?_; focus (simp; done)))
    have ht : Sto.trim S.next (.int .i64 (.c (x + zs.length))) T = T := by
      have := trim_plain (sto := T) (r := .int .i64 (.c (x + zs.length))) hdT rfl
      rwa [hn] at this
    refine ⟨rfl, (.int .i64 (.c (x + zs.length)), T), by simp [answer, aresults, aresult, h1, ht], rfl, hdT, hlo, hn, hoth, hob⟩
theorem mark1 (zs : List Int) (x : Int) (hx : 0 ≤ x ∧ x ≤ 9000000000000000000) (hl : zs.length ≤ 1048576) (S : Sto Sy) (hS : Wst S) (q : Nat) (v : V Sy) (hv : Made S zs q v) (m : Nat) (hm : zs.length < m) :
    ∃ S', acallV (symIn Tryd.prog (KL) [] (m + 1)) S (.func 17 [] []) [v, .int .i64 (.c x)] = some (.int .i64 (.c (x + zs.length)), S') ∧ Marked S S' q 1 ∧ Made S' (seqF x zs.length) q v := by
  obtain ⟨⟨r, S1⟩, h1, rfl, h3, h4, h5, h6, h7⟩ := mark1_run zs x hx hl S hS.desc q v hv m hm
  simp only at h3 h4 h5 h6 h7
  have hlow := hS.low
  refine ⟨⟨S1.next, S1.obs, if Nat.blt S1.low S.low then S1.low else S.low⟩, ?_, ⟨⟨h3, ?_⟩, h5, fun k hk => h6 k (by omega)⟩, ⟨?_, h7⟩⟩
  · rw [acallV_func (by decide), List.nil_append, List.append_nil, symIn_run (by decide), h1]
  · simp only
    split <;> omega
  · rw [seqF_len]; exact hv.val
set_option maxRecDepth 10000 in
theorem markNil (x : Int) (S : Sto Sy) (hS : Wst S) (m : Nat) (hm : 3 ≤ m) : acallV (symIn Tryd.prog (KL) [] (m + 1)) S (.func 17 [] []) [.nil, .int .i64 (.c x)] = some (.int .i64 (.c x), S) := by
  have hr : ∃ r, symRun Tryd.prog (KL) [] (m + 1) 17 [.nil, .int .i64 (.c x)] ⟨S.next, S.obs, S.next⟩ = some r ∧ r = (.int .i64 (.c x), ⟨S.next, S.obs, S.next⟩) := by
    refine own_run2 (n := m) (by rfl) Tryd.func17 rfl rfl ?_
    simp only [Tryd.f17]
    have al : alen (symNum []) (tiOf Tryd.prog) 23 (.nil : V Sy) = some (.int .i64 (.c 0)) := by simp [alen, tiS, symNum]
    repeat' (first | refine Wp.seq ?_ | refine Wp.block ?_ | (apply Wp.region; focus ((try simp [setArgs, al]) <;> rfl)) | (refine Wp.cond_t ?_ ?_; focus (simp [setArgs, al]; done)) | (refine Wp.cond_f ?_ ?_; focus (simp [setArgs, al]; done)) | refine Wp.skip ?_ | refine Wp.ret ?_ | refine Wp.exit ?_ | refine Blk.here ?_ | (refine Blk.past ?_ ?_; focus (simp; done)))
    refine Wp.loop rfl rfl (fun i st => st.tm.get .any 0 = .nil ∧ st.tm.get .any 5 = .int .i64 (.c 0) ∧ st.tm.get .any 1 = .int .i64 (.c x) ∧ st.sto = ⟨S.next, S.obs, S.next⟩) 0 (by omega) ?_ ?_ ?_
    · exact ⟨by simp, by simp, by simp, rfl⟩
    · rintro f i ⟨tm, T⟩ hi _; omega
    · rintro f ⟨tm, T⟩ ⟨h0, h5, h1, rfl⟩
      simp only at h0 h5 h1
      repeat' (first | refine Wp.seq ?_ | refine Wp.block ?_ | (apply Wp.region; focus ((try simp [h0, h5, h1, al]) <;> rfl)) | (refine Wp.cond_t ?_ ?_; focus (simp [h0, h5, h1, al]; done)) | (refine Wp.cond_f ?_ ?_; focus (simp [h0, h5, h1, al]; done)) | refine Wp.skip ?_ | refine Wp.ret ?_ | refine Wp.exit ?_ | refine Blk.here ?_ | (refine Blk.past ?_ ?_; focus (simp; done)))
      have ht := trim_plain (sto := (⟨S.next, S.obs, S.next⟩ : Sto Sy)) (r := .int .i64 (.c x)) hS.desc rfl
      exact ⟨rfl, _, by simp [answer, aresults, aresult, h1]; rfl, by rw [ht]⟩
  obtain ⟨_, h1, rfl⟩ := hr
  rw [acallV_func (by decide), List.nil_append, List.append_nil, symIn_run (by decide), h1]
  have hlow := hS.low
  have : (⟨S.next, S.obs, if Nat.blt S.next S.low then S.next else S.low⟩ : Sto Sy) = S := by
    rw [if_neg (by rw [Nat.blt_eq]; omega)]
  simp only [this]
set_option maxRecDepth 10000 in
theorem held1 (n : Nat) (x : Int) (hx : 0 ≤ x ∧ x ≤ 9000000000000000000) (hl : n ≤ 1048576) (S : Sto Sy) (hS : Wst S) (q : Nat) (v : V Sy) (hv : Made S (seqF x n) q v) (m : Nat) (hm : n < m) :
    acallV (symIn Tryd.prog (KL) [] (m + 1)) S (.func 18 [] []) [v, .int .i64 (.c x)] = some (.int .i64 (.c (x + n)), S) := by
  have hr : ∃ r, symRun Tryd.prog (KL) [] (m + 1) 18 [v, .int .i64 (.c x)] ⟨S.next, S.obs, S.next⟩ = some r ∧ r = (.int .i64 (.c (x + n)), ⟨S.next, S.obs, S.next⟩) := by
    have hlk := hv.obj
    obtain ⟨cp, rfl⟩ : ∃ cp, v = .rsl q 0 n cp := by have := hv.val; rw [seqF_len] at this; exact this.elim (fun h => ⟨_, h⟩) (fun h => ⟨_, h⟩)
    refine own_run2 (n := m) (by rfl) Tryd.func18 rfl rfl ?_
    simp only [Tryd.f18]
    have al : alen (symNum []) (tiOf Tryd.prog) 23 (.rsl q 0 n cp : V Sy) = some (.int .i64 (.c n)) := by simp [alen, tiS, symNum]
    repeat' (first | refine Wp.seq ?_ | refine Wp.block ?_ | (apply Wp.region; focus ((try simp [setArgs, al]) <;> rfl)) | (refine Wp.cond_t ?_ ?_; focus (simp [setArgs, al]; done)) | (refine Wp.cond_f ?_ ?_; focus (simp [setArgs, al]; done)) | refine Wp.skip ?_ | refine Wp.ret ?_ | refine Wp.exit ?_ | refine Blk.here ?_ | (refine Blk.past ?_ ?_; focus (simp; done)))
    refine Wp.loop rfl rfl (fun i st => st.tm.get .any 0 = .rsl q 0 n cp ∧ st.tm.get .any 5 = .int .i64 (.c i) ∧ st.tm.get .any 1 = .int .i64 (.c (x + i)) ∧ st.sto = ⟨S.next, S.obs, S.next⟩) n hm ?_ ?_ ?_
    · exact ⟨by simp, by simp, by simp, rfl⟩
    · rintro f i ⟨tm, T⟩ hi ⟨h0, h5, h1, rfl⟩
      simp only at h0 h5 h1
      have hlt : (i : Int) < n := by omega
      have hw := wrap_in (a := (i : Int) + 1) (by omega) (by omega)
      have hw1 := wrap_in (a := x + (i : Int) + 1) (by omega) (by omega)
      have hg : (ints (nums (seqF x n)))[i]? = some (.int .i64 (.c (x + i))) := by rw [ints_get, nums_get, seqF_get n x i hi]; rfl
      have hcell : ∀ T : Sto Sy, Go.Sx.look T.obs q = some (ints (nums (seqF x n))) → aload (tiOf Tryd.prog) T 3 (.ptr q i) = some (.int .i64 (.c (x + i))) := fun T hT => by
        simp only [aload, tiI, lookC_ints hT]
        simpa [aggDesc] using hg
      have hld := hcell ⟨S.next, S.obs, S.next⟩ hlk
      simp only [aload, tiI, aggDesc] at hld
      repeat' (first | refine Wp.seq ?_ | refine Wp.block ?_ | (apply Wp.region; focus ((try simp [h0, h5, h1, al, hlt, lookC, hlk, lookC_ints hlk, hg, hw, hw1]) <;> rfl)) | (refine Wp.cond_t ?_ ?_; focus (simp [h0, h5, h1, al, hlt, lookC, hlk, lookC_ints hlk, hg, hw, hw1]; done)) | (refine Wp.cond_f ?_ ?_; focus (simp [h0, h5, h1, al, hlt, lookC, hlk, lookC_ints hlk, hg, hw, hw1]; done)) | refine Wp.skip ?_ | refine Wp.ret ?_ | refine Wp.exit ?_ | refine Blk.here ?_ | (refine Blk.past ?_ ?_; focus (simp; done)))
      exact ⟨by simp [h0], by simp, by simp; omega, rfl⟩
    · rintro f ⟨tm, T⟩ ⟨h0, h5, h1, rfl⟩
      simp only at h0 h5 h1
      repeat' (first | refine Wp.seq ?_ | refine Wp.block ?_ | (apply Wp.region; focus ((try simp [h0, h5, h1, al]) <;> rfl)) | (refine Wp.cond_t ?_ ?_; focus (simp [h0, h5, h1, al]; done)) | (refine Wp.cond_f ?_ ?_; focus (simp [h0, h5, h1, al]; done)) | refine Wp.skip ?_ | refine Wp.ret ?_ | refine Wp.exit ?_ | refine Blk.here ?_ | (refine Blk.past ?_ ?_; focus (simp; done)))
      have ht := trim_plain (sto := (⟨S.next, S.obs, S.next⟩ : Sto Sy)) (r := .int .i64 (.c (x + n))) hS.desc rfl
      exact ⟨rfl, _, by simp [answer, aresults, aresult, h1]; rfl, by rw [ht]⟩
  obtain ⟨_, h1, rfl⟩ := hr
  rw [acallV_func (by decide), List.nil_append, List.append_nil, symIn_run (by decide), h1]
  have hlow := hS.low
  have : (⟨S.next, S.obs, if Nat.blt S.next S.low then S.next else S.low⟩ : Sto Sy) = S := by
    rw [if_neg (by rw [Nat.blt_eq]; omega)]
  simp only [this]
set_option maxRecDepth 10000 in
theorem heldNil (x : Int) (S : Sto Sy) (hS : Wst S) (m : Nat) (hm : 3 ≤ m) : acallV (symIn Tryd.prog (KL) [] (m + 1)) S (.func 18 [] []) [.nil, .int .i64 (.c x)] = some (.int .i64 (.c x), S) := by
  have hr : ∃ r, symRun Tryd.prog (KL) [] (m + 1) 18 [.nil, .int .i64 (.c x)] ⟨S.next, S.obs, S.next⟩ = some r ∧ r = (.int .i64 (.c x), ⟨S.next, S.obs, S.next⟩) := by
    refine own_run2 (n := m) (by rfl) Tryd.func18 rfl rfl ?_
    simp only [Tryd.f18]
    have al : alen (symNum []) (tiOf Tryd.prog) 23 (.nil : V Sy) = some (.int .i64 (.c 0)) := by simp [alen, tiS, symNum]
    repeat' (first | refine Wp.seq ?_ | refine Wp.block ?_ | (apply Wp.region; focus ((try simp [setArgs, al]) <;> rfl)) | (refine Wp.cond_t ?_ ?_; focus (simp [setArgs, al]; done)) | (refine Wp.cond_f ?_ ?_; focus (simp [setArgs, al]; done)) | refine Wp.skip ?_ | refine Wp.ret ?_ | refine Wp.exit ?_ | refine Blk.here ?_ | (refine Blk.past ?_ ?_; focus (simp; done)))
    refine Wp.loop rfl rfl (fun i st => st.tm.get .any 0 = .nil ∧ st.tm.get .any 5 = .int .i64 (.c 0) ∧ st.tm.get .any 1 = .int .i64 (.c x) ∧ st.sto = ⟨S.next, S.obs, S.next⟩) 0 (by omega) ?_ ?_ ?_
    · exact ⟨by simp, by simp, by simp, rfl⟩
    · rintro f i ⟨tm, T⟩ hi _; omega
    · rintro f ⟨tm, T⟩ ⟨h0, h5, h1, rfl⟩
      simp only at h0 h5 h1
      repeat' (first | refine Wp.seq ?_ | refine Wp.block ?_ | (apply Wp.region; focus ((try simp [h0, h5, h1, al]) <;> rfl)) | (refine Wp.cond_t ?_ ?_; focus (simp [h0, h5, h1, al]; done)) | (refine Wp.cond_f ?_ ?_; focus (simp [h0, h5, h1, al]; done)) | refine Wp.skip ?_ | refine Wp.ret ?_ | refine Wp.exit ?_ | refine Blk.here ?_ | (refine Blk.past ?_ ?_; focus (simp; done)))
      have ht := trim_plain (sto := (⟨S.next, S.obs, S.next⟩ : Sto Sy)) (r := .int .i64 (.c x)) hS.desc rfl
      exact ⟨rfl, _, by simp [answer, aresults, aresult, h1]; rfl, by rw [ht]⟩
  obtain ⟨_, h1, rfl⟩ := hr
  rw [acallV_func (by decide), List.nil_append, List.append_nil, symIn_run (by decide), h1]
  have hlow := hS.low
  have : (⟨S.next, S.obs, if Nat.blt S.next S.low then S.next else S.low⟩ : Sto Sy) = S := by
    rw [if_neg (by rw [Nat.blt_eq]; omega)]
  simp only [this]
end
end Go.Proofs.YtgaodlhdilhliaaDoor.St

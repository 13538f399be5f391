/-
  Lines that are answered: the law that RunDesk answers as its model, by a run by hand. No condition.
-/
import Derived.Test.YtgaodlhdilhliaaGreatDoorRows
import Derived.Test.YtgaodlhdilhliaaGreatDoorSym
import Derived.Test.YtgaodlhdilhliaaGreatDoorSymD
import Derived.Test.YtgaodlhdilhliaaGreatDoorSymE
import Derived.Test.YtgaodlhdilhliaaGreatDoorSymF
import Derived.Test.YtgaodlhdilhliaaGreatDoorIds
import Derived.Test.YtgaodlhdilhliaaGreatDoorSh
import Derived.Test.YtgaodlhdilhliaaGreatDoorShB
import Derived.Test.YtgaodlhdilhliaaGreatDoorSt
import Derived.Test.YtgaodlhdilhliaaGreatDoorSp
import Derived.Test.YtgaodlhdilhliaaGreatDoorTel
import Derived.Test.YtgaodlhdilhliaaGreatDoorNum
import Derived.Test.YtgaodlhdilhliaaGreatDoorDraw
import Derived.Test.YtgaodlhdilhliaaGreatDoorTx
import Derived.Test.YtgaodlhdilhliaaGreatDoorTy
import Derived.Test.YtgaodlhdilhliaaGreatDoorTg
import Derived.Test.YtgaodlhdilhliaaGreatDoorPb
import Derived.Test.YtgaodlhdilhliaaGreatDoorPd
import Derived.Test.YtgaodlhdilhliaaGreatDoorBe
import Derived.Test.YtgaodlhdilhliaaGreatDoorBf
import Derived.WalkKit
import Derived.ProofKit
import Derived.OpenShut
namespace Go.Proofs.YtgaodlhdilhliaaGreatDoor.St
open Go.ChangeShapes Go.WideShapes Go.ChangeAt Go.RowKit Go.Sx Go.Proofs.YtgaodlhdilhliaaGreatDoor.Ids
set_option linter.unusedVariables false
set_option linter.unusedSimpArgs false

noncomputable def drK : Ctr := fun k args sto => symRun Tryz.prog Draw.K0 [] 201 k args sto
theorem drK_ok {ρ : Nat → Int} {s : Sms} {B : Nat} : COk Tryz.prog ⟨Sy.den ρ, s⟩ B drK := fun k args sto r sto' h =>
  symRun_ok noCount mixed (Γ := []) (fun f hf => by cases hf) (Draw.K0_ok ρ s B) 201 k args sto r sto' h
noncomputable def KD : Ctr := swK 7 srK (swK 6 deskK (swK 5 drK noK))
theorem KD_ok {ρ : Nat → Int} {s : Sms} {B : Nat} (hs : ∀ w, s.g w → Laid w ∧ LaidM w ∧ LaidE w) : COk Tryz.prog ⟨Sy.den ρ, s⟩ B KD := swK_ok (srK_ok hs) (swK_ok (deskK_ok hs) (swK_ok drK_ok noK_ok))
theorem KD_s (args : List (V Sy)) (sto : Sto Sy) : KD 7 args sto = symRun Tryz.prog KL [] 1050000 7 args sto := by
  unfold KD
  rw [swK_at]
  unfold srK
  rw [Nat.beq_refl, bite_true]
theorem KD_i (args : List (V Sy)) (sto : Sto Sy) : KD 6 args sto = deskK 6 args sto := by
  unfold KD
  rw [swK_ne (by decide), swK_at]
theorem KD_d (args : List (V Sy)) (sto : Sto Sy) : KD 5 args sto = symRun Tryz.prog Draw.K0 [] 201 5 args sto := by
  unfold KD
  rw [swK_ne (by decide), swK_ne (by decide), swK_at]
  rfl
section
variable {xs : List ByteArray} {n : Nat} (hn : n ≤ xs.length) (hx : ∀ x, x ∈ xs → x.size ≤ 1048576) (hl : xs.length ≤ 2000000) {S : Sto Sy} (hS : Wst S) {q : Nat} {cap : Option Nat} (ho : Go.Sx.look S.obs q = some (strs xs)) (f : Nat)
include hn hx hl hS ho
theorem c_sr : ∃ S', acallV (symIn Tryz.prog KD [] (f + 1)) S (.func 7 [] []) [.rsl q 0 n cap] = some (.str (deskV (xs.take n)), S') ∧ Gro S S' := by
  obtain ⟨⟨rv, rs⟩, h1, hg, h3⟩ := specDesk xs n hn hx hl hS (cap := cap) ho 1050000 (by omega)
  simp only at h3
  subst h3
  have h1' : KD 7 [.rsl q 0 n cap] ⟨S.next, S.obs, S.next⟩ = some (.str (deskV (xs.take n)), rs) := by rw [KD_s]; exact h1
  refine ⟨_, call_K h1' (by decide), ?_⟩
  have g1 := hg.low1
  have g2 := hg.low2
  have g3 := hg.next
  have g4 := hS.low
  simp only at g1 g2 g3
  refine ⟨hg.desc, g3, ?_, ?_, hg.keep⟩
  · show S.low ≤ (if rs.low < S.low then rs.low else S.low)
    split <;> omega
  · show (if rs.low < S.low then rs.low else S.low) ≤ rs.next
    split <;> omega
theorem c_ir (hc : cap = none ∨ ∃ m, cap = some m ∧ n ≤ m) : acallV (symIn Tryz.prog KD [] (f + 1)) S (.func 6 [] []) [.rsl q 0 n cap] = some (.str (deskV (xs.take n)), S) := by
  have h1 : KD 6 [.rsl q 0 n cap] ⟨S.next, S.obs, S.next⟩ = some (.str (deskV (xs.take n)), ⟨S.next, S.obs, S.next⟩) := by
    rw [KD_i]
    exact deskK_eq ⟨ho, hn, hc, hl, hx⟩
  have e : (⟨S.next, S.obs, if S.next < S.low then S.next else S.low⟩ : Sto Sy) = S := by rw [if_neg (by have := hS.low; omega)]
  refine (call_K h1 (by decide)).trans ?_
  show some (_, (⟨S.next, S.obs, if S.next < S.low then S.next else S.low⟩ : Sto Sy)) = _
  rw [e]
end
theorem refsL_strs (xs : List ByteArray) : refsL (strs xs) = [] := by
  induction xs with
  | nil => rfl
  | cons b r ih => simpa [strs, refsL, V.refs] using ih
theorem strs_get (xs : List ByteArray) (i : Nat) (hi : i < xs.length) : (strs xs)[i]? = some (.str xs[i]) := by
  unfold strs
  rw [List.getElem?_map, List.getElem?_eq_getElem hi]
  rfl
theorem strs_getL (xs : List ByteArray) (i : Nat) (h : i < (strs xs).length) : (strs xs)[i] = .str (xs[i]'(by simpa [strs] using h)) := by simp [strs]
noncomputable def halfS (xs : List ByteArray) (i : Nat) : List ByteArray := (List.range xs.length).map fun j => if j < i then xs.getD j ⟨#[]⟩ else ⟨#[]⟩
theorem halfS_len (xs : List ByteArray) (i : Nat) : (halfS xs i).length = xs.length := by simp [halfS]
theorem halfS_zero (xs : List ByteArray) : strs (halfS xs 0) = List.replicate xs.length (V.str ⟨#[]⟩) := by
  refine List.ext_getElem? (fun j => ?_)
  simp only [strs, halfS, List.map_map, List.getElem?_map, List.getElem?_range', List.getElem?_replicate]
  by_cases h : j < xs.length
  · simp [h]
  · simp [h]
theorem halfS_all (xs : List ByteArray) : halfS xs xs.length = xs := by
  refine List.ext_getElem? (fun j => ?_)
  simp only [halfS, List.getElem?_map]
  by_cases h : j < xs.length
  · simp [h, List.getD]
  · simp [h]
theorem halfS_set (xs : List ByteArray) (i : Nat) (hi : i < xs.length) : (strs (halfS xs i)).set i (.str xs[i]) = strs (halfS xs (i + 1)) := by
  refine List.ext_getElem? (fun j => ?_)
  rw [List.getElem?_set]
  by_cases hj : i = j
  · subst hj
    rw [if_pos rfl, if_pos (by simp [strs, halfS_len, hi])]
    simp [strs, halfS, hi, List.getD]
  · rw [if_neg hj]
    simp only [strs, halfS, List.getElem?_map]
    by_cases h : j < xs.length
    · have e : (j < i) = (j < i + 1) := propext ⟨fun h => by omega, fun h => by omega⟩
      simp [h, e]
    · simp [h]
noncomputable def Wu (S : Sto Sy) (xs : List ByteArray) (i : Nat) : Sto Sy := ⟨S.next + 1, (S.next, strs (halfS xs i)) :: S.obs, S.low⟩
theorem Wu_step {S : Sto Sy} (hn : S.low = S.next) {xs : List ByteArray} {i : Nat} (hi : i < xs.length) : astore (tiOf Tryz.prog) (Wu S xs i) 9 (.ptr S.next i) (.str xs[i]) = some (Wu S xs (i + 1)) := by
  have tiSr : tiOf Tryz.prog 9 = some ⟨.string, 1, 16, .string ⟨#[]⟩, true⟩ := by kernel_rfl
  have h2 : lookC (Wu S xs i).obs S.next = some (strs (halfS xs i)) := lookC_iff.2 ⟨by unfold Wu; rw [look_cons, if_pos rfl], strs_nm _⟩
  have h1 : i + 1 ≤ (strs (halfS xs i)).length := by simp [strs, halfS_len]; omega
  simp only [astore, tiSr, V.cells, h2, List.length_cons, List.length_nil, true_and, List.all_cons, List.all_nil, V.oneCell, Bool.and_self, and_true, Nat.zero_add]
  rw [if_pos h1]
  simp only [setRange, halfS_set xs i hi, Sto.write, noBc_strs]
  unfold Wu
  simp [put, hn]

attribute [local simp] aops wants aop apure St.eval setTm_some setTm_none Tr.get_set evals pevals apureB alen tiS tiI tiB tiSs tiStr abin aint isCmp sym_lt sym_eqs sym_neqs sym_eq sym_neq sym_gtr sym_leq sym_geq sym_add sym_sub sym_mul aeff aeffB idx? ofV aindexAddr aindex aggDesc aifc_int aun aifc_str
set_option maxRecDepth 10000 in
theorem toRun (xs : List ByteArray) (hl : xs.length ≤ 1048576) {S : Sto Sy} (hS : Wst S) (f : Nat) (hf : xs.length + 2 ≤ f) :
    acallV (symIn Tryz.prog KD [] f) S (.func 10 [] []) [.slice (strs xs)] = some (.rsl S.next 0 xs.length (some xs.length), ⟨S.next + 1, (S.next, strs xs) :: S.obs, S.low⟩) := by
  obtain ⟨g, rfl⟩ : ∃ g, f = g + 1 := ⟨f - 1, by omega⟩
  have key : symRun Tryz.prog KD [] (g + 1) 10 [.slice (strs xs)] ⟨S.next, S.obs, S.next⟩ = some (.rsl S.next 0 xs.length (some xs.length), ⟨S.next + 1, (S.next, strs xs) :: S.obs, S.next⟩) := by
    have hS0 : Wst ⟨S.next, S.obs, S.next⟩ := ⟨hS.desc, Nat.le_refl _⟩
    generalize hS1 : (⟨S.next, S.obs, S.next⟩ : Sto Sy) = S1 at hS0
    have hn1 : S1.low = S1.next := by rw [← hS1]
    have e1 : S.next = S1.next := by rw [← hS1]
    have e2 : S.obs = S1.obs := by rw [← hS1]
    rw [e1, e2]
    refine own_run (by rfl) Tryz.func10 rfl rfl ?_
    simp only [Tryz.f10]
    have tiSs : tiOf Tryz.prog 23 = some ⟨.slice 9, 1, 24, .slice none 0 0, true⟩ := by kernel_rfl
    have tiSr : tiOf Tryz.prog 9 = some ⟨.string, 1, 16, .string ⟨#[]⟩, true⟩ := by kernel_rfl
    have hb : (16 : Int) * (xs.length : Int) ≤ 140737488355328 ∧ (xs.length : Int) ≤ 9223372036854775807 ∧ (0 : Int) ≤ xs.length := by omega
    repeat' (first | refine Wp.seq ?_ | refine Wp.block ?_ | (apply Wp.region; focus ((try simp [setArgs, tiSs, tiSr, amakeSlice, hb.1, hb.2.1, hb.2.2, V.oneCell, strs_len]) <;> rfl)) | (refine Wp.cond_t ?_ ?_; focus (simp [setArgs, tiSs, tiSr, amakeSlice, hb.1, hb.2.1, hb.2.2, V.oneCell, strs_len]; done)) | (refine Wp.cond_f ?_ ?_; focus (simp [setArgs, tiSs, tiSr, amakeSlice, hb.1, hb.2.1, hb.2.2, V.oneCell, strs_len]; done)) | refine Wp.skip ?_ | refine Wp.ret ?_ | refine Wp.exit ?_ | refine Blk.here ?_ | (refine Blk.past ?_ ?_; focus (simp; done)))
    refine Wp.loop rfl rfl (fun i st => st.tm.get .any 0 = .slice (strs xs) ∧ st.tm.get .any 3 = .rsl S1.next 0 xs.length (some xs.length) ∧ st.tm.get .any 4 = .int .i64 (.c i) ∧ st.sto = Wu S1 xs i) xs.length (by omega) ?_ ?_ ?_
    · refine ⟨by simp [setArgs], by simp, by simp, ?_⟩
      show Sto.new S1 _ = _
      unfold Sto.new Wu
      rw [← halfS_zero, noBc_strs]
    · rintro f i ⟨tm, T⟩ hi ⟨h0, h3, h4, rfl⟩
      simp only at h0 h3 h4
      have hlt : (i : Int) < xs.length := by omega
      have hw := wrap_in (a := (i : Int) + 1) (by omega) (by omega)
      have st := Wu_step hn1 hi
      have sg := strs_get xs i hi
      have sg2 := strs_getL xs i (by rw [strs_len]; exact hi)
      generalize Wu S1 xs (i + 1) = W' at st
      generalize Wu S1 xs i = W at st
      repeat' (first | refine Wp.seq ?_ | refine Wp.block ?_ | (apply Wp.region; focus ((try simp [h0, h3, h4, hlt, hi, sg, sg2, st, hw, tiSs, tiSr, aload, strs_len]) <;> rfl)) | (refine Wp.cond_t ?_ ?_; focus (simp [h0, h3, h4, hlt, hi, sg, sg2, st, hw, tiSs, tiSr, aload, strs_len]; done)) | (refine Wp.cond_f ?_ ?_; focus (simp [h0, h3, h4, hlt, hi, sg, sg2, st, hw, tiSs, tiSr, aload, strs_len]; done)) | refine Wp.skip ?_ | refine Wp.ret ?_ | refine Wp.exit ?_ | refine Blk.here ?_ | (refine Blk.past ?_ ?_; focus (simp; done)))
      exact ⟨by simp [h0], by simp [h3], by simp, rfl⟩
    · rintro f ⟨tm, T⟩ ⟨h0, h3, h4, rfl⟩
      simp only at h0 h3 h4
      have ht : Sto.trim S1.next (.rsl S1.next 0 xs.length (some xs.length)) (Wu S1 xs xs.length) = ⟨S1.next + 1, (S1.next, strs xs) :: S1.obs, S1.low⟩ := by
        unfold Wu
        rw [halfS_all]
        unfold Sto.trim
        rw [if_neg (by rw [Nat.blt_eq]; show ¬ S1.low < S1.next; omega)]
        have hd : deeper ((S1.next, strs xs) :: S1.obs) [S1.next] = [] := by
          simp only [deeper, look_cons, if_pos, List.append_nil]
          exact refsL_strs xs
        simp only [V.refs, hd, keepNew]
        rw [if_neg (by rw [Nat.blt_eq]; omega), if_pos (by simp), keepNew_id hS0.desc]
      generalize Wu S1 xs xs.length = W at ht
      repeat' (first | refine Wp.seq ?_ | refine Wp.block ?_ | (apply Wp.region; focus ((try simp [h0, h3, h4, strs_len]) <;> rfl)) | (refine Wp.cond_t ?_ ?_; focus (simp [h0, h3, h4, strs_len]; done)) | (refine Wp.cond_f ?_ ?_; focus (simp [h0, h3, h4, strs_len]; done)) | refine Wp.skip ?_ | refine Wp.ret ?_ | refine Wp.exit ?_ | refine Blk.here ?_ | (refine Blk.past ?_ ?_; focus (simp; done)))
      refine ⟨rfl, ?_⟩
      simp [answer, aresults, aresult]
      rw [ht, hn1]
  rw [acallV_func (by decide), List.nil_append, List.append_nil, symIn_run (by decide), key]
  show some (_, (⟨S.next + 1, (S.next, strs xs) :: S.obs, if Nat.blt S.next S.low then S.next else S.low⟩ : Sto Sy)) = _
  simp only [Nat.blt_eq]
  rw [if_neg (by have := hS.low; omega)]
set_option maxRecDepth 10000 in
theorem szRun (xs : List ByteArray) (hl : xs.length ≤ 9223372036854775807) (hx : ∀ x, x ∈ xs → x.size ≤ 9223372036854775807) {S : Sto Sy} (hS : Wst S) (f : Nat) (hf : 1048580 ≤ f) :
    ∃ r : Int, acallV (symIn Tryz.prog KD [] f) S (.func 9 [] []) [.slice (strs xs), .int .i64 (.c 1048576)] = some (.int .i64 (.c r), S) ∧ (r < 0 ∨ (0 ≤ r ∧ xs.length ≤ 1048576 ∧ ∀ x, x ∈ xs → x.size ≤ 1048576)) := by
  obtain ⟨g, rfl⟩ : ∃ g, f = g + 1 := ⟨f - 1, by omega⟩
  have key : ∃ r, symRun Tryz.prog KD [] (g + 1) 9 [.slice (strs xs), .int .i64 (.c 1048576)] ⟨S.next, S.obs, S.next⟩ = some r ∧ r.2 = ⟨S.next, S.obs, S.next⟩ ∧ ∃ z : Int, r.1 = .int .i64 (.c z) ∧ (z < 0 ∨ (0 ≤ z ∧ xs.length ≤ 1048576 ∧ ∀ x, x ∈ xs → x.size ≤ 1048576)) := by
    have hS0 : Wst ⟨S.next, S.obs, S.next⟩ := ⟨hS.desc, Nat.le_refl _⟩
    generalize hS1 : (⟨S.next, S.obs, S.next⟩ : Sto Sy) = S1 at hS0
    have hdz := fun v => trim_same hS0.desc v
    refine own_run2 (by rfl) Tryz.func9 rfl rfl ?_
    simp only [Tryz.f9]
    have w1 := wrap_in (a := (1048576 : Int) - xs.length) (by omega) (by omega)
    by_cases hneg : (1048576 : Int) - xs.length < 0
    · repeat' (first | refine Wp.seq ?_ | refine Wp.block ?_ | (apply Wp.region; focus ((try simp [setArgs, strs_len, w1, hneg]) <;> rfl)) | (refine Wp.cond_t ?_ ?_; focus (simp [setArgs, strs_len, w1, hneg]; done)) | (refine Wp.cond_f ?_ ?_; focus (simp [setArgs, strs_len, w1, hneg]; done)) | refine Wp.skip ?_ | refine Wp.ret ?_ | refine Wp.exit ?_ | refine Blk.here ?_ | (refine Blk.past ?_ ?_; focus (simp; done)))
      exact ⟨rfl, answer_trim1 (v := .int .i64 (.c (-1))) (by simp) ⟨hdz (.int .i64 (.c (-1))), -1, rfl, .inl (by decide)⟩⟩
    repeat' (first | refine Wp.seq ?_ | refine Wp.block ?_ | (apply Wp.region; focus ((try simp [setArgs, strs_len, w1, hneg]) <;> rfl)) | (refine Wp.cond_t ?_ ?_; focus (simp [setArgs, strs_len, w1, hneg]; done)) | (refine Wp.cond_f ?_ ?_; focus (simp [setArgs, strs_len, w1, hneg]; done)) | refine Wp.skip ?_ | refine Wp.ret ?_ | refine Wp.exit ?_ | refine Blk.here ?_ | (refine Blk.past ?_ ?_; focus (simp; done)))
    refine Wp.loop rfl rfl (fun i st => st.tm.get .any 0 = .slice (strs xs) ∧ st.tm.get .any 5 = .int .i64 (.c i) ∧ st.sto = S1 ∧ (∀ x, x ∈ xs.take i → x.size ≤ 1048576) ∧ ∃ z : Int, st.tm.get .any 1 = .int .i64 (.c z) ∧ 0 ≤ z ∧ z ≤ 1048576) xs.length (by omega) ?_ ?_ ?_
    · exact ⟨by simp [setArgs], by simp, rfl, by simp, (1048576 : Int) - xs.length, by simp, by omega, by omega⟩
    · rintro f i ⟨tm, T⟩ hi ⟨h0, h5, rfl, hall, z, h1, hz0, hz1⟩
      simp only at h0 h5 h1
      have hlt : (i : Int) < xs.length := by omega
      have hw := wrap_in (a := (i : Int) + 1) (by omega) (by omega)
      have hxi := hx _ (List.getElem_mem hi)
      have sg := strs_get xs i hi
      have sg2 := strs_getL xs i (by rw [strs_len]; exact hi)
      have hts : ∀ x, x ∈ xs.take (i + 1) → x ∈ xs.take i ∨ x = xs[i] := fun x hx => by
        rw [List.take_succ_eq_append_getElem hi, List.mem_append] at hx
        exact hx.imp id (fun h => by simpa using h)
      generalize xs[i] = x at hxi sg sg2 hts
      have w2 := wrap_in (a := z - x.size) (by omega) (by omega)
      by_cases hn2 : z - x.size < 0
      · repeat' (first | refine Wp.seq ?_ | refine Wp.block ?_ | (apply Wp.region; focus ((try simp [h0, h5, h1, hlt, hi, hw, w2, hn2, sg, sg2, aload, strs_len]) <;> rfl)) | (refine Wp.cond_t ?_ ?_; focus (simp [h0, h5, h1, hlt, hi, hw, w2, hn2, sg, sg2, aload, strs_len]; done)) | (refine Wp.cond_f ?_ ?_; focus (simp [h0, h5, h1, hlt, hi, hw, w2, hn2, sg, sg2, aload, strs_len]; done)) | refine Wp.skip ?_ | refine Wp.ret ?_ | refine Wp.exit ?_ | refine Blk.here ?_ | (refine Blk.past ?_ ?_; focus (simp; done)))
        exact ⟨rfl, answer_trim1 (v := .int .i64 (.c (-1))) (by simp) ⟨hdz (.int .i64 (.c (-1))), -1, rfl, .inl (by decide)⟩⟩
      · repeat' (first | refine Wp.seq ?_ | refine Wp.block ?_ | (apply Wp.region; focus ((try simp [h0, h5, h1, hlt, hi, hw, w2, hn2, sg, sg2, aload, strs_len]) <;> rfl)) | (refine Wp.cond_t ?_ ?_; focus (simp [h0, h5, h1, hlt, hi, hw, w2, hn2, sg, sg2, aload, strs_len]; done)) | (refine Wp.cond_f ?_ ?_; focus (simp [h0, h5, h1, hlt, hi, hw, w2, hn2, sg, sg2, aload, strs_len]; done)) | refine Wp.skip ?_ | refine Wp.ret ?_ | refine Wp.exit ?_ | refine Blk.here ?_ | (refine Blk.past ?_ ?_; focus (simp; done)))
        exact ⟨by simp [h0], by simp, rfl, fun y hy => (hts y hy).elim (hall y) (fun e => by rw [e]; omega), z - x.size, by simp, by omega, by omega⟩
    · rintro f ⟨tm, T⟩ ⟨h0, h5, rfl, hall, z, h1, hz0, hz1⟩
      simp only at h0 h5 h1
      rw [List.take_length] at hall
      repeat' (first | refine Wp.seq ?_ | refine Wp.block ?_ | (apply Wp.region; focus ((try simp [h0, h5, h1, strs_len]) <;> rfl)) | (refine Wp.cond_t ?_ ?_; focus (simp [h0, h5, h1, strs_len]; done)) | (refine Wp.cond_f ?_ ?_; focus (simp [h0, h5, h1, strs_len]; done)) | refine Wp.skip ?_ | refine Wp.ret ?_ | refine Wp.exit ?_ | refine Blk.here ?_ | (refine Blk.past ?_ ?_; focus (simp; done)))
      exact ⟨rfl, answer_trim1 (v := .int .i64 (.c z)) (by simp [h1]) ⟨hdz (.int .i64 (.c z)), z, rfl, .inr ⟨hz0, by omega, hall⟩⟩⟩
  obtain ⟨⟨rv, rs⟩, h1, h2, z, h3, h4⟩ := key
  simp only at h2 h3
  subst h2
  subst h3
  exact ⟨z, call_runG hS h1, h4⟩
set_option maxRecDepth 10000 in
theorem eqRun (xs : List ByteArray) (hl : xs.length ≤ 1048576) {S : Sto Sy} (hS : Wst S) {q1 q2 : Nat} {c1 c2 : Option Nat} (o1 : Go.Sx.look S.obs q1 = some (strs xs)) (o2 : Go.Sx.look S.obs q2 = some (strs xs)) (f : Nat) (hf : xs.length + 2 ≤ f) :
    acallV (symIn Tryz.prog KD [] f) S (.func 11 [] []) [.rsl q1 0 xs.length c1, .rsl q2 0 xs.length c2] = some (.bool true, S) := by
  obtain ⟨g, rfl⟩ : ∃ g, f = g + 1 := ⟨f - 1, by omega⟩
  refine call_runG hS ?_
  have hS0 : Wst ⟨S.next, S.obs, S.next⟩ := ⟨hS.desc, Nat.le_refl _⟩
  have o1' : Go.Sx.look (⟨S.next, S.obs, S.next⟩ : Sto Sy).obs q1 = some (strs xs) := o1
  have o2' : Go.Sx.look (⟨S.next, S.obs, S.next⟩ : Sto Sy).obs q2 = some (strs xs) := o2
  clear o1 o2
  generalize hS1 : (⟨S.next, S.obs, S.next⟩ : Sto Sy) = S1 at hS0 o1' o2'
  have hdz := fun v => trim_same hS0.desc v
  have htk := takeNew_id hS0.desc
  refine own_run (by rfl) Tryz.func11 rfl rfl ?_
  simp only [Tryz.f11]
  repeat' (first | refine Wp.seq ?_ | refine Wp.block ?_ | (apply Wp.region; focus ((try simp [setArgs]) <;> rfl)) | (refine Wp.cond_t ?_ ?_; focus (simp [setArgs]; done)) | (refine Wp.cond_f ?_ ?_; focus (simp [setArgs]; done)) | refine Wp.skip ?_ | refine Wp.ret ?_ | refine Wp.exit ?_ | refine Blk.here ?_ | (refine Blk.past ?_ ?_; focus (simp; done)))
  refine Wp.loop rfl rfl (fun i st => st.tm.get .any 0 = .rsl q1 0 xs.length c1 ∧ st.tm.get .any 1 = .rsl q2 0 xs.length c2 ∧ st.tm.get .any 5 = .int .i64 (.c i) ∧ st.sto = S1) xs.length (by omega) ?_ ?_ ?_
  · exact ⟨by simp [setArgs], by simp [setArgs], by simp, rfl⟩
  · rintro f i ⟨tm, T⟩ hi ⟨h0, h1, h5, rfl⟩
    simp only at h0 h1 h5
    have hlt : (i : Int) < xs.length := by omega
    have hw := wrap_in (a := (i : Int) + 1) (by omega) (by omega)
    have l1 : aload (tiOf Tryz.prog) ⟨T.next, T.obs, T.next⟩ 9 (.ptr q1 i) = some (.str xs[i]) := loadS (S := ⟨T.next, T.obs, T.next⟩) o1' hi
    have l2 : aload (tiOf Tryz.prog) ⟨T.next, T.obs, T.next⟩ 9 (.ptr q2 i) = some (.str xs[i]) := loadS (S := ⟨T.next, T.obs, T.next⟩) o2' hi
    have htk2 : takeNew T.next T.obs = [] := htk
    generalize xs[i] = x at l1 l2
    repeat' (first | refine Wp.seq ?_ | refine Wp.block ?_ | (apply Wp.region; focus ((try simp [h0, h1, h5, hlt, hi, l1, l2, hw]) <;> rfl)) | (refine Wp.cond_t ?_ ?_; focus (simp [h0, h1, h5, hlt, hi, l1, l2, hw]; done)) | (refine Wp.cond_f ?_ ?_; focus (simp [h0, h1, h5, hlt, hi, l1, l2, hw]; done)) | refine Wp.skip ?_ | refine Wp.ret ?_ | refine Wp.exit ?_ | refine Blk.here ?_ | (refine Blk.past ?_ ?_; focus (simp; done)))
    (apply Wp.drawn2 8; (focus kernel_rfl); (focus kernel_rfl); (focus intro F; simp [dhead, seenBy, keepOnly, looks, joinN, addN, bite_eq, Op.operands, h0, h1, h5, hlt, hi, l1, l2, hw, htk2]; exact ⟨rfl, rfl, rfl⟩); (focus (try simp [allN, h0, h1, h5, hlt, hi, l1, l2, hw, htk2]) <;> rfl))
    repeat' (first | refine Wp.seq ?_ | refine Wp.block ?_ | (apply Wp.region; focus ((try simp [h0, h1, h5, hlt, hi, l1, l2, hw]) <;> rfl)) | (refine Wp.cond_t ?_ ?_; focus (simp [h0, h1, h5, hlt, hi, l1, l2, hw]; done)) | (refine Wp.cond_f ?_ ?_; focus (simp [h0, h1, h5, hlt, hi, l1, l2, hw]; done)) | refine Wp.skip ?_ | refine Wp.ret ?_ | refine Wp.exit ?_ | refine Blk.here ?_ | (refine Blk.past ?_ ?_; focus (simp; done)))
    exact ⟨by simp [h0], by simp [h1], by simp, rfl⟩
  · rintro f ⟨tm, T⟩ ⟨h0, h1, h5, rfl⟩
    simp only at h0 h1 h5
    repeat' (first | refine Wp.seq ?_ | refine Wp.block ?_ | (apply Wp.region; focus ((try simp [h0, h1, h5]) <;> rfl)) | (refine Wp.cond_t ?_ ?_; focus (simp [h0, h1, h5]; done)) | (refine Wp.cond_f ?_ ?_; focus (simp [h0, h1, h5]; done)) | refine Wp.skip ?_ | refine Wp.ret ?_ | refine Wp.exit ?_ | refine Blk.here ?_ | (refine Blk.past ?_ ?_; focus (simp; done)))
    refine ⟨rfl, ?_⟩
    simp [answer, aresults, aresult, hdz]
end Go.Proofs.YtgaodlhdilhliaaGreatDoor.St

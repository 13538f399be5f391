/-
  Lines that are answered: the law of lines that are drawn from bytes. No condition.
-/
import Derived.Test.YtgaodlhdilhliaaGreatDoorRows
import Derived.Test.YtgaodlhdilhliaaGreatDoorSym
import Derived.Test.YtgaodlhdilhliaaGreatDoorSymD
import Derived.Test.YtgaodlhdilhliaaGreatDoorSymE
import Derived.Test.YtgaodlhdilhliaaGreatDoorSymF
import Derived.Test.YtgaodlhdilhliaaGreatDoorIds
import Derived.Test.YtgaodlhdilhliaaGreatDoorSh
import Derived.Test.YtgaodlhdilhliaaGreatDoorShB
import Derived.Test.YtgaodlhdilhliaaGreatDoorSt
import Derived.Test.YtgaodlhdilhliaaGreatDoorSp
import Derived.Test.YtgaodlhdilhliaaGreatDoorTel
import Derived.Test.YtgaodlhdilhliaaGreatDoorNum
import Derived.Test.YtgaodlhdilhliaaGreatDoorDraw
import Derived.Test.YtgaodlhdilhliaaGreatDoorTx
import Derived.Test.YtgaodlhdilhliaaGreatDoorTy
import Derived.Test.YtgaodlhdilhliaaGreatDoorTg
import Derived.Test.YtgaodlhdilhliaaGreatDoorPb
import Derived.Test.YtgaodlhdilhliaaGreatDoorPd
import Derived.Test.YtgaodlhdilhliaaGreatDoorBe
import Derived.Test.YtgaodlhdilhliaaGreatDoorBf
import Derived.Test.YtgaodlhdilhliaaGreatDoorBg
import Derived.Test.YtgaodlhdilhliaaGreatDoorDrawL
import Derived.WalkKit
import Derived.ProofKit
import Derived.OpenShut
namespace Go.Proofs.YtgaodlhdilhliaaGreatDoor.St
open Go.ChangeShapes Go.WideShapes Go.ChangeAt Go.RowKit Go.Sx Go.Proofs.YtgaodlhdilhliaaGreatDoor.Ids
set_option linter.unusedVariables false
set_option linter.unusedSimpArgs false

theorem dec_no (u : Nat) : (10 : UInt8) ∉ Lib.decDigits u := by
  induction u using Nat.strongRecOn with
  | ind u ih =>
    have hd : ∀ d, d < 10 → ¬ (10 : UInt8) = UInt8.ofNat (48 + d) := by decide
    by_cases h : u < 10
    · rw [dec_one h, List.mem_singleton]
      exact hd u h
    · rw [dec_more (by omega), List.mem_append, List.mem_singleton]
      exact fun e => e.elim (ih (u / 10) (by omega)) (hd (u % 10) (by omega))
theorem itoa_no (z : Int) : (10 : UInt8) ∉ (textZ z).data.toList := by
  unfold textZ
  show (10 : UInt8) ∉ Lib.itoa z
  unfold Lib.itoa
  split
  · rw [List.mem_cons]
    exact fun e => e.elim (fun e => absurd e (by decide)) (dec_no _)
  · exact dec_no _
theorem acc_no (zs : List Int) : ∀ i, (10 : UInt8) ∉ (accT zs i).data.toList
  | 0 => by simp [accT]
  | i + 1 => by
    have ih := acc_no zs i
    have hc : (10 : UInt8) ∉ comma.data.toList := by decide
    show (10 : UInt8) ∉ ((if 0 < i then accT zs i ++ comma else accT zs i) ++ textZ (zs.getD i 0)).data.toList
    rw [ByteArray.data_append, Array.toList_append, List.mem_append]
    refine fun e => e.elim (fun e => ?_) (itoa_no _)
    split at e
    · rw [ByteArray.data_append, Array.toList_append, List.mem_append] at e
      exact e.elim ih hc
    · exact ih e
theorem ansJ_no (j : Nat) (t : ByteArray) : (10 : UInt8) ∉ (ansJ j t).data.toList := by
  unfold ansJ
  cases hp : parseV t with
  | none => show (10 : UInt8) ∉ wrongB.data.toList; decide
  | some zs =>
    simp only
    cases hf : funA zs j with
    | none => show (10 : UInt8) ∉ noneB.data.toList; decide
    | some ys =>
      have e := acc_join ys ys.length (Nat.le_refl _)
      rw [List.take_length] at e
      show (10 : UInt8) ∉ (joinB (ys.map textZ) comma).data.toList
      rw [← e]
      exact acc_no ys _
theorem ansL_no (line : ByteArray) : (10 : UInt8) ∉ (ansL line).data.toList := by
  have hw : (10 : UInt8) ∉ whatB.data.toList := by decide
  unfold ansL
  split
  · split
    · exact hw
    · exact ansJ_no _ _
  · exact hw
theorem deskL_count (xs : List ByteArray) : (deskL xs).count 10 = xs.length := by
  induction xs with
  | nil => rfl
  | cons x r ih =>
    have e : deskL (x :: r) = ((ansL x).data.toList ++ [10]) ++ deskL r := rfl
    rw [e, List.count_append, List.count_append, ih, List.count_eq_zero.2 (ansL_no x), List.length_cons]
    simp
    omega
theorem deskL_pre (xs : List ByteArray) (k : Nat) : deskL xs = deskL (xs.take k) ++ deskL (xs.drop k) := by
  have e : xs = xs.take k ++ xs.drop k := (List.take_append_drop k xs).symm
  have h : deskL (xs.take k ++ xs.drop k) = deskL (xs.take k) ++ deskL (xs.drop k) := by unfold deskL; rw [List.flatMap_append]
  rw [← e] at h
  exact h
theorem deskB_pre (xs : List ByteArray) (k : Nat) : (deskB xs).extract 0 (deskB (xs.take k)).size = deskB (xs.take k) ∧ (deskB (xs.take k)).size ≤ (deskB xs).size := by
  have e : (deskB (xs.take k)).size = (deskL (xs.take k)).length := size_list _
  have e2 : (deskB xs).size = (deskL xs).length := size_list _
  have h := deskL_pre xs k
  constructor
  · apply ba_ext
    rw [ext_list, e]
    show ((deskL xs).take _).drop 0 = deskL (xs.take k)
    rw [h]
    simp
  · rw [e, e2, h, List.length_append]
    omega
attribute [local simp] aops wants aop apure St.eval setTm_some setTm_none Tr.get_set evals pevals apureB alen tiS tiI tiB Draw.tiU tiSs tiStr abin aint isCmp sym_lt sym_eqs sym_neqs sym_eq sym_neq sym_gtr sym_leq sym_geq sym_add sym_sub sym_mul aeff aeffB idx? ofV aindexAddr aindex aggDesc aifc_int aun aifc_str u8s_length Draw.tiY
set_option maxRecDepth 10000 in
theorem nlRun (s : ByteArray) (hs : s.size ≤ 3000) {S : Sto Sy} (hS : Wst S) (f : Nat) (hf : s.size + 2 ≤ f) :
    acallV (symIn Tryz.prog KD [] f) S (.func 8 [] []) [.str s] = some (.int .i64 (.c ((s.data.toList.count 10 : Nat) : Int)), S) := by
  obtain ⟨g, rfl⟩ : ∃ g, f = g + 1 := ⟨f - 1, by omega⟩
  refine call_runG hS ?_
  have hS0 : Wst ⟨S.next, S.obs, S.next⟩ := ⟨hS.desc, Nat.le_refl _⟩
  generalize hS1 : (⟨S.next, S.obs, S.next⟩ : Sto Sy) = S1 at hS0
  have hdz := fun v => trim_same hS0.desc v
  have hsl : s.data.toList.length = s.size := (size_list s).symm
  refine own_run (by rfl) Tryz.func8 rfl rfl ?_
  simp only [Tryz.f8]
  repeat' (first | refine Wp.seq ?_ | refine Wp.block ?_ | (apply Wp.region; focus ((try simp [setArgs]) <;> rfl)) | (refine Wp.cond_t ?_ ?_; focus (simp [setArgs]; done)) | (refine Wp.cond_f ?_ ?_; focus (simp [setArgs]; done)) | refine Wp.skip ?_ | refine Wp.ret ?_ | refine Wp.exit ?_ | refine Blk.here ?_ | (refine Blk.past ?_ ?_; focus (simp; done)))
  refine Wp.loop rfl rfl (fun i st => st.tm.get .any 0 = .str s ∧ st.tm.get .any 3 = .int .i64 (.c (((s.data.toList.take i).count 10 : Nat) : Int)) ∧ st.tm.get .any 4 = .int .i64 (.c i) ∧ st.sto = S1) s.size (by omega) ?_ ?_ ?_
  · exact ⟨by simp [setArgs], by simp, by simp, rfl⟩
  · rintro f i ⟨tm, T⟩ hi ⟨h0, h3, h4, rfl⟩
    simp only at h0 h3 h4
    have hlt : (i : Int) < s.size := by omega
    have hw := wrap_in (a := (i : Int) + 1) (by omega) (by omega)
    have hil : i < s.data.toList.length := by omega
    have hxi := str_at hi
    have htk : s.data.toList.take (i + 1) = s.data.toList.take i ++ [s.data.toList[i]] := List.take_succ_eq_append_getElem hil
    have hcl : (s.data.toList.take i).count 10 ≤ 3000 := Nat.le_trans List.count_le_length (by rw [List.length_take]; omega)
    rw [htk, List.count_append]
    generalize s.data.toList[i] = b at hxi
    generalize (s.data.toList.take i).count 10 = c at h3 hcl
    have hw2 := wrap_in (a := (c : Int) + 1) (by omega) (by omega)
    by_cases hb : b = 10
    · have hbt : (b.toNat : Int) = 10 := by rw [hb]; rfl
      have hbc : List.count 10 [b] = 1 := by rw [hb]; rfl
      rw [hbc]
      have hbt2 : b.toNat = 10 := by rw [hb]; rfl
      clear hb hbc
      repeat' (first | refine Wp.seq ?_ | refine Wp.block ?_ | (apply Wp.region; focus ((try simp [h0, h3, h4, hlt, hxi, hw, hw2, hbt, hbt2]) <;> rfl)) | (refine Wp.cond_t ?_ ?_; focus (simp [h0, h3, h4, hlt, hxi, hw, hw2, hbt, hbt2]; done)) | (refine Wp.cond_f ?_ ?_; focus (simp [h0, h3, h4, hlt, hxi, hw, hw2, hbt, hbt2]; done)) | refine Wp.skip ?_ | refine Wp.ret ?_ | refine Wp.exit ?_ | refine Blk.here ?_ | (refine Blk.past ?_ ?_; focus (simp; done)))
      exact ⟨by simp [h0], by simp, by simp, rfl⟩
    · have hbn : ¬ (b.toNat : Int) = 10 := fun e => hb (UInt8.toNat_inj.1 (show b.toNat = 10 by omega))
      have hbc : List.count 10 [b] = 0 := List.count_eq_zero.2 (by rw [List.mem_singleton]; exact fun e => hb e.symm)
      have hbn2 : ¬ b.toNat = 10 := by omega
      repeat' (first | refine Wp.seq ?_ | refine Wp.block ?_ | (apply Wp.region; focus ((try simp [h0, h3, h4, hlt, hxi, hw, hbn, hbn2]) <;> rfl)) | (refine Wp.cond_t ?_ ?_; focus (simp [h0, h3, h4, hlt, hxi, hw, hbn, hbn2]; done)) | (refine Wp.cond_f ?_ ?_; focus (simp [h0, h3, h4, hlt, hxi, hw, hbn, hbn2]; done)) | refine Wp.skip ?_ | refine Wp.ret ?_ | refine Wp.exit ?_ | refine Blk.here ?_ | (refine Blk.past ?_ ?_; focus (simp; done)))
      exact ⟨by simp [h0], by simp [h3, hbc], by simp, rfl⟩
  · rintro f ⟨tm, T⟩ ⟨h0, h3, h4, rfl⟩
    simp only at h0 h3 h4
    rw [List.take_of_length_le (by omega)] at h3
    repeat' (first | refine Wp.seq ?_ | refine Wp.block ?_ | (apply Wp.region; focus ((try simp [h0, h3, h4]) <;> rfl)) | (refine Wp.cond_t ?_ ?_; focus (simp [h0, h3, h4]; done)) | (refine Wp.cond_f ?_ ?_; focus (simp [h0, h3, h4]; done)) | refine Wp.skip ?_ | refine Wp.ret ?_ | refine Wp.exit ?_ | refine Blk.here ?_ | (refine Blk.past ?_ ?_; focus (simp; done)))
    refine ⟨rfl, ?_⟩
    simp [answer, aresults, aresult, hdz, h3]
theorem sl_rsl {q n k : Nat} {cap : Option Nat} (hk : k ≤ n) (hc : cap = none ∨ cap = some n) : aslice (symNum []) (tiOf Tryz.prog) 23 (.rsl q 0 n cap) none (some (.int .i64 (.c (k : Int)))) none = some (.rsl q 0 k cap) := by
  rcases hc with rfl | rfl
  · simp [aslice, bound, idx?, hk]
  · simp [aslice, bound, idx?, hk]
set_option maxRecDepth 10000 in
theorem law_rp (bs : List Int) (hbs : ∀ b, b ∈ bs → 0 ≤ b ∧ b < 256) : ∃ r, symRun Tryz.prog KD [] 4001 3 [.slice (u8s bs)] ⟨0, [], 0⟩ = some r ∧ r.1 = .bool true := by
  refine own_run2 (n := 4000) (by rfl) Tryz.func3 rfl rfl ?_
  simp only [Tryz.f3]
  by_cases hbig : (1048576 : Int) < bs.length
  · repeat' (first | refine Wp.seq ?_ | refine Wp.block ?_ | (apply Wp.region; focus ((try simp [setArgs, hbig]) <;> rfl)) | (refine Wp.cond_t ?_ ?_; focus (simp [setArgs, hbig]; done)) | (refine Wp.cond_f ?_ ?_; focus (simp [setArgs, hbig]; done)) | refine Wp.skip ?_ | refine Wp.ret ?_ | refine Wp.exit ?_ | refine Blk.here ?_ | (refine Blk.past ?_ ?_; focus (simp; done)))
    exact ⟨rfl, answer_trim1 (v := .bool true) (by simp) rfl⟩
  obtain ⟨⟨v0, S0⟩, h1, h2, q, xs, hT, hl6, hsz⟩ := Draw.drawRD bs hbs 1
  simp only at h1 h2 hT
  obtain ⟨cap, rfl, hcap⟩ := hT.val
  have ho := hT.obj
  obtain ⟨S1, hS1⟩ : ∃ S1 : Sto Sy, S1 = ⟨S0.next, S0.obs, if S0.low < 0 then S0.low else 0⟩ := ⟨_, rfl⟩
  have e0 : KD 5 [.slice (u8s bs)] ⟨(⟨0, [], 0⟩ : Sto Sy).next, (⟨0, [], 0⟩ : Sto Sy).obs, (⟨0, [], 0⟩ : Sto Sy).next⟩ = some (.rsl q 0 xs.length cap, S0) := by rw [KD_d]; exact h1
  generalize hN : 4000 = N
  obtain ⟨g, rfl⟩ : ∃ g, N = g + 1 := ⟨3999, by omega⟩
  have c0 : acallV (symIn Tryz.prog KD [] (g + 1)) ⟨0, [], 0⟩ (.func 5 [] []) [.slice (u8s bs)] = some (.rsl q 0 xs.length cap, S1) := by rw [hS1]; exact call_K (P := Tryz.prog) (n := g) e0 (by decide)
  have w1 : Wst S1 := by rw [hS1]; exact ⟨h2, by simp⟩
  have o1 : Go.Sx.look S1.obs q = some (strs xs) := by rw [hS1]; exact ho
  clear e0 hS1 h1 h2 hT ho
  have hx : ∀ x, x ∈ xs → x.size ≤ 1048576 := fun x hx => by have := hsz x hx; omega
  have hcp : ∀ k, k ≤ xs.length → cap = none ∨ ∃ m, cap = some m ∧ k ≤ m := fun k hk => hcap.imp id (fun e => ⟨_, e, hk⟩)
  have hdv : ∀ k, k ≤ xs.length → deskV (xs.take k) = deskB (xs.take k) := fun k hk => by
    unfold deskV deskB
    rw [if_neg (by rw [List.length_take]; omega)]
  have c1 : ∀ k, k ≤ xs.length → acallV (symIn Tryz.prog KD [] (g + 1)) S1 (.func 6 [] []) [.rsl q 0 k cap] = some (.str (deskB (xs.take k)), S1) := fun k hk => by
    rw [← hdv k hk]
    exact c_ir hk hx (by omega) w1 o1 g (hcp k hk)
  obtain ⟨S2, c2, g2⟩ := c_sr (n := xs.length) (Nat.le_refl _) hx (by omega) w1 (cap := cap) o1 g
  rw [hdv _ (Nat.le_refl _)] at c2
  have c3 := c1 xs.length (Nat.le_refl _)
  have hfull := fun k => deskB_pre xs k
  have hO : deskB (xs.take xs.length) = deskB xs := by rw [List.take_length]
  rw [hO] at c2 c3
  have hOs := deskB_size xs xs.length
  rw [hO] at hOs
  have hcount : (deskB xs).data.toList.count 10 = xs.length := deskL_count xs
  have c4 : ∀ S : Sto Sy, Wst S → acallV (symIn Tryz.prog KD [] (g + 1)) S (.func 8 [] []) [.str (deskB xs)] = some (.int .i64 (.c xs.length), S) := fun S hS => by
    rw [nlRun (deskB xs) (by omega) hS (g + 1) (by omega), hcount]
  generalize hEO : deskB xs = O at *
  by_cases hemp : O = ⟨#[]⟩
  · subst hemp
    obtain ⟨S3, c5, g3⟩ := c_sr (n := xs.length) (Nat.le_refl _) hx (by omega) g2.wst (cap := cap) (g2.keep _ _ o1) g
    rw [hdv _ (Nat.le_refl _), hO] at c5
    repeat' (first | refine Wp.seq ?_ | refine Wp.block ?_ | (apply Wp.region; focus ((try simp [setArgs, hbig, c0, c3, c2, c5]) <;> rfl)) | (refine Wp.cond_t ?_ ?_; focus (simp [setArgs, hbig, c0, c3, c2, c5]; done)) | (refine Wp.cond_f ?_ ?_; focus (simp [setArgs, hbig, c0, c3, c2, c5]; done)) | refine Wp.skip ?_ | refine Wp.ret ?_ | refine Wp.exit ?_ | refine Blk.here ?_ | (refine Blk.past ?_ ?_; focus (simp; done)))
    exact ⟨rfl, answer_trim1 (v := .bool true) (by simp) rfl⟩
  have hne : (O.toList == []) = false := str_ne hemp
  have o2 : Go.Sx.look S2.obs q = some (strs xs) := g2.keep _ _ o1
  have w2 := g2.wst
  have c6 : ∀ k, k ≤ xs.length → acallV (symIn Tryz.prog KD [] (g + 1)) S2 (.func 6 [] []) [.rsl q 0 k cap] = some (.str (deskB (xs.take k)), S2) := fun k hk => by
    rw [← hdv k hk]
    exact c_ir hk hx (by omega) w2 o2 g (hcp k hk)
  have c7 := c4 S2 w2
  repeat' (first | refine Wp.seq ?_ | refine Wp.block ?_ | (apply Wp.region; focus ((try simp [setArgs, hbig, c0, c3, c2, hne]) <;> rfl)) | (refine Wp.cond_t ?_ ?_; focus (simp [setArgs, hbig, c0, c3, c2, hne]; done)) | (refine Wp.cond_f ?_ ?_; focus (simp [setArgs, hbig, c0, c3, c2, hne]; done)) | refine Wp.skip ?_ | refine Wp.ret ?_ | refine Wp.exit ?_ | refine Blk.here ?_ | (refine Blk.past ?_ ?_; focus (simp; done)))
  refine Wp.loop rfl rfl (fun i st => st.tm.get .any 3 = .rsl q 0 xs.length cap ∧ st.tm.get .any 4 = .str O ∧ st.tm.get .any 5 = .int .i64 (.c i) ∧ st.sto = S2) (xs.length + 1) (by omega) ?_ ?_ ?_
  · exact ⟨by simp, by simp, by simp, rfl⟩
  · rintro f i ⟨tm, T⟩ hi ⟨e3, e4, e5, rfl⟩
    simp only at e3 e4 e5
    have hle : i ≤ xs.length := by omega
    have hlz : (i : Int) ≤ xs.length := by omega
    have hw := wrap_in (a := (i : Int) + 1) (by omega) (by omega)
    have sl := sl_rsl (q := q) hle hcap
    have cc : acallV (symIn Tryz.prog KD [] (g + 1)) T (.func 6 [] []) [.rsl q 0 i cap] = some (.str (deskB (xs.take i)), T) := c6 i hle
    obtain ⟨p1, p2⟩ := hfull i
    have sp := sl_to p2
    rw [p1] at sp
    generalize deskB (xs.take i) = E at cc p2 sp
    have hno : ¬ (O.size : Int) < E.size := by omega
    have hno2 : ¬ O.size < E.size := by omega
    repeat' (first | refine Wp.seq ?_ | refine Wp.block ?_ | (apply Wp.region; focus ((try simp [e3, e4, e5, hlz, hle, hw, oeval, sl, cc, sp, hno, hno2]) <;> rfl)) | (refine Wp.cond_t ?_ ?_; focus (simp [e3, e4, e5, hlz, hle, hw, oeval, sl, cc, sp, hno, hno2]; done)) | (refine Wp.cond_f ?_ ?_; focus (simp [e3, e4, e5, hlz, hle, hw, oeval, sl, cc, sp, hno, hno2]; done)) | refine Wp.skip ?_ | refine Wp.ret ?_ | refine Wp.exit ?_ | refine Blk.here ?_ | (refine Blk.past ?_ ?_; focus (simp; done)))
    exact ⟨by simp [e3], by simp [e4], by simp, rfl⟩
  · rintro f ⟨tm, T⟩ ⟨e3, e4, e5, rfl⟩
    simp only at e3 e4 e5
    have hno : ¬ ((xs.length + 1 : Nat) : Int) ≤ xs.length := by omega
    have hno2 : ¬ xs.length + 1 ≤ xs.length := by omega
    have hK : xs.length < xs.length + 1 := Nat.lt_succ_self _
    generalize xs.length + 1 = K at e5 hno hno2 hK
    have cc : acallV (symIn Tryz.prog KD [] (g + 1)) T (.func 8 [] []) [.str O] = some (.int .i64 (.c xs.length), T) := c7
    repeat' (first | refine Wp.seq ?_ | refine Wp.block ?_ | (apply Wp.region; focus ((try simp [e3, e4, e5, hno, hno2, hK, cc]) <;> rfl)) | (refine Wp.cond_t ?_ ?_; focus (simp [e3, e4, e5, hno, hno2, hK, cc]; done)) | (refine Wp.cond_f ?_ ?_; focus (simp [e3, e4, e5, hno, hno2, hK, cc]; done)) | refine Wp.skip ?_ | refine Wp.ret ?_ | refine Wp.exit ?_ | refine Blk.here ?_ | (refine Blk.past ?_ ?_; focus (simp; done)))
    exact ⟨rfl, answer_trim1 (v := .bool true) (by simp) rfl⟩
end Go.Proofs.YtgaodlhdilhliaaGreatDoor.St

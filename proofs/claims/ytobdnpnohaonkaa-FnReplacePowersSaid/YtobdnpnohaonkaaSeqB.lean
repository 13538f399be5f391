import Derived.Test.YtobdnpnohaonkaaRows
import Derived.Test.YtobdnpnohaonkaaSym
import Derived.Test.YtobdnpnohaonkaaSymD
import Derived.Test.YtobdnpnohaonkaaSymE
import Derived.Test.YtobdnpnohaonkaaIds
import Derived.Test.YtobdnpnohaonkaaSeq
import Derived.WalkKit
import Derived.ProofKit
import Derived.OpenShut
namespace Go.Proofs.Ytobdnpnohaonkaa.Seq
open Go.ChangeShapes Go.WideShapes Go.ChangeAt Go.RowKit Go.Sx Go.Proofs.Ytobdnpnohaonkaa.Ids
set_option linter.unusedVariables false
set_option linter.unusedSimpArgs false

theorem constsOf_patL (zs : List Int) (sto : Sto Sy) : constsOf sto (patL zs) = some zs := by
  cases zs with
  | nil => rfl
  | cons z r => simp only [constsOf, patL, Sto.elems, numsOf_nums, capOk, bite_true, consts_of]
theorem alen_patL (zs : List Int) : alen (symNum []) (tiOf Try.prog) 23 (patL zs) = some (.int .i64 (.c zs.length)) := by
  cases zs with
  | nil => simp [alen, patL, tiS, symNum]
  | cons z r => simp [alen, patL, tiS, symNum]
theorem callVP (zs : List Int) (hl : zs.length ≤ 1048576) (f : Nat) : acallV (symIn Try.prog KI [] (f + 1)) ⟨0, [], 0⟩ (.func 16 [] []) [patL zs] = some (.bool (decide (validP 1000000 zs)), ⟨0, [], 0⟩) := by
  refine call_K (s1 := ⟨0, [], 0⟩) ?_
  have hb : Nat.ble zs.length 1048576 = true := by rw [Nat.ble_eq]; exact hl
  have e : askK 16 (fun zs => decide (validP 1000000 zs)) 16 [patL zs] ⟨0, [], 0⟩ = some (.bool (decide (validP 1000000 zs)), ⟨0, [], 0⟩) := by
    unfold askK
    simp only [constsOf_patL, hb, bite_true]
    rfl
  unfold KI orK
  rw [e]
theorem callEnds (zs : List Int) (n : Nat) (h : n < zs.length) (h6 : zs.length ≤ 6) (f : Nat) : acallV (symIn Try.prog KI [] (f + 1)) ⟨0, [], 0⟩ (.func 39 [] []) [patL zs, .int .i64 (.c n)] = some (.bool (ends zs n), ⟨0, [], 0⟩) := by
  refine call_K (s1 := ⟨0, [], 0⟩) ?_
  have hb : Nat.ble zs.length 1048576 = true := by rw [Nat.ble_eq]; omega
  have hd : decide (0 ≤ (n : Int) ∧ (n : Int) < (zs.length : Int) ∧ zs.length ≤ 6) = true := decide_eq_true ⟨by omega, by omega, h6⟩
  have e : askIK 39 endF 39 [patL zs, .int .i64 (.c n)] ⟨0, [], 0⟩ = some (.bool (ends zs n), ⟨0, [], 0⟩) := by
    unfold askIK
    simp only [constsOf_patL, hb, bite_true, endF, hd, Int.toNat_natCast]
    rfl
  unfold KI orK
  rw [e]
  rfl
theorem callSP (zs : List Int) (hl : zs.length ≤ 1048576) (f : Nat) : acallV (symIn Try.prog KSp [] (f + 1)) ⟨0, [], 0⟩ (.func 21 [] []) [patL zs] = some (.bool (decide (validP 1000000 zs)), ⟨0, [], 0⟩) := by
  refine call_K (s1 := ⟨0, [], 0⟩) ?_
  have hb : Nat.ble zs.length 1048576 = true := by rw [Nat.ble_eq]; exact hl
  unfold KSp askK
  simp only [constsOf_patL, hb, bite_true]
  rfl
theorem seqB_true {zss : List (List Int)} (h : SeqP zss) : seqB zss = true := by unfold seqB; simp [h]
theorem seqB_false {zss : List (List Int)} (h : ¬ SeqP zss) : seqB zss = false := by unfold seqB; simp [h]

theorem tiSS : tiOf Try.prog 24 = some ⟨.slice 23, 1, 24, .slice none 0 0, true⟩ := by kernel_rfl
section
attribute [local simp] aops wants aop apure St.eval setTm_some setTm_none Tr.get_set aload evals pevals apureB tiS tiI tiB abin aint isCmp sym_lt sym_eqs sym_neqs sym_eq sym_neq sym_gtr sym_leq sym_geq sym_add sym_sub sym_mul aeff aeffB idx? ofV aindexAddr aggDesc aifc_int aun
set_option maxRecDepth 10000 in
theorem implSeq_run (z0 : List Int) (zr : List (List Int)) (hl0 : (z0 :: zr).length ≤ 1048576) (hl : ∀ zs, zs ∈ z0 :: zr → zs.length ≤ 1048576) (m : Nat) (hm : (z0 :: zr).length < m) :
    ∃ r, symRun Try.prog KI [] (m + 2) 17 [patS (z0 :: zr)] ⟨0, [], 0⟩ = some r ∧ r.1 = .bool (seqB (z0 :: zr)) := by
  refine own_run2 (n := m + 1) (by rfl) Try.func17 rfl rfl ?_
  simp only [Try.f17]
  rw [show patS (z0 :: zr) = .slice ((z0 :: zr).map patL) from rfl]
  have hpos : 1 ≤ (z0 :: zr).length := by simp
  generalize z0 :: zr = zss at hl0 hl hm hpos ⊢
  have hlen : (zss.map patL).length = zss.length := List.length_map ..
  have alS : alen (symNum []) (tiOf Try.prog) 24 (.slice (zss.map patL)) = some (.int .i64 (.c zss.length)) := by simp [alen, tiSS, symNum]
  have no : ∀ (st : St Sy) (t : Nat), st.tm.get .any t = .bool false → st.sto = ⟨0, [], 0⟩ → ¬ SeqP zss → ∃ r, answer (tiOf Try.prog) st 0 [.tmp t] = some r ∧ r.1 = .bool (seqB zss) := fun st t h1 h2 h3 => by
    rw [seqB_false h3]
    exact answer_trim1 h1 rfl
  repeat' (first | refine Wp.seq ?_ | refine Wp.block ?_ | (apply Wp.region; focus ((try simp [setArgs, alS]) <;> rfl)) | (refine Wp.cond_t ?_ ?_; focus (simp [setArgs, alS]; done)) | (refine Wp.cond_f ?_ ?_; focus (simp [setArgs, alS]; done)) | refine Wp.skip ?_ | refine Wp.ret ?_ | refine Wp.exit ?_ | refine Blk.here ?_ | (refine Blk.past ?_ ?_; focus (simp; done)))
  refine Wp.loop rfl rfl (fun i st => st.tm.get .any 0 = .slice (zss.map patL) ∧ st.tm.get .any 5 = .slice (zss.map patL) ∧ st.tm.get .any 6 = .int .i64 (.c zss.length) ∧ st.tm.get .any 7 = .int .i64 (.c i) ∧ st.sto = ⟨0, [], 0⟩ ∧
    ∀ n, n < i → n < zss.length → (zss.getD n []).length = zss.length ∧ validP 1000000 (zss.getD n []) ∧ ends (zss.getD n []) n = true) zss.length (by omega) ?_ ?_ ?_
  · exact ⟨by simp, by simp, by simp, by simp, rfl, fun n h => by omega⟩
  · rintro f i ⟨tm, S⟩ hi ⟨h0, h5, h6, h7, rfl, hall⟩
    simp only at h0 h5 h6 h7
    have hlt : (i : Int) < zss.length := by omega
    have hxi : (zss.map patL)[i]? = some (patL (zss.getD i [])) := by simp [List.getD, hi]
    have hxs : zss[i]? = some (zss.getD i []) := by simp [List.getD, hi]
    have hw := wrap_in (a := (i : Int) + 1) (by omega) (by omega)
    have hzl : (zss.getD i []).length ≤ 1048576 := hl _ (List.mem_of_getElem? hxs)
    generalize hz : zss.getD i [] = zs at hxi hxs hzl
    have hzi : zss[i] = zs := by rw [← hz]; simp [List.getD, hi]
    have al := alen_patL zs
    have cv := callVP zs hzl m
    have hii : i < (zss.map patL).length := by omega
    by_cases h1 : zs.length = zss.length
    · by_cases h2 : validP 1000000 zs
      · have ce := callEnds zs i (by omega) h2.2.2 m
        by_cases h3 : ends zs i = true
        · repeat' (first | refine Wp.seq ?_ | refine Wp.block ?_ | (apply Wp.region; focus ((try simp [h0, h5, h6, h7, hzi, hlt, hxi, hi, hii, hw, al, alS, h1, cv, h2, ce, h3, hlen, tiSS]) <;> rfl)) | (refine Wp.cond_t ?_ ?_; focus (simp [h0, h5, h6, h7, hzi, hlt, hxi, hi, hii, hw, al, alS, h1, cv, h2, ce, h3, hlen, tiSS]; done)) | (refine Wp.cond_f ?_ ?_; focus (simp [h0, h5, h6, h7, hzi, hlt, hxi, hi, hii, hw, al, alS, h1, cv, h2, ce, h3, hlen, tiSS]; done)) | refine Wp.skip ?_ | refine Wp.ret ?_ | refine Wp.exit ?_ | refine Blk.here ?_ | (refine Blk.past ?_ ?_; focus (simp; done)))
          exact ⟨by simp [h0], by simp [h5], by simp [h6], by simp, rfl, fun n hn hn2 => by
            rcases Nat.lt_succ_iff_lt_or_eq.1 hn with h | rfl
            · exact hall n h hn2
            · rw [hz]; exact ⟨h1, h2, h3⟩⟩
        · have h3 : ends zs i = false := by simpa using h3
          repeat' (first | refine Wp.seq ?_ | refine Wp.block ?_ | (apply Wp.region; focus ((try simp [h0, h5, h6, h7, hzi, hlt, hxi, hi, hii, hw, al, alS, h1, cv, h2, ce, h3, hlen, tiSS]) <;> rfl)) | (refine Wp.cond_t ?_ ?_; focus (simp [h0, h5, h6, h7, hzi, hlt, hxi, hi, hii, hw, al, alS, h1, cv, h2, ce, h3, hlen, tiSS]; done)) | (refine Wp.cond_f ?_ ?_; focus (simp [h0, h5, h6, h7, hzi, hlt, hxi, hi, hii, hw, al, alS, h1, cv, h2, ce, h3, hlen, tiSS]; done)) | refine Wp.skip ?_ | refine Wp.ret ?_ | refine Wp.exit ?_ | refine Blk.here ?_ | (refine Blk.past ?_ ?_; focus (simp; done)))
          exact ⟨rfl, no _ _ (by simp) rfl (fun h => by have := (h.2.2 i hi).2.2; rw [hz, h3] at this; cases this)⟩
      · repeat' (first | refine Wp.seq ?_ | refine Wp.block ?_ | (apply Wp.region; focus ((try simp [h0, h5, h6, h7, hzi, hlt, hxi, hi, hii, hw, al, alS, h1, cv, h2, hlen, tiSS]) <;> rfl)) | (refine Wp.cond_t ?_ ?_; focus (simp [h0, h5, h6, h7, hzi, hlt, hxi, hi, hii, hw, al, alS, h1, cv, h2, hlen, tiSS]; done)) | (refine Wp.cond_f ?_ ?_; focus (simp [h0, h5, h6, h7, hzi, hlt, hxi, hi, hii, hw, al, alS, h1, cv, h2, hlen, tiSS]; done)) | refine Wp.skip ?_ | refine Wp.ret ?_ | refine Wp.exit ?_ | refine Blk.here ?_ | (refine Blk.past ?_ ?_; focus (simp; done)))
        exact ⟨rfl, no _ _ (by simp) rfl (fun h => h2 (by have := (h.2.2 i hi).2.1; rwa [hz] at this))⟩
    · have h1i : ¬ (zs.length : Int) = (zss.length : Int) := by omega
      have h1b : ((zs.length : Int) == (zss.length : Int)) = false := by simp; omega
      have h1n : (zs.length == zss.length) = false := by simp; omega
      repeat' (first | refine Wp.seq ?_ | refine Wp.block ?_ | (apply Wp.region; focus ((try simp [h0, h5, h6, h7, hzi, hlt, hxi, hi, hii, hw, al, alS, h1, h1i, h1b, h1n, hlen, tiSS]) <;> rfl)) | (refine Wp.cond_t ?_ ?_; focus (simp [h0, h5, h6, h7, hzi, hlt, hxi, hi, hii, hw, al, alS, h1, h1i, h1b, h1n, hlen, tiSS]; done)) | (refine Wp.cond_f ?_ ?_; focus (simp [h0, h5, h6, h7, hzi, hlt, hxi, hi, hii, hw, al, alS, h1, h1i, h1b, h1n, hlen, tiSS]; done)) | refine Wp.skip ?_ | refine Wp.ret ?_ | refine Wp.exit ?_ | refine Blk.here ?_ | (refine Blk.past ?_ ?_; focus (simp; done)))
      exact ⟨rfl, no _ _ (by simp) rfl (fun h => h1 (by have := (h.2.2 i hi).1; rwa [hz] at this))⟩
  · rintro f ⟨tm, S⟩ ⟨h0, h5, h6, h7, rfl, hall⟩
    simp only at h0 h5 h6 h7
    have hp : (0 : Int) < zss.length := by omega
    repeat' (first | refine Wp.seq ?_ | refine Wp.block ?_ | (apply Wp.region; focus ((try simp [h0, h5, h6, h7, alS, hp]) <;> rfl)) | (refine Wp.cond_t ?_ ?_; focus (simp [h0, h5, h6, h7, alS, hp]; done)) | (refine Wp.cond_f ?_ ?_; focus (simp [h0, h5, h6, h7, alS, hp]; done)) | refine Wp.skip ?_ | refine Wp.ret ?_ | refine Wp.exit ?_ | refine Blk.here ?_ | (refine Blk.past ?_ ?_; focus (simp; done)))
    have hs : SeqP zss := ⟨hpos, by have := (hall 0 (by omega) (by omega)).2.1.2.2; rw [(hall 0 (by omega) (by omega)).1] at this; exact this, fun n hn => hall n hn hn⟩
    refine ⟨rfl, answer_trim1 (v := .bool true) (by simp; omega) (by rw [seqB_true hs])⟩
end
end Go.Proofs.Ytobdnpnohaonkaa.Seq

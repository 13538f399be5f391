/-
  The functions that number things in order of first coming, by runs by hand over lists of any length. No condition.
-/
import Derived.Test.YtcpnlgjkijcmhaaRows
import Derived.Test.YtcpnlgjkijcmhaaSym
import Derived.Test.YtcpnlgjkijcmhaaIds
import Derived.WalkKit
import Derived.WalkKit
import Derived.ProofKit
import Derived.OpenShut
namespace Go.Proofs.Ytcpnlgjkijcmhaa.Way
open Go.ChangeShapes Go.WideShapes Go.ChangeAt Go.RowKit Go.Sx Go.Proofs.Ytcpnlgjkijcmhaa.Ids
set_option linter.unusedVariables false
set_option linter.unusedSimpArgs false

theorem lit0 (sto : Sto Sy) : abuildSlice (symNum []) (tiOf Try.prog) sto 23 0 [] = some (.rsl sto.next 0 0 (some 0), sto.new (ints (nums []))) := by kernel_rfl
theorem litx (sto : Sto Sy) (x : Int) : abuildSlice (symNum []) (tiOf Try.prog) sto 23 1 [(0, .int .i64 (.c x))] = some (.rsl sto.next 0 1 (some 1), sto.new (ints (nums [x]))) := by kernel_rfl

attribute [local simp] aops wants aop apure St.eval setTm_some setTm_none Tr.get_set aload evals pevals apureB alen tiS tiI tiB abin aint isCmp sym_lt sym_eqs sym_neqs sym_eq sym_neq sym_gtr sym_leq sym_geq sym_add sym_sub sym_mul aeff aeffB idx? ofV aindexAddr aggDesc aifc_int

set_option maxRecDepth 10000 in
theorem tidyS (zs : List Int) (hl : zs.length ≤ 1000) (m : Nat) (hm : 3000 < m) :
    ∃ r, symRun Try.prog noK [] (m + 1) 37 [.slice (ints (nums zs))] ⟨0, [], 0⟩ = some r ∧ ∃ q, IsL r.2.obs q (tidyL zs) r.1 := by
  refine own_run2 rfl Try.func37 rfl rfl ?_
  simp only [Try.f37]
  repeat' (first | refine Wp.seq ?_ | refine Wp.block ?_ | (apply Wp.region; focus ((try simp [setArgs, lit0]) <;> rfl)) | (refine Wp.cond_t ?_ ?_; focus (simp [setArgs, lit0]; done)) | (refine Wp.cond_f ?_ ?_; focus (simp [setArgs, lit0]; done)) | refine Wp.skip ?_ | refine Wp.ret ?_ | refine Wp.exit ?_ | refine Blk.here ?_ | (refine Blk.past ?_ ?_; focus (simp; done)))
  refine Wp.loopF rfl rfl (fun i st => st.tm.get .any 0 = .slice (ints (nums zs)) ∧ st.tm.get .any 5 = .int .i64 (.c i) ∧ ∃ qo qs ol sl, IsL st.sto.obs qo ol (st.tm.get .any 3) ∧ IsL st.sto.obs qs sl (st.tm.get .any 4) ∧ qo ≠ qs ∧ Desc st.sto.next st.sto.obs ∧
    ol.length = i ∧ sl.length ≤ i ∧ ol ++ tidyFrom sl (zs.drop i) = tidyL zs) zs.length 1001 (by omega) ?_ ?_ ?_
  · refine ⟨by simp [setArgs], by simp, 0, 1, [], [], ⟨⟨some 0, by simp, .inr rfl⟩, ?_⟩, ⟨⟨some 0, by simp; rfl, .inr rfl⟩, ?_⟩, by decide, ?_, rfl, by simp, by simp [tidyL]⟩
    · simp; rfl
    · simp; rfl
    · simp; exact ⟨by decide, by decide, trivial⟩
  · rintro f i ⟨tm, S⟩ hf hi ⟨h0, h5, qo, qs, ol, sl, hO, hS, hne, hd, hol, hsl, htl⟩
    simp only at h0 h5 hO hS hd
    have hlt : (i : Int) < zs.length := by omega
    have hxi : zs[i]? = some zs[i] := List.getElem?_eq_getElem hi
    generalize hz : zs[i] = z at hxi
    have hw := wrap_in (a := (i : Int) + 1) (by omega) (by omega)
    rw [List.drop_eq_getElem_cons hi, hz] at htl
    obtain ⟨co, hvo, hco⟩ := hO.val
    obtain ⟨cs, hvs, hcs⟩ := hS.val
    have hls := hS.obj
    repeat' (first | refine Wp.seq ?_ | refine Wp.block ?_ | (apply Wp.region; focus ((try simp [h0, h5, hlt]) <;> rfl)) | (refine Wp.cond_t ?_ ?_; focus (simp [h0, h5, hlt]; done)) | (refine Wp.cond_f ?_ ?_; focus (simp [h0, h5, hlt]; done)) | refine Wp.skip ?_ | refine Wp.ret ?_ | refine Wp.exit ?_ | refine Blk.here ?_ | (refine Blk.past ?_ ?_; focus (simp; done)))
    refine Wp.mono (Qn := fun _ => False) (Qx := fun e st' => e = .exit 2 ∧ (st'.tm.get .any 0 = .slice (ints (nums zs)) ∧ st'.tm.get .any 5 = .int .i64 (.c i) ∧ st'.tm.get .any 3 = tm.get .any 3 ∧ st'.tm.get .any 4 = tm.get .any 4 ∧ st'.tm.get .any 6 = .int .i64 (.c (idxOf z sl : Nat)) ∧ st'.sto = S)) (fun _ h => False.elim h) (fun e st' h => ?_) ?_
    · obtain ⟨rfl, h⟩ := h
      refine Blk.here ?_
      obtain ⟨tm', S'⟩ := st'
      obtain ⟨g0, g5, g3, g4, g6, rfl⟩ := h
      simp only at g0 g5 g3 g4 g6
      have hil := idxOf_le z sl
      simp only [tidyFrom] at htl
      by_cases hk : idxOf z sl = sl.length
      · rw [if_pos hk] at htl
        have hkI : (idxOf z sl : Int) = sl.length := by omega
        obtain ⟨v1, S1, q1, k1, k2, k3, k4, k5, k6⟩ := append_ok0 tiS tiI hd hS (w := z) (ws := []) (by simp; omega)
        have hO1 : IsL S1.obs qo ol (tm.get .any 3) := ⟨hO.val, k6 _ _ hne hO.obj⟩
        have hqo := hd.look_lt hO.obj
        obtain ⟨v2, S2, q2, l1, l2, l3, l4, l5, l6⟩ := append_ok0 tiS tiI k2 hO1 (w := (sl.length : Int)) (ws := []) (by simp; omega)
        have hS2 : IsL S2.obs q1 (sl ++ [z]) v1 := ⟨k5.val, l6 _ _ (by omega) k5.obj⟩
        rw [hvs] at k1
        rw [hvo] at l1
        have hq1 := k2.look_lt k5.obj
        simp only [List.length_cons, List.length_nil, Nat.zero_add] at k1 l1
        repeat' (first | refine Wp.seq ?_ | refine Wp.block ?_ | (apply Wp.region; focus ((try simp [g0, g5, g3, g4, g6, hvs, hvo, hkI, hxi, hi, hz, litx, k1, l1, hw]) <;> rfl)) | (refine Wp.cond_t ?_ ?_; focus (simp [g0, g5, g3, g4, g6, hvs, hvo, hkI, hxi, hi, hz, litx, k1, l1, hw]; done)) | (refine Wp.cond_f ?_ ?_; focus (simp [g0, g5, g3, g4, g6, hvs, hvo, hkI, hxi, hi, hz, litx, k1, l1, hw]; done)) | refine Wp.skip ?_ | refine Wp.ret ?_ | refine Wp.exit ?_ | refine Blk.here ?_ | (refine Blk.past ?_ ?_; focus (simp; done)))
        exact ⟨by simp [g0], by simp, q2, q1, _, _, by simpa using l5, by simpa using hS2, by omega, by simpa using l2, by simp [hol], by simp; omega, by simpa [hk] using htl⟩
      · rw [if_neg hk] at htl
        have hkI : ¬ (idxOf z sl : Int) = sl.length := by omega
        obtain ⟨v2, S2, q2, l1, l2, l3, l4, l5, l6⟩ := append_ok0 tiS tiI hd hO (w := idxOf z sl) (ws := []) (by simp; omega)
        rw [hvo] at l1
        have hS2 : IsL S2.obs qs sl (tm.get .any 4) := ⟨hS.val, l6 _ _ (fun e => hne e.symm) hS.obj⟩
        have hqs := hd.look_lt hS.obj
        simp only [List.length_cons, List.length_nil, Nat.zero_add] at l1
        repeat' (first | refine Wp.seq ?_ | refine Wp.block ?_ | (apply Wp.region; focus ((try simp [g0, g5, g3, g4, g6, hvs, hvo, hkI, litx, l1, hw]) <;> rfl)) | (refine Wp.cond_t ?_ ?_; focus (simp [g0, g5, g3, g4, g6, hvs, hvo, hkI, litx, l1, hw]; done)) | (refine Wp.cond_f ?_ ?_; focus (simp [g0, g5, g3, g4, g6, hvs, hvo, hkI, litx, l1, hw]; done)) | refine Wp.skip ?_ | refine Wp.ret ?_ | refine Wp.exit ?_ | refine Blk.here ?_ | (refine Blk.past ?_ ?_; focus (simp; done)))
        exact ⟨by simp [g0], by simp, q2, qs, _, _, by simpa using l5, by simpa [g4] using hS2, by omega, by simpa using l2, by simp [hol], by omega, by simpa using htl⟩
    · refine Wp.loop rfl rfl (fun k st => st.tm.get .any 0 = .slice (ints (nums zs)) ∧ st.tm.get .any 5 = .int .i64 (.c i) ∧ st.tm.get .any 3 = tm.get .any 3 ∧ st.tm.get .any 4 = tm.get .any 4 ∧ st.tm.get .any 6 = .int .i64 (.c k) ∧ st.sto = S ∧ ∀ (j : Nat) (y : Int), sl[j]? = some y → j < k → z ≠ y) sl.length (by omega) ?_ ?_ ?_
      · exact ⟨by simp [h0], by simp [h5], by simp, by simp, by simp, rfl, fun j y _ hj => by omega⟩
      · rintro f' k ⟨tm', S'⟩ hk ⟨g0, g5, g3, g4, g6, rfl, hn⟩
        simp only at g0 g5 g3 g4 g6
        have hlk : (k : Int) < sl.length := by omega
        have hyk : sl[k]? = some sl[k] := List.getElem?_eq_getElem hk
        generalize hy : sl[k] = y at hyk
        have hwk := wrap_in (a := (k : Int) + 1) (by omega) (by omega)
        refine Wp.seq ?_
        refine Wp.seq ?_
        have htk := takeNew_id hd
        (apply Wp.drawn2 13; (focus kernel_rfl); (focus kernel_rfl); (focus intro F; simp [dhead, seenBy, keepOnly, looks, joinN, addN, bite_eq, Op.operands, htk, Call.operands, g0, g5, g3, g4, g6, hvs, hlk, hls, hyk, hy, hk, hxi, hi, hz, hlt]; exact ⟨rfl, rfl, rfl⟩); (focus (try simp [allN, htk, Call.operands, g0, g5, g3, g4, g6, hvs, hlk, hls, hyk, hy, hk, hxi, hi, hz, hlt]) <;> rfl))
        by_cases hyz : y = z
        · have hyz' : (y == z) = true := by simpa using hyz
          subst hyz
          repeat' (first | refine Wp.seq ?_ | refine Wp.block ?_ | (apply Wp.region; focus ((try simp [g0, g5, g3, g4, g6]) <;> rfl)) | (refine Wp.cond_t ?_ ?_; focus (simp [g0, g5, g3, g4, g6]; done)) | (refine Wp.cond_f ?_ ?_; focus (simp [g0, g5, g3, g4, g6]; done)) | refine Wp.skip ?_ | refine Wp.ret ?_ | refine Wp.exit ?_ | refine Blk.here ?_ | (refine Blk.past ?_ ?_; focus (simp; done)))
          exact ⟨rfl, by simp [g0], by simp [g5], by simp [g3], by simp [g4], by simp [g6, idxOf_at hn hyk], rfl⟩
        · have hyz' : (y == z) = false := by simpa using hyz
          repeat' (first | refine Wp.seq ?_ | refine Wp.block ?_ | (apply Wp.region; focus ((try simp [g0, g5, g3, g4, g6, hyz, hyz', hwk]) <;> rfl)) | (refine Wp.cond_t ?_ ?_; focus (simp [g0, g5, g3, g4, g6, hyz, hyz', hwk]; done)) | (refine Wp.cond_f ?_ ?_; focus (simp [g0, g5, g3, g4, g6, hyz, hyz', hwk]; done)) | refine Wp.skip ?_ | refine Wp.ret ?_ | refine Wp.exit ?_ | refine Blk.here ?_ | (refine Blk.past ?_ ?_; focus (simp; done)))
          exact ⟨by simp [g0], by simp [g5], by simp [g3], by simp [g4], by simp [hwk], rfl, fun j u hj hjk => by
            rcases Nat.lt_or_ge j k with h | h
            · exact hn j u hj h
            · have : j = k := by omega
              subst this
              rw [hyk] at hj; cases hj
              exact fun e => hyz e.symm⟩
      · rintro f' ⟨tm', S'⟩ ⟨g0, g5, g3, g4, g6, rfl, hn⟩
        simp only at g0 g5 g3 g4 g6
        have hnl : ¬ (sl.length : Int) < sl.length := by omega
        have hid : idxOf z sl = sl.length := idxOf_none (fun j u hj => hn j u hj (List.getElem?_eq_some_iff.1 hj).1)
        refine Wp.seq ?_
        refine Wp.seq ?_
        have htk := takeNew_id hd
        (apply Wp.drawn2 13; (focus kernel_rfl); (focus kernel_rfl); (focus intro F; simp [dhead, seenBy, keepOnly, looks, joinN, addN, bite_eq, Op.operands, htk, Call.operands, g0, g5, g3, g4, g6, hvs, hnl]; exact ⟨rfl, rfl, rfl⟩); (focus (try simp [allN, htk, Call.operands, g0, g5, g3, g4, g6, hvs, hnl]) <;> rfl))
        repeat' (first | refine Wp.seq ?_ | refine Wp.block ?_ | (apply Wp.region; focus ((try simp [g0, g5, g3, g4, g6]) <;> rfl)) | (refine Wp.cond_t ?_ ?_; focus (simp [g0, g5, g3, g4, g6]; done)) | (refine Wp.cond_f ?_ ?_; focus (simp [g0, g5, g3, g4, g6]; done)) | refine Wp.skip ?_ | refine Wp.ret ?_ | refine Wp.exit ?_ | refine Blk.here ?_ | (refine Blk.past ?_ ?_; focus (simp; done)))
        exact ⟨rfl, by simp [g0], by simp [g5], by simp [g3], by simp [g4], by simp [g6, hid], rfl⟩
  · rintro f ⟨tm, S⟩ hf ⟨h0, h5, qo, qs, ol, sl, hO, hS, hne, hd, hol, hsl, htl⟩
    simp only at h0 h5 hO hS hd
    have hnl : ¬ (zs.length : Int) < zs.length := by omega
    rw [List.drop_length] at htl
    simp only [tidyFrom, List.append_nil] at htl
    subst htl
    repeat' (first | refine Wp.seq ?_ | refine Wp.block ?_ | (apply Wp.region; focus ((try simp [h0, h5, hnl]) <;> rfl)) | (refine Wp.cond_t ?_ ?_; focus (simp [h0, h5, hnl]; done)) | (refine Wp.cond_f ?_ ?_; focus (simp [h0, h5, hnl]; done)) | refine Wp.skip ?_ | refine Wp.ret ?_ | refine Wp.exit ?_ | refine Blk.here ?_ | (refine Blk.past ?_ ?_; focus (simp; done)))
    exact ⟨rfl, answer_trim1 (v := tm.get .any 3) (by simp) ⟨qo, hO.trim1⟩⟩
end Go.Proofs.Ytcpnlgjkijcmhaa.Way

/-
  Ways in common, by runs by hand over lists of any length. No condition.
-/
import Derived.Test.YtcpnlgjkijcmhaaRows
import Derived.Test.YtcpnlgjkijcmhaaSym
import Derived.Test.YtcpnlgjkijcmhaaIds
import Derived.Test.YtcpnlgjkijcmhaaWay
import Derived.WalkKit
import Derived.WalkKit
import Derived.ProofKit
import Derived.OpenShut
namespace Go.Proofs.Ytcpnlgjkijcmhaa.Way
open Go.ChangeShapes Go.WideShapes Go.ChangeAt Go.RowKit Go.Sx Go.Proofs.Ytcpnlgjkijcmhaa.Ids
set_option linter.unusedVariables false
set_option linter.unusedSimpArgs false

theorem tiA : tiOf Try.prog 54 = some ⟨.array 2 3, 2, 16, .agg #[.int .i64 0, .int .i64 0], true⟩ := by kernel_rfl
theorem tiSA : tiOf Try.prog 53 = some ⟨.slice 54, 1, 24, .slice none 0 0, true⟩ := by kernel_rfl
theorem tiMA : tiOf Try.prog 60 = some ⟨.map 54 3, 1, 8, .map none, true⟩ := by kernel_rfl
theorem fitP (a : Int × Int) : keyFit (tiOf Try.prog) 54 (kP a) = true := by
  simp [keyFit, tiA, tiI, kP, isIntV]

section
variable {S : Sto Sy} {l : List (Int × Int)} {a : Int × Int} {q i : Nat}
theorem ldP (h : Go.Sx.look S.obs q = some (cellsP l)) (ha : l[i]? = some a) : aload (tiOf Try.prog) S 54 (.ptr q (i * 2)) = some (kP a) := by
  have hi : i < l.length := (List.getElem?_eq_some_iff.1 ha).1
  have h1 := cellsP_at l i a ha
  have h2 := cellsP_len l
  have h3 : i * 2 + 2 ≤ (cellsP l).length := by omega
  rw [show 2 * i = i * 2 by omega] at h1
  simp [aload, tiA, lookC, h, cellsP_nm, aggDesc, h3, h1, kP]
theorem stP (h : Go.Sx.look S.obs q = some (cellsP l)) (hi : i < l.length) : astore (tiOf Try.prog) S 54 (.ptr q (i * 2)) (kP a) = some (S.write q (cellsP (l.set i a))) := by
  have h2 := cellsP_len l
  have h3 : i * 2 + 2 ≤ (cellsP l).length := by omega
  have h4 := cellsP_set l i a hi
  rw [show 2 * i = i * 2 by omega] at h4
  simp [astore, tiA, V.cells, lookC, h, cellsP_nm, h3, h4, kP, V.oneCell]
theorem alP (S : Sto Sy) : aalloc (symNum []) (tiOf Try.prog) S 54 = some (.ptr S.next 0, S.new (cellsP [(0, 0)])) := by kernel_rfl
theorem lookNP (S : Sto Sy) (l : List (Int × Int)) : Go.Sx.look (S.new (cellsP l)).obs S.next = some (cellsP l) := by
  show Go.Sx.look ((S.next, noBc (cellsP l)) :: S.obs) S.next = _
  rw [look_cons, if_pos rfl, cellsP_noBc]
theorem lookWP (h : Go.Sx.look S.obs q = some (cellsP l)) (l' : List (Int × Int)) : Go.Sx.look (S.write q (cellsP l')).obs q = some (cellsP l') := by
  show Go.Sx.look (put S.obs q (noBc (cellsP l'))) q = _
  rw [cellsP_noBc]; exact look_put_self h
end

attribute [local simp] aops wants aop apure St.eval setTm_some setTm_none Tr.get_set evals pevals apureB alen tiS tiI tiB tiA tiSA abin aint isCmp sym_lt sym_eqs sym_neqs sym_eq sym_neq sym_gtr sym_leq sym_geq sym_add aeff aeffB idx? ofV aindexAddr aggDesc aifc_int aun

set_option maxRecDepth 10000 in
theorem wayOfA (l : List (Int × Int)) (hl : l.length ≤ 1000) {S0 : Sto Sy} (hd0 : Desc S0.next S0.obs) {ol : Nat} (ho : Go.Sx.look S0.obs ol = some (cellsP l)) (m : Nat) (hm : 2000 < m) :
    ∃ r, symRun Try.prog noK [] (m + 1) 48 [.rsl ol 0 l.length (some l.length)] S0 = some r ∧ ∃ q, S0.next ≤ q ∧ IsL r.2.obs q (tidyL l) r.1 := by
  refine own_run2 rfl Try.func48 rfl rfl ?_
  simp only [Try.f48]
  have hol := hd0.look_lt ho
  have hmm : amakeMap (tiOf Try.prog) S0 60 = some (.mp S0.next, ⟨S0.next + 1, (S0.next, [.mpc [] []]) :: S0.obs, S0.low⟩) := by simp [amakeMap, tiMA]
  have hms : amakeSlice (symNum []) (tiOf Try.prog) (⟨S0.next + 1, (S0.next, [.mpc [] []]) :: S0.obs, S0.low⟩ : Sto Sy) 23 (.int .i64 (.c l.length)) (.int .i64 (.c l.length)) =
      some (.rsl (S0.next + 1) 0 l.length (some l.length), ⟨S0.next + 2, (S0.next + 1, ints (nums (List.replicate l.length 0))) :: (S0.next, [.mpc [] []]) :: S0.obs, S0.low⟩) := by
    have hb : (8 : Int) * (l.length : Int) ≤ 140737488355328 ∧ (l.length : Int) ≤ 9223372036854775807 := by omega
    have hnb := noBc_ints (nums (List.replicate l.length 0))
    simp [amakeSlice, tiS, tiI, idx?, ofV, V.oneCell, hb, Sto.new, repl_ints, hnb]
  repeat' (first | refine Wp.seq ?_ | refine Wp.block ?_ | (apply Wp.region; focus ((try simp [setArgs, hmm, hms]) <;> rfl)) | (refine Wp.cond_t ?_ ?_; focus (simp [setArgs, hmm, hms]; done)) | (refine Wp.cond_f ?_ ?_; focus (simp [setArgs, hmm, hms]; done)) | refine Wp.skip ?_ | refine Wp.ret ?_ | refine Wp.exit ?_ | refine Blk.here ?_ | (refine Blk.past ?_ ?_; focus (simp; done)))
  refine Wp.loop rfl rfl (fun i st => st.tm.get .any 3 = .mp S0.next ∧ st.tm.get .any 4 = .rsl (S0.next + 1) 0 l.length (some l.length) ∧ st.tm.get .any 13 = .rsl ol 0 l.length (some l.length) ∧ st.tm.get .any 14 = .int .i64 (.c l.length) ∧ st.tm.get .any 15 = .int .i64 (.c i) ∧
    ∃ (ks : List (Int × Int)) (ys : List Int), Go.Sx.look st.sto.obs S0.next = some [.mpc (ks.map kP) (rangeV ks.length)] ∧ Go.Sx.look st.sto.obs (S0.next + 1) = some (ints (nums ys)) ∧ ys.length = l.length ∧ Go.Sx.look st.sto.obs ol = some (cellsP l) ∧ Desc st.sto.next st.sto.obs ∧
      S0.next + 2 ≤ st.sto.next ∧ ks.length ≤ i ∧ ys.take i ++ tidyFrom ks (l.drop i) = tidyL l) l.length (by omega) ?_ ?_ ?_
  · refine ⟨by simp, by simp, by simp [setArgs], by simp, by simp, [], List.replicate l.length 0, ?_, ?_, by simp, ?_, ?_, Nat.le_refl _, by simp, by simp [tidyL]⟩
    · simp [look_cons, rangeV]
    · simp [look_cons]
    · show Go.Sx.look ((S0.next + 1, _) :: (S0.next, _) :: S0.obs) ol = _
      rw [look_cons, if_neg (by omega), look_cons, if_neg (by omega)]; exact ho
    · exact ⟨Nat.lt_succ_self _, Nat.lt_succ_self _, hd0⟩
  · rintro f i ⟨tm, S⟩ hi ⟨h3, h4, h13, h14, h15, ks, ys, hM, hW, hyl, hL, hd, hnx, hks, htl⟩
    simp only at h3 h4 h13 h14 h15 hM hW hL hd hnx
    have hlt : (i : Int) < l.length := by omega
    have hxi : l[i]? = some l[i] := List.getElem?_eq_getElem hi
    generalize hz : l[i] = a at hxi
    rw [List.drop_eq_getElem_cons hi, hz] at htl
    simp only [tidyFrom] at htl
    have hw := wrap_in (a := (i : Int) + 1) (by omega) (by omega)
    have hld := ldP hL hxi
    have hal := alP S
    have hst : astore (tiOf Try.prog) (S.new (cellsP [(0, 0)])) 54 (.ptr S.next 0) (kP a) = some ((S.new (cellsP [(0, 0)])).write S.next (cellsP [a])) := by
      have := stP (S := S.new (cellsP [(0, 0)])) (l := [(0, 0)]) (q := S.next) (i := 0) (a := a) (lookNP S _) (by decide)
      simpa using this
    generalize hSA : (S.new (cellsP [(0, 0)])).write S.next (cellsP [a]) = SA at hst
    have hSAn : SA.next = S.next + 1 := by rw [← hSA]; rfl
    have hSAd : Desc SA.next SA.obs := by rw [← hSA]; exact write_desc (S := S.new _) ⟨Nat.lt_succ_self _, hd⟩
    have hSAq : Go.Sx.look SA.obs S.next = some (cellsP [a]) := by rw [← hSA]; exact lookWP (lookNP S _) _
    have hSAk : ∀ (k : Nat) (x : Ob Sy), k < S.next → Go.Sx.look S.obs k = some x → Go.Sx.look SA.obs k = some x := fun k x hk h => by
      rw [← hSA]
      show Go.Sx.look (put ((S.next, _) :: S.obs) S.next _) k = _
      rw [look_put_ne (by omega), look_cons, if_neg (by omega)]; exact h
    have hl2 : aload (tiOf Try.prog) SA 54 (.ptr S.next 0) = some (kP a) := by
      have := ldP (S := SA) (q := S.next) (i := 0) (l := [a]) (a := a) hSAq rfl
      simpa using this
    have hMA := hSAk _ _ (by omega) hM
    have hWA := hSAk _ _ (by omega) hW
    have hLA := hSAk _ _ (by omega) hL
    have hlk := alookup_ok (κ := kP) tiMA tiI fitP keyEq_P hMA a
    have hilen := idxOf_le a ks
    by_cases hk : idxOf a ks = ks.length
    · rw [if_neg (by omega)] at hlk
      rw [if_pos hk] at htl
      have hml := amapLen_ok (κ := kP) (T := tiOf Try.prog) tiMA hMA
      have hmu := amapUpdate_ok (κ := kP) tiMA fitP keyEq_P hMA hk
      generalize hSB : SA.writeM S0.next [.mpc ((ks ++ [a]).map kP) (rangeV (ks ++ [a]).length)] = SB at hmu
      have hSBn : SB.next = S.next + 1 := by rw [← hSB, ← hSAn]; rfl
      have hSBd : Desc SB.next SB.obs := by rw [← hSB]; exact writeM_desc hSAd
      have hSBm : Go.Sx.look SB.obs S0.next = some [.mpc ((ks ++ [a]).map kP) (rangeV (ks ++ [a]).length)] := by rw [← hSB]; exact look_put_self hMA
      have hSBk : ∀ (k : Nat) (x : Ob Sy), k ≠ S0.next → Go.Sx.look SA.obs k = some x → Go.Sx.look SB.obs k = some x := fun k x hk h => by
        rw [← hSB]
        show Go.Sx.look (put SA.obs S0.next _) k = _
        rw [look_put_ne hk]; exact h
      have hWB := hSBk _ _ (by omega) hWA
      have hLB := hSBk _ _ (by omega) hLA
      have hws := store_ok (S := SB) (q := S0.next + 1) (zs := ys) (v := .rsl (S0.next + 1) 0 ys.length (some ys.length)) tiI ⟨⟨_, rfl, .inr rfl⟩, hWB⟩ (i := i) (x := (ks.length : Int)) (by omega)
      repeat' (first | refine Wp.seq ?_ | refine Wp.block ?_ | (apply Wp.region; focus ((try simp [h3, h4, h13, h14, h15, hlt, hi, hld, hal, hst, hl2, hlk, hml, hmu, hws]) <;> rfl)) | (refine Wp.cond_t ?_ ?_; focus (simp [h3, h4, h13, h14, h15, hlt, hi, hld, hal, hst, hl2, hlk, hml, hmu, hws]; done)) | (refine Wp.cond_f ?_ ?_; focus (simp [h3, h4, h13, h14, h15, hlt, hi, hld, hal, hst, hl2, hlk, hml, hmu, hws]; done)) | refine Wp.skip ?_ | refine Wp.ret ?_ | refine Wp.exit ?_ | refine Blk.here ?_ | (refine Blk.past ?_ ?_; focus (simp; done)))
      refine ⟨by simp [h3], by simp [h4], by simp [h13], by simp [h14], by simp [hw], ks ++ [a], ys.set i ks.length, ?_, ?_, by simp [hyl], ?_, ?_, ?_, by simp; omega, ?_⟩
      · show Go.Sx.look (put SB.obs (S0.next + 1) _) S0.next = _
        rw [look_put_ne (by omega)]; exact hSBm
      · show Go.Sx.look (put SB.obs (S0.next + 1) (noBc _)) (S0.next + 1) = _
        rw [noBc_ints]; exact look_put_self hWB
      · show Go.Sx.look (put SB.obs (S0.next + 1) _) ol = _
        rw [look_put_ne (by omega)]; exact hLB
      · exact write_desc hSBd
      · show S0.next + 2 ≤ SB.next; omega
      · rw [take_set_succ _ _ _ (by omega), List.append_assoc, ← hk]
        exact htl
    · rw [if_pos (by omega)] at hlk
      rw [if_neg hk] at htl
      have hws := store_ok (S := SA) (q := S0.next + 1) (zs := ys) (v := .rsl (S0.next + 1) 0 ys.length (some ys.length)) tiI ⟨⟨_, rfl, .inr rfl⟩, hWA⟩ (i := i) (x := ((idxOf a ks : Nat) : Int)) (by omega)
      repeat' (first | refine Wp.seq ?_ | refine Wp.block ?_ | (apply Wp.region; focus ((try simp [h3, h4, h13, h14, h15, hlt, hi, hld, hal, hst, hl2, hlk, hws]) <;> rfl)) | (refine Wp.cond_t ?_ ?_; focus (simp [h3, h4, h13, h14, h15, hlt, hi, hld, hal, hst, hl2, hlk, hws]; done)) | (refine Wp.cond_f ?_ ?_; focus (simp [h3, h4, h13, h14, h15, hlt, hi, hld, hal, hst, hl2, hlk, hws]; done)) | refine Wp.skip ?_ | refine Wp.ret ?_ | refine Wp.exit ?_ | refine Blk.here ?_ | (refine Blk.past ?_ ?_; focus (simp; done)))
      refine ⟨by simp [h3], by simp [h4], by simp [h13], by simp [h14], by simp [hw], ks, ys.set i (idxOf a ks : Nat), ?_, ?_, by simp [hyl], ?_, ?_, ?_, by omega, ?_⟩
      · show Go.Sx.look (put SA.obs (S0.next + 1) _) S0.next = _
        rw [look_put_ne (by omega)]; exact hMA
      · show Go.Sx.look (put SA.obs (S0.next + 1) (noBc _)) (S0.next + 1) = _
        rw [noBc_ints]; exact look_put_self hWA
      · show Go.Sx.look (put SA.obs (S0.next + 1) _) ol = _
        rw [look_put_ne (by omega)]; exact hLA
      · exact write_desc hSAd
      · show S0.next + 2 ≤ SA.next; omega
      · rw [take_set_succ _ _ _ (by omega), List.append_assoc]
        exact htl
  · rintro f ⟨tm, S⟩ ⟨h3, h4, h13, h14, h15, ks, ys, hM, hW, hyl, hL, hd, hnx, hks, htl⟩
    simp only at h3 h4 h13 h14 h15 hM hW hL hd hnx
    have hnl : ¬ (l.length : Int) < l.length := by omega
    rw [List.drop_length] at htl
    simp only [tidyFrom, List.append_nil] at htl
    rw [List.take_of_length_le (by omega)] at htl
    subst htl
    repeat' (first | refine Wp.seq ?_ | refine Wp.block ?_ | (apply Wp.region; focus ((try simp [h3, h4, h13, h14, h15, hnl]) <;> rfl)) | (refine Wp.cond_t ?_ ?_; focus (simp [h3, h4, h13, h14, h15, hnl]; done)) | (refine Wp.cond_f ?_ ?_; focus (simp [h3, h4, h13, h14, h15, hnl]; done)) | refine Wp.skip ?_ | refine Wp.ret ?_ | refine Wp.exit ?_ | refine Blk.here ?_ | (refine Blk.past ?_ ?_; focus (simp; done)))
    have hIL : IsL S.obs (S0.next + 1) (tidyL l) (.rsl (S0.next + 1) 0 l.length (some l.length)) := ⟨⟨some l.length, by rw [tidyL_length], .inr (by rw [tidyL_length])⟩, hW⟩
    exact ⟨rfl, answer_trim1 (v := .rsl (S0.next + 1) 0 l.length (some l.length)) (by simp) ⟨S0.next + 1, by omega, hIL.trim1⟩⟩

theorem bldA (a b : Int) : abuild (symNum []) (tiOf Try.prog) 54 [(0, .int .i64 (.c a)), (1, .int .i64 (.c b))] = some (kP (a, b)) := by kernel_rfl

set_option maxRecDepth 10000 in
theorem meetS (ps qs : List Int) (hpq : ps.length = qs.length) (hl : ps.length ≤ 1000) (m : Nat) (hm : 3000 < m) :
    ∃ r, symRun Try.prog noK [] (m + 2) 33 [.slice (ints (nums ps)), .slice (ints (nums qs))] ⟨0, [], 0⟩ = some r ∧ ∃ q, IsL r.2.obs q (tidyL (ps.zip qs)) r.1 := by
  refine own_run2 rfl Try.func33 rfl rfl ?_
  simp only [Try.f33]
  have hzl : (ps.zip qs).length = ps.length := by simp [hpq]
  have hms : amakeSlice (symNum []) (tiOf Try.prog) (⟨0, [], 0⟩ : Sto Sy) 53 (.int .i64 (.c ps.length)) (.int .i64 (.c ps.length)) = some (.rsl 0 0 ps.length (some ps.length), ⟨1, [(0, cellsP (List.replicate ps.length (0, 0)))], 0⟩) := by
    have hb : (16 : Int) * (ps.length : Int) ≤ 140737488355328 ∧ (ps.length : Int) ≤ 9223372036854775807 := by omega
    have hz : (ofV (symNum []) (Value.agg #[.int .i64 0, .int .i64 0])).cells = some [V.int .i64 (Sy.c 0), V.int .i64 (Sy.c 0)] := rfl
    have hn := cellsP_noBc (List.replicate ps.length (0, 0))
    have hc := cellsP_zero ps.length
    simp only [amakeSlice, tiSA, tiA, idx?, sym_conc]
    rw [if_neg (by simp), if_pos ⟨by decide, by omega, by omega, by simpa using hb.1, hb.2⟩]
    simp only [hz]
    rw [if_pos (show [V.int .i64 (Sy.c 0), V.int .i64 (Sy.c 0)].length = 2 from rfl)]
    simp only [Sto.new]
    rw [show ((ps.length : Int).toNat) = ps.length by omega, hc, hn]
  repeat' (first | refine Wp.seq ?_ | refine Wp.block ?_ | (apply Wp.region; focus ((try simp [setArgs, hms]) <;> rfl)) | (refine Wp.cond_t ?_ ?_; focus (simp [setArgs, hms]; done)) | (refine Wp.cond_f ?_ ?_; focus (simp [setArgs, hms]; done)) | refine Wp.skip ?_ | refine Wp.ret ?_ | refine Wp.exit ?_ | refine Blk.here ?_ | (refine Blk.past ?_ ?_; focus (simp; done)))
  refine Wp.loop rfl rfl (fun i st => st.tm.get .any 0 = .slice (ints (nums ps)) ∧ st.tm.get .any 1 = .slice (ints (nums qs)) ∧ st.tm.get .any 5 = .rsl 0 0 ps.length (some ps.length) ∧ st.tm.get .any 11 = .int .i64 (.c ps.length) ∧ st.tm.get .any 12 = .int .i64 (.c i) ∧
    ∃ lp : List (Int × Int), lp.length = ps.length ∧ lp.take i = (ps.zip qs).take i ∧ st.sto = ⟨1, [(0, cellsP lp)], 0⟩) ps.length (by omega) ?_ ?_ ?_
  · exact ⟨by simp [setArgs], by simp [setArgs], by simp, by simp, by simp, List.replicate ps.length (0, 0), by simp, by simp, rfl⟩
  · rintro f i ⟨tm, S⟩ hi ⟨h0, h1, h5, h11, h12, lp, hlp, htk, hS⟩
    simp only at h0 h1 h5 h11 h12 hS
    have hlt : (i : Int) < ps.length := by omega
    have hiq : i < qs.length := by omega
    have hltq : (i : Int) < qs.length := by omega
    have hxi : ps[i]? = some ps[i] := List.getElem?_eq_getElem hi
    have hyi : qs[i]? = some qs[i] := List.getElem?_eq_getElem hiq
    have hzi : (ps.zip qs)[i]? = some (ps[i], qs[i]) := by rw [List.getElem?_eq_getElem (by omega)]; simp
    generalize hx : ps[i] = x at hxi hzi
    generalize hy : qs[i] = y at hyi hzi
    have hw := wrap_in (a := (i : Int) + 1) (by omega) (by omega)
    have hd : Desc S.next S.obs := by rw [hS]; exact ⟨Nat.zero_lt_one, trivial⟩
    have htk' := takeNew_id hd
    have hL : Go.Sx.look S.obs 0 = some (cellsP lp) := by rw [hS]; rfl
    have hst := stP (S := S) (q := 0) (i := i) (l := lp) (a := (x, y)) hL (by omega)
    have hSw : S.write 0 (cellsP (lp.set i (x, y))) = ⟨1, [(0, cellsP (lp.set i (x, y)))], 0⟩ := by
      rw [hS]
      simp only [Sto.write, cellsP_noBc]
      rfl
    rw [hSw] at hst
    repeat' (first | refine Wp.seq ?_ | refine Wp.block ?_ | (apply Wp.region; focus ((try simp [h0, h1, h5, h11, h12, hlt]) <;> rfl)) | (refine Wp.cond_t ?_ ?_; focus (simp [h0, h1, h5, h11, h12, hlt]; done)) | (refine Wp.cond_f ?_ ?_; focus (simp [h0, h1, h5, h11, h12, hlt]; done)) | refine Wp.skip ?_ | refine Wp.ret ?_ | refine Wp.exit ?_ | refine Blk.here ?_ | (refine Blk.past ?_ ?_; focus (simp; done)))
    (apply Wp.drawn2 11; (focus kernel_rfl); (focus kernel_rfl); (focus intro F; simp [dhead, seenBy, keepOnly, looks, joinN, addN, bite_eq, Op.operands, htk', Call.operands, h0, h1, h5, h11, h12, hlt, hltq, hi, hiq, hxi, hyi, hx, hy, bldA, hst, aload]; exact ⟨rfl, rfl, rfl⟩); (focus (try simp [allN, htk', Call.operands, h0, h1, h5, h11, h12, hlt, hltq, hi, hiq, hxi, hyi, hx, hy, bldA, hst, aload]) <;> rfl))
    repeat' (first | refine Wp.seq ?_ | refine Wp.block ?_ | (apply Wp.region; focus ((try simp [h0, h1, h5, h11, h12, hw]) <;> rfl)) | (refine Wp.cond_t ?_ ?_; focus (simp [h0, h1, h5, h11, h12, hw]; done)) | (refine Wp.cond_f ?_ ?_; focus (simp [h0, h1, h5, h11, h12, hw]; done)) | refine Wp.skip ?_ | refine Wp.ret ?_ | refine Wp.exit ?_ | refine Blk.here ?_ | (refine Blk.past ?_ ?_; focus (simp; done)))
    refine ⟨by simp [h0], by simp [h1], by simp [h5], by simp [h11], by simp [hw], lp.set i (x, y), by simp [hlp], ?_, rfl⟩
    rw [take_set_succ _ _ _ (by omega), htk, List.take_add_one, hzi]; rfl
  · rintro f ⟨tm, S⟩ ⟨h0, h1, h5, h11, h12, lp, hlp, htk, hS⟩
    simp only at h0 h1 h5 h11 h12 hS
    have hnl : ¬ (ps.length : Int) < ps.length := by omega
    rw [List.take_of_length_le (by omega), List.take_of_length_le (by omega)] at htk
    subst htk
    obtain ⟨⟨v, S1⟩, hr, q, hq, hIL⟩ := wayOfA (ps.zip qs) (by omega) (S0 := ⟨S.next, S.obs, S.next⟩) (by rw [hS]; exact ⟨Nat.zero_lt_one, trivial⟩) (ol := 0) (by rw [hS]; rfl) m (by omega)
    rw [hzl] at hr
    have hc : acallV (symIn Try.prog noK [] (m + 1)) S (.func 48 [] []) [.rsl 0 0 ps.length (some ps.length)] = some (v, ⟨S1.next, S1.obs, if Nat.blt S1.low S.low then S1.low else S.low⟩) := by
      rw [acallV_func (by decide), List.nil_append, List.append_nil, symIn_run (by decide), hr]
    repeat' (first | refine Wp.seq ?_ | refine Wp.block ?_ | (apply Wp.region; focus ((try simp [h0, h1, h5, h11, h12, hnl, hc]) <;> rfl)) | (refine Wp.cond_t ?_ ?_; focus (simp [h0, h1, h5, h11, h12, hnl, hc]; done)) | (refine Wp.cond_f ?_ ?_; focus (simp [h0, h1, h5, h11, h12, hnl, hc]; done)) | refine Wp.skip ?_ | refine Wp.ret ?_ | refine Wp.exit ?_ | refine Blk.here ?_ | (refine Blk.past ?_ ?_; focus (simp; done)))
    exact ⟨rfl, answer_trim1 (v := v) (by simp) ⟨q, IsL.trim1 (sto := ⟨S1.next, S1.obs, if S1.low < S.low then S1.low else S.low⟩) hIL⟩⟩
end Go.Proofs.Ytcpnlgjkijcmhaa.Way

/-
  What functions that draw from bytes make, by runs by hand: a reader, numbers, lists. No condition.
-/
import Derived.Test.YtcpnlgjkijcmhaaRows
import Derived.Test.YtcpnlgjkijcmhaaSym
import Derived.Test.YtcpnlgjkijcmhaaIds
import Derived.Test.YtcpnlgjkijcmhaaDraw
import Derived.Test.YtcpnlgjkijcmhaaDrawC
import Derived.WalkKit
import Derived.ProofKit
import Derived.OpenShut
namespace Go.Proofs.Ytcpnlgjkijcmhaa.Draw
open Go.ChangeShapes Go.WideShapes Go.ChangeAt Go.RowKit Go.Sx Go.Proofs.Ytcpnlgjkijcmhaa.Ids
set_option linter.unusedVariables false
set_option linter.unusedSimpArgs false

attribute [local simp] aops wants aop apure St.eval setTm_some setTm_none Tr.get_set aload evals pevals apureB alen tiS tiI tiB tiY tiU fa0 fa1 abin aint isCmp sym_lt sym_eqs sym_neqs sym_eq sym_neq sym_gtr sym_leq sym_geq sym_add sym_sub sym_mul aeff aeffB idx? ofV aindexAddr aggDesc aifc_int

theorem tlit0 (sto : Sto Sy) : abuildSlice (symNum []) (tiOf Try.prog) sto 23 0 [] = some (.rsl sto.next 0 0 (some 0), sto.new (ints (nums []))) := by kernel_rfl

section
set_option maxRecDepth 10000 in
theorem twoPartsR (bs : List Int) (hbs : ∀ b, b ∈ bs → 0 ≤ b ∧ b < 256) {o : Nat} {P : Int} {S0 : Sto Sy} (h0 : Rdy bs o P S0) (hlo : S0.low ≤ S0.next) (hP : P ≤ 500000) (g : Nat) (hg : 60 ≤ g) :
    ∃ r, symRun Try.prog K0 [] (g + 1) 29 [.ptr o 0] S0 = some r ∧ ∃ v1 v2 q1 q2 z1 z2, r.1 = .tup [v1, v2] ∧ q1 ≠ q2 ∧ IsL r.2.obs q1 z1 v1 ∧ IsL r.2.obs q2 z2 v2 ∧ Fit z1 ∧ Fit z2 := by
  refine own_run2 hK0 Try.func29 rfl rfl ?_
  simp only [Try.f29]
  have hlt := h0.lt
  obtain ⟨v, S1, hc1, hn1, q, zs, hq, hz, _, hzl, hzb⟩ := someParts bs hbs h0 (by omega) g (by omega)
  obtain ⟨cp, rfl, hcp⟩ := hz.val
  have fit : ∀ {l : List Int}, l.length ≤ 25 → (∀ z, z ∈ l → -25 ≤ z ∧ z ≤ 25) → Fit l := fun h1 h2 => Fit.of h1 (fun z hz => by have := h2 z hz; omega)
  have fitp : Fit zs := fit (by omega) hzb
  have hqS := hn1.rd.desc.look_lt hz.obj
  obtain ⟨x, S2, hc2, hn2, hx1, hx2⟩ := pickC bs hbs hn1.rd (by omega) 16 (by omega) g (by omega)
  have z2 := hz.keep hn2 (by omega) (by simp)
  have e2 := hn2.next
  have fin2 : ∀ (tm : Tr (V Sy)) (T : Sto Sy) (v1 v2 : V Sy) (q1 q2 : Nat) (l1 l2 : List Int), tm.get .any 2 = v1 → tm.get .any 3 = v2 → q1 ≠ q2 → IsL T.obs q1 l1 v1 → IsL T.obs q2 l2 v2 → Fit l1 → Fit l2 →
      ∃ r, answer (tiOf Try.prog) (⟨tm, T⟩ : St Sy) S0.next [.tmp 2, .tmp 3] = some r ∧ ∃ v1 v2 q1 q2 z1 z2, r.1 = .tup [v1, v2] ∧ q1 ≠ q2 ∧ IsL r.2.obs q1 z1 v1 ∧ IsL r.2.obs q2 z2 v2 ∧ Fit z1 ∧ Fit z2 := by
    intro tm T v1 v2 q1 q2 l1 l2 h1 h2 hne i1 i2 f1 f2
    exact answer_trim2 (st := ⟨tm, T⟩) (v := v1) (w := v2) h1 h2 ⟨v1, v2, q1, q2, l1, l2, rfl, hne, i1.trimIn (by simp [V.refs, refsL]; intro k hk; exact .inl hk), i2.trimIn (by simp [V.refs, refsL]; intro k hk; exact .inr hk), f1, f2⟩
  by_cases c0 : x = 0
  · subst c0
    obtain ⟨v2, S3, hc3, hn3, q2, zs2, hq2, hz2, _, hzl2, hzb2⟩ := someParts bs hbs hn2.rd (by omega) g (by omega)
    have z3 := z2.keep hn3 (by omega) (by simp)
    repeat' (first | refine Wp.seq ?_ | refine Wp.block ?_ | (apply Wp.region; focus ((try simp [setArgs, hc1, hc2, hc3]) <;> rfl)) | (refine Wp.cond_t ?_ ?_; focus (simp [setArgs, hc1, hc2, hc3]; done)) | (refine Wp.cond_f ?_ ?_; focus (simp [setArgs, hc1, hc2, hc3]; done)) | refine Wp.skip ?_ | refine Wp.ret ?_ | refine Wp.exit ?_ | refine Blk.here ?_ | (refine Blk.past ?_ ?_; focus (simp; done)))
    exact ⟨rfl, fin2 _ _ _ _ q q2 zs zs2 (by simp) (by simp) (by omega) z3 hz2 fitp (fit (by omega) hzb2)⟩
  have c0b : (x == 0) = false := by simp [c0]
  by_cases c1 : (5 : Int) < zs.length
  · obtain ⟨v2, S3, hc3, hn3, q2, zs2, hq2, hz2, _, hzl2, hzb2⟩ := someParts bs hbs hn2.rd (by omega) g (by omega)
    have z3 := z2.keep hn3 (by omega) (by simp)
    repeat' (first | refine Wp.seq ?_ | refine Wp.block ?_ | (apply Wp.region; focus ((try simp [setArgs, hc1, hc2, c0, c0b, c1, hc3]) <;> rfl)) | (refine Wp.cond_t ?_ ?_; focus (simp [setArgs, hc1, hc2, c0, c0b, c1, hc3]; done)) | (refine Wp.cond_f ?_ ?_; focus (simp [setArgs, hc1, hc2, c0, c0b, c1, hc3]; done)) | refine Wp.skip ?_ | refine Wp.ret ?_ | refine Wp.exit ?_ | refine Blk.here ?_ | (refine Blk.past ?_ ?_; focus (simp; done)))
    exact ⟨rfl, fin2 _ _ _ _ q q2 zs zs2 (by simp) (by simp) (by omega) z3 hz2 fitp (fit (by omega) hzb2)⟩
  obtain ⟨v2, S3, hc3, hp3, hlow3, q2, zs2, hq2, hz2, _, hzl2, hzb2⟩ := partsOf bs hbs hn2.rd (by omega) zs.length (by omega) g (by omega)
  have hn3 := hp3.nw (Nat.le_trans hlow3 hn2.low)
  have z3 := z2.keep hn3 (by omega) (by simp)
  have e3 := hn3.next
  obtain ⟨_, S4, hc4, hp4, hlow4, t, rfl⟩ := validPartitionC bs hn3.rd z3 (by omega) (by omega) g (by omega)
  have hn4 := hp4.nw (Nat.le_trans hlow4 hn3.low)
  have z4 := z3.keep hn4 (by omega) (by simp)
  have hz24 := hz2.keep hn4 (by omega) (by simp)
  have e4 := hn4.next
  cases t with
  | false =>
    repeat' (first | refine Wp.seq ?_ | refine Wp.block ?_ | (apply Wp.region; focus ((try simp [setArgs, hc1, hc2, c0, c0b, c1, hc3, hc4]) <;> rfl)) | (refine Wp.cond_t ?_ ?_; focus (simp [setArgs, hc1, hc2, c0, c0b, c1, hc3, hc4]; done)) | (refine Wp.cond_f ?_ ?_; focus (simp [setArgs, hc1, hc2, c0, c0b, c1, hc3, hc4]; done)) | refine Wp.skip ?_ | refine Wp.ret ?_ | refine Wp.exit ?_ | refine Blk.here ?_ | (refine Blk.past ?_ ?_; focus (simp; done)))
    exact ⟨rfl, fin2 _ _ _ _ q q2 zs zs2 (by simp) (by simp) (by omega) z4 hz24 fitp (fit (by omega) hzb2)⟩
  | true =>
  obtain ⟨y, S5, hc5, hn5, hy1, hy2⟩ := pickC bs hbs hn4.rd (by omega) 3 (by omega) g (by omega)
  have z5 := z4.keep hn5 (by omega) (by simp)
  have hz25 := hz24.keep hn5 (by omega) (by simp)
  have e5 := hn5.next
  by_cases c2 : y = 0
  case neg =>
    have c2b : (y == 0) = false := by simp [c2]
    repeat' (first | refine Wp.seq ?_ | refine Wp.block ?_ | (apply Wp.region; focus ((try simp [setArgs, hc1, hc2, c0, c0b, c1, hc3, hc4, hc5, c2, c2b]) <;> rfl)) | (refine Wp.cond_t ?_ ?_; focus (simp [setArgs, hc1, hc2, c0, c0b, c1, hc3, hc4, hc5, c2, c2b]; done)) | (refine Wp.cond_f ?_ ?_; focus (simp [setArgs, hc1, hc2, c0, c0b, c1, hc3, hc4, hc5, c2, c2b]; done)) | refine Wp.skip ?_ | refine Wp.ret ?_ | refine Wp.exit ?_ | refine Blk.here ?_ | (refine Blk.past ?_ ?_; focus (simp; done)))
    exact ⟨rfl, fin2 _ _ _ _ q q2 zs zs2 (by simp) (by simp) (by omega) z5 hz25 fitp (fit (by omega) hzb2)⟩
  subst c2
  have hlow5 := hn5.low
  have hlt5 := hn5.rd.lt
  repeat' (first | refine Wp.seq ?_ | refine Wp.block ?_ | (apply Wp.region; focus ((try simp [setArgs, hc1, hc2, c0, c0b, c1, hc3, hc4, hc5, tlit0]) <;> rfl)) | (refine Wp.cond_t ?_ ?_; focus (simp [setArgs, hc1, hc2, c0, c0b, c1, hc3, hc4, hc5, tlit0]; done)) | (refine Wp.cond_f ?_ ?_; focus (simp [setArgs, hc1, hc2, c0, c0b, c1, hc3, hc4, hc5, tlit0]; done)) | refine Wp.skip ?_ | refine Wp.ret ?_ | refine Wp.exit ?_ | refine Blk.here ?_ | (refine Blk.past ?_ ?_; focus (simp; done)))
  refine Wp.loopF rfl rfl (fun i st => st.tm.get .any 0 = .ptr o 0 ∧ st.tm.get .any 4 = .rsl q 0 zs.length cp ∧ st.tm.get .any 7 = .int .i64 (.c i) ∧ ∃ q6 ys, S5.next ≤ q6 ∧ IsL st.sto.obs q6 ys (st.tm.get .any 6) ∧ ys.length = i ∧
    Nw bs o (P + 1000 + i) [] S5 st.sto) zs.length 50 (by omega) ?_ ?_ ?_
  · refine ⟨by simp [setArgs], by simp, by simp, S5.next, [], Nat.le_refl _, ⟨⟨some 0, by simp, .inr rfl⟩, look_new _ _⟩, rfl, ?_⟩
    have := (Pre.made hn5.rd (ints (nums []))).nw hlow5
    exact this.more (by omega)
  · rintro k i ⟨tm, U⟩ hk hi ⟨g0, g4, g7, q6, ys, hq6, hY, hyl, tU⟩
    simp only at g0 g4 g7 hY tU
    have hlti : (i : Int) < zs.length := by omega
    have hwi := wrap_in (a := (i : Int) + 1) (by omega) (by omega)
    have zU := z5.keep tU (by omega) (by simp)
    have hzo := zU.obj
    have hge : zs[i]? = some zs[i] := List.getElem?_eq_getElem hi
    generalize hzz : zs[i] = z at hge
    have dU := tU.rd.desc
    have lU := tU.low
    have eU := tU.next
    have ltU := tU.rd.lt
    have hq6o : q6 ≠ o := by omega
    have hloU : U.low ≤ U.next := by omega
    have hq6l := dU.look_lt hY.obj
    obtain ⟨p0, _, hp0⟩ := tU.rd
    have oU := hp0.obj
    obtain ⟨w, S9, hc9, hn9, hw1, hw2⟩ := pickC bs hbs (rdyOnly tU.rd) (by omega) 2 (by omega) g (by omega)
    obtain ⟨w', W9, hd9, hm9, _⟩ := pickC bs hbs (tU.rd.lows U.next) (by omega) 2 (by omega) g (by omega)
    have hble : Nat.ble U.next W9.low = false := by have := hm9.low; rw [Bool.eq_false_iff, ne_eq, Nat.ble_eq]; omega
    obtain ⟨cy, hvy, hcy⟩ := hY.val
    obtain ⟨j1, j2⟩ := joined tU.rd hn9
    obtain ⟨s2, hs2⟩ : ∃ s2 : Sto Sy, s2 = ⟨S9.next, takeNew U.next S9.obs ++ over [o] S9.obs U.obs, if Nat.blt S9.low U.low then S9.low else U.low⟩ := ⟨_, rfl⟩
    rw [← hs2] at j1
    have jn := j1.next
    have d2 := j1.rd.desc
    have Y2 := hY.keep j1 hq6o (by simp)
    have tk := takeNew_id dU
    have t2 := tU.trans hn5.rd.desc j1 (by simp)
    have ld : aload (tiOf Try.prog) ⟨U.next, U.obs, U.next⟩ 3 (.ptr q i) = some (.int .i64 (.c z)) := by simp [aload, tiI, aggDesc, hzo, isMp_ints, hge]
    have hoz : Go.Sx.look (onlyObs [q] U.obs) q = some (ints (nums zs)) := by rw [onlyObs_look, if_pos (by simp)]; exact hzo
    have ldO : aload (tiOf Try.prog) ⟨U.next, onlyObs [q] U.obs, U.next⟩ 3 (.ptr q i) = some (.int .i64 (.c z)) := by
      have : Go.Sx.look (onlyObs [q] U.obs) q = some (ints (nums zs)) := by rw [onlyObs_look, if_pos (by simp)]; exact hzo
      simp [aload, tiI, aggDesc, this, isMp_ints, hge]
    have hq1 : q < U.next := by omega
    have ob0 : ∀ ok : Nat → Bool, obsIn ok (onlyObs ([] : List Nat) U.obs) = true := fun ok => by rw [onlyObs_nil]; rfl
    have obQ : obsIn (fun k => [q].contains k) (onlyObs [q] U.obs) = true := obsIn_of dU (fun k hk b hb => by
      have hk : k = q := by simpa using hk
      subst hk; rw [hzo] at hb; cases hb; exact inNs_nums _)
    have obO : obsIn (fun k => [o].contains k) (onlyObs [o] U.obs) = true := obsIn_of dU (fun k hk b hb => by
      have hk : k = o := by simpa using hk
      subst hk; rw [oU] at hb; cases hb; simp [inNs, V.inN, inNs_u8s])
    obtain ⟨a, ha⟩ : ∃ a : Int, a = IntKind.i64.wrap (IntKind.i64.wrap (z * 10) + w) := ⟨_, rfl⟩
    have hs2n : S9.next = s2.next := by rw [hs2]
    have d9 : Desc S9.next (takeNew U.next S9.obs ++ over [o] S9.obs U.obs) := by have := d2; rw [hs2] at this; exact this
    have hlo9 : (if Nat.blt S9.low U.low then S9.low else U.low) ≤ S9.next := by have := j1.low; have h2 := j1.rd.lt; rw [hs2] at this h2; simp only at this h2; omega
    have ob9 : ∀ ok : Nat → Bool, obsIn ok (onlyObs ([] : List Nat) (takeNew U.next S9.obs ++ over [o] S9.obs U.obs)) = true := fun ok => by rw [onlyObs_nil]; rfl
    obtain ⟨v', S', k1, k2, q', k3, k4⟩ := append_ok tiS tiI (ex := []) Y2 hq6o (.inr hq6) hn5.rd.desc t2 (w := a) (ws := []) (by simp; omega)
    rw [hvy] at k1
    simp only [List.length_cons, List.length_nil, Nat.zero_add] at k1
    repeat' (first | refine Wp.seq ?_ | refine Wp.block ?_ | (apply Wp.region; focus ((try simp [g0, g4, g7, hlti]) <;> rfl)) | (refine Wp.cond_t ?_ ?_; focus (simp [g0, g4, g7, hlti]; done)) | (refine Wp.cond_f ?_ ?_; focus (simp [g0, g4, g7, hlti]; done)) | refine Wp.skip ?_ | refine Wp.ret ?_ | refine Wp.exit ?_ | refine Blk.here ?_ | (refine Blk.past ?_ ?_; focus (simp; done)))
    refine drawX (tm2 := ?tmx1) (st' := ?stnx1) (s2 := s2.new (ints (nums [a]))) 10 (by kernel_rfl) (by kernel_rfl) (by kernel_rfl) (fun F => ?g1x1) (fun F => ?g2x1) ?g3x1 ?g4x1
    case g1x1 =>
      simp [dhead, seenBy, keepOnly, looks, joinN, addN, bite_eq, Op.operands, Call.operands, g0, g4, g7, hvy, hi, hzo, isMp_ints, hge, tk, hd9, hble]
    case g2x1 =>
      refine (xpureL (v := .rsl q6 0 ys.length cy) [] [q6] (by simp [shown, sightOf, rootsOf, looks, Op.operands, g0, g4, g7, hvy, V.refs]) (by simp only [fitX, ob0]; simp [temsIn, looks, Op.operands, V.inN, g0, g4, g7, hvy, hq6l]) (by simp [wants]) (by simp [seenX, keepOnly, looks, Op.operands, g0, g4, g7, hvy]) dU hloU (fun q hq => by simp at hq; omega) (by simp [apart])).trans ?_
      refine (xpureL (v := .rsl q 0 zs.length cp) [] [q] (by simp [shown, sightOf, rootsOf, looks, Op.operands, g0, g4, g7, hvy, V.refs]) (by simp only [fitX, ob0]; simp [temsIn, looks, Op.operands, V.inN, g0, g4, g7, hvy, hq1]) (by simp [wants]) (by simp [seenX, keepOnly, looks, Op.operands, g0, g4, g7, hvy]) dU hloU (fun q hq => by simp at hq; omega) (by simp [apart])).trans ?_
      refine (xpureL (v := .int .i64 (.c i)) [] [] (by simp [shown, sightOf, rootsOf, looks, Op.operands, g0, g4, g7, hvy, V.refs]) (by simp only [fitX, ob0]; simp [temsIn, looks, Op.operands, V.inN, g0, g4, g7, hvy, hq1]) (by simp [wants]) (by simp [seenX, keepOnly, looks, Op.operands, g0, g4, g7, hvy]) dU hloU (fun q hq => by simp at hq) (by simp [apart])).trans ?_
      refine (xpureL (v := .ptr q i) [] [q] (by simp [shown, sightOf, rootsOf, looks, Op.operands, g0, g4, g7, hvy, V.refs]) (by simp only [fitX, ob0]; simp [temsIn, looks, Op.operands, V.inN, g0, g4, g7, hvy, hq1]) (by simp [wants]) (by simp [seenX, keepOnly, looks, Op.operands, g0, g4, g7, hvy, hi]) dU hloU (fun q hq => by simp at hq; omega) (by simp [apart])).trans ?_
      refine (xpureL (v := .int .i64 (.c z)) [q] [q] (by simp [shown, sightOf, rootsOf, looks, Op.operands, g0, g4, g7, hvy, V.refs, deeper, hzo, refs_nums]) (by simp only [fitX, obQ]; simp [temsIn, looks, Op.operands, V.inN, g0, g4, g7, hvy, hq1]) (by simp [wants]) (by simp [seenX, keepOnly, looks, Op.operands, g0, g4, g7, hvy, hoz, isMp_ints, hge]) dU hloU (fun q hq => by simp at hq; omega) (by simp [apart, hq1])).trans ?_
      refine (xpureL (v := .int .i64 (.c (IntKind.i64.wrap (z * 10)))) [] [] (by simp [shown, sightOf, rootsOf, looks, Op.operands, g0, g4, g7, hvy, V.refs]) (by simp only [fitX, ob0]; simp [temsIn, looks, Op.operands, V.inN, g0, g4, g7, hvy, hq1]) (by simp [wants]) (by simp [seenX, keepOnly, looks, Op.operands, g0, g4, g7, hvy]) dU hloU (fun q hq => by simp at hq) (by simp [apart])).trans ?_
      refine (xpureL (v := .ptr o 0) [] [o] (by simp [shown, sightOf, rootsOf, looks, Op.operands, g0, g4, g7, hvy, V.refs]) (by simp only [fitX, ob0]; simp [temsIn, looks, Op.operands, V.inN, g0, g4, g7, hvy, ltU]) (by simp [wants]) (by simp [seenX, keepOnly, looks, Op.operands, g0, g4, g7, hvy]) dU hloU (fun q hq => by simp at hq; omega) (by simp [apart])).trans ?_
      refine (xmidL (p := o) (s := S9) (v := .int .i64 (.c w)) (by simp [shown, sightOf, rootsOf, looks, Op.operands, Call.operands, V.refs, deeper, reach, oU, refsL, refs_u8s, g0, g4, g7, hvy]) (by simp only [fitX, obO]; simp [temsIn, looks, Op.operands, Call.operands, V.inN, ltU]) (by simp [wants]) (by simp [seenX, keepOnly, looks, Op.operands, Call.operands, hc9]) dU hn9.rd.desc hn9.next hn9.low (by rw [oU]; rfl) (by simp [apart, hq1, ltU]; omega)).trans ?_
      refine (xpureL (v := .int .i64 (.c a)) [] [] (by simp [shown, sightOf, rootsOf, looks, Op.operands, g0, g4, g7, hvy, V.refs]) (by simp only [fitX, ob9]; simp [temsIn, looks, Op.operands, V.inN, g0, g4, g7, hvy, hq1]) (by simp [wants]) (by simp [seenX, keepOnly, looks, Op.operands, g0, g4, g7, hvy, ha]) d9 hlo9 (fun q hq => by simp at hq) (by simp [apart])).trans ?_
      refine (xnewL (v := .rsl S9.next 0 1 (some 1)) (b := ints (nums [a])) (by simp [shown, sightOf, rootsOf, looks, Op.operands, g0, g4, g7, hvy, V.refs]) (by simp only [fitX, ob9]; simp [temsIn, looks, Op.operands, V.inN, g0, g4, g7, hvy, hq1]) (by simp [wants]) (by simp [seenX, keepOnly, looks, Op.operands, g0, g4, g7, hvy, litx, onlyObs_nil, Sto.new, noBc_ints]) hlo9 (by simp [apart])).trans ?_
      show some (_, (⟨S9.next + 1, (S9.next, ints (nums [a])) :: (takeNew U.next S9.obs ++ over [o] S9.obs U.obs), if Nat.blt S9.low U.low then S9.low else U.low⟩ : Sto Sy)) = _
      rw [hs2]; simp only [Sto.new, noBc_ints]; rfl
    case g3x1 =>
      simp [hs2n, hvy, k1]; rfl
    case g4x1 =>
      repeat' (first | refine Wp.seq ?_ | refine Wp.block ?_ | (apply Wp.region; focus ((try simp [g0, g4, g7, hwi]) <;> rfl)) | (refine Wp.cond_t ?_ ?_; focus (simp [g0, g4, g7, hwi]; done)) | (refine Wp.cond_f ?_ ?_; focus (simp [g0, g4, g7, hwi]; done)) | refine Wp.skip ?_ | refine Wp.ret ?_ | refine Wp.exit ?_ | refine Blk.here ?_ | (refine Blk.past ?_ ?_; focus (simp; done)))
      exact ⟨by simp [g0], by simp [g4], by simp [hwi], q', ys ++ [a], by omega, by simpa using k4, by simp [hyl], k2.more (by omega)⟩
  · rintro k ⟨tm, U⟩ hk ⟨g0, g4, g7, q6, ys, hq6, hY, hyl, tU⟩
    simp only at g0 g4 g7 hY tU
    have hnl : ¬ (zs.length : Int) < zs.length := by omega
    have zU := z5.keep tU (by omega) (by simp)
    have eU := tU.next
    have dU := tU.rd.desc
    obtain ⟨cy, hvy, hcy⟩ := hY.val
    have hco : constsOf (⟨U.next, U.obs, U.next⟩ : Sto Sy) (.rsl q6 0 ys.length cy) = some ys := by
      have e1 : (⟨U.next, U.obs, U.next⟩ : Sto Sy).elems (.rsl q6 0 ys.length cy) = some (ints (nums ys)) := by
        simp [Sto.elems, Sto.cells, hY.obj, isMp_ints, List.take_of_length_le (show (ints (nums ys)).length ≤ ys.length by simp)]
      have e2 := numsOf_nums ys
      have e3 : capOk (V.rsl (I := Sy) q6 0 ys.length cy) = true := by rcases hcy with rfl | rfl <;> simp [capOk, Nat.ble_eq]
      simp only [constsOf, e1, e2, e3, bite_true, consts_of]
    obtain ⟨S6, hS6⟩ : ∃ S6 : Sto Sy, S6 = ⟨U.next + 1, (U.next, ints (nums (tidyL ys))) :: U.obs, if U.next < U.low then U.next else U.low⟩ := ⟨_, rfl⟩
    have hk0 : K0 37 [.rsl q6 0 ys.length cy] ⟨U.next, U.obs, U.next⟩ = some (.rsl U.next 0 (tidyL ys).length none, ⟨U.next + 1, (U.next, ints (nums (tidyL ys))) :: U.obs, U.next⟩) := by
      cases ys with
      | nil =>
        have hco0 : constsOf (⟨U.next, U.obs, U.next⟩ : Sto Sy) (.rsl q6 0 0 cy) = some [] := hco
        simp [K0, orK, oneK, oneKE, hco0, Nat.beq_refl, tidyL, tidyFrom]
      | cons a r =>
        have h1000 : Nat.ble (a :: r).length 1000 = true := by rw [Nat.ble_eq]; omega
        simp only [K0, orK, oneK, hco, Nat.beq_refl, bite_true, h1000]
    obtain ⟨gg, rfl⟩ : ∃ gg, g = gg + 1 := ⟨g - 1, by omega⟩
    have hc6 := call_K (P := Try.prog) (n := gg) hk0
    simp only at hc6
    rw [← hS6] at hc6
    have i1 : IsL S6.obs U.next (tidyL ys) (.rsl U.next 0 (tidyL ys).length none) := ⟨⟨none, rfl, .inl rfl⟩, by rw [hS6]; show Go.Sx.look ((U.next, _) :: U.obs) U.next = _; rw [look_cons, if_pos rfl]⟩
    have i2 : IsL S6.obs q zs (.rsl q 0 zs.length cp) := ⟨zU.val, by rw [hS6]; show Go.Sx.look ((U.next, _) :: U.obs) q = _; rw [look_cons, if_neg (by omega)]; exact zU.obj⟩
    have fitt : Fit (tidyL ys) := by
      refine Fit.of (by rw [tidyL_length]; omega) (fun z hz => ?_)
      have := tidyL_bound ys z hz
      omega
    repeat' (first | refine Wp.seq ?_ | refine Wp.block ?_ | (apply Wp.region; focus ((try simp [g0, g4, g7, hvy, hnl, hc6]) <;> rfl)) | (refine Wp.cond_t ?_ ?_; focus (simp [g0, g4, g7, hvy, hnl, hc6]; done)) | (refine Wp.cond_f ?_ ?_; focus (simp [g0, g4, g7, hvy, hnl, hc6]; done)) | refine Wp.skip ?_ | refine Wp.ret ?_ | refine Wp.exit ?_ | refine Blk.here ?_ | (refine Blk.past ?_ ?_; focus (simp; done)))
    exact ⟨rfl, fin2 _ _ _ _ U.next q (tidyL ys) zs (by simp) (by simp [g4]) (by omega) i1 i2 fitt fitp⟩
end

set_option maxRecDepth 10000 in
theorem drawIsFiner (bs : List Int) (hbs0 : ∀ b, b ∈ bs → 0 ≤ b ∧ b < 256) (m : Nat) : ∃ r, symRun Try.prog K0 [] (m + 200) 10 [.slice (u8s bs)] ⟨0, [], 0⟩ = some r ∧ ∃ v1 v2 q1 q2 z1 z2, r.1 = .tup [v1, v2] ∧ q1 ≠ q2 ∧ IsL r.2.obs q1 z1 v1 ∧ IsL r.2.obs q2 z2 v2 ∧ Fit z1 ∧ Fit z2 := by
  refine own_run2 (n := m + 199) hK0 Try.func10 rfl rfl ?_
  simp only [Try.f10]
  have hr := readerC bs (m + 199) (by omega)
  have hbs := take2000 hbs0
  obtain ⟨S0, e0, h0⟩ := reader0 bs
  have hlo : S0.low = 0 := by rw [e0]
  rw [← e0] at hr
  clear e0
  generalize bs.take 2000 = bs1 at hbs h0
  obtain ⟨⟨v, S1⟩, hr2, v1, v2, q1, q2, z1, z2, hv, hne, i1, i2, f1, f2⟩ := twoPartsR bs1 hbs (S0 := ⟨S0.next, S0.obs, S0.next⟩) (h0.lows S0.next) (Nat.le_refl _) (by omega) (m + 198) (by omega)
  simp only at hv i1 i2
  subst hv
  have hc : acallV (symIn Try.prog K0 [] (m + 199)) S0 (.func 29 [] []) [.ptr 0 0] = some (.tup [v1, v2], ⟨S1.next, S1.obs, if Nat.blt S1.low S0.low then S1.low else S0.low⟩) := by
    rw [acallV_func (by decide), List.nil_append, List.append_nil, symIn_run (by decide), hr2]
  repeat' (first | refine Wp.seq ?_ | refine Wp.block ?_ | (apply Wp.region; focus ((try simp [setArgs, hr, hc]) <;> rfl)) | (refine Wp.cond_t ?_ ?_; focus (simp [setArgs, hr, hc]; done)) | (refine Wp.cond_f ?_ ?_; focus (simp [setArgs, hr, hc]; done)) | refine Wp.skip ?_ | refine Wp.ret ?_ | refine Wp.exit ?_ | refine Blk.here ?_ | (refine Blk.past ?_ ?_; focus (simp; done)))
  exact ⟨rfl, answer_trim2 (v := v1) (w := v2) (by simp) (by simp) ⟨v1, v2, q1, q2, z1, z2, rfl, hne, IsL.trimIn (sto := ⟨S1.next, S1.obs, if S1.low < S0.low then S1.low else S0.low⟩) i1 (by simp [V.refs, refsL]; intro k hk; exact .inl hk), IsL.trimIn (sto := ⟨S1.next, S1.obs, if S1.low < S0.low then S1.low else S0.low⟩) i2 (by simp [V.refs, refsL]; intro k hk; exact .inr hk), f1, f2⟩⟩

set_option maxRecDepth 10000 in
theorem drawMeetParts (bs : List Int) (hbs0 : ∀ b, b ∈ bs → 0 ≤ b ∧ b < 256) (m : Nat) : ∃ r, symRun Try.prog K0 [] (m + 200) 16 [.slice (u8s bs)] ⟨0, [], 0⟩ = some r ∧ ∃ v1 v2 q1 q2 z1 z2, r.1 = .tup [v1, v2] ∧ q1 ≠ q2 ∧ IsL r.2.obs q1 z1 v1 ∧ IsL r.2.obs q2 z2 v2 ∧ Fit z1 ∧ Fit z2 := by
  refine own_run2 (n := m + 199) hK0 Try.func16 rfl rfl ?_
  simp only [Try.f16]
  have hr := readerC bs (m + 199) (by omega)
  have hbs := take2000 hbs0
  obtain ⟨S0, e0, h0⟩ := reader0 bs
  have hlo : S0.low = 0 := by rw [e0]
  rw [← e0] at hr
  clear e0
  generalize bs.take 2000 = bs1 at hbs h0
  obtain ⟨⟨v, S1⟩, hr2, v1, v2, q1, q2, z1, z2, hv, hne, i1, i2, f1, f2⟩ := twoPartsR bs1 hbs (S0 := ⟨S0.next, S0.obs, S0.next⟩) (h0.lows S0.next) (Nat.le_refl _) (by omega) (m + 198) (by omega)
  simp only at hv i1 i2
  subst hv
  have hc : acallV (symIn Try.prog K0 [] (m + 199)) S0 (.func 29 [] []) [.ptr 0 0] = some (.tup [v1, v2], ⟨S1.next, S1.obs, if Nat.blt S1.low S0.low then S1.low else S0.low⟩) := by
    rw [acallV_func (by decide), List.nil_append, List.append_nil, symIn_run (by decide), hr2]
  repeat' (first | refine Wp.seq ?_ | refine Wp.block ?_ | (apply Wp.region; focus ((try simp [setArgs, hr, hc]) <;> rfl)) | (refine Wp.cond_t ?_ ?_; focus (simp [setArgs, hr, hc]; done)) | (refine Wp.cond_f ?_ ?_; focus (simp [setArgs, hr, hc]; done)) | refine Wp.skip ?_ | refine Wp.ret ?_ | refine Wp.exit ?_ | refine Blk.here ?_ | (refine Blk.past ?_ ?_; focus (simp; done)))
  exact ⟨rfl, answer_trim2 (v := v1) (w := v2) (by simp) (by simp) ⟨v1, v2, q1, q2, z1, z2, rfl, hne, IsL.trimIn (sto := ⟨S1.next, S1.obs, if S1.low < S0.low then S1.low else S0.low⟩) i1 (by simp [V.refs, refsL]; intro k hk; exact .inl hk), IsL.trimIn (sto := ⟨S1.next, S1.obs, if S1.low < S0.low then S1.low else S0.low⟩) i2 (by simp [V.refs, refsL]; intro k hk; exact .inr hk), f1, f2⟩⟩

set_option maxRecDepth 10000 in
theorem drawJoinParts (bs : List Int) (hbs0 : ∀ b, b ∈ bs → 0 ≤ b ∧ b < 256) (m : Nat) : ∃ r, symRun Try.prog K0 [] (m + 200) 18 [.slice (u8s bs)] ⟨0, [], 0⟩ = some r ∧ ∃ v1 v2 q1 q2 z1 z2, r.1 = .tup [v1, v2] ∧ q1 ≠ q2 ∧ IsL r.2.obs q1 z1 v1 ∧ IsL r.2.obs q2 z2 v2 ∧ Fit z1 ∧ Fit z2 := by
  refine own_run2 (n := m + 199) hK0 Try.func18 rfl rfl ?_
  simp only [Try.f18]
  have hr := readerC bs (m + 199) (by omega)
  have hbs := take2000 hbs0
  obtain ⟨S0, e0, h0⟩ := reader0 bs
  have hlo : S0.low = 0 := by rw [e0]
  rw [← e0] at hr
  clear e0
  generalize bs.take 2000 = bs1 at hbs h0
  obtain ⟨⟨v, S1⟩, hr2, v1, v2, q1, q2, z1, z2, hv, hne, i1, i2, f1, f2⟩ := twoPartsR bs1 hbs (S0 := ⟨S0.next, S0.obs, S0.next⟩) (h0.lows S0.next) (Nat.le_refl _) (by omega) (m + 198) (by omega)
  simp only at hv i1 i2
  subst hv
  have hc : acallV (symIn Try.prog K0 [] (m + 199)) S0 (.func 29 [] []) [.ptr 0 0] = some (.tup [v1, v2], ⟨S1.next, S1.obs, if Nat.blt S1.low S0.low then S1.low else S0.low⟩) := by
    rw [acallV_func (by decide), List.nil_append, List.append_nil, symIn_run (by decide), hr2]
  repeat' (first | refine Wp.seq ?_ | refine Wp.block ?_ | (apply Wp.region; focus ((try simp [setArgs, hr, hc]) <;> rfl)) | (refine Wp.cond_t ?_ ?_; focus (simp [setArgs, hr, hc]; done)) | (refine Wp.cond_f ?_ ?_; focus (simp [setArgs, hr, hc]; done)) | refine Wp.skip ?_ | refine Wp.ret ?_ | refine Wp.exit ?_ | refine Blk.here ?_ | (refine Blk.past ?_ ?_; focus (simp; done)))
  exact ⟨rfl, answer_trim2 (v := v1) (w := v2) (by simp) (by simp) ⟨v1, v2, q1, q2, z1, z2, rfl, hne, IsL.trimIn (sto := ⟨S1.next, S1.obs, if S1.low < S0.low then S1.low else S0.low⟩) i1 (by simp [V.refs, refsL]; intro k hk; exact .inl hk), IsL.trimIn (sto := ⟨S1.next, S1.obs, if S1.low < S0.low then S1.low else S0.low⟩) i2 (by simp [V.refs, refsL]; intro k hk; exact .inr hk), f1, f2⟩⟩

end Go.Proofs.Ytcpnlgjkijcmhaa.Draw

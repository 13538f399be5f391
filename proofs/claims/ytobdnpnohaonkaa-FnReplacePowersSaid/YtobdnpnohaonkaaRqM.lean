/-
  Polynomials in the place of powers: the law. No condition.
-/
import Derived.Test.YtobdnpnohaonkaaRows
import Derived.Test.YtobdnpnohaonkaaSym
import Derived.Test.YtobdnpnohaonkaaSymD
import Derived.Test.YtobdnpnohaonkaaSymE
import Derived.Test.YtobdnpnohaonkaaSymF
import Derived.Test.YtobdnpnohaonkaaSymG
import Derived.Test.YtobdnpnohaonkaaIds
import Derived.Test.YtobdnpnohaonkaaSeq
import Derived.Test.YtobdnpnohaonkaaSeqG
import Derived.Test.YtobdnpnohaonkaaRep
import Derived.Test.YtobdnpnohaonkaaRepB
import Derived.Test.YtobdnpnohaonkaaTel
import Derived.Test.YtobdnpnohaonkaaTelC
import Derived.Test.YtobdnpnohaonkaaDraw
import Derived.Test.YtobdnpnohaonkaaDrawC
import Derived.Test.YtobdnpnohaonkaaDrawD
import Derived.Test.YtobdnpnohaonkaaDrawE
import Derived.Test.YtobdnpnohaonkaaVsT
import Derived.Test.YtobdnpnohaonkaaDrawJ
import Derived.Test.YtobdnpnohaonkaaPr
import Derived.Test.YtobdnpnohaonkaaPrM
import Derived.Test.YtobdnpnohaonkaaPrF
import Derived.Test.YtobdnpnohaonkaaPrN
import Derived.Test.YtobdnpnohaonkaaRq
import Derived.Test.YtobdnpnohaonkaaRqB
import Derived.Test.YtobdnpnohaonkaaRqL
import Derived.WalkKit
import Derived.ProofKit
import Derived.OpenShut
namespace Go.Proofs.Ytobdnpnohaonkaa.Rq
open Go.ChangeShapes Go.WideShapes Go.ChangeAt Go.RowKit Go.Sx Go.Proofs.Ytobdnpnohaonkaa.Ids Go.Proofs.Ytobdnpnohaonkaa.Draw
open Go.Proofs.Ytobdnpnohaonkaa.Seq (SeqP seqB rowsV rowsV_len rowsV_get)
open Go.Proofs.Ytobdnpnohaonkaa.Rep (RepP repF specRep_tells implRep_tells)
open Go.Proofs.Ytobdnpnohaonkaa.Tel (telK telK_ok vr_agg2 ne_len rowsR rowsO objsO)
open Go.Proofs.Ytobdnpnohaonkaa.Pr (PairP col quo pF pairR pairO pF_yes pF_no col_len quo_len)
set_option linter.unusedVariables false
set_option linter.unusedSimpArgs false

theorem aifc_bool {T : TypeId → Option Ti} {op : BinOp} {t : TypeId} {ox oy : Operand} {a b : Bool} : aifc (I := Sy) T op t ox oy (.bool a) (.bool b) = none := rfl
theorem sym_lit (Γ : List Fact) (z : Int) : (symNum Γ).lit z = .c z := rfl
attribute [local simp] aops wants aop apure St.eval setTm_some setTm_none Tr.get_set evals pevals apureB alen tiS tiI tiB tiY tiU tiSs tiSr Draw.tiSS abin aint isCmp sym_lt sym_eqs sym_neqs sym_eq sym_neq sym_gtr sym_leq sym_geq sym_add sym_sub sym_mul aeff aeffB idx? ofV aindexAddr aggDesc aifc_int fldP0 fldP1 aun u8s_length aifc_bool sym_lit
set_option maxRecDepth 10000 in
theorem law_big (bs : List Int) (hbig : (1048576 : Int) < bs.length) : ∃ r, symRun Try.prog (K1 []) [] 301 3 [.slice (u8s bs)] ⟨0, [], 0⟩ = some r ∧ r.1 = .bool true := by
  refine own_run2 (n := 300) (hK1 _ _ _) Try.func3 rfl rfl ?_
  simp only [Try.f3]
  repeat' (first | refine Wp.seq ?_ | refine Wp.block ?_ | (apply Wp.region; focus ((try simp [setArgs, hbig]) <;> rfl)) | (refine Wp.cond_t ?_ ?_; focus (simp [setArgs, hbig]; done)) | (refine Wp.cond_f ?_ ?_; focus (simp [setArgs, hbig]; done)) | refine Wp.skip ?_ | refine Wp.ret ?_ | refine Wp.exit ?_ | refine Blk.here ?_ | (refine Blk.past ?_ ?_; focus (simp; done)))
  exact ⟨rfl, answer_trim1 (v := .bool true) (by simp) rfl⟩
set_option maxHeartbeats 3200000 in
set_option maxRecDepth 10000 in
theorem law_rp (bs : List Int) (hbs : ∀ b, b ∈ bs → 0 ≤ b ∧ b < 256) : ∃ zss r, symRun Try.prog (K1 zss) [] 301 3 [.slice (u8s bs)] ⟨0, [], 0⟩ = some r ∧ r.1 = .bool true := by
  by_cases hbig : (1048576 : Int) < bs.length
  · exact ⟨[], law_big bs hbig⟩
  obtain ⟨⟨v0, S0⟩, h1, h2, v, w, hv0, ⟨qr, rs, _, hz0, hl1, hl2, hb⟩, q, zs, hp0, hpl, hpb⟩ := drawRP_run bs hbs 101
  simp only at hv0 hz0 hp0 h2
  subst hv0
  obtain ⟨zss, hzss⟩ : ∃ zss, zss = rs.map (·.2.1) := ⟨_, rfl⟩
  refine ⟨zss, own_run2 (n := 300) (hK1 _ _ _) Try.func3 rfl rfl ?_⟩
  simp only [Try.f3]
  have e0 : K1 zss 4 [.slice (u8s bs)] ⟨(⟨0, [], 0⟩ : Sto Sy).next, (⟨0, [], 0⟩ : Sto Sy).obs, (⟨0, [], 0⟩ : Sto Sy).next⟩ = some (.tup [v, w], S0) := by rw [K1_dr]; exact h1
  obtain ⟨S1, hS1⟩ : ∃ S1 : Sto Sy, S1 = ⟨S0.next, S0.obs, if S0.low < 0 then S0.low else 0⟩ := ⟨_, rfl⟩
  have hc1 : acallV (symIn Try.prog (K1 zss) [] 300) ⟨0, [], 0⟩ (.func 4 [] []) [.slice (u8s bs)] = some (.tup [v, w], S1) := by rw [hS1]; exact call_K (P := Try.prog) (n := 299) e0 (by decide)
  have w1 : Ws S1 := by rw [hS1]; exact ⟨h2.desc, by simp⟩
  have hz : IsR S1.obs qr rs w := by rw [hS1]; exact hz0
  have hp : IsL S1.obs q zs v := by rw [hS1]; exact hp0
  clear hz0 hp0 e0 h1 h2 hS1 S0
  have hzl : zss.length = rs.length := by rw [hzss]; simp
  have hrl : ∀ r, r ∈ zss → r.length ≤ 6 := fun z hz => by rw [hzss] at hz; obtain ⟨r, hr, rfl⟩ := List.mem_map.1 hz; exact (hb r hr).2
  have kr : ∀ (S : Sto Sy), (∀ k x, Go.Sx.look S1.obs k = some x → Go.Sx.look S.obs k = some x) → rowsOf ⟨S.next, S.obs, S.next⟩ w = some zss := fun S h => by rw [hzss]; exact (hz.mono (b := S.obs) (fun x hx => h _ _ hx) (fun r _ x hx => h _ _ hx)).rows (S := ⟨S.next, S.obs, S.next⟩)
  have kp : ∀ (S : Sto Sy), (∀ k x, Go.Sx.look S1.obs k = some x → Go.Sx.look S.obs k = some x) → constsOf ⟨S.next, S.obs, S.next⟩ v = some zs := fun S h => isL_consts (S := ⟨S.next, S.obs, S.next⟩) ⟨hp.val, h _ _ hp.obj⟩
  obtain ⟨cp, hv, hcp⟩ := hp.val
  obtain ⟨cq, hw, hcq⟩ := hz.val
  subst hv hw
  obtain ⟨S2, c2, w2, n2, o2, k2⟩ := telP w1 (K1_ri zss) (dRp_eq (kp S1 (fun k x h => h)) (kr S1 (fun k x h => h)) ⟨hpl, by omega, hrl⟩) 300 (by omega)
  obtain ⟨S3, c3, w3, n3, o3, k3⟩ := telP w2 (K1_rs zss) (dRp_eq (kp S2 k2) (kr S2 k2) ⟨hpl, by omega, hrl⟩) 300 (by omega)
  have k13 : ∀ k x, Go.Sx.look S1.obs k = some x → Go.Sx.look S3.obs k = some x := fun k x h => k3 k x (k2 k x h)
  simp only at c2 c3 o2 o3
  cases hF : repF zs zss with
  | none =>
    rw [hF] at c2 c3
    simp only [ansR] at c2 c3
    have c4 := eqP1 (zss := zss) (x := .nil) (y := .nil) (a := []) (b := []) w3 rfl rfl (.inr ⟨rfl, rfl⟩)
    simp only [decide_true] at c4
    repeat' (first | refine Wp.seq ?_ | refine Wp.block ?_ | (apply Wp.region; focus ((try simp [setArgs, hbig, hc1, c2, c3, c4]) <;> rfl)) | (refine Wp.cond_t ?_ ?_; focus (simp [setArgs, hbig, hc1, c2, c3, c4]; done)) | (refine Wp.cond_f ?_ ?_; focus (simp [setArgs, hbig, hc1, c2, c3, c4]; done)) | refine Wp.skip ?_ | refine Wp.ret ?_ | refine Wp.exit ?_ | refine Blk.here ?_ | (refine Blk.past ?_ ?_; focus (simp; done)))
    exact ⟨rfl, answer_trim1 (v := .bool true) (by simp) rfl⟩
  | some out =>
    rw [hF] at c2 c3 o2 o3
    simp only [ansR] at c2 c3
    obtain ⟨hR, ps, hps, hvo, heo⟩ := repF_some hF
    have hzs1 := hR.1.2.1
    have hzs6 := hR.1.2.2
    have hS := hR.2.1
    have hzz := hR.2.2
    have hol : out.length = zs.length := by
      rw [heo, List.length_map]; exact (rep_entry hR hps).1
    have i2 : IsL S2.obs S1.next out (.rsl S1.next 0 out.length none) := ⟨⟨none, rfl, .inl rfl⟩, o2 0 _ rfl⟩
    have i3 : IsL S3.obs S2.next out (.rsl S2.next 0 out.length none) := ⟨⟨none, rfl, .inl rfl⟩, o3 0 _ rfl⟩
    have c4 := eqP1 (zss := zss) (a := out) (b := out) w3 (isL_consts (S := ⟨S3.next, S3.obs, S3.next⟩) ⟨i2.val, k3 _ _ i2.obj⟩) (isL_consts (S := ⟨S3.next, S3.obs, S3.next⟩) i3) (.inl ⟨⟨by omega, by omega⟩, by omega, by omega⟩)
    simp only [decide_true] at c4
    repeat' (first | refine Wp.seq ?_ | refine Wp.block ?_ | (apply Wp.region; focus ((try simp [setArgs, hbig, hc1, c2, c3, c4, lit1]) <;> rfl)) | (refine Wp.cond_t ?_ ?_; focus (simp [setArgs, hbig, hc1, c2, c3, c4, lit1]; done)) | (refine Wp.cond_f ?_ ?_; focus (simp [setArgs, hbig, hc1, c2, c3, c4, lit1]; done)) | refine Wp.skip ?_ | refine Wp.ret ?_ | refine Wp.exit ?_ | refine Blk.here ?_ | (refine Blk.past ?_ ?_; focus (simp; done)))
    refine Wp.loop rfl rfl (fun i st => st.tm.get .any 3 = .rsl q 0 zs.length cp ∧ st.tm.get .any 4 = .rsl qr 0 rs.length cq ∧ st.tm.get .any 5 = .rsl S1.next 0 out.length none ∧ st.tm.get .any 10 = .int .i64 (.c i) ∧ Ws st.sto ∧ (∀ k x, Go.Sx.look S3.obs k = some x → Go.Sx.look st.sto.obs k = some x) ∧ ∃ q9, S3.next ≤ q9 ∧ IsL st.sto.obs q9 ((zs.take i).map fun z => -z) (st.tm.get .any 9)) zs.length (by omega) ?_ ?_ ?_
    · refine ⟨by simp, by simp, by simp, by simp, (newW w3 _).1, (newW w3 _).2, S3.next, Nat.le_refl _, ?_⟩
      show IsL _ _ ([] : List Int) _
      exact ⟨⟨some 0, by simp, .inr rfl⟩, look_new _ _⟩
    · rintro f i ⟨tm, T⟩ hi ⟨e3, e4, e5, e10, wT, kT, q9, hq9, hz9⟩
      simp only at e3 e4 e5 e10 wT kT hz9
      have hlt : (i : Int) < zs.length := by omega
      have hxi : zs[i]? = some zs[i] := List.getElem?_eq_getElem hi
      have hs : (zs.take (i + 1)).map (fun z => -z) = (zs.take i).map (fun z => -z) ++ [-zs[i]] := by
        rw [List.take_add_one, hxi, List.map_append]; rfl
      have hbx := hpb zs[i] (List.getElem_mem hi)
      generalize hx : zs[i] = x at hxi hs hbx
      have ld := loadI (S := T) (kT _ _ (k13 _ _ hp.obj)) hxi
      have hn1 : IntKind.i64.wrap (0 - x) = -x := by rw [Int.zero_sub]; exact wrap_in (by omega) (by omega)
      have hn2 : IntKind.i64.wrap (-x) = -x := wrap_in (by omega) (by omega)
      have hwi := wrap_in (a := (i : Int) + 1) (by omega) (by omega)
      obtain ⟨v', S', a1, a2, a3, q', a4, a5⟩ := appendW wT hz9 (-x) (by simp; omega)
      obtain ⟨c9, hv9, _⟩ := hz9.val
      rw [hv9] at a1
      generalize ((zs.take i).map fun z => -z).length = n9 at hv9 a1
      repeat' (first | refine Wp.seq ?_ | refine Wp.block ?_ | (apply Wp.region; focus ((try simp [e3, e4, e5, e10, hlt, hv9, hi, ld, hn1, hn2, hwi, litx, a1]) <;> rfl)) | (refine Wp.cond_t ?_ ?_; focus (simp [e3, e4, e5, e10, hlt, hv9, hi, ld, hn1, hn2, hwi, litx, a1]; done)) | (refine Wp.cond_f ?_ ?_; focus (simp [e3, e4, e5, e10, hlt, hv9, hi, ld, hn1, hn2, hwi, litx, a1]; done)) | refine Wp.skip ?_ | refine Wp.ret ?_ | refine Wp.exit ?_ | refine Blk.here ?_ | (refine Blk.past ?_ ?_; focus (simp; done)))
      refine ⟨by simp [e3], by simp [e4], by simp [e5], by simp [hwi], a2, fun k y hy => a3 k y (by have := w3.desc.look_lt hy; omega) (kT k y hy), q', by have := wT.desc.look_lt hz9.obj; omega, ?_⟩
      rw [hs]; simpa using a5
    · rintro f ⟨tm, T⟩ ⟨e3, e4, e5, e10, wT, kT, q9, hq9, hz9⟩
      simp only at e3 e4 e5 e10 wT kT hz9
      rw [List.take_of_length_le (Nat.le_refl _)] at hz9
      have hnl : ¬ (zs.length : Int) < zs.length := by omega
      have kT1 : ∀ k x, Go.Sx.look S1.obs k = some x → Go.Sx.look T.obs k = some x := fun k x h => kT k x (k13 k x h)
      obtain ⟨S5, c5, w5, n5, o5, k5⟩ := telP wT (K1_ri zss) (dRp_eq (isL_consts (S := ⟨T.next, T.obs, T.next⟩) hz9) (kr T kT1) ⟨by simp; omega, by omega, hrl⟩) 300 (by omega)
      simp only [repF_neg hF, ansR] at c5
      simp only [repF_neg hF] at o5
      have i5 : Go.Sx.look S5.obs T.next = some (ints (nums (out.map fun z => -z))) := o5 0 _ rfl
      have k15 : ∀ k x, Go.Sx.look S1.obs k = some x → Go.Sx.look S5.obs k = some x := fun k x h => k5 k x (kT1 k x h)
      obtain ⟨c9, hv9, _⟩ := hz9.val
      rw [hv9] at c5
      simp only [List.length_map] at c5 hv9
      repeat' (first | refine Wp.seq ?_ | refine Wp.block ?_ | (apply Wp.region; focus ((try simp [e3, e4, e5, e10, hnl, hv9, c5]) <;> rfl)) | (refine Wp.cond_t ?_ ?_; focus (simp [e3, e4, e5, e10, hnl, hv9, c5]; done)) | (refine Wp.cond_f ?_ ?_; focus (simp [e3, e4, e5, e10, hnl, hv9, c5]; done)) | refine Wp.skip ?_ | refine Wp.ret ?_ | refine Wp.exit ?_ | refine Blk.here ?_ | (refine Blk.past ?_ ?_; focus (simp; done)))
      refine Wp.loop rfl rfl (fun i st => st.tm.get .any 4 = .rsl qr 0 rs.length cq ∧ st.tm.get .any 5 = .rsl S1.next 0 out.length none ∧ st.tm.get .any 11 = .rsl T.next 0 out.length none ∧ st.tm.get .any 12 = .bool true ∧ st.tm.get .any 13 = .int .i64 (.c i) ∧ st.sto = S5) out.length (by omega) ?_ ?_ ?_
      · exact ⟨by simp [e4], by simp [e5], by simp, by simp, by simp, rfl⟩
      · rintro f i ⟨tm, S⟩ hi ⟨g4, g5, g11, g12, g13, rfl⟩
        simp only at g4 g5 g11 g12 g13
        have hlt : (i : Int) < out.length := by omega
        have hxi : out[i]? = some out[i] := List.getElem?_eq_getElem hi
        have hyi : (out.map fun z => -z)[i]? = some (-out[i]) := by rw [List.getElem?_map, hxi]; rfl
        have hbx := hvo.1 out[i] (List.getElem_mem hi)
        generalize hx : out[i] = x at hxi hyi hbx
        have ld1 := loadI (S := ⟨S.next, S.obs, S.next⟩) (k5 _ _ (kT _ _ (k3 _ _ i2.obj))) hxi
        have ld2 := loadI (S := ⟨S.next, S.obs, S.next⟩) i5 hyi
        have hn1 : IntKind.i64.wrap (0 - x) = -x := by rw [Int.zero_sub]; exact wrap_in (by omega) (by omega)
        have hn2 : IntKind.i64.wrap (-x) = -x := wrap_in (by omega) (by omega)
        have hwi := wrap_in (a := (i : Int) + 1) (by omega) (by omega)
        have htk : takeNew S.next S.obs = [] := takeNew_id w5.desc
        repeat' (first | refine Wp.seq ?_ | refine Wp.block ?_ | (apply Wp.region; focus ((try simp [g4, g5, g11, g12, g13, hlt]) <;> rfl)) | (refine Wp.cond_t ?_ ?_; focus (simp [g4, g5, g11, g12, g13, hlt]; done)) | (refine Wp.cond_f ?_ ?_; focus (simp [g4, g5, g11, g12, g13, hlt]; done)) | refine Wp.skip ?_ | refine Wp.ret ?_ | refine Wp.exit ?_ | refine Blk.here ?_ | (refine Blk.past ?_ ?_; focus (simp; done)))
        (apply Wp.drawn2 9; (focus kernel_rfl); (focus kernel_rfl); (focus intro F; simp [dhead, seenBy, keepOnly, looks, joinN, addN, bite_eq, Op.operands, htk, Call.operands, g5, g11, g13, hlt, hi, ld1, ld2, hn1, hn2]; exact ⟨rfl, rfl, rfl⟩); (focus (try simp [allN, htk, Call.operands, g5, g11, g13, hlt, hi, ld1, ld2, hn1, hn2]) <;> rfl))
        repeat' (first | refine Wp.seq ?_ | refine Wp.block ?_ | (apply Wp.region; focus ((try simp [g4, g5, g11, g12, g13, hwi]) <;> rfl)) | (refine Wp.cond_t ?_ ?_; focus (simp [g4, g5, g11, g12, g13, hwi]; done)) | (refine Wp.cond_f ?_ ?_; focus (simp [g4, g5, g11, g12, g13, hwi]; done)) | refine Wp.skip ?_ | refine Wp.ret ?_ | refine Wp.exit ?_ | refine Blk.here ?_ | (refine Blk.past ?_ ?_; focus (simp; done)))
        exact ⟨by simp [g4], by simp [g5], by simp [g11], by simp [g12], by simp [hwi], rfl⟩
      · rintro f ⟨tm, S⟩ ⟨g4, g5, g11, g12, g13, rfl⟩
        simp only at g4 g5 g11 g12 g13
        have hno : ¬ (out.length : Int) < out.length := by omega
        obtain ⟨S6, c6, w6, n6, o6, k6⟩ := telP w5 (K1_pr zss) (dRows_eq (kr S k15) hS) 300 (by omega)
        simp only at c6 o6
        by_cases hP : PairP zss
        case neg =>
          simp only [pF_no hP, pairR] at c6
          obtain ⟨S7, st7, w7, n7, m7, k7⟩ := cellW w6 (a := V.nil) (b := V.nil) rfl rfl
          have l7 := loadP m7
          obtain ⟨S8, c8, w8, n8, o8, k8⟩ := telP w7 (K1_mu zss) (dMu_nil (zss := zss) (sto := ⟨S7.next, S7.obs, S7.next⟩)) 300 (by omega)
          simp only [pairR] at c8
          obtain ⟨S9, st9, w9, n9, m9, k9⟩ := cellW w8 (a := V.nil) (b := V.nil) rfl rfl
          repeat' (first | refine Wp.seq ?_ | refine Wp.block ?_ | (apply Wp.region; focus ((try simp [g4, g5, g11, g12, g13, hno]) <;> rfl)) | (refine Wp.cond_t ?_ ?_; focus (simp [g4, g5, g11, g12, g13, hno]; done)) | (refine Wp.cond_f ?_ ?_; focus (simp [g4, g5, g11, g12, g13, hno]; done)) | refine Wp.skip ?_ | refine Wp.ret ?_ | refine Wp.exit ?_ | refine Blk.here ?_ | (refine Blk.past ?_ ?_; focus (simp; done)))
          repeat' (first | refine Wp.seq ?_ | refine Wp.block ?_ | (apply Wp.region; focus ((try simp [g4, c6, allocP, st7]) <;> rfl)) | (refine Wp.cond_t ?_ ?_; focus (simp [g4, c6, allocP, st7]; done)) | (refine Wp.cond_f ?_ ?_; focus (simp [g4, c6, allocP, st7]; done)) | refine Wp.skip ?_ | refine Wp.ret ?_ | refine Wp.exit ?_ | refine Blk.here ?_ | (refine Blk.past ?_ ?_; focus (simp; done)))
          repeat' (first | refine Wp.seq ?_ | refine Wp.block ?_ | (apply Wp.region; focus ((try simp [l7, c8, allocP, st9]) <;> rfl)) | (refine Wp.cond_t ?_ ?_; focus (simp [l7, c8, allocP, st9]; done)) | (refine Wp.cond_f ?_ ?_; focus (simp [l7, c8, allocP, st9]; done)) | refine Wp.skip ?_ | refine Wp.ret ?_ | refine Wp.exit ?_ | refine Blk.here ?_ | (refine Blk.past ?_ ?_; focus (simp; done)))
          repeat' (first | refine Wp.seq ?_ | refine Wp.block ?_ | (apply Wp.region; focus ((try simp [g12]) <;> rfl)) | (refine Wp.cond_t ?_ ?_; focus (simp [g12]; done)) | (refine Wp.cond_f ?_ ?_; focus (simp [g12]; done)) | refine Wp.skip ?_ | refine Wp.ret ?_ | refine Wp.exit ?_ | refine Blk.here ?_ | (refine Blk.past ?_ ?_; focus (simp; done)))
          exact ⟨rfl, answer_trim1 (v := .bool true) (by simp [g12]) rfl⟩
        case pos =>
          have hN : PairN zss := ⟨hP, seq_nrm hS⟩
          simp only [pF_yes hP, pairR] at c6
          simp only [pF_yes hP] at o6
          have j1 : IsL S6.obs S.next (col zss 0) (.rsl S.next 0 (col zss 0).length none) := ⟨⟨none, rfl, .inl rfl⟩, o6 0 _ rfl⟩
          have j2 : IsL S6.obs (S.next + 1) (quo zss) (.rsl (S.next + 1) 0 (quo zss).length none) := ⟨⟨none, rfl, .inl rfl⟩, o6 1 _ rfl⟩
          obtain ⟨S7, st7, w7, n7, m7, k7⟩ := cellW w6 (a := .rsl S.next 0 (col zss 0).length none) (b := .rsl (S.next + 1) 0 (quo zss).length none) rfl rfl
          have l7 := loadP m7
          have x1 := isL_consts (S := ⟨S7.next, S7.obs, S7.next⟩) ⟨j1.val, k7 _ _ j1.obj⟩
          have x2 := isL_consts (S := ⟨S7.next, S7.obs, S7.next⟩) ⟨j2.val, k7 _ _ j2.obj⟩
          obtain ⟨S8, c8, w8, n8, o8, k8⟩ := telP w7 (K1_mu zss) (dMu_eq x1 x2 x1 x2 hN) 300 (by omega)
          have k18 : ∀ k x, Go.Sx.look S1.obs k = some x → Go.Sx.look S8.obs k = some x := fun k x h => k8 k x (k7 k x (k6 k x (k15 k x h)))
          cases hM : mulF zss with
          | none =>
            simp only [hM, pairR] at c8
            obtain ⟨S9, st9, w9, n9, m9, k9⟩ := cellW w8 (a := V.nil) (b := V.nil) rfl rfl
            repeat' (first | refine Wp.seq ?_ | refine Wp.block ?_ | (apply Wp.region; focus ((try simp [g4, g5, g11, g12, g13, hno]) <;> rfl)) | (refine Wp.cond_t ?_ ?_; focus (simp [g4, g5, g11, g12, g13, hno]; done)) | (refine Wp.cond_f ?_ ?_; focus (simp [g4, g5, g11, g12, g13, hno]; done)) | refine Wp.skip ?_ | refine Wp.ret ?_ | refine Wp.exit ?_ | refine Blk.here ?_ | (refine Blk.past ?_ ?_; focus (simp; done)))
            repeat' (first | refine Wp.seq ?_ | refine Wp.block ?_ | (apply Wp.region; focus ((try simp [g4, c6, allocP, st7]) <;> rfl)) | (refine Wp.cond_t ?_ ?_; focus (simp [g4, c6, allocP, st7]; done)) | (refine Wp.cond_f ?_ ?_; focus (simp [g4, c6, allocP, st7]; done)) | refine Wp.skip ?_ | refine Wp.ret ?_ | refine Wp.exit ?_ | refine Blk.here ?_ | (refine Blk.past ?_ ?_; focus (simp; done)))
            repeat' (first | refine Wp.seq ?_ | refine Wp.block ?_ | (apply Wp.region; focus ((try simp [l7, c8, allocP, st9]) <;> rfl)) | (refine Wp.cond_t ?_ ?_; focus (simp [l7, c8, allocP, st9]; done)) | (refine Wp.cond_f ?_ ?_; focus (simp [l7, c8, allocP, st9]; done)) | refine Wp.skip ?_ | refine Wp.ret ?_ | refine Wp.exit ?_ | refine Blk.here ?_ | (refine Blk.past ?_ ?_; focus (simp; done)))
            repeat' (first | refine Wp.seq ?_ | refine Wp.block ?_ | (apply Wp.region; focus ((try simp [g12]) <;> rfl)) | (refine Wp.cond_t ?_ ?_; focus (simp [g12]; done)) | (refine Wp.cond_f ?_ ?_; focus (simp [g12]; done)) | refine Wp.skip ?_ | refine Wp.ret ?_ | refine Wp.exit ?_ | refine Blk.here ?_ | (refine Blk.past ?_ ?_; focus (simp; done)))
            exact ⟨rfl, answer_trim1 (v := .bool true) (by simp [g12]) rfl⟩
          | some p =>
            obtain ⟨v2, v3, rfl⟩ := mulF_some hM
            simp only [hM, pairR] at c8
            simp only [hM] at o8
            have j3 : IsL S8.obs S7.next (sgZ zss) (.rsl S7.next 0 (sgZ zss).length none) := ⟨⟨none, rfl, .inl rfl⟩, o8 0 _ rfl⟩
            have j4 : IsL S8.obs (S7.next + 1) (sfZ zss) (.rsl (S7.next + 1) 0 (sfZ zss).length none) := ⟨⟨none, rfl, .inl rfl⟩, o8 1 _ rfl⟩
            obtain ⟨S9, st9, w9, n9, m9, k9⟩ := cellW w8 (a := .rsl S7.next 0 (sgZ zss).length none) (b := .rsl (S7.next + 1) 0 (sfZ zss).length none) rfl rfl
            have l9 := loadP m9
            obtain ⟨S10, c10, w10, n10, o10, k10⟩ := telP w9 (K1_ar zss) (dAr_eq (isL_consts (S := ⟨S9.next, S9.obs, S9.next⟩) ⟨j3.val, k9 _ _ j3.obj⟩) (isL_consts (S := ⟨S9.next, S9.obs, S9.next⟩) ⟨j4.val, k9 _ _ j4.obj⟩) hN v2 v3) 300 (by omega)
            obtain ⟨sl1, sl2⟩ := sqZ_len hN
            have hR10 : rowsR (sqZ zss) S9.next = .rsl S9.next 0 (sqZ zss).length none := rfl
            rw [hR10] at c10
            have k110 : ∀ k x, Go.Sx.look S1.obs k = some x → Go.Sx.look S10.obs k = some x := fun k x h => k10 k x (k9 k x (k18 k x h))
            repeat' (first | refine Wp.seq ?_ | refine Wp.block ?_ | (apply Wp.region; focus ((try simp [g4, g5, g11, g12, g13, hno]) <;> rfl)) | (refine Wp.cond_t ?_ ?_; focus (simp [g4, g5, g11, g12, g13, hno]; done)) | (refine Wp.cond_f ?_ ?_; focus (simp [g4, g5, g11, g12, g13, hno]; done)) | refine Wp.skip ?_ | refine Wp.ret ?_ | refine Wp.exit ?_ | refine Blk.here ?_ | (refine Blk.past ?_ ?_; focus (simp; done)))
            repeat' (first | refine Wp.seq ?_ | refine Wp.block ?_ | (apply Wp.region; focus ((try simp [g4, c6, allocP, st7]) <;> rfl)) | (refine Wp.cond_t ?_ ?_; focus (simp [g4, c6, allocP, st7]; done)) | (refine Wp.cond_f ?_ ?_; focus (simp [g4, c6, allocP, st7]; done)) | refine Wp.skip ?_ | refine Wp.ret ?_ | refine Wp.exit ?_ | refine Blk.here ?_ | (refine Blk.past ?_ ?_; focus (simp; done)))
            repeat' (first | refine Wp.seq ?_ | refine Wp.block ?_ | (apply Wp.region; focus ((try simp [l7, c8, allocP, st9]) <;> rfl)) | (refine Wp.cond_t ?_ ?_; focus (simp [l7, c8, allocP, st9]; done)) | (refine Wp.cond_f ?_ ?_; focus (simp [l7, c8, allocP, st9]; done)) | refine Wp.skip ?_ | refine Wp.ret ?_ | refine Wp.exit ?_ | refine Blk.here ?_ | (refine Blk.past ?_ ?_; focus (simp; done)))
            repeat' (first | refine Wp.seq ?_ | refine Wp.block ?_ | (apply Wp.region; focus ((try simp [l9, c10]) <;> rfl)) | (refine Wp.cond_t ?_ ?_; focus (simp [l9, c10]; done)) | (refine Wp.cond_f ?_ ?_; focus (simp [l9, c10]; done)) | refine Wp.skip ?_ | refine Wp.ret ?_ | refine Wp.exit ?_ | refine Blk.here ?_ | (refine Blk.past ?_ ?_; focus (simp; done)))
            refine Wp.loop rfl rfl (fun i st => st.tm.get .any 4 = .rsl qr 0 rs.length cq ∧ st.tm.get .any 12 = .bool true ∧ st.tm.get .any 18 = .rsl S9.next 0 (sqZ zss).length none ∧ st.tm.get .any 19 = .int .i64 (.c i) ∧ Ws st.sto ∧ ∀ k x, Go.Sx.look S10.obs k = some x → Go.Sx.look st.sto.obs k = some x) rs.length (by omega) ?_ ?_ ?_
            · exact ⟨by simp [g4], by simp [g12], by simp, by simp, w10, fun k x h => h⟩
            · rintro f i ⟨tm, U⟩ hi ⟨e4, e12, e18, e19, wU, kU⟩
              simp only at e4 e12 e18 e19 wU kU
              have hlt : (i : Int) < rs.length := by omega
              have hls : i < (sqZ zss).length := by omega
              have hlsI : (i : Int) < (sqZ zss).length := by omega
              have hwi := wrap_in (a := (i : Int) + 1) (by omega) (by omega)
              have kU1 : ∀ k x, Go.Sx.look S1.obs k = some x → Go.Sx.look U.obs k = some x := fun k x h => kU k x (k110 k x h)
              have hri : (rowsW rs)[i]? = some (rwV rs[i]) := by simp [rowsW, hi]
              have ldr := loadS (S := U) (kU1 _ _ hz.obj) hri (rowsW_nm rs).1
              have hrow := hz.row rs[i] (List.getElem_mem hi)
              have hrc := isL_consts (S := ⟨U.next, U.obs, U.next⟩) ⟨hrow.val, kU1 _ _ hrow.obj⟩
              have hzi : zss.getD i [] = rs[i].2.1 := by rw [hzss]; simp [List.getD, hi]
              rw [← hzi] at hrc
              have hzlen : (zss.getD i []).length = zss.length := (hS.2.2 i (by omega)).1
              obtain ⟨S11, c11, w11, n11, o11, k11⟩ := telP wU (K1_ri zss) (dRp_eq hrc (kr U kU1) ⟨by omega, by omega, hrl⟩) 300 (by omega)
              replace c11 : acallV (symIn Try.prog (K1 zss) [] 300) U (.func 5 [] []) [rwV rs[i], .rsl qr 0 rs.length cq] = some (ansR (repF (zss.getD i []) zss) U.next, S11) := c11
              replace o11 : ∀ (j : Nat) (x : Ob Sy), (ansO (repF (zss.getD i []) zss) U.next)[j]? = some x → Go.Sx.look S11.obs (U.next + j) = some x := o11
              generalize rwV rs[i] = row at ldr c11
              cases hG : repF (zss.getD i []) zss with
              | none =>
                simp only [hG, ansR] at c11
                repeat' (first | refine Wp.seq ?_ | refine Wp.block ?_ | (apply Wp.region; focus ((try simp [e4, e12, e18, e19, hlt, hi, ldr, c11, hwi]) <;> rfl)) | (refine Wp.cond_t ?_ ?_; focus (simp [e4, e12, e18, e19, hlt, hi, ldr, c11, hwi]; done)) | (refine Wp.cond_f ?_ ?_; focus (simp [e4, e12, e18, e19, hlt, hi, ldr, c11, hwi]; done)) | refine Wp.skip ?_ | refine Wp.ret ?_ | refine Wp.exit ?_ | refine Blk.here ?_ | (refine Blk.past ?_ ?_; focus (simp; done)))
                exact ⟨by simp [e4], by simp [e12], by simp [e18], by simp [hwi], w11, fun k x h => k11 k x (kU k x h)⟩
              | some o =>
                simp only [hG, ansR] at c11
                simp only [hG] at o11
                have hrs := rep_sq hS hN (n := i) (by omega) hG
                obtain ⟨_, ps', hps', hvo', heo'⟩ := repF_some hG
                have j5 : IsL S11.obs U.next o (.rsl U.next 0 o.length none) := ⟨⟨none, rfl, .inl rfl⟩, o11 0 _ rfl⟩
                have hsi : (sqZ zss)[i]? = some ((sqZ zss).getD i []) := by simp [List.getD, hls]
                rw [← hrs] at hsi
                have a0 : Go.Sx.look S11.obs S9.next = some (rowsV (S9.next + 1) (sqZ zss)) := k11 _ _ (kU _ _ (o10 0 _ rfl))
                have a1 : Go.Sx.look S11.obs (S9.next + (i + 1)) = some (ints (nums o)) := k11 _ _ (kU _ _ (o10 (i + 1) _ (by
                  show (objsO (sqZ zss))[i]? = _
                  unfold objsO
                  rw [List.getElem?_map, hsi]; rfl)))
                have a2 : (rowsV (S9.next + 1) (sqZ zss))[i]? = some (.rsl (S9.next + 1 + i) 0 o.length none) := by rw [rowsV_get, hsi]; rfl
                have hmp : isMp (rowsV (S9.next + 1) (sqZ zss)) = false := (rsl_nm (fun x hx => by
                  obtain ⟨j, hj⟩ := List.mem_iff_getElem?.1 hx
                  rw [rowsV_get] at hj
                  obtain ⟨z, _, rfl⟩ := Option.map_eq_some_iff.1 hj
                  exact ⟨_, _, _, _, rfl⟩)).1
                have ldq := loadS (S := S11) a0 a2 hmp
                rw [show S9.next + (i + 1) = S9.next + 1 + i by omega] at a1
                have c12 := eqP1 (zss := zss) (a := o) (b := o) w11 (isL_consts (S := ⟨S11.next, S11.obs, S11.next⟩) j5) (isL_consts (S := ⟨S11.next, S11.obs, S11.next⟩) (v := .rsl (S9.next + 1 + i) 0 o.length none) (q := S9.next + 1 + i) ⟨⟨none, rfl, .inl rfl⟩, a1⟩) (.inl ⟨⟨hvo'.2.1, hvo'.2.2⟩, hvo'.2.1, hvo'.2.2⟩)
                simp only [decide_true] at c12
                repeat' (first | refine Wp.seq ?_ | refine Wp.block ?_ | (apply Wp.region; focus ((try simp [e4, e12, e18, e19, hlt, hi, ldr, c11, hwi, hls, hlsI, ldq, c12]) <;> rfl)) | (refine Wp.cond_t ?_ ?_; focus (simp [e4, e12, e18, e19, hlt, hi, ldr, c11, hwi, hls, hlsI, ldq, c12]; done)) | (refine Wp.cond_f ?_ ?_; focus (simp [e4, e12, e18, e19, hlt, hi, ldr, c11, hwi, hls, hlsI, ldq, c12]; done)) | refine Wp.skip ?_ | refine Wp.ret ?_ | refine Wp.exit ?_ | refine Blk.here ?_ | (refine Blk.past ?_ ?_; focus (simp; done)))
                exact ⟨by simp [e4], by simp [e12], by simp [e18], by simp [hwi], w11, fun k x h => k11 k x (kU k x h)⟩
            · rintro f ⟨tm, U⟩ ⟨e4, e12, e18, e19, wU, kU⟩
              simp only at e4 e12 e18 e19 wU kU
              have hnr : ¬ (rs.length : Int) < rs.length := by omega
              repeat' (first | refine Wp.seq ?_ | refine Wp.block ?_ | (apply Wp.region; focus ((try simp [e4, e12, e18, e19, hnr]) <;> rfl)) | (refine Wp.cond_t ?_ ?_; focus (simp [e4, e12, e18, e19, hnr]; done)) | (refine Wp.cond_f ?_ ?_; focus (simp [e4, e12, e18, e19, hnr]; done)) | refine Wp.skip ?_ | refine Wp.ret ?_ | refine Wp.exit ?_ | refine Blk.here ?_ | (refine Blk.past ?_ ?_; focus (simp; done)))
              exact ⟨rfl, answer_trim1 (v := .bool true) (by simp [e12]) rfl⟩
end Go.Proofs.Ytobdnpnohaonkaa.Rq

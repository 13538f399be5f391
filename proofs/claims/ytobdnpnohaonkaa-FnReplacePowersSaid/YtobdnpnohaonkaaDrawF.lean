import Derived.Test.YtobdnpnohaonkaaRows
import Derived.Test.YtobdnpnohaonkaaSym
import Derived.Test.YtobdnpnohaonkaaSymD
import Derived.Test.YtobdnpnohaonkaaSymE
import Derived.Test.YtobdnpnohaonkaaSymF
import Derived.Test.YtobdnpnohaonkaaIds
import Derived.Test.YtobdnpnohaonkaaNp
import Derived.Test.YtobdnpnohaonkaaSeq
import Derived.Test.YtobdnpnohaonkaaSeqG
import Derived.Test.YtobdnpnohaonkaaTel
import Derived.Test.YtobdnpnohaonkaaTelC
import Derived.Test.YtobdnpnohaonkaaTelD
import Derived.Test.YtobdnpnohaonkaaDraw
import Derived.Test.YtobdnpnohaonkaaDrawC
import Derived.Test.YtobdnpnohaonkaaDrawD
import Derived.Test.YtobdnpnohaonkaaDrawE
import Derived.WalkKit
import Derived.ProofKit
import Derived.OpenShut
namespace Go.Proofs.Ytobdnpnohaonkaa.Draw
open Go.ChangeShapes Go.WideShapes Go.ChangeAt Go.RowKit Go.Sx Go.Proofs.Ytobdnpnohaonkaa.Ids Go.Proofs.Ytobdnpnohaonkaa.Seq Go.Proofs.Ytobdnpnohaonkaa.Tel
set_option linter.unusedVariables false
set_option linter.unusedSimpArgs false

theorem litSS (sto : Sto Sy) : abuildSlice (symNum []) (tiOf Try.prog) sto 24 0 [] = some (.rsl sto.next 0 0 (some 0), sto.new []) := by kernel_rfl
theorem litRw (sto : Sto Sy) (a l : Nat) (c : Option Nat) : abuildSlice (symNum []) (tiOf Try.prog) sto 24 1 [(0, .rsl a 0 l c)] = some (.rsl sto.next 0 1 (some 1), sto.new [.rsl a 0 l c]) := by
  show _ = some (V.rsl sto.next 0 1 (some 1), sto.new [V.rsl a 0 l c])
  simp [abuildSlice, tiSS, tiS, ofV, V.oneCell, afill, V.cells, setRange]
theorem lit121 (sto : Sto Sy) : abuildSlice (symNum []) (tiOf Try.prog) sto 23 3 [(0, .int .i64 (.c 1)), (1, .int .i64 (.c 2)), (2, .int .i64 (.c (-1)))] = some (.rsl sto.next 0 3 (some 3), sto.new (ints (nums [1, 2, -1]))) := by kernel_rfl
theorem isR_nil (S : Sto Sy) (hS : Go.Sx.look (S.new []).obs S.next = some []) : IsR (S.new []).obs S.next [] (.rsl S.next 0 0 (some 0)) := ⟨⟨some 0, rfl, .inr rfl⟩, hS, by simp, by simp⟩
theorem look_new0 (S : Sto Sy) : Go.Sx.look (S.new []).obs S.next = some [] := by
  show Go.Sx.look ((S.next, noBc []) :: S.obs) S.next = _
  rw [look_cons, if_pos rfl]; rfl
theorem max2 (n : Nat) : aminmaxL (symNum []) true [.int .i64 (.c n), .int .i64 (.c 2)] = some (.int .i64 (.c ((max n 2 : Nat) : Int))) := by
  by_cases h : n < 2
  · have h1 : (n : Int) < 2 := by omega
    have e : max n 2 = 2 := by omega
    simp [aminmaxL, aminmax, sym_gtr, h1, e]
  · have h1 : ¬ (n : Int) < 2 := by omega
    have e : max n 2 = n := by omega
    simp [aminmaxL, aminmax, sym_gtr, h1, e]
theorem K0_vp (args : List (V Sy)) (sto : Sto Sy) : K0 56 args sto = telK 56 dPair (fun p _ => .bool (vpB p.1 p.2)) (fun _ _ => []) 56 args sto := by
  rw [K0_at]
  unfold KD
  show orK vpK _ _ _ _ = vpK _ _ _
  cases h : vpK 56 args sto with
  | some r => exact orK_yes h
  | none =>
    rw [orK_no h]
    unfold arrK facK uniK
    rw [orK_no (telK_no (by decide) _ _), orK_no (telK_no (by decide) _ _), telK_no (by decide) _ _]
theorem K0_arr (args : List (V Sy)) (sto : Sto Sy) : K0 57 args sto = telK 57 dPair (fun p => rowsR (arrF p)) (fun p => rowsO (arrF p)) 57 args sto := by
  rw [K0_at]
  unfold KD vpK
  rw [orK_no (telK_no (by decide) _ _)]
  show orK arrK _ _ _ _ = arrK _ _ _
  cases h : arrK 57 args sto with
  | some r => exact orK_yes h
  | none =>
    rw [orK_no h]
    unfold facK uniK
    rw [orK_no (telK_no (by decide) _ _), telK_no (by decide) _ _]
theorem K0_fac (args : List (V Sy)) (sto : Sto Sy) : K0 53 args sto = telK 53 (dLen 1) (fun n => rowsR (facF n)) (fun n => rowsO (facF n)) 53 args sto := by
  rw [K0_at]
  unfold KD vpK arrK
  rw [orK_no (telK_no (by decide) _ _), orK_no (telK_no (by decide) _ _)]
  show orK facK _ _ _ _ = facK _ _ _
  cases h : facK 53 args sto with
  | some r => exact orK_yes h
  | none =>
    rw [orK_no h]
    unfold uniK
    rw [telK_no (by decide) _ _]
theorem K0_uni (args : List (V Sy)) (sto : Sto Sy) : K0 55 args sto = telK 55 (dLen 2) (fun n => unR (uniF n)) (fun n => unO (uniF n)) 55 args sto := by
  rw [K0_at]
  unfold KD vpK arrK facK
  rw [orK_no (telK_no (by decide) _ _), orK_no (telK_no (by decide) _ _), orK_no (telK_no (by decide) _ _)]
  rfl
theorem fieldP (q1 q2 l1 l2 : Nat) (c1 c2 : Option Nat) : afield (I := Sy) (tiOf Try.prog) 31 (.agg [.rsl q1 0 l1 c1, .rsl q2 0 l2 c2]) 0 = some (.rsl q1 0 l1 c1) := by kernel_rfl
attribute [local simp] aops wants aop apure St.eval setTm_some setTm_none Tr.get_set evals pevals apureB alen tiS tiI tiB tiY tiU tiSs tiSr tiSS abin aint isCmp sym_lt sym_eqs sym_neqs sym_eq sym_neq sym_gtr sym_leq sym_geq sym_add sym_sub sym_mul aeff aeffB idx? ofV aindexAddr aggDesc aifc_int fldP0 fldP1
set_option maxRecDepth 10000 in
theorem sequenceOf (bs : List Int) (hbs : ∀ b, b ∈ bs → 0 ≤ b ∧ b < 256) {o : Nat} {P : Int} {S : Sto Sy} (h : Rdy bs o P S) (hP : P ≤ 400000) (n : Nat) (hn0 : 1 ≤ n) (hn : n ≤ 6) (f : Nat) (hf : 80 ≤ f) :
    ∃ v S1, acallV (symIn Try.prog K0 [] f) S (.func 34 [] []) [.ptr o 0, .int .i64 (.c n)] = some (v, S1) ∧ Nw bs o (P + 3000) [] S S1 ∧ Rws S.next v S1.obs := by
  obtain ⟨g, rfl⟩ : ∃ g, f = g + 1 := ⟨f - 1, by omega⟩
  refine run_call (Φ := fun v obs => Rws S.next v obs) (own_run2 hK0 Try.func34 rfl rfl ?_)
  simp only [Try.f34]
  have h0 := h.lows S.next
  have hlt := h.lt
  have hN : (⟨S.next, S.obs, S.next⟩ : Sto Sy).next = S.next := rfl
  generalize (⟨S.next, S.obs, S.next⟩ : Sto Sy) = S0 at h0 hN ⊢
  obtain ⟨x, S1, hc, hn1, hx1, hx2⟩ := pickC bs hbs (h0.new []) (by omega) 4 (by omega) g (by omega)
  have t1 := hn1.ahead h0.desc (ex := []) (by simp)
  have i1 : IsR S1.obs S0.next [] (.rsl S0.next 0 0 (some 0)) := (isR_nil S0 (look_new0 S0)).keep hn1 (by have := h0.lt; omega) (by simp)
  by_cases hx0 : x = 0
  · subst hx0
    repeat' (first | refine Wp.seq ?_ | refine Wp.block ?_ | (apply Wp.region; focus ((try simp [setArgs, litSS, hc]) <;> rfl)) | (refine Wp.cond_t ?_ ?_; focus (simp [setArgs, litSS, hc]; done)) | (refine Wp.cond_f ?_ ?_; focus (simp [setArgs, litSS, hc]; done)) | refine Wp.skip ?_ | refine Wp.ret ?_ | refine Wp.exit ?_ | refine Blk.here ?_ | (refine Blk.past ?_ ?_; focus (simp; done)))
    refine Wp.loopF rfl rfl (fun i st => st.tm.get .any 0 = .ptr o 0 ∧ st.tm.get .any 1 = .int .i64 (.c n) ∧ st.tm.get .any 6 = .int .i64 (.c i) ∧ ∃ q rs, S0.next ≤ q ∧ IsR st.sto.obs q rs (st.tm.get .any 5) ∧ rs.length = i ∧ (∀ r, r ∈ rs → S0.next ≤ r.1 ∧ r.2.1.length = n) ∧ Nw bs o (P + 1 + 200 * i) [] S0 st.sto) n 20 (by omega) ?_ ?_ ?_
    · exact ⟨by simp, by simp, by simp, S0.next, [], Nat.le_refl _, by simpa using i1, rfl, by simp, t1.more (by omega)⟩
    · rintro k i ⟨tm, T⟩ hk hi ⟨e0, e1, e6, q, rs, hq, hz, hzl, hzb, hT⟩
      simp only at e0 e1 e6 hz hT
      have hilt : (i : Int) < n := by omega
      have hqo : q ≠ o := by have := h0.lt; omega
      have hro : ∀ r, r ∈ rs → r.1 ≠ o := fun r hr => by have := (hzb r hr).1; have := h0.lt; omega
      obtain ⟨vp, T1, hc1, hn1, qp, zp, hqp, hzp, hl1, hl2, hbp⟩ := polyOf bs hbs hT.rd (by omega) n (by omega) (by omega) g (by omega)
      have tt1 := hT.trans h0.desc hn1 (by simp)
      have z1 := hz.keep hn1 hqo hro
      obtain ⟨cq, hv, hcq⟩ := hz.val
      obtain ⟨cp, rfl, hcp⟩ := hzp.val
      have hqT := hT.rd.desc.look_lt hz.obj
      have hrT : ∀ r, r ∈ rs → r.1 < T.next := fun r hr => hT.rd.desc.look_lt (hz.row r hr).obj
      have hTn := hT.next
      have hwi := wrap_in (a := (i : Int) + 1) (by omega) (by omega)
      have hqpo : qp ≠ o := by have := h0.lt; omega
      have hzl' : zp.length = n := by omega
      rw [hzl'] at hzp hc1 hcp
      have hqpq : qp ≠ q := by omega
      repeat' (first | refine Wp.seq ?_ | refine Wp.block ?_ | (apply Wp.region; focus ((try simp [e0, e1, e6, hv, hilt, hc1, hwi]) <;> rfl)) | (refine Wp.cond_t ?_ ?_; focus (simp [e0, e1, e6, hv, hilt, hc1, hwi]; done)) | (refine Wp.cond_f ?_ ?_; focus (simp [e0, e1, e6, hv, hilt, hc1, hwi]; done)) | refine Wp.skip ?_ | refine Wp.ret ?_ | refine Wp.exit ?_ | refine Blk.here ?_ | (refine Blk.past ?_ ?_; focus (simp; done)))
      refine Wp.loopF rfl rfl (fun j st => st.tm.get .any 0 = .ptr o 0 ∧ st.tm.get .any 1 = .int .i64 (.c n) ∧ st.tm.get .any 6 = .int .i64 (.c i) ∧ st.tm.get .any 5 = .rsl q 0 rs.length cq ∧ st.tm.get .any 7 = .rsl qp 0 n cp ∧ st.tm.get .any 8 = .int .i64 (.c ((i + 1 + j : Nat) : Int)) ∧ ∃ zs : List Int, zs.length = n ∧ IsL st.sto.obs qp zs (.rsl qp 0 n cp) ∧ IsR st.sto.obs q rs (.rsl q 0 rs.length cq) ∧ T.next ≤ st.sto.next ∧ Nw bs o (P + 1 + 200 * i + 100) [] S0 st.sto) (n - (i + 1)) 4 (by omega) ?_ ?_ ?_
      · exact ⟨by simp [e0], by simp [e1], by simp [e6], by simp [hv], by simp, by simp, zp, hzl', hzp, by rw [← hv]; exact z1, hn1.next, tt1.more (by omega)⟩
      · rintro k2 j ⟨tm2, U⟩ hk2 hj ⟨a0, a1, a6, a5, a7, a8, zs, b1, b2, b3, b4, b5⟩
        simp only at a0 a1 a6 a5 a7 a8 b2 b3 b4 b5
        obtain ⟨J, hJ⟩ : ∃ J, i + 1 + j = J := ⟨_, rfl⟩
        rw [hJ] at a8
        have hjlt : (J : Int) < n := by omega
        have hjl : J < n := by omega
        have hwj := wrap_in (a := (J : Int) + 1) (by omega) (by omega)
        have st := store_ok tiI b2 (i := J) (x := 0) (by omega)
        have w2 := b2.wrote J 0
        have w3 := b3.wrote (k := qp) (Ne.symm hqpq) (fun r hr e => by have := hrT r hr; omega) (ints (nums (zs.set J 0)))
        have w5 := b5.wrote h0.desc hqpo (.inr (by omega)) (ints (nums (zs.set J 0)))
        repeat' (first | refine Wp.seq ?_ | refine Wp.block ?_ | (apply Wp.region; focus ((try simp [a0, a1, a6, a5, a7, a8, hjlt, hjl, hwj, st]) <;> rfl)) | (refine Wp.cond_t ?_ ?_; focus (simp [a0, a1, a6, a5, a7, a8, hjlt, hjl, hwj, st]; done)) | (refine Wp.cond_f ?_ ?_; focus (simp [a0, a1, a6, a5, a7, a8, hjlt, hjl, hwj, st]; done)) | refine Wp.skip ?_ | refine Wp.ret ?_ | refine Wp.exit ?_ | refine Blk.here ?_ | (refine Blk.past ?_ ?_; focus (simp; done)))
        exact ⟨by simp [a0], by simp [a1], by simp [a6], by simp [a5], by simp [a7], by simp; omega, _, by simp [b1], ⟨⟨cp, by rw [List.length_set, b1], by rw [List.length_set, b1]; exact hcp⟩, w2.obj⟩, w3, b4, w5⟩
      · rintro k2 ⟨tm2, U⟩ hk2 ⟨a0, a1, a6, a5, a7, a8, zs, b1, b2, b3, b4, b5⟩
        simp only at a0 a1 a6 a5 a7 a8 b2 b3 b4 b5
        rw [show i + 1 + (n - (i + 1)) = n by omega] at a8
        have hjlt : ¬ (n : Int) < n := by omega
        obtain ⟨y, U1, hc2, hn2, hy⟩ := oneC bs hbs b5.rd (by omega) [1, 2, -1] 3 rfl (by omega) (by omega) g (by omega)
        have u1 := b5.trans h0.desc hn2 (by simp)
        have d1 := b2.keep hn2 hqpo (by simp)
        have d2 := b3.keep hn2 hqo hro
        have st := store_ok tiI d1 (i := i) (x := y) (by omega)
        have w2 := d1.wrote i y
        have w3 := d2.wrote (k := qp) (Ne.symm hqpq) (fun r hr e => by have := hrT r hr; omega) (ints (nums (zs.set i y)))
        have w5 := u1.wrote h0.desc hqpo (.inr (by omega)) (ints (nums (zs.set i y)))
        have hsl : (zs.set i y).length = n := by rw [List.length_set, b1]
        have hn2n := hn2.next
        have er : rwV (qp, zs.set i y, cp) = .rsl qp 0 n cp := by simp only [rwV, hsl]
        have eU : (U1.write qp (ints (nums (zs.set i y)))).next = U1.next := rfl
        generalize U1.write qp (ints (nums (zs.set i y))) = U2 at st w2 w3 w5 eU
        obtain ⟨v', S', k1, k2, q', k3, k4⟩ := rowAppend w3 hqo hq h0.desc w5 (qp, zs.set i y, cp) (by rw [er]; exact ⟨⟨cp, by rw [hsl], by rw [hsl]; exact hcp⟩, w2.obj⟩) hqpq (fun hm => by
          obtain ⟨r, hr, e⟩ := List.mem_map.1 hm
          have := hrT r hr
          omega) (by omega)
        rw [er] at k1
        repeat' (first | refine Wp.seq ?_ | refine Wp.block ?_ | (apply Wp.region; focus ((try simp [a0, a1, a6, a5, a7, a8, hjlt, lit121, hc2, hi, st, litRw, k1, hwi]) <;> rfl)) | (refine Wp.cond_t ?_ ?_; focus (simp [a0, a1, a6, a5, a7, a8, hjlt, lit121, hc2, hi, st, litRw, k1, hwi]; done)) | (refine Wp.cond_f ?_ ?_; focus (simp [a0, a1, a6, a5, a7, a8, hjlt, lit121, hc2, hi, st, litRw, k1, hwi]; done)) | refine Wp.skip ?_ | refine Wp.ret ?_ | refine Wp.exit ?_ | refine Blk.here ?_ | (refine Blk.past ?_ ?_; focus (simp; done)))
        exact ⟨by simp [a0], by simp [a1], by simp, q', _, by have := hT.next; omega, by simpa using k4, by simp [hzl], fun r hr => (List.mem_append.1 hr).elim (hzb r) (fun h => by simp at h; subst h; exact ⟨by omega, hsl⟩), k2.more (by omega)⟩
    · rintro k ⟨tm, T⟩ hk ⟨e0, e1, e6, q, rs, hq, hz, hzl, hzb, hT⟩
      simp only at e0 e1 e6 hz hT
      have hilt : ¬ (n : Int) < n := by omega
      obtain ⟨cq, hv, hcq⟩ := hz.val
      repeat' (first | refine Wp.seq ?_ | refine Wp.block ?_ | (apply Wp.region; focus ((try simp [e0, e1, e6, hv, hilt]) <;> rfl)) | (refine Wp.cond_t ?_ ?_; focus (simp [e0, e1, e6, hv, hilt]; done)) | (refine Wp.cond_f ?_ ?_; focus (simp [e0, e1, e6, hv, hilt]; done)) | refine Wp.skip ?_ | refine Wp.ret ?_ | refine Wp.exit ?_ | refine Blk.here ?_ | (refine Blk.past ?_ ?_; focus (simp; done)))
      refine ⟨rfl, answer_one (v := .rsl q 0 rs.length cq) (by simp) (hT.lowlt h0 hN) ⟨hT.more (by omega), q, rs, by omega, ?_, by omega, by omega, fun r hr => ⟨by have := (hzb r hr).1; omega, by rw [hzl]; exact (hzb r hr).2⟩⟩⟩
      show IsR T.obs q rs (.rsl q 0 rs.length cq)
      rw [← hv]; exact hz
  have facs : ∀ (T : Sto Sy), Nw bs o (P + 2900) [] S0 T → ∃ v S1, acallV (symIn Try.prog K0 [] g) T (.func 53 [] []) [.int .i64 (.c n)] = some (v, S1) ∧ Nw bs o (P + 3000) [] S0 S1 ∧ Rws S.next v S1.obs ∧ v.oneCell = true := by
    intro T hT
    obtain ⟨S2, k1, k2, k3, k4, k5⟩ := telCall (args := [.int .i64 (.c n)]) hT.rd hT.low K0_fac (dLen_eq (by omega) hn) g (by omega)
    have hTn := hT.next
    obtain ⟨l1, l2⟩ := facF_len hn0 hn
    refine ⟨_, S2, k1, (hT.trans h0.desc k2 (by simp)).more (by omega), ⟨T.next, rwsN (T.next + 1) (facF n), by omega, isR_tel k4, by rw [rwsN_len]; omega, by rw [rwsN_len]; omega, fun r hr => ?_⟩, rfl⟩
    obtain ⟨i, j1, j2, _⟩ := rwsN_mem _ _ _ hr
    exact ⟨by omega, by rw [rwsN_len, l1]; exact l2 _ (List.mem_of_getElem? j1)⟩
  by_cases hx1' : x = 1
  · subst hx1'
    obtain ⟨v, T, hc3, hT, hR, hone⟩ := facs S1 (t1.more (by omega))
    repeat' (first | refine Wp.seq ?_ | refine Wp.block ?_ | (apply Wp.region; focus ((try simp [setArgs, litSS, hc, hc3]) <;> rfl)) | (refine Wp.cond_t ?_ ?_; focus (simp [setArgs, litSS, hc, hc3]; done)) | (refine Wp.cond_f ?_ ?_; focus (simp [setArgs, litSS, hc, hc3]; done)) | refine Wp.skip ?_ | refine Wp.ret ?_ | refine Wp.exit ?_ | refine Blk.here ?_ | (refine Blk.past ?_ ?_; focus (simp; done)))
    exact ⟨rfl, answer_one (v := v) (by simp) (hT.lowlt h0 hN) ⟨hT, hR⟩⟩
  have tail : ∀ (T : Sto Sy) (c q1 q2 : Nat) (z1 z2 : List Int) (w1 w2 : V Sy), Nw bs o (P + 2000) [] S0 T → Go.Sx.look T.obs c = some [w1, w2] → IsL T.obs q1 z1 w1 → IsL T.obs q2 z2 w2 → z1.length = max n 2 → z2.length = max n 2 → (∀ z, z ∈ z1 → IntKind.i64.wrap z = z) → (∀ z, z ∈ z2 → IntKind.i64.wrap z = z) →
      ∃ b U, acallV (symIn Try.prog K0 [] g) T (.func 56 [] []) [.agg [w1, w2]] = some (.bool b, U) ∧ Go.Sx.look U.obs c = some [w1, w2] ∧ Nw bs o (P + 2000) [] S0 U ∧ ∃ v V, acallV (symIn Try.prog K0 [] g) U (.func 57 [] []) [.agg [w1, w2]] = some (v, V) ∧ Nw bs o (P + 3000) [] S0 V ∧ Rws S.next v V.obs := by
    intro T c q1 q2 z1 z2 w1 w2 hT hc i1 i2 l1 l2 b1 b2
    have hp : PairL z1 z2 := ⟨by omega, by omega, by omega, b1, b2⟩
    obtain ⟨U, k1, k2, k3, k4, k5⟩ := telCall (args := [.agg [w1, w2]]) hT.rd hT.low K0_vp (dPair_eq (isL_consts (S := ⟨T.next, T.obs, T.next⟩) i1) (isL_consts (S := ⟨T.next, T.obs, T.next⟩) i2) hp) g (by omega)
    have j1 : IsL U.obs q1 z1 w1 := ⟨i1.val, k5 _ _ i1.obj⟩
    have j2 : IsL U.obs q2 z2 w2 := ⟨i2.val, k5 _ _ i2.obj⟩
    have hU := hT.trans h0.desc k2 (by simp)
    obtain ⟨V, m1, m2, m3, m4, m5⟩ := telCall (args := [.agg [w1, w2]]) hU.rd hU.low K0_arr (dPair_eq (isL_consts (S := ⟨U.next, U.obs, U.next⟩) j1) (isL_consts (S := ⟨U.next, U.obs, U.next⟩) j2) hp) g (by omega)
    have hUn := hU.next
    obtain ⟨a1, a2⟩ := arrF_len (p := (z1, z2)) hp
    refine ⟨_, U, k1, k5 _ _ hc, hU, _, V, m1, (hU.trans h0.desc m2 (by simp)).more (by omega), U.next, rwsN (U.next + 1) (arrF (z1, z2)), by omega, isR_tel m4, by rw [rwsN_len, a1]; simp only; omega, by rw [rwsN_len, a1]; simp only; omega, fun r hr => ?_⟩
    obtain ⟨i, e1, e2, _⟩ := rwsN_mem _ _ _ hr
    exact ⟨by omega, by rw [rwsN_len, a1]; exact a2 _ (List.mem_of_getElem? e1)⟩
  obtain ⟨_, T2, hc2, hn2, v1, v2, rfl, q1, q2, z1, z2, a1, a2, a3, a4, a5, a6, a7, a8, a9⟩ := pairOf bs hbs t1.rd (by omega) (max n 2) (by omega) (by omega) g (by omega)
  have hT2 := t1.trans h0.desc hn2 (by simp)
  have e1 := hn1.next
  have e2 := hn2.next
  have hS0n : (S0.new []).next = S0.next + 1 := rfl
  have hco : T2.next ≠ o := by have := h0.lt; omega
  have st2 := storeP (S := T2.new [V.nil, V.nil]) (v := v1) (w := v2) (lookN T2 V.nil V.nil) (by obtain ⟨cp, rfl, _⟩ := a4.val; rfl) (by obtain ⟨cp, rfl, _⟩ := a5.val; rfl)
  have t3 := (hT2.behind [V.nil, V.nil]).wrote h0.desc hco (.inr (by omega)) [v1, v2]
  have m3 := lookW (a := v1) (b := v2) (lookN T2 V.nil V.nil)
  have b1 := hn2.rd.desc.look_lt a4.obj
  have b2 := hn2.rd.desc.look_lt a5.obj
  have j1 := islW (cs := [v1, v2]) (r := T2.next) (a4.new (n := 0) hn2.rd.desc [V.nil, V.nil]) (by omega)
  have j2 := islW (cs := [v1, v2]) (r := T2.next) (a5.new (n := 0) hn2.rd.desc [V.nil, V.nil]) (by omega)
  have e3 : ((T2.new [V.nil, V.nil]).write T2.next [v1, v2]).next = T2.next + 1 := rfl
  generalize (T2.new [V.nil, V.nil]).write T2.next [v1, v2] = T3 at t3 m3 st2 j1 j2 e3
  obtain ⟨y, T4, hc4, hn4, hy1, hy2⟩ := pickC bs hbs t3.rd (by omega) 2 (by omega) g (by omega)
  have t4 := t3.trans h0.desc hn4 (by simp)
  have m4 := hn4.keep _ _ hco (by simp) m3
  have i4 := j1.keep hn4 (by have := h0.lt; omega) (by simp)
  have i5 := j2.keep hn4 (by have := h0.lt; omega) (by simp)
  have e4 := hn4.next
  have hmx := max2 n
  have hxn : ¬ x = 0 ∧ ¬ x = 1 := ⟨hx0, hx1'⟩
  by_cases hy0 : y = 0
  · subst hy0
    obtain ⟨T5, hc5, hn5, e5, o5, k5⟩ := telCall (args := [.int .i64 (.c ((max n 2 : Nat) : Int))]) t4.rd t4.low K0_uni (dLen_eq (by omega) (by omega)) g (by omega)
    have t5 := t4.trans h0.desc hn5 (by simp)
    have m5 := k5 _ _ m4
    have i6 : IsL T5.obs q2 z2 v2 := ⟨i5.val, k5 _ _ i5.obj⟩
    have hu0 := o5 0 _ rfl
    have hul : (uniF (max n 2)).1.length = max n 2 := by simp [uniF, e0S]; omega
    have huw : ∀ z, z ∈ (uniF (max n 2)).1 → IntKind.i64.wrap z = z := fun z hz => by
      rw [show (uniF (max n 2)).1 = e0 (max n 2) from e0_den _ _] at hz
      rcases List.mem_cons.1 hz with rfl | hz
      · decide
      · rw [List.eq_of_mem_replicate hz]; decide
    simp only [unR] at hc5
    have iu : IsL T5.obs T4.next (uniF (max n 2)).1 (.rsl T4.next 0 (uniF (max n 2)).1.length none) := ⟨⟨none, rfl, .inl rfl⟩, hu0⟩
    have s6 := storeS0 (l := (uniF (max n 2)).1.length) (r := T4.next) (c := none) m5
    have t6 := t5.wrote h0.desc hco (.inr (by omega)) [.rsl T4.next 0 (uniF (max n 2)).1.length none, v2]
    have m6 := lookW (a := V.rsl T4.next 0 (uniF (max n 2)).1.length none) (b := v2) m5
    have iw := islW (cs := [.rsl T4.next 0 (uniF (max n 2)).1.length none, v2]) (r := T2.next) iu (by omega)
    have ix := islW (cs := [.rsl T4.next 0 (uniF (max n 2)).1.length none, v2]) (r := T2.next) i6 (by omega)
    generalize T5.write T2.next [.rsl T4.next 0 (uniF (max n 2)).1.length none, v2] = T6 at t6 m6 s6 iw ix
    generalize (uniF (max n 2)).1 = u0 at *
    generalize (uniF (max n 2)).2 = u1 at *
    obtain ⟨b, U, k1, k2, k3, v, W, w1, w2, w3⟩ := tail T6 T2.next T4.next q2 _ _ _ _ (t6.more (by omega)) m6 iw ix hul a7 huw a9
    cases b with
    | true =>
      repeat' (first | refine Wp.seq ?_ | refine Wp.block ?_ | (apply Wp.region; focus ((try simp [setArgs, litSS, hc, hxn.1, hxn.2, hmx, hc2, allocP, st2, hc4, hc5, fieldP, s6, loadP m6, k1, loadP k2, w1, aun]) <;> rfl)) | (refine Wp.cond_t ?_ ?_; focus (simp [setArgs, litSS, hc, hxn.1, hxn.2, hmx, hc2, allocP, st2, hc4, hc5, fieldP, s6, loadP m6, k1, loadP k2, w1, aun]; done)) | (refine Wp.cond_f ?_ ?_; focus (simp [setArgs, litSS, hc, hxn.1, hxn.2, hmx, hc2, allocP, st2, hc4, hc5, fieldP, s6, loadP m6, k1, loadP k2, w1, aun]; done)) | refine Wp.skip ?_ | refine Wp.ret ?_ | refine Wp.exit ?_ | refine Blk.here ?_ | (refine Blk.past ?_ ?_; focus (simp; done)))
      exact ⟨rfl, answer_one (v := v) (by simp) (w2.lowlt h0 hN) ⟨w2, w3⟩⟩
    | false =>
      obtain ⟨v', T', hc3, hT', hR, hone⟩ := facs U (k3.more (by omega))
      repeat' (first | refine Wp.seq ?_ | refine Wp.block ?_ | (apply Wp.region; focus ((try simp [setArgs, litSS, hc, hxn.1, hxn.2, hmx, hc2, allocP, st2, hc4, hc5, fieldP, s6, loadP m6, k1, hc3, aun]) <;> rfl)) | (refine Wp.cond_t ?_ ?_; focus (simp [setArgs, litSS, hc, hxn.1, hxn.2, hmx, hc2, allocP, st2, hc4, hc5, fieldP, s6, loadP m6, k1, hc3, aun]; done)) | (refine Wp.cond_f ?_ ?_; focus (simp [setArgs, litSS, hc, hxn.1, hxn.2, hmx, hc2, allocP, st2, hc4, hc5, fieldP, s6, loadP m6, k1, hc3, aun]; done)) | refine Wp.skip ?_ | refine Wp.ret ?_ | refine Wp.exit ?_ | refine Blk.here ?_ | (refine Blk.past ?_ ?_; focus (simp; done)))
      exact ⟨rfl, answer_one (v := v') (by simp) (hT'.lowlt h0 hN) ⟨hT', hR⟩⟩
  · obtain ⟨b, U, k1, k2, k3, v, W, w1, w2, w3⟩ := tail T4 T2.next q1 q2 _ _ _ _ (t4.more (by omega)) m4 i4 i5 a6 a7 a8 a9
    cases b with
    | true =>
      repeat' (first | refine Wp.seq ?_ | refine Wp.block ?_ | (apply Wp.region; focus ((try simp [setArgs, litSS, hc, hxn.1, hxn.2, hmx, hc2, allocP, st2, hc4, hy0, loadP m4, k1, loadP k2, w1, aun]) <;> rfl)) | (refine Wp.cond_t ?_ ?_; focus (simp [setArgs, litSS, hc, hxn.1, hxn.2, hmx, hc2, allocP, st2, hc4, hy0, loadP m4, k1, loadP k2, w1, aun]; done)) | (refine Wp.cond_f ?_ ?_; focus (simp [setArgs, litSS, hc, hxn.1, hxn.2, hmx, hc2, allocP, st2, hc4, hy0, loadP m4, k1, loadP k2, w1, aun]; done)) | refine Wp.skip ?_ | refine Wp.ret ?_ | refine Wp.exit ?_ | refine Blk.here ?_ | (refine Blk.past ?_ ?_; focus (simp; done)))
      exact ⟨rfl, answer_one (v := v) (by simp) (w2.lowlt h0 hN) ⟨w2, w3⟩⟩
    | false =>
      obtain ⟨v', T', hc3, hT', hR, hone⟩ := facs U (k3.more (by omega))
      repeat' (first | refine Wp.seq ?_ | refine Wp.block ?_ | (apply Wp.region; focus ((try simp [setArgs, litSS, hc, hxn.1, hxn.2, hmx, hc2, allocP, st2, hc4, hy0, loadP m4, k1, hc3, aun]) <;> rfl)) | (refine Wp.cond_t ?_ ?_; focus (simp [setArgs, litSS, hc, hxn.1, hxn.2, hmx, hc2, allocP, st2, hc4, hy0, loadP m4, k1, hc3, aun]; done)) | (refine Wp.cond_f ?_ ?_; focus (simp [setArgs, litSS, hc, hxn.1, hxn.2, hmx, hc2, allocP, st2, hc4, hy0, loadP m4, k1, hc3, aun]; done)) | refine Wp.skip ?_ | refine Wp.ret ?_ | refine Wp.exit ?_ | refine Blk.here ?_ | (refine Blk.past ?_ ?_; focus (simp; done)))
      exact ⟨rfl, answer_one (v := v') (by simp) (hT'.lowlt h0 hN) ⟨hT', hR⟩⟩
end Go.Proofs.Ytobdnpnohaonkaa.Draw

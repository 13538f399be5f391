/-
  What the functions that draw read from bytes, by runs by hand. No condition.
-/
import Derived.Test.YtgaodlhdilhliaaGreatDoorRows
import Derived.Test.YtgaodlhdilhliaaGreatDoorSym
import Derived.Test.YtgaodlhdilhliaaGreatDoorIds
import Derived.WalkKit
import Derived.ProofKit
import Derived.OpenShut
namespace Go.Proofs.YtgaodlhdilhliaaGreatDoor.Draw
open Go.ChangeShapes Go.WideShapes Go.ChangeAt Go.RowKit Go.Sx Go.Proofs.YtgaodlhdilhliaaGreatDoor.Ids
set_option linter.unusedVariables false
set_option linter.unusedSimpArgs false

/-- What is known of functions. -/
noncomputable def K0 : Ctr := noK
theorem K0_ok : ∀ (ρ : Nat → Int) (s : Sms) (B : Nat), COk Tryz.prog ⟨Sy.den ρ, s⟩ B K0 := fun _ _ _ => noK_ok
theorem hK0 {k : FuncId} {args : List (V Sy)} {sto : Sto Sy} : K0 k args sto = none := rfl

theorem tiY : tiOf Tryz.prog 22 = some ⟨.slice 5, 1, 24, .slice none 0 0, true⟩ := by kernel_rfl
theorem tiU : tiOf Tryz.prog 5 = some ⟨.int .u8, 1, 1, .int .u8 0, true⟩ := by kernel_rfl
theorem fa0 (o off : Nat) : afieldAddr (I := Sy) (tiOf Tryz.prog) 52 (.ptr o off) 0 = some (.ptr o off) := by kernel_rfl
theorem fa1 (o off : Nat) : afieldAddr (I := Sy) (tiOf Tryz.prog) 52 (.ptr o off) 1 = some (.ptr o (off + 1)) := by kernel_rfl
theorem cvU (b : Int) (h : 0 ≤ b ∧ b < 256) : aconv (symNum []) (tiOf Tryz.prog) 5 3 (.int .u8 (.c b)) = some (.int .i64 (.c b)) := by
  have h1 : aconv (symNum []) (tiOf Tryz.prog) 5 3 (.int .u8 (.c b)) = some (.int .i64 (.c (IntKind.i64.wrap b))) := by
    simp only [aconv, tiI, tiU]; rfl
  rw [h1, wrap_in (by omega) (by omega)]

attribute [local simp] aops wants aop apure St.eval setTm_some setTm_none Tr.get_set aload evals apureB alen tiS tiI tiB tiY tiU fa0 fa1 abin aint isCmp sym_lt sym_eqs sym_neqs sym_eq sym_neq sym_gtr sym_leq sym_geq sym_add sym_sub sym_mul aeff idx? ofV aindexAddr astore look_cons aggDesc Sto.write u8s_length acallV_func symIn_run aifc_int

set_option maxRecDepth 10000 in
theorem pick (bs : List Int) (hbs : ∀ b, b ∈ bs → 0 ≤ b ∧ b < 256) (o : Nat) (p n : Int) (sto : Sto Sy) (h : Rd bs o p sto) (hp : p ≤ 1000000) (hn : 1 ≤ n) (m : Nat) :
    ∃ r, symRun Tryz.prog K0 [] (m + 1) 15 [.ptr o 0, .int .i64 (.c n)] sto = some r ∧ ∃ x sto', r = (.int .i64 (.c x), sto') ∧ 0 ≤ x ∧ x < n ∧ Nx bs o p (p + 1) sto sto' := by
  refine own_run2 hK0 Tryz.func15 rfl rfl ?_
  simp only [Tryz.f15]
  have h0 := h.obj
  have hp0 := h.p0
  have hlt := h.lt
  have hw := wrap_in (a := p + 1) (by omega) (by omega)
  have hwp := wrap_in (a := p) (by omega) (by omega)
  have hn1 : ¬ n < 1 := by omega
  have hlow : (if o < sto.low then o else sto.low) < sto.next := by split <;> omega
  by_cases hb : bs = []
  · subst hb
    repeat' (first | refine Wp.seq ?_ | refine Wp.block ?_ | (apply Wp.region; focus ((try simp [setArgs, h0, hw, hn1, look_put_self h0]) <;> rfl)) | (refine Wp.cond_t ?_ ?_; focus (simp [setArgs, h0, hw, hn1, look_put_self h0]; done)) | (refine Wp.cond_f ?_ ?_; focus (simp [setArgs, h0, hw, hn1, look_put_self h0]; done)) | refine Wp.skip ?_ | refine Wp.ret ?_ | refine Wp.exit ?_ | refine Blk.here ?_ | (refine Blk.past ?_ ?_; focus (simp; done)))
    refine ⟨rfl, (.int .i64 (.c 0), _), ?_, 0, _, rfl, by omega, by omega, h.picked⟩
    simp [answer, aresults, aresult]
    exact trim_low hlow
  have hl1 : ¬ (bs.length : Int) = 0 := by
    intro e; exact hb (List.eq_nil_of_length_eq_zero (by omega))
  have hl2 : bs.length ≠ 0 := by omega
  have hn0 : n ≠ 0 := by omega
  by_cases hk : p < bs.length
  · have hpl : p.toNat < bs.length := by omega
    have hb2 := hbs bs[p.toNat] (List.getElem_mem hpl)
    have hcv := cvU bs[p.toNat] hb2
    generalize hbb : bs[p.toNat] = b at hb2 hcv
    have ht := tmod_in hb2.1 hn
    repeat' (first | refine Wp.seq ?_ | refine Wp.block ?_ | (apply Wp.region; focus ((try simp [setArgs, h0, hw, hwp, hn1, look_put_self h0, hl1, hl2, hb, hk, hbb, hcv, hpl, sym_rem [] b n hn0, hp0]) <;> rfl)) | (refine Wp.cond_t ?_ ?_; focus (simp [setArgs, h0, hw, hwp, hn1, look_put_self h0, hl1, hl2, hb, hk, hbb, hcv, hpl, sym_rem [] b n hn0, hp0]; done)) | (refine Wp.cond_f ?_ ?_; focus (simp [setArgs, h0, hw, hwp, hn1, look_put_self h0, hl1, hl2, hb, hk, hbb, hcv, hpl, sym_rem [] b n hn0, hp0]; done)) | refine Wp.skip ?_ | refine Wp.ret ?_ | refine Wp.exit ?_ | refine Blk.here ?_ | (refine Blk.past ?_ ?_; focus (simp; done)))
    refine ⟨rfl, (.int .i64 (.c (b.tmod n)), _), ?_, _, _, rfl, ht.1, ht.2, h.picked⟩
    simp [answer, aresults, aresult]
    exact trim_low hlow
  · have hl3 : (1 : Int) ≤ bs.length := by omega
    have hl4 : (bs.length : Int) ≠ 0 := by omega
    have t1 := tmod_in (a := p) (n := bs.length) hp0 hl3
    have t2 := tmod_in (a := p * 7 + 3) (n := bs.length) (by omega) hl3
    have t3 := tdiv_in (a := p) (n := bs.length) hp0 hl3
    have e1 := sym_rem [] p bs.length hl4
    have e2 := sym_rem [] (p * 7 + 3) bs.length hl4
    have e3 := sym_quo [] p bs.length hl4
    have w1 := wrap_in (a := p * 7) (by omega) (by omega)
    have w2 := wrap_in (a := p * 7 + 3) (by omega) (by omega)
    have w3 := wrap_in (a := p.tdiv bs.length) (by omega) (by omega)
    generalize p.tmod bs.length = i1 at t1 e1
    generalize (p * 7 + 3).tmod bs.length = i2 at t2 e2
    generalize p.tdiv bs.length = i3 at t3 e3 w3
    have hi1 : i1.toNat < bs.length := by omega
    have hi2 : i2.toNat < bs.length := by omega
    have hb1 := hbs bs[i1.toNat] (List.getElem_mem hi1)
    have hb2 := hbs bs[i2.toNat] (List.getElem_mem hi2)
    have hcv1 := cvU bs[i1.toNat] hb1
    have hcv2 := cvU bs[i2.toNat] hb2
    generalize hbb1 : bs[i1.toNat] = b1 at hb1 hcv1
    generalize hbb2 : bs[i2.toNat] = b2 at hb2 hcv2
    have w4 := wrap_in (a := b1 * 131) (by omega) (by omega)
    have w5 := wrap_in (a := b2 * 1117) (by omega) (by omega)
    have w6 := wrap_in (a := b1 * 131 + b2 * 1117) (by omega) (by omega)
    have w7 := wrap_in (a := p * 29) (by omega) (by omega)
    have w8 := wrap_in (a := b1 * 131 + b2 * 1117 + p * 29) (by omega) (by omega)
    have w9 := wrap_in (a := i3 * 53) (by omega) (by omega)
    have w10 := wrap_in (a := b1 * 131 + b2 * 1117 + p * 29 + i3 * 53) (by omega) (by omega)
    have hx0 : 0 ≤ b1 * 131 + b2 * 1117 + p * 29 + i3 * 53 ∧ b1 * 131 + b2 * 1117 + p * 29 + i3 * 53 < 1000000000 := by omega
    have hk2 : ¬ p < (bs.length : Int) := hk
    have tt1 := t1.1
    have tt2 := t2.1
    generalize hxx : b1 * 131 + b2 * 1117 + p * 29 + i3 * 53 = x0 at w10 hx0
    have t5 := tdiv_in (a := x0) (n := 64) hx0.1 (by omega)
    have e5 := sym_quo [] x0 64 (by omega)
    have w11 := wrap_in (a := x0.tdiv 64) (by omega) (by omega)
    generalize x0.tdiv 64 = x1 at t5 e5 w11
    obtain ⟨y, hy, hy1, hy2⟩ := xor_in (a := x0) (b := x1) hx0.1 hx0.2 t5.1 (by omega)
    have exor : (symNum []).arith .xor .i64 (.c x0) (.c x1) = some (.c y) := by rw [sym_xor, hy]
    have ht := tmod_in hy1 hn
    have e6 := sym_rem [] y n hn0
    repeat' (first | refine Wp.seq ?_ | refine Wp.block ?_ | (apply Wp.region; focus ((try simp [setArgs, h0, hw, hwp, hn1, look_put_self h0, hl1, hl2, hb, hk2, e1, e2, e3, e5, e6, w1, w2, w3, w4, w5, w6, w7, w8, w9, w10, w11, hxx, hi1, hi2, hbb1, hbb2, hcv1, hcv2, tt1, tt2, exor]) <;> rfl)) | (refine Wp.cond_t ?_ ?_; focus (simp [setArgs, h0, hw, hwp, hn1, look_put_self h0, hl1, hl2, hb, hk2, e1, e2, e3, e5, e6, w1, w2, w3, w4, w5, w6, w7, w8, w9, w10, w11, hxx, hi1, hi2, hbb1, hbb2, hcv1, hcv2, tt1, tt2, exor]; done)) | (refine Wp.cond_f ?_ ?_; focus (simp [setArgs, h0, hw, hwp, hn1, look_put_self h0, hl1, hl2, hb, hk2, e1, e2, e3, e5, e6, w1, w2, w3, w4, w5, w6, w7, w8, w9, w10, w11, hxx, hi1, hi2, hbb1, hbb2, hcv1, hcv2, tt1, tt2, exor]; done)) | refine Wp.skip ?_ | refine Wp.ret ?_ | refine Wp.exit ?_ | refine Blk.here ?_ | (refine Blk.past ?_ ?_; focus (simp; done)))
    have htk := takeNew_id (h.desc.put o [.slice (u8s bs), .int .i64 (.c (p + 1))])
    (apply Wp.drawn2 44; (focus kernel_rfl); (focus kernel_rfl); (focus intro F; simp [dhead, seenBy, keepOnly, looks, joinN, addN, bite_eq, Op.operands, htk, Call.operands, setArgs, h0, hw, hwp, hn1, look_put_self h0, hl1, hl2, hb, hk2, e1, e2, e3, e5, e6, w1, w2, w3, w4, w5, w6, w7, w8, w9, w10, w11, hxx, hi1, hi2, hbb1, hbb2, hcv1, hcv2, tt1, tt2, exor]; exact ⟨rfl, rfl, rfl⟩); (focus (try simp [allN, htk, Call.operands, setArgs, h0, hw, hwp, hn1, look_put_self h0, hl1, hl2, hb, hk2, e1, e2, e3, e5, e6, w1, w2, w3, w4, w5, w6, w7, w8, w9, w10, w11, hxx, hi1, hi2, hbb1, hbb2, hcv1, hcv2, tt1, tt2, exor]) <;> rfl))
    repeat' (first | refine Wp.seq ?_ | refine Wp.block ?_ | (apply Wp.region; focus ((try simp [setArgs, h0, hw, hwp, hn1, look_put_self h0, hl1, hl2, hb, hk2, e1, e2, e3, e5, e6, w1, w2, w3, w4, w5, w6, w7, w8, w9, w10, w11, hxx, hi1, hi2, hbb1, hbb2, hcv1, hcv2, tt1, tt2, exor]) <;> rfl)) | (refine Wp.cond_t ?_ ?_; focus (simp [setArgs, h0, hw, hwp, hn1, look_put_self h0, hl1, hl2, hb, hk2, e1, e2, e3, e5, e6, w1, w2, w3, w4, w5, w6, w7, w8, w9, w10, w11, hxx, hi1, hi2, hbb1, hbb2, hcv1, hcv2, tt1, tt2, exor]; done)) | (refine Wp.cond_f ?_ ?_; focus (simp [setArgs, h0, hw, hwp, hn1, look_put_self h0, hl1, hl2, hb, hk2, e1, e2, e3, e5, e6, w1, w2, w3, w4, w5, w6, w7, w8, w9, w10, w11, hxx, hi1, hi2, hbb1, hbb2, hcv1, hcv2, tt1, tt2, exor]; done)) | refine Wp.skip ?_ | refine Wp.ret ?_ | refine Wp.exit ?_ | refine Blk.here ?_ | (refine Blk.past ?_ ?_; focus (simp; done)))
    refine ⟨rfl, (.int .i64 (.c (y.tmod n)), _), ?_, _, _, rfl, ht.1, ht.2, h.picked⟩
    simp [answer, aresults, aresult]
    exact trim_low hlow
end Go.Proofs.YtgaodlhdilhliaaGreatDoor.Draw

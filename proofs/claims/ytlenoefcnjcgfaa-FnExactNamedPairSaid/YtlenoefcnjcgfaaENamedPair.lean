/-
  For all arguments the law FnExactNamedPair returns true. No condition.
  How: a machine over the model, proved right, runs the law at each of the four names; for other names by hand.
-/
import Derived.Test.YtlenoefcnjcgfaaRows
import Derived.Test.YtlenoefcnjcgfaaSym
import Derived.Test.YtlenoefcnjcgfaaIds
import Derived.ChangeMaps5
import Derived.WalkKit
import Derived.ProofKit
import Derived.OpenShut
namespace Go.Proofs.Ytlenoefcnjcgfaa.ENamedPair
open Go.ChangeShapes Go.WideShapes Go.ChangeAt Go.RowKit Go.Sx Go.Proofs.Ytlenoefcnjcgfaa.Ids
set_option linter.unusedVariables false
set_option linter.unusedSimpArgs false

/-- A call that answers what names no memory. -/
theorem lift_flat {P : Program} {ρ ρ' : Nat → Int} {s : Sms} {k : FuncId} {pat : List (V Sy)} {R : V Sy} {S : Sto Sy} (hG : ∀ B', Go.Sx.Good P ⟨Sy.den ρ', s⟩ B' k pat ⟨0, [], 0⟩ R S)
    {B : Nat} {args : List (V Sy)} {sto : Sto Sy} {y : V Sy}
    (hargs : ∀ (c : Cx), SInv ⟨Sy.den ρ, s⟩ B c sto → ∀ vs, VRs ⟨Sy.den ρ, s⟩ B c args vs → VRs ⟨Sy.den ρ', s⟩ c.w.heap.size ⟨c.w, fun _ => none⟩ pat vs)
    (hy : ∀ (B' : Nat) (c' c'' : Cx) (v : Value), VR ⟨Sy.den ρ', s⟩ B' c' R v → VR ⟨Sy.den ρ, s⟩ B c'' y v) :
    Go.Sx.Good P ⟨Sy.den ρ, s⟩ B k args sto y sto := by
  intro c rargs hinv hra
  refine Calls.mono (hG c.w.heap.size ⟨c.w, fun _ => none⟩ rargs (inv0 _ c.w) (hargs c hinv _ hra)) ?_
  rintro ev w' ⟨rv, c', rfl, rfl, hst, hv⟩
  have hbe : Below c.w.heap.size c.w c'.w := hst.below
  let c'' : Cx := ⟨c'.w, c.κ⟩
  have hle : Cx.le B c c'' := ⟨fun b hb => hbe.block b (Nat.lt_of_lt_of_le hb hinv.base), fun _ _ h => h, hst.oth⟩
  refine ⟨rv, c'', rfl, rfl, ⟨⟨Nat.le_trans hinv.base hbe.size, hinv.fresh, fun o b n hk => ?_, fun o x hx => ?_, hinv.inj, hinv.desc⟩, fun _ _ h => h,
    hbe.mono hinv.base, Nat.le_refl _, Nat.le_refl _, fun b hb _ => hbe.block b hb, fun o b n hk hn hb => ?_, fun o x hk hn => ?_, hst.frz, hst.oth⟩, hy _ _ _ _ hv⟩
  · have := hinv.blk o b n hk
    exact ⟨this.1, Nat.lt_of_lt_of_le this.2 hbe.size⟩
  · obtain ⟨b, cur, el, e1, e2, e4⟩ := hinv.ob o x hx
    refine ⟨b, cur, el, e1, ?_, e4.mono hle⟩
    show c'.w.heap[b]? = _
    rw [hbe.block b (hinv.blk _ _ _ e1).2]; exact e2
  · rw [hn] at hk; cases hk
  · rw [hn] at hk; cases hk

def zeroP : V Sy := .tup [.agg [.nil, .nil], .bool false]
theorem zeroP_tell {Δ Δ' : Den Sy} {B B' : Nat} {c c' : Cx} {v : Value} (h : VR Δ B c zeroP v) : VR Δ' B' c' zeroP v := by
  unfold zeroP at h ⊢
  cases h with
  | tup hl he =>
    refine .tup hl (fun i x v hx hv => ?_)
    have := he i x v hx hv
    match i, hx with
    | 0, hx =>
      simp at hx; subst hx
      cases this with
      | agg gl ge =>
        refine .agg gl (fun j y u hy hu => ?_)
        have := ge j y u hy hu
        match j, hy with
        | 0, hy => simp at hy; subst hy; cases this; exact .nil
        | 1, hy => simp at hy; subst hy; cases this; exact .nil
        | j + 2, hy => simp at hy
    | 1, hx => simp at hx; subst hx; cases this; exact .bool _
    | i + 2, hx => simp at hx

/-- None of the four names. -/
def other (b : ByteArray) : Bool := !(b.toList == [112, 97, 115, 99, 97, 108]) && !(b.toList == [112, 97, 114, 116, 105, 116, 105, 111, 110, 115]) && !(b.toList == [99, 121, 99, 108, 101, 115]) && !(b.toList == [108, 105, 115, 116, 115])
theorem other_iff {b : ByteArray} (h : other b = true) : (b.toList == [112, 97, 115, 99, 97, 108]) = false ∧ (b.toList == [112, 97, 114, 116, 105, 116, 105, 111, 110, 115]) = false ∧ (b.toList == [99, 121, 99, 108, 101, 115]) = false ∧ (b.toList == [108, 105, 115, 116, 115]) = false := by
  simp only [other, Bool.and_eq_true, Bool.not_eq_true'] at h
  exact ⟨h.1.1.1, h.1.1.2, h.1.2, h.2⟩

theorem tiSr : tiOf Try.prog 9 = some ⟨.string, 1, 16, .string ⟨#[]⟩, true⟩ := by kernel_rfl
theorem alP (S : Sto Sy) : aalloc (symNum []) (tiOf Try.prog) S 25 = some (.ptr S.next 0, S.new [.nil, .nil]) := by kernel_rfl
theorem bldP : abuild (symNum []) (tiOf Try.prog) 25 [] = some (.agg [.nil, .nil]) := by kernel_rfl
theorem tiP : ∃ ti, tiOf Try.prog 25 = some ti ∧ aggDesc ti.desc = true ∧ ti.size = 2 := by
  have e : (tiOf Try.prog 25).map (fun ti => (aggDesc ti.desc, ti.size)) = some (true, 2) := by kernel_rfl
  cases h : tiOf Try.prog 25 with
  | none => rw [h] at e; cases e
  | some ti => rw [h] at e; simp at e; exact ⟨ti, rfl, e.1, e.2⟩
theorem noBc_two (a b : V Sy) : noBc [a, b] = [a, b] := by unfold noBc; split <;> simp_all
theorem isMp_two (a b : V Sy) : isMp [a, b] = false := by unfold isMp; split <;> simp_all
theorem loadP {S : Sto Sy} {q : Nat} {a b : V Sy} (h : Go.Sx.look S.obs q = some [a, b]) : aload (tiOf Try.prog) S 25 (.ptr q 0) = some (.agg [a, b]) := by
  obtain ⟨ti, h1, h2, h3⟩ := tiP
  simp [aload, h1, h2, h3, lookC, h, isMp_two]
theorem storeP {S : Sto Sy} {q : Nat} {a b : V Sy} (h : Go.Sx.look S.obs q = some [a, b]) : astore (tiOf Try.prog) S 25 (.ptr q 0) (.agg [.nil, .nil]) = some (S.write q [.nil, .nil]) := by
  obtain ⟨ti, h1, h2, h3⟩ := tiP
  simp [astore, h1, V.cells, lookC, h, isMp_two, h3, setRange, V.oneCell]

attribute [local simp] aops wants aop apure St.eval setTm_some setTm_none Tr.get_set evals pevals apureB alen tiS tiI tiB tiSr abin aint isCmp sym_lt sym_eqs sym_neqs sym_eq sym_neq sym_gtr sym_leq sym_geq sym_add aeff aeffB idx? ofV aindexAddr aggDesc aifc_int aun

section
variable {I : Type} {N : Num I} {T : TypeId → Option Ti} {C : FuncId → List (V I) → Sto I → Option (V I × Sto I)} {nt : Nat} {D : List Oper → St I → Option (St I)} {L : Code → St I → Option (AExit × St I)} {Qn : St I → Prop} {Qx : AExit → St I → Prop}
theorem wp_reg {c : Code} {st : St I} {β : Type} (f : St I → β) (v : β) (h : (match aexec N T C nt D L c st with | some (.normal, st') => some (f st') | _ => none) = some v) (hn : ∀ st', f st' = v → Qn st') : Wp N T C nt D L c st Qn Qx := by
  split at h
  · rename_i st' e
    exact ⟨⟨_, _, e, hn st' (Option.some.inj h)⟩⟩
  · cases h
theorem wp_assoc {a b c : Code} {st : St I} (h : Wp N T C nt D L ((a.seq b).seq c) st Qn Qx) : Wp N T C nt D L (a.seq (b.seq c)) st Qn Qx := by
  obtain ⟨e, st', h1, h2⟩ := h.run
  refine ⟨⟨e, st', ?_, h2⟩⟩
  simp only [aexec] at h1 ⊢
  cases ha : aexec N T C nt D L a st with
  | none => rw [ha] at h1; simp at h1
  | some p =>
    obtain ⟨x, s⟩ := p
    rw [ha] at h1
    cases x <;> first | exact h1 | (simp at h1 ⊢; exact h1)
end

set_option maxRecDepth 10000 in
theorem implOther {b : ByteArray} (hb : other b = true) (n : Int) : ∃ r, symRun Try.prog noK [] 100 23 [.str b, .int .i64 (.c n)] ⟨0, [], 0⟩ = some r ∧ r.1 = zeroP := by
  obtain ⟨h1, h2, h3, h4⟩ := other_iff hb
  refine own_run2 (n := 99) rfl Try.func23 rfl rfl ?_
  simp only [Try.f23]
  have a0 := alP (⟨0, [], 0⟩ : Sto Sy)
  refine Wp.seq ?_
  apply Wp.region
  focus ((try simp [setArgs, a0]) <;> rfl)
  refine Wp.seq ?_
  refine wp_reg (fun st => (st.tm.get .any 0, st.tm.get .any 4, st.tm.get .any 5, Go.Sx.look st.sto.obs 0)) (.str b, .ptr 0 0, .bool false, some [.nil, .nil]) (by kernel_rfl) (fun st hst => ?_)
  obtain ⟨tm, S⟩ := st
  simp only [Prod.mk.injEq] at hst
  obtain ⟨g0, g4, g5, gl⟩ := hst
  have st0 := storeP gl
  repeat' (first | refine Wp.seq ?_ | refine Wp.block ?_ | (apply Wp.region; focus ((try simp [g0, g4, g5, h1, h2, h3, h4, bldP, st0]) <;> rfl)) | (refine Wp.cond_t ?_ ?_; focus (simp [g0, g4, g5, h1, h2, h3, h4, bldP, st0]; done)) | (refine Wp.cond_f ?_ ?_; focus (simp [g0, g4, g5, h1, h2, h3, h4, bldP, st0]; done)) | refine Wp.skip ?_ | refine Wp.ret ?_ | refine Wp.exit ?_ | refine Blk.here ?_ | (refine Blk.past ?_ ?_; focus (simp; done)))
  have hl : Go.Sx.look (S.write 0 [V.nil, V.nil]).obs 0 = some [V.nil, V.nil] := by
    show Go.Sx.look (put S.obs 0 (noBc [V.nil, V.nil])) 0 = _
    rw [noBc_two]; exact look_put_self gl
  refine ⟨rfl, ?_⟩
  simp [answer, aresults, aresult, g4, loadP hl, zeroP]

set_option maxRecDepth 1000000 in
theorem specOut1 (b : ByteArray) : (match symRun Try.prog noK [⟨true, vx 0, .c 2, true⟩] 100 22 [.str b, .int .i64 (vx 0)] ⟨0, [], 0⟩ with | some r => some r.1 | none => none) = some zeroP := by kernel_rfl
set_option maxRecDepth 1000000 in
theorem specOut2 (b : ByteArray) : (match symRun Try.prog noK [⟨true, vx 0, .c 2, false⟩, ⟨true, .c 6, vx 0, true⟩] 100 22 [.str b, .int .i64 (vx 0)] ⟨0, [], 0⟩ with | some r => some r.1 | none => none) = some zeroP := by kernel_rfl

set_option maxRecDepth 10000 in
theorem specIn {b : ByteArray} (hb : other b = true) (n : Nat) (h2n : 2 ≤ n) (h6n : n ≤ 6) : ∃ r, symRun Try.prog noK [] 100 22 [.str b, .int .i64 (.c (n : Nat))] ⟨0, [], 0⟩ = some r ∧ r.1 = zeroP := by
  obtain ⟨h1, h2, h3, h4⟩ := other_iff hb
  refine own_run2 (n := 99) rfl Try.func22 rfl rfl ?_
  simp only [Try.f22]
  have a0 := alP (⟨0, [], 0⟩ : Sto Sy)
  refine Wp.seq ?_
  apply Wp.region
  focus ((try simp [setArgs, a0]) <;> rfl)
  refine wp_assoc ?_
  refine Wp.seq ?_
  have hn : n = 2 ∨ n = 3 ∨ n = 4 ∨ n = 5 ∨ n = 6 := by omega
  rcases hn with rfl | rfl | rfl | rfl | rfl
  · refine wp_reg (fun st => (st.tm.get .any 0, st.tm.get .any 4, Go.Sx.look st.sto.obs 0)) (.str b, .ptr 0 0, some [.nil, .nil]) (by kernel_rfl) (fun st hst => ?_)
    obtain ⟨tm, S⟩ := st
    simp only [Prod.mk.injEq] at hst
    obtain ⟨g0, g4, gl⟩ := hst
    have st0 := storeP gl
    repeat' (first | refine Wp.seq ?_ | refine Wp.block ?_ | (apply Wp.region; focus ((try simp [g0, g4, h1, h2, h3, h4, bldP, st0]) <;> rfl)) | (refine Wp.cond_t ?_ ?_; focus (simp [g0, g4, h1, h2, h3, h4, bldP, st0]; done)) | (refine Wp.cond_f ?_ ?_; focus (simp [g0, g4, h1, h2, h3, h4, bldP, st0]; done)) | refine Wp.skip ?_ | refine Wp.ret ?_ | refine Wp.exit ?_ | refine Blk.here ?_ | (refine Blk.past ?_ ?_; focus (simp; done)))
    have hl : Go.Sx.look (S.write 0 [V.nil, V.nil]).obs 0 = some [V.nil, V.nil] := by
      show Go.Sx.look (put S.obs 0 (noBc [V.nil, V.nil])) 0 = _
      rw [noBc_two]; exact look_put_self gl
    refine ⟨rfl, ?_⟩
    simp [answer, aresults, aresult, g4, loadP hl, zeroP]
  · refine wp_reg (fun st => (st.tm.get .any 0, st.tm.get .any 4, Go.Sx.look st.sto.obs 0)) (.str b, .ptr 0 0, some [.nil, .nil]) (by kernel_rfl) (fun st hst => ?_)
    obtain ⟨tm, S⟩ := st
    simp only [Prod.mk.injEq] at hst
    obtain ⟨g0, g4, gl⟩ := hst
    have st0 := storeP gl
    repeat' (first | refine Wp.seq ?_ | refine Wp.block ?_ | (apply Wp.region; focus ((try simp [g0, g4, h1, h2, h3, h4, bldP, st0]) <;> rfl)) | (refine Wp.cond_t ?_ ?_; focus (simp [g0, g4, h1, h2, h3, h4, bldP, st0]; done)) | (refine Wp.cond_f ?_ ?_; focus (simp [g0, g4, h1, h2, h3, h4, bldP, st0]; done)) | refine Wp.skip ?_ | refine Wp.ret ?_ | refine Wp.exit ?_ | refine Blk.here ?_ | (refine Blk.past ?_ ?_; focus (simp; done)))
    have hl : Go.Sx.look (S.write 0 [V.nil, V.nil]).obs 0 = some [V.nil, V.nil] := by
      show Go.Sx.look (put S.obs 0 (noBc [V.nil, V.nil])) 0 = _
      rw [noBc_two]; exact look_put_self gl
    refine ⟨rfl, ?_⟩
    simp [answer, aresults, aresult, g4, loadP hl, zeroP]
  · refine wp_reg (fun st => (st.tm.get .any 0, st.tm.get .any 4, Go.Sx.look st.sto.obs 0)) (.str b, .ptr 0 0, some [.nil, .nil]) (by kernel_rfl) (fun st hst => ?_)
    obtain ⟨tm, S⟩ := st
    simp only [Prod.mk.injEq] at hst
    obtain ⟨g0, g4, gl⟩ := hst
    have st0 := storeP gl
    repeat' (first | refine Wp.seq ?_ | refine Wp.block ?_ | (apply Wp.region; focus ((try simp [g0, g4, h1, h2, h3, h4, bldP, st0]) <;> rfl)) | (refine Wp.cond_t ?_ ?_; focus (simp [g0, g4, h1, h2, h3, h4, bldP, st0]; done)) | (refine Wp.cond_f ?_ ?_; focus (simp [g0, g4, h1, h2, h3, h4, bldP, st0]; done)) | refine Wp.skip ?_ | refine Wp.ret ?_ | refine Wp.exit ?_ | refine Blk.here ?_ | (refine Blk.past ?_ ?_; focus (simp; done)))
    have hl : Go.Sx.look (S.write 0 [V.nil, V.nil]).obs 0 = some [V.nil, V.nil] := by
      show Go.Sx.look (put S.obs 0 (noBc [V.nil, V.nil])) 0 = _
      rw [noBc_two]; exact look_put_self gl
    refine ⟨rfl, ?_⟩
    simp [answer, aresults, aresult, g4, loadP hl, zeroP]
  · refine wp_reg (fun st => (st.tm.get .any 0, st.tm.get .any 4, Go.Sx.look st.sto.obs 0)) (.str b, .ptr 0 0, some [.nil, .nil]) (by kernel_rfl) (fun st hst => ?_)
    obtain ⟨tm, S⟩ := st
    simp only [Prod.mk.injEq] at hst
    obtain ⟨g0, g4, gl⟩ := hst
    have st0 := storeP gl
    repeat' (first | refine Wp.seq ?_ | refine Wp.block ?_ | (apply Wp.region; focus ((try simp [g0, g4, h1, h2, h3, h4, bldP, st0]) <;> rfl)) | (refine Wp.cond_t ?_ ?_; focus (simp [g0, g4, h1, h2, h3, h4, bldP, st0]; done)) | (refine Wp.cond_f ?_ ?_; focus (simp [g0, g4, h1, h2, h3, h4, bldP, st0]; done)) | refine Wp.skip ?_ | refine Wp.ret ?_ | refine Wp.exit ?_ | refine Blk.here ?_ | (refine Blk.past ?_ ?_; focus (simp; done)))
    have hl : Go.Sx.look (S.write 0 [V.nil, V.nil]).obs 0 = some [V.nil, V.nil] := by
      show Go.Sx.look (put S.obs 0 (noBc [V.nil, V.nil])) 0 = _
      rw [noBc_two]; exact look_put_self gl
    refine ⟨rfl, ?_⟩
    simp [answer, aresults, aresult, g4, loadP hl, zeroP]
  · refine wp_reg (fun st => (st.tm.get .any 0, st.tm.get .any 4, Go.Sx.look st.sto.obs 0)) (.str b, .ptr 0 0, some [.nil, .nil]) (by kernel_rfl) (fun st hst => ?_)
    obtain ⟨tm, S⟩ := st
    simp only [Prod.mk.injEq] at hst
    obtain ⟨g0, g4, gl⟩ := hst
    have st0 := storeP gl
    repeat' (first | refine Wp.seq ?_ | refine Wp.block ?_ | (apply Wp.region; focus ((try simp [g0, g4, h1, h2, h3, h4, bldP, st0]) <;> rfl)) | (refine Wp.cond_t ?_ ?_; focus (simp [g0, g4, h1, h2, h3, h4, bldP, st0]; done)) | (refine Wp.cond_f ?_ ?_; focus (simp [g0, g4, h1, h2, h3, h4, bldP, st0]; done)) | refine Wp.skip ?_ | refine Wp.ret ?_ | refine Wp.exit ?_ | refine Blk.here ?_ | (refine Blk.past ?_ ?_; focus (simp; done)))
    have hl : Go.Sx.look (S.write 0 [V.nil, V.nil]).obs 0 = some [V.nil, V.nil] := by
      show Go.Sx.look (put S.obs 0 (noBc [V.nil, V.nil])) 0 = _
      rw [noBc_two]; exact look_put_self gl
    refine ⟨rfl, ?_⟩
    simp [answer, aresults, aresult, g4, loadP hl, zeroP]

/-- What is known of both functions at other names. -/
noncomputable def nmK : Ctr := fun k args sto =>
  bite (Nat.beq k 22 || Nat.beq k 23) (match args with
  | [.str b, .int .i64 x] => bite (other b) (bite x.fits (some (zeroP, sto)) none) none
  | _ => none) none
theorem nmK_ok (ρ : Nat → Int) (s : Sms) (B : Nat) : COk Try.prog ⟨Sy.den ρ, s⟩ B nmK := by
  intro k args sto r sto' h
  unfold nmK at h
  rw [bite_eq] at h
  split at h
  case isFalse => cases h
  rename_i hk
  have hk : k = 22 ∨ k = 23 := by
    rw [Bool.or_eq_true] at hk
    exact hk.imp Nat.eq_of_beq_eq_true Nat.eq_of_beq_eq_true
  split at h
  · rename_i b x
    simp only [bite_eq] at h
    split at h
    · rename_i hb
      split at h
      · rename_i hx
        cases h
        have hw := fits_wrap ρ hx
        have lift : ∀ (k : FuncId) (ρ' : Nat → Int) (y : Sy) (S : Sto Sy), y.den ρ' = x.den ρ → (∀ B', Go.Sx.Good Try.prog ⟨Sy.den ρ', s⟩ B' k [.str b, .int .i64 y] ⟨0, [], 0⟩ zeroP S) → Go.Sx.Good Try.prog ⟨Sy.den ρ, s⟩ B k [.str b, .int .i64 x] sto zeroP sto := by
          intro k ρ' y S hy hg
          refine lift_flat hg (fun c hinv vs hv => ?_) (fun B' c' c'' v hv => zeroP_tell hv)
          obtain ⟨v, u, rfl, hv, hu⟩ := hv.two
          refine .cons ?_ (.cons ?_ .nil)
          · cases hv; exact .str _
          · cases hu; exact VR_int' hy
        have body : ∀ k, k = 22 ∨ k = 23 → ∃ fn, Try.prog.funcs[k]? = some fn ∧ fn.body.isSome = true := by
          intro k hk
          rcases hk with rfl | rfl
          · exact body_of Try.func22 rfl
          · exact body_of Try.func23 rfl
        refine ⟨?_, body k hk⟩
        rcases hk with rfl | rfl
        · by_cases h1 : x.den ρ < 2
          · have hv : (vx 0).den (fun _ => x.den ρ) = x.den ρ := vx_den _ 0 (by omega) hw
            have hr := specOut1 b
            split at hr
            · rename_i r hs
              obtain ⟨R, S⟩ := r
              simp only [Option.some.injEq] at hr
              subst hr
              exact lift _ (fun _ => x.den ρ) (vx 0) S hv (fun B' => (symRun_ok (ρ := fun _ => x.den ρ) (s := s) (B := B') noCount mixed (fun f hf => by
                simp only [List.mem_cons, List.not_mem_nil, or_false] at hf
                subst hf
                exact Fact.lt_yes (by rw [hv]; exact h1)) noK_ok 100 _ _ _ _ _ hs).1)
            · cases hr
          · by_cases h6 : 6 < x.den ρ
            · have hv : (vx 0).den (fun _ => x.den ρ) = x.den ρ := vx_den _ 0 (by omega) hw
              have hr := specOut2 b
              split at hr
              · rename_i r hs
                obtain ⟨R, S⟩ := r
                simp only [Option.some.injEq] at hr
                subst hr
                exact lift _ (fun _ => x.den ρ) (vx 0) S hv (fun B' => (symRun_ok (ρ := fun _ => x.den ρ) (s := s) (B := B') noCount mixed (fun f hf => by
                  simp only [List.mem_cons, List.not_mem_nil, or_false] at hf
                  rcases hf with rfl | rfl
                  · exact Fact.lt_no (by rw [hv]; exact h1)
                  · exact Fact.lt_yes (by rw [hv]; exact h6)) noK_ok 100 _ _ _ _ _ hs).1)
              · cases hr
            · obtain ⟨⟨R, S⟩, hs, hR⟩ := specIn hb (x.den ρ).toNat (by omega) (by omega)
              simp only at hR
              subst hR
              exact lift _ ρ (.c ((x.den ρ).toNat : Nat)) S (by show (((x.den ρ).toNat : Nat) : Int) = _; omega) (fun B' => run_good noCount mixed ρ hs B')
        · obtain ⟨⟨R, S⟩, hs, hR⟩ := implOther hb (x.den ρ)
          simp only at hR
          subst hR
          exact lift _ ρ (.c (x.den ρ)) S rfl (fun B' => run_good noCount mixed ρ hs B')
      · cases h
    · cases h
  · cases h

theorem al1 : aalloc (symNum []) (tiOf Try.prog) (⟨0, [], 0⟩ : Sto Sy) 25 = some (.ptr 0 0, (⟨1, [(0, [.nil, .nil])], 0⟩ : Sto Sy)) := by kernel_rfl
theorem st1 : astore (tiOf Try.prog) (⟨1, [(0, [.nil, .nil])], 0⟩ : Sto Sy) 25 (.ptr 0 0) (.agg [.nil, .nil]) = some (⟨1, [(0, [.nil, .nil])], 0⟩ : Sto Sy) := by kernel_rfl
theorem al2 : aalloc (symNum []) (tiOf Try.prog) (⟨1, [(0, [.nil, .nil])], 0⟩ : Sto Sy) 25 = some (.ptr 1 0, (⟨2, [(1, [.nil, .nil]), (0, [.nil, .nil])], 0⟩ : Sto Sy)) := by kernel_rfl
theorem st2 : astore (tiOf Try.prog) (⟨2, [(1, [.nil, .nil]), (0, [.nil, .nil])], 0⟩ : Sto Sy) 25 (.ptr 1 0) (.agg [.nil, .nil]) = some (⟨2, [(1, [.nil, .nil]), (0, [.nil, .nil])], 0⟩ : Sto Sy) := by kernel_rfl
theorem lda : aload (tiOf Try.prog) (⟨2, [(1, [.nil, .nil]), (0, [.nil, .nil])], 0⟩ : Sto Sy) 25 (.ptr 1 0) = some (.agg [.nil, .nil]) := by kernel_rfl
theorem ldb : aload (tiOf Try.prog) (⟨2, [(1, [.nil, .nil]), (0, [.nil, .nil])], 0⟩ : Sto Sy) 25 (.ptr 0 0) = some (.agg [.nil, .nil]) := by kernel_rfl
theorem ca : acallV (symIn Try.prog nmK [] 99) (⟨2, [(1, [.nil, .nil]), (0, [.nil, .nil])], 0⟩ : Sto Sy) (.func 24 [] []) [.agg [.nil, .nil], .agg [.nil, .nil]] = some (.bool true, (⟨4, [(1, [.nil, .nil]), (0, [.nil, .nil])], 0⟩ : Sto Sy)) := by kernel_rfl
theorem ldc : aload (tiOf Try.prog) (⟨4, [(1, [.nil, .nil]), (0, [.nil, .nil])], 0⟩ : Sto Sy) 25 (.ptr 1 0) = some (.agg [.nil, .nil]) := by kernel_rfl
theorem cb : acallV (symIn Try.prog nmK [] 99) (⟨4, [(1, [.nil, .nil]), (0, [.nil, .nil])], 0⟩ : Sto Sy) (.func 25 [] []) [.agg [.nil, .nil], .int .i64 (.c 1)] = some (.int .i64 (.c 1), (⟨5, [(1, [.nil, .nil]), (0, [.nil, .nil])], 0⟩ : Sto Sy)) := by kernel_rfl
theorem ldd : aload (tiOf Try.prog) (⟨5, [(1, [.nil, .nil]), (0, [.nil, .nil])], 0⟩ : Sto Sy) 25 (.ptr 1 0) = some (.agg [.nil, .nil]) := by kernel_rfl
theorem cc : acallV (symIn Try.prog nmK [] 99) (⟨5, [(1, [.nil, .nil]), (0, [.nil, .nil])], 0⟩ : Sto Sy) (.func 26 [] []) [.agg [.nil, .nil], .int .i64 (.c 1)] = some (.int .i64 (.c 1), (⟨6, [(1, [.nil, .nil]), (0, [.nil, .nil])], 0⟩ : Sto Sy)) := by kernel_rfl
theorem al3 : aalloc (symNum []) (tiOf Try.prog) (⟨6, [(1, [.nil, .nil]), (0, [.nil, .nil])], 0⟩ : Sto Sy) 25 = some (.ptr 6 0, (⟨7, [(6, [.nil, .nil]), (1, [.nil, .nil]), (0, [.nil, .nil])], 0⟩ : Sto Sy)) := by kernel_rfl
theorem st3 : astore (tiOf Try.prog) (⟨7, [(6, [.nil, .nil]), (1, [.nil, .nil]), (0, [.nil, .nil])], 0⟩ : Sto Sy) 25 (.ptr 6 0) (.agg [.nil, .nil]) = some (⟨7, [(6, [.nil, .nil]), (1, [.nil, .nil]), (0, [.nil, .nil])], 0⟩ : Sto Sy) := by kernel_rfl
theorem lde : aload (tiOf Try.prog) (⟨7, [(6, [.nil, .nil]), (1, [.nil, .nil]), (0, [.nil, .nil])], 0⟩ : Sto Sy) 25 (.ptr 6 0) = some (.agg [.nil, .nil]) := by kernel_rfl
theorem ldf : aload (tiOf Try.prog) (⟨7, [(6, [.nil, .nil]), (1, [.nil, .nil]), (0, [.nil, .nil])], 0⟩ : Sto Sy) 25 (.ptr 0 0) = some (.agg [.nil, .nil]) := by kernel_rfl
theorem cd : acallV (symIn Try.prog nmK [] 99) (⟨7, [(6, [.nil, .nil]), (1, [.nil, .nil]), (0, [.nil, .nil])], 0⟩ : Sto Sy) (.func 24 [] []) [.agg [.nil, .nil], .agg [.nil, .nil]] = some (.bool true, (⟨9, [(6, [.nil, .nil]), (1, [.nil, .nil]), (0, [.nil, .nil])], 0⟩ : Sto Sy)) := by kernel_rfl
theorem ldg : aload (tiOf Try.prog) (⟨9, [(6, [.nil, .nil]), (1, [.nil, .nil]), (0, [.nil, .nil])], 0⟩ : Sto Sy) 25 (.ptr 1 0) = some (.agg [.nil, .nil]) := by kernel_rfl
theorem cf : acallV (symIn Try.prog nmK [] 99) (⟨9, [(6, [.nil, .nil]), (1, [.nil, .nil]), (0, [.nil, .nil])], 0⟩ : Sto Sy) (.func 26 [] []) [.agg [.nil, .nil], .int .i64 (.c 1)] = some (.int .i64 (.c 1), (⟨10, [(6, [.nil, .nil]), (1, [.nil, .nil]), (0, [.nil, .nil])], 0⟩ : Sto Sy)) := by kernel_rfl

theorem fits_of {n : Int} (hn : IntKind.i64.wrap n = n) : (Sy.c n).fits = true := by
  have h := wrap_range n
  rw [hn] at h
  simp only [Sy.fits, ilt_eq, bite_eq]
  rw [if_neg (by simp; omega)]
  simp; omega

set_option maxRecDepth 10000 in
theorem lawOther {b : ByteArray} (hb : other b = true) (n : Int) (hn : IntKind.i64.wrap n = n) : saysTrue (symRun Try.prog nmK [] 100 6 [.str b, .int .i64 (.c n)] ⟨0, [], 0⟩) = true := by
  have hf := fits_of hn
  have hsp : ∀ S : Sto Sy, nmK 22 [.str b, .int .i64 (.c n)] S = some (zeroP, S) := fun S => by simp only [nmK, Nat.beq_refl, Bool.true_or, bite_true, hb, hf]
  have him : ∀ S : Sto Sy, nmK 23 [.str b, .int .i64 (.c n)] S = some (zeroP, S) := fun S => by simp only [nmK, Nat.beq_refl, Bool.or_true, bite_true, hb, hf]
  have c0 := call_K (P := Try.prog) (n := 98) (sto := (⟨0, [], 0⟩ : Sto Sy)) (hsp _)
  have c1 := call_K (P := Try.prog) (n := 98) (sto := (⟨1, [(0, [.nil, .nil])], 0⟩ : Sto Sy)) (him _)
  have c2 := call_K (P := Try.prog) (n := 98) (sto := (⟨6, [(1, [.nil, .nil]), (0, [.nil, .nil])], 0⟩ : Sto Sy)) (him _)
  simp [zeroP] at c0 c1 c2
  refine own_says (n := 99) rfl Try.func6 rfl rfl ?_
  simp only [Try.f6]
  by_cases hbig : (1048576 : Int) < b.size
  · repeat' (first | refine Wp.seq ?_ | refine Wp.block ?_ | (apply Wp.region; focus ((try simp [setArgs, hbig]) <;> rfl)) | (refine Wp.cond_t ?_ ?_; focus (simp [setArgs, hbig]; done)) | (refine Wp.cond_f ?_ ?_; focus (simp [setArgs, hbig]; done)) | refine Wp.skip ?_ | refine Wp.ret ?_ | refine Wp.exit ?_ | refine Blk.here ?_ | (refine Blk.past ?_ ?_; focus (simp; done)))
    exact ⟨rfl, _, by simp [answer, aresults, aresult]; rfl⟩
  · repeat' (first | refine Wp.seq ?_ | refine Wp.block ?_ | (apply Wp.region; focus ((try simp [setArgs, hbig, c0, c1, c2, al1, al2, al3, st1, st2, st3, lda, ldb, ldc, ldd, lde, ldf, ldg, ca, cb, cc, cd, cf]) <;> rfl)) | (refine Wp.cond_t ?_ ?_; focus (simp [setArgs, hbig, c0, c1, c2, al1, al2, al3, st1, st2, st3, lda, ldb, ldc, ldd, lde, ldf, ldg, ca, cb, cc, cd, cf]; done)) | (refine Wp.cond_f ?_ ?_; focus (simp [setArgs, hbig, c0, c1, c2, al1, al2, al3, st1, st2, st3, lda, ldb, ldc, ldd, lde, ldf, ldg, ca, cb, cc, cd, cf]; done)) | refine Wp.skip ?_ | refine Wp.ret ?_ | refine Wp.exit ?_ | refine Blk.here ?_ | (refine Blk.past ?_ ?_; focus (simp; done)))
    exact ⟨rfl, _, by simp [answer, aresults, aresult]; rfl⟩

noncomputable def law_pascal : LawU := ⟨6, [], 1, fun ll ii => [.str (ByteArray.mk #[112, 97, 115, 99, 97, 108])] ++ ii, sizeT 0, fun _ => .leaf (.rng 0 2 5 (fun _ => .leaf) .leaf)⟩
set_option maxRecDepth 1000000 in
theorem huge_pascal : law_pascal.huge Try.prog 100 = true := by kernel_rfl
set_option maxRecDepth 1000000 in
theorem b_pascal : law_pascal.blk Try.prog ids [] 100 [] 0 7 = true := by kernel_rfl
theorem cnt_pascal : (law_pascal.tree []).count = 7 := by kernel_rfl
theorem cases_pascal (es : List Nat) (hl : es.length = law_pascal.bds.length) (hx : ∀ x, x ∈ es → x ≤ 1) : law_pascal.at Try.prog ids [] 100 es = true := by
  have hl : es.length = 0 := hl
  obtain rfl := List.eq_nil_of_length_eq_zero hl
  refine LawU.at_of (fun j hj => ?_)
  rw [cnt_pascal] at hj
  exact LawU.of_blk b_pascal (by omega) (by omega)
noncomputable def law_partitions : LawU := ⟨6, [], 1, fun ll ii => [.str (ByteArray.mk #[112, 97, 114, 116, 105, 116, 105, 111, 110, 115])] ++ ii, sizeT 0, fun _ => .leaf (.rng 0 2 5 (fun _ => .leaf) .leaf)⟩
set_option maxRecDepth 1000000 in
theorem huge_partitions : law_partitions.huge Try.prog 100 = true := by kernel_rfl
set_option maxRecDepth 1000000 in
theorem b_partitions : law_partitions.blk Try.prog ids [] 100 [] 0 7 = true := by kernel_rfl
theorem cnt_partitions : (law_partitions.tree []).count = 7 := by kernel_rfl
theorem cases_partitions (es : List Nat) (hl : es.length = law_partitions.bds.length) (hx : ∀ x, x ∈ es → x ≤ 1) : law_partitions.at Try.prog ids [] 100 es = true := by
  have hl : es.length = 0 := hl
  obtain rfl := List.eq_nil_of_length_eq_zero hl
  refine LawU.at_of (fun j hj => ?_)
  rw [cnt_partitions] at hj
  exact LawU.of_blk b_partitions (by omega) (by omega)
noncomputable def law_cycles : LawU := ⟨6, [], 1, fun ll ii => [.str (ByteArray.mk #[99, 121, 99, 108, 101, 115])] ++ ii, sizeT 0, fun _ => .leaf (.rng 0 2 5 (fun _ => .leaf) .leaf)⟩
set_option maxRecDepth 1000000 in
theorem huge_cycles : law_cycles.huge Try.prog 100 = true := by kernel_rfl
set_option maxRecDepth 1000000 in
theorem b_cycles : law_cycles.blk Try.prog ids [] 100 [] 0 7 = true := by kernel_rfl
theorem cnt_cycles : (law_cycles.tree []).count = 7 := by kernel_rfl
theorem cases_cycles (es : List Nat) (hl : es.length = law_cycles.bds.length) (hx : ∀ x, x ∈ es → x ≤ 1) : law_cycles.at Try.prog ids [] 100 es = true := by
  have hl : es.length = 0 := hl
  obtain rfl := List.eq_nil_of_length_eq_zero hl
  refine LawU.at_of (fun j hj => ?_)
  rw [cnt_cycles] at hj
  exact LawU.of_blk b_cycles (by omega) (by omega)
noncomputable def law_lists : LawU := ⟨6, [], 1, fun ll ii => [.str (ByteArray.mk #[108, 105, 115, 116, 115])] ++ ii, sizeT 0, fun _ => .leaf (.rng 0 2 5 (fun _ => .leaf) .leaf)⟩
set_option maxRecDepth 1000000 in
theorem huge_lists : law_lists.huge Try.prog 100 = true := by kernel_rfl
set_option maxRecDepth 1000000 in
theorem b_lists : law_lists.blk Try.prog ids [] 100 [] 0 7 = true := by kernel_rfl
theorem cnt_lists : (law_lists.tree []).count = 7 := by kernel_rfl
theorem cases_lists (es : List Nat) (hl : es.length = law_lists.bds.length) (hx : ∀ x, x ∈ es → x ≤ 1) : law_lists.at Try.prog ids [] 100 es = true := by
  have hl : es.length = 0 := hl
  obtain rfl := List.eq_nil_of_length_eq_zero hl
  refine LawU.at_of (fun j hj => ?_)
  rw [cnt_lists] at hj
  exact LawU.of_blk b_lists (by omega) (by omega)

theorem own : ownKnob Try.prog.godebug = none := by kernel_rfl
theorem laidOut : laidOutB Try.prog = true := by kernel_rfl

theorem walk (b : ByteArray) (a1 : Int) (w1 : (Lit.int .i64 a1).wf = true) (w : World) : LawTrue Try.prog 6 #[.string b, .int .i64 a1] w := by
  have hw := wrap_of_wf w1
  have hA : ∀ (c : ByteArray) (ρ : Nat → Int) (s : Sms) (ll : List (V Sy)) (xi : List Sy), VRs ⟨Sy.den ρ, s⟩ w.heap.size ⟨w, fun _ => none⟩ ll [] → VRs ⟨Sy.den ρ, s⟩ w.heap.size ⟨w, fun _ => none⟩ (ints xi) (intVs [a1]) → VRs ⟨Sy.den ρ, s⟩ w.heap.size ⟨w, fun _ => none⟩ ([.str c] ++ ints xi) (#[.string c, .int .i64 a1] : Array Value).toList := by
    intro c ρ s ll xi _ h2
    exact .cons (.str c) h2
  have hwI : ∀ z, z ∈ [a1] → IntKind.i64.wrap z = z := by
    intro z hz
    simp only [List.mem_cons, List.not_mem_nil, or_false] at hz
    subst hz; exact hw
  cases hb : other b with
  | true =>
    have hrun := lawOther hb a1 hw
    exact calls_true (Δ := ⟨Sy.den (fun _ => 0), s00⟩) (symRun_ok noCount mixed (Γ := []) (by simp) (nmK_ok _ _ _) 100) (.cons (.str b) (.cons (VR_int' rfl) .nil)) hrun
  | false =>
    have eqOf : ∀ {c : ByteArray} {l : List UInt8}, c.data.toList = l → (b.toList == l) = true → b = c := by
      intro c l h1 h2
      have h2 : b.toList = l := by simpa using h2
      rw [ByteArray.toList_eq] at h2
      exact Go.WideShapes.bytes_inj (h2.trans h1.symm)
    simp only [other, Bool.and_eq_false_iff, Bool.not_eq_false'] at hb
    rcases hb with ((hb | hb) | hb) | hb
    · obtain rfl := eqOf (c := (ByteArray.mk #[112, 97, 115, 99, 97, 108])) rfl hb
      refine LawU.ok (l := law_pascal) (D := ids) (t := []) (N := 100) (Ls := []) (lv := []) (I := [a1]) noCount mixed ids_ok (by simp) huge_pascal cases_pascal (by decide) trivial rfl (fun ls hls => by cases hls) rfl hwI (hA _) ?_ ?_
      · intro ρ ys hx hp ls hls; cases hls
      · intro ρ ys zs h; exact sizeT_cg ρ ys zs h
    · obtain rfl := eqOf (c := (ByteArray.mk #[112, 97, 114, 116, 105, 116, 105, 111, 110, 115])) rfl hb
      refine LawU.ok (l := law_partitions) (D := ids) (t := []) (N := 100) (Ls := []) (lv := []) (I := [a1]) noCount mixed ids_ok (by simp) huge_partitions cases_partitions (by decide) trivial rfl (fun ls hls => by cases hls) rfl hwI (hA _) ?_ ?_
      · intro ρ ys hx hp ls hls; cases hls
      · intro ρ ys zs h; exact sizeT_cg ρ ys zs h
    · obtain rfl := eqOf (c := (ByteArray.mk #[99, 121, 99, 108, 101, 115])) rfl hb
      refine LawU.ok (l := law_cycles) (D := ids) (t := []) (N := 100) (Ls := []) (lv := []) (I := [a1]) noCount mixed ids_ok (by simp) huge_cycles cases_cycles (by decide) trivial rfl (fun ls hls => by cases hls) rfl hwI (hA _) ?_ ?_
      · intro ρ ys hx hp ls hls; cases hls
      · intro ρ ys zs h; exact sizeT_cg ρ ys zs h
    · obtain rfl := eqOf (c := (ByteArray.mk #[108, 105, 115, 116, 115])) rfl hb
      refine LawU.ok (l := law_lists) (D := ids) (t := []) (N := 100) (Ls := []) (lv := []) (I := [a1]) noCount mixed ids_ok (by simp) huge_lists cases_lists (by decide) trivial rfl (fun ls hls => by cases hls) rfl hwI (hA _) ?_ ?_
      · intro ρ ys hx hp ls hls; cases hls
      · intro ρ ys zs h; exact sizeT_cg ρ ys zs h

set_option maxRecDepth 100000 in
theorem lifted (os : Os) (started : os.Started) (H : Type) (enc : TypeId × Value → H) :
    ReturnsInHanded {} Try.checked os 6 .any (Rows.fnExactNamedPairSpec.pre6 enc Try.prog Try.f6 Rows.fnExactNamedPairRow.domain false) (Rows.fnExactNamedPairSpec.post enc Try.prog Try.f6 false true false false) := by
  refine returnsInHanded_of_change (C := Try.checked) own started (by kernel_rfl) Try.func6
    (ChangeSpec.witness6 (enc := enc) (C := Try.checked) false ⟨#[], #[.string ⟨#[]⟩, .int .i64 0], []⟩ 8 (by kernel_rfl) (by kernel_rfl) (by kernel_rfl) (by kernel_rfl)) ?_
  intro W base args ds gs before hval0 hW hcnd _
  have hval : ∀ (j : Nat) t v, Try.f6.params[j]? = some t → args[j]? = some v → Value.okWide Try.prog W .any base t v := hval0
  have hW' := hW
  obtain ⟨p, q, hA0, hV, rfl, hfz, hnd⟩ := hW
  have hA : DataW.TrodAll enc Try.prog W 0 (fun _ => true) true Try.f6.params.toList args.toList ds p := hA0
  rw [Try.params6] at hA hval
  obtain ⟨v0, vs0, d0, ds0, p0, q0, hargs0, rfl, rfl, g0, r0⟩ := trodAll_cons hA
  obtain ⟨v1, vs1, d1, ds1, p1, q1, hargs1, rfl, rfl, g1, r1⟩ := trodAll_cons r0
  obtain ⟨rfl, rfl, rfl⟩ := trodAll_nil r1
  obtain rfl : args = #[v0, v1] := by cases args; simp_all
  obtain ⟨rfl, rfl⟩ := trodVars_none hV
  obtain ⟨b, rfl, rfl, rfl, hbs⟩ := Go.ChangeMaps.open_string Try.underlying9 (hval 0 9 v0 rfl rfl) g0
  obtain ⟨a1, rfl, rfl, rfl, w1⟩ := open_int Try.underlying3 (hval 1 3 v1 rfl rfl) g1
  clear hA0 hval0
  refine (walk b a1 w1 W).mono fun e W' ⟨he, bel, hz⟩ => ?_
  subst he
  exact ⟨_, rfl, _, _, _, [], _, [], hW', trodAll_mk1 (shut_bool Try.underlying4 _), (trodAll_cons_mk (Go.ChangeMaps.shut_string Try.underlying9 hbs) (trodAll_cons_mk (shut_int Try.underlying3 w1) trodAll_mk0)), rfl, bel.frame _, fun h => by cases h⟩

theorem proved : Rows.FnExactNamedPairSaid :=
  OpenClaim.holds_of_wide 6 Try.f6 rfl rfl rfl rfl rfl rfl rfl ⟨rfl, rfl, rfl, rfl, rfl⟩ rfl rfl rfl rfl rfl (by kernel_rfl) Try.func6 (by kernel_rfl)
    (of_decide_eq_true (by kernel_rfl)) (by unfold Func.isWrapper; first | (rw [if_pos (by decide +kernel)]; kernel_rfl) | (rw [if_neg (by decide +kernel)]; exact ⟨rfl, rfl⟩))
    (fun os started H enc _ => lifted os started H enc)
#print axioms proved

end Go.Proofs.Ytlenoefcnjcgfaa.ENamedPair

/-
  A machine over the model, proved right, second part: what writes memory.
-/
import Derived.Test.YtgaodlhdilhliaaGreatDoorMachA
set_option linter.unusedVariables false
set_option linter.unusedSimpArgs false
/-
  The operation, the region in the order of its text.
-/
namespace Go.Sx
open Go.RowKit

section
variable {I : Type} {N : Num I} {Δ : Den I} {P : Program} {T : TypeId → Option Ti} {C : FuncId → List (V I) → Sto I → Option (V I × Sto I)} {B : Nat} {c : Cx} {st : St I} {sto : Sto I} {a : Act}

/-- No function of the program counts goroutines. -/
def NoCount (P : Program) : Prop := ∀ (k : FuncId) (fn : Func), P.funcs[k]? = some fn → ¬ fn.name = "runtime.NumGoroutine"

/-- A call ends so. -/
def Good (P : Program) (Δ : Den I) (B : Nat) (k : FuncId) (args : List (V I)) (sto : Sto I) (r : V I) (sto' : Sto I) : Prop :=
  ∀ (c : Cx) (rargs : Array Value), SInv Δ B c sto → VRs Δ B c args rargs.toList → Calls P k rargs c.w fun e w' => ∃ rv c', e = .returned rv ∧ c'.w = w' ∧ Out Δ B c sto r sto' rv c'

/-- The oracle of calls is right, and knows functions with a body alone. -/
def COk (P : Program) (Δ : Den I) (B : Nat) (C : FuncId → List (V I) → Sto I → Option (V I × Sto I)) : Prop := ∀ k args sto r sto', C k args sto = some (r, sto') →
  Good P Δ B k args sto r sto' ∧ ∃ fn, P.funcs[k]? = some fn ∧ fn.body.isSome = true

/-- A frame of a function, or of a round; whatever else. -/
abbrev Fw (ro : Option Nat) : Fence := { Fence.wide with round := ro }

theorem callsFw {ro : Option Nat} {n : Nat} {f : FuncId} {args : Array Value} {w : World} {R : Ending → World → Prop} (h : Calls P f args w R) : CallsIn (Fw ro) n P f args w R := callsIn_wide.2 h
theorem FwD {ro : Option Nat} {n : Nat} : (Fw ro).depth.isSome = true → 1 ≤ n := fun h => by simp [Fence.wide] at h
theorem roundFw {ro : Option Nat} {n l : Nat} {f : FuncId} {tmps : Array Value} {as bd : Code} {w : World} {R : Ending → World → Prop} (h : RoundIn Fence.wide n P l f tmps as bd w R) : RoundIn (Fw ro) n P l f tmps as bd w R := h

/-- A round ends so. -/
def RoundOk (P : Program) (Δ : Den I) (B : Nat) (args : List (V I)) (sto : Sto I) (r : V I) (sto' : Sto I) : Prop :=
  ∀ (c : Cx) (ps : List Nat) (as bd : Code) (nt : Nat) (vals rest : List (V I)) (rl : Nat) (rargs : Array Value), args = .yld ps as bd nt vals :: rest → SInv Δ B c sto → VR Δ B c (.yld ps as bd nt vals) (.func (.yield rl) #[] #[]) → VRs Δ B c rest rargs.toList →
    ∃ f tmps as' bd', (Instr.yield rl rargs).run P c.w = .ok (.round rl f tmps as' bd') c.w ∧ ∀ n, RoundIn Fence.wide n P rl f tmps as' bd' c.w fun e w' => ∃ rv c', e = .returned rv ∧ c'.w = w' ∧ Out Δ B c sto r sto' rv c'

/-- A call through an interface ends so. -/
def InvOk (P : Program) (Δ : Den I) (B : Nat) (args : List (V I)) (sto : Sto I) (r : V I) (sto' : Sto I) : Prop :=
  ∀ (name : String) (t : TypeId) (v : V I) (rest : List (V I)), args = .mname name :: .iface t v :: rest → ∃ f, methOf P t name = some f ∧ Good P Δ B f (v :: rest) sto r sto' ∧ ∃ fn, P.funcs[f]? = some fn ∧ fn.body.isSome = true

/-- A call panics so. -/
def PanOk (P : Program) (Δ : Den I) (B : Nat) (k : FuncId) (args : List (V I)) (sto : Sto I) (r : V I) (sto' : Sto I) : Prop :=
  (∃ fn, P.funcs[k]? = some fn ∧ fn.body.isSome = true) ∧ ∀ (c : Cx) (rargs : Array Value), SInv Δ B c sto → VRs Δ B c args rargs.toList →
    Calls P k rargs c.w fun e w' => ∃ pv c', e = .panicked [{ v := pv, recovered := false }] ∧ c'.w = w' ∧ Out Δ B c sto r sto' pv c'

structure COkY (P : Program) (Δ : Den I) (B : Nat) (C : FuncId → List (V I) → Sto I → Option (V I × Sto I)) : Prop where
  fn : ∀ k args sto r sto', C k args sto = some (r, sto') → k < 1000000 → Good P Δ B k args sto r sto' ∧ ∃ fn, P.funcs[k]? = some fn ∧ fn.body.isSome = true
  yld : ∀ args sto r sto', C yieldId args sto = some (r, sto') → RoundOk P Δ B args sto r sto'
  inv : ∀ args sto r sto', C invokeId args sto = some (r, sto') → InvOk P Δ B args sto r sto'
  pan : ∀ k args sto r sto', C k args sto = some (r, sto') → 2000000 ≤ k → PanOk P Δ B (k - 2000000) args sto r sto'

/-- What the operation must give. -/
def OpOk (P : Program) (Δ : Den I) (B : Nat) (c : Cx) (sto : Sto I) (a : Act) (o : Oper) (v : V I) (sto' : Sto I) : Prop :=
  ∀ (ro : Option Nat) (n : Nat) (K : Act → World → Prop) (Q : Exit → Act → World → Prop), (∀ u c', Out Δ B c sto v sto' u c' → K (a.put o.dst u) c'.w) → o.wpIn (Fw ro) n P a c.w K Q

theorem put_wp {o : Oper} {v : V I} {sto' : Sto I} {u : Value} {c' : Cx} {w' : World} (hnd : ∀ k, o.op ≠ .defer k) (hr : (execOp a.eval o).run P c.w = .ok (.value u) w') (hw : c'.w = w') (hout : Out Δ B c sto v sto' u c') : OpOk P Δ B c sto a o v sto' := by
  intro ro n K Q hK
  refine ⟨fun _ _ => trivial, ?_⟩
  rw [Oper.semAt_eq _ _ _ hnd, hr]
  simp only [Oper.uponIn]
  have := hK u c' hout
  rwa [hw] at this

/-- The marks of a call are its caller's. -/
theorem Step.called {c' : Cx} {sto' : Sto I} (h : Step Δ B c ⟨sto.next, sto.obs, sto.next⟩ c' sto') : Step Δ B c sto c' ⟨sto'.next, sto'.obs, if Nat.blt sto'.low sto.low then sto'.low else sto.low⟩ := by
  have h1 : (if Nat.blt sto'.low sto.low then sto'.low else sto.low) ≤ sto.low ∧ (if Nat.blt sto'.low sto.low then sto'.low else sto.low) ≤ sto'.low := by
    split
    · rename_i hlt; simp [Nat.blt_eq] at hlt; omega
    · rename_i hlt; simp [Nat.blt_eq] at hlt; omega
  exact ⟨h.inv.low _, h.κ, h.below, h.next, h1.1, fun b hb ho => h.keep b hb (fun o n hon => Nat.lt_of_lt_of_le (ho o n hon) h1.2), fun o b n k1 k2 k3 => by
    obtain ⟨o', n', k4, k5⟩ := h.old o b n k1 k2 k3
    exact ⟨o', n', k4, Nat.le_trans h1.2 k5⟩, h.new, h.frz, h.oth⟩

/-- What a value that is called may be. -/
theorem acallV_inv {f : V I} {args : List (V I)} {r : V I} {sto' : Sto I} (hr : acallV C sto f args = some (r, sto')) :
    (∃ g first cap s1, f = .func g first cap ∧ g < 1000000 ∧ C g (first ++ args ++ cap) ⟨sto.next, sto.obs, sto.next⟩ = some (r, s1) ∧ sto' = ⟨s1.next, s1.obs, if Nat.blt s1.low sto.low then s1.low else sto.low⟩) ∨
    (∃ ps as bd nt vals s1, f = .yld ps as bd nt vals ∧ C yieldId (.yld ps as bd nt vals :: args) ⟨sto.next, sto.obs, sto.next⟩ = some (r, s1) ∧ sto' = ⟨s1.next, s1.obs, if Nat.blt s1.low sto.low then s1.low else sto.low⟩) := by
  unfold acallV at hr
  split at hr
  · rename_i g first cap
    rw [bite_eq] at hr
    split at hr
    · rename_i hg
      split at hr
      · rename_i r1 s1 hc
        cases hr
        exact .inl ⟨g, first, cap, s1, rfl, by simpa [Nat.blt_eq] using hg, hc, rfl⟩
      · cases hr
    · cases hr
  · rename_i ps as bd nt vals
    split at hr
    · rename_i r1 s1 hc
      cases hr
      exact .inr ⟨ps, as, bd, nt, vals, s1, rfl, hc, rfl⟩
    · cases hr
  · cases hr

theorem func_args {g : FuncId} {first cap xs : List (V I)} {rf : Value} {rx : Array Value} (hf : VR Δ B c (.func g first cap) rf) (hx : VRs Δ B c xs rx.toList) :
    ∃ ra rb, rf = .func (.func g) ra rb ∧ VRs Δ B c (first ++ xs ++ cap) (ra ++ rx ++ rb).toList := by
  cases hf with
  | @func _ _ _ ra rb h1 h2 h3 h4 =>
  have h1' : VRs Δ B c first ra.toList := ⟨by simpa using h1, fun i x v hx hv => h2 i x v hx (by simpa using hv)⟩
  have h3' : VRs Δ B c cap rb.toList := ⟨by simpa using h3, fun i x v hx hv => h4 i x v hx (by simpa using hv)⟩
  refine ⟨ra, rb, rfl, ?_⟩
  have := (h1'.append hx).append h3'
  simpa using this

theorem run_callFunc (hG : NoCount P) {g : FuncId} {fn : Func} (hfn : P.funcs[g]? = some fn) (hb : fn.body.isSome = true) (args : Array Value) (w : World) : (callFunc g args).run P w = .ok (.enter g args) w := by
  have hb' : fn.body.isNone = false := by cases hfb : fn.body <;> simp [hfb] at hb ⊢
  have hn1 := hG g fn hfn
  have hb1 : ¬ fn.body = none := by intro e; simp [e] at hb
  simp [callFunc, hfn, hn1, hb1]

theorem call_sound (hN : N.Ok Δ) (hG : NoCount P) (hC : COkY P Δ B C) (h : SInv Δ B c st.sto) (htm : TmR Δ B c st.tm a.tmps) {o : Oper} {k : Call} {f : Operand} (ho : o.op = .call k) (hk : k.callee = .value f) {r : V I} {sto' : Sto I}
    (hr : acallV C st.sto (st.eval N f) (evals N st k.args.toList) = some (r, sto')) : OpOk P Δ B c st.sto a o r sto' := by
  intro ro n K Q hK
  have hf := VR_eval hN htm f
  have hx := evals_rel hN htm k.args
  have hnd : ∀ k, o.op ≠ .defer k := fun k' e => by rw [ho] at e; cases e
  refine ⟨fun _ _ => trivial, ?_⟩
  rw [Oper.semAt_eq _ _ _ hnd]
  rcases acallV_inv hr with ⟨g, first, cap, s1, he, hg, hc, rfl⟩ | ⟨ps, as, bd, nt, vals, s1, he, hc, rfl⟩
  · rw [he] at hf
    obtain ⟨ra, rb, hrf, hvr⟩ := func_args hf hx
    obtain ⟨hgood, fn, hfn, hb⟩ := hC.fn g _ _ r s1 hc hg
    have hrun : (execOp a.eval o).run P c.w = .ok (.enter g (ra ++ k.args.map a.eval ++ rb)) c.w := by
      simp only [execOp, ho, resolve, hk, hrf, Deferred.ofValue, invoke, Sem.run_bind, Sem.run_pure, Result.andThen_ok]
      exact run_callFunc hG hfn hb _ _
    rw [hrun]
    simp only [Oper.uponIn]
    refine ⟨FwD, callsFw (Calls.mono (hgood c _ (h.low _) hvr) ?_)⟩
    rintro e w' ⟨rv, c', rfl, rfl, hst, hv⟩
    exact hK rv c' ⟨hst.called, hv⟩
  · rw [he] at hf
    have hf' : ∃ rl, a.eval f = .func (.yield rl) #[] #[] := by
      generalize a.eval f = rf at hf
      cases hf; exact ⟨_, rfl⟩
    obtain ⟨rl, hrf⟩ := hf'
    rw [hrf] at hf
    obtain ⟨f', tmps, as', bd', hy, hround⟩ := hC.yld _ _ r s1 hc c ps as bd nt vals _ rl (k.args.map a.eval) rfl (h.low _) hf hx
    have hrun : (execOp a.eval o).run P c.w = .ok (.round rl f' tmps as' bd') c.w := by
      simp only [execOp, ho, resolve, hk, hrf, Deferred.ofValue, invoke, Sem.run_bind, Sem.run_pure, Result.andThen_ok]
      simpa using hy
    rw [hrun]
    simp only [Oper.uponIn]
    refine ⟨FwD, roundFw (RoundIn.mono (hround _) ?_)⟩
    rintro e w' ⟨rv, c', rfl, rfl, hst, hv⟩
    exact hK rv c' ⟨hst.called, hv⟩

theorem run_method {t : TypeId} {name : String} {f : FuncId} (hm : methOf P t name = some f) (k : Nat) (v : Value) (w : World) : (method (k + 1) t v name).run P w = .ok (f, v) w := by
  unfold methOf at hm
  split at hm
  · rename_i i d hi hu
    have key : ∀ (hd : ∀ e, d ≠ .pointer e), (match i.methods.find? (·.name == name) with
      | some m => match m.path.toList, m.func with
        | [], some (f, false) => some f
        | _, _ => none
      | none => none) = some f → (method (k + 1) t v name).run P w = .ok (f, v) w := by
      intro hd hm
      split at hm
      · rename_i m hfind
        split at hm
        · rename_i g hp hfun
          cases hm
          have hpe : m.path.isEmpty = true := by rw [← Array.isEmpty_toList, hp]; rfl
          have h1 : (receiverAt t (.val v) false (if m.path.isEmpty then some ((name.splitOn ".").getLastD name) else none)).run P w = .ok v w := by
            unfold receiverAt
            rw [Sem.run_bind, run_underlying hu, Result.andThen_ok]
            cases d <;> first | (exact absurd rfl (hd _)) | rfl
          simp only [method, typeInfo, Sem.run_bind, run_program, Result.andThen_ok, hi, hfind, hp, follow, hfun, Sem.run_pure, h1]
        · cases hm
      · cases hm
    cases d <;> first | (cases hm) | exact key (fun e he => by cases he) hm
  · cases hm

theorem inv_sound (hN : N.Ok Δ) (hG : NoCount P) (hC : COkY P Δ B C) (h : SInv Δ B c st.sto) (htm : TmR Δ B c st.tm a.tmps) {o : Oper} {k : Call} {x : Operand} {name : String} (ho : o.op = .call k) (hk : k.callee = .invoke x name) {r : V I} {sto' : Sto I}
    (hr : acallI C st.sto (st.eval N x) name (evals N st k.args.toList) = some (r, sto')) : OpOk P Δ B c st.sto a o r sto' := by
  intro ro n K Q hK
  have hf := VR_eval hN htm x
  have hx := evals_rel hN htm k.args
  have hnd : ∀ k, o.op ≠ .defer k := fun k' e => by rw [ho] at e; cases e
  refine ⟨fun _ _ => trivial, ?_⟩
  rw [Oper.semAt_eq _ _ _ hnd]
  unfold acallI at hr
  split at hr
  · rename_i t v hv0
    rw [hv0] at hf
    split at hr
    · rename_i r1 s1 hc
      cases hr
      obtain ⟨f, hm, hgood, fn, hfn, hb⟩ := hC.inv _ _ _ _ hc name t v _ rfl
      have hf' : ∃ rv, a.eval x = .iface t rv ∧ VR Δ B c v rv := by
        generalize a.eval x = rf at hf
        cases hf with
        | iface _ h => exact ⟨_, rfl, h⟩
      obtain ⟨rv, hrx, hvr⟩ := hf'
      have hfuel : ∃ q, P.types.size + Made.depth = q + 1 := ⟨P.types.size + 99, rfl⟩
      obtain ⟨q, hq⟩ := hfuel
      have hrun : (execOp a.eval o).run P c.w = .ok (.enter f (#[rv] ++ k.args.map a.eval)) c.w := by
        have h0 : (#[Value.iface t rv] ++ k.args.map a.eval)[0]? = some (.iface t rv) := by
          rw [Array.getElem?_append_left (by simp)]; rfl
        have hex : (#[Value.iface t rv] ++ k.args.map a.eval).extract 1 (#[Value.iface t rv] ++ k.args.map a.eval).size = k.args.map a.eval := by
          apply Array.ext'
          simp
          exact List.take_of_length_le (by simp)
        simp only [execOp, ho, resolve, hk, hrx, invoke, Sem.run_bind, Sem.run_pure, Result.andThen_ok, h0, hex, callMethod, run_program, hq, run_method hm]
        exact run_callFunc hG hfn hb _ _
      rw [hrun]
      simp only [Oper.uponIn]
      refine ⟨FwD, callsFw (Calls.mono (hgood c _ (h.low _) (by simpa using VRs.cons hvr (by simpa using hx))) ?_)⟩
      rintro e w' ⟨rv, c', rfl, rfl, hst, hv⟩
      exact hK rv c' ⟨hst.called, hv⟩
    · cases hr
  · cases hr

theorem aeff_sound (hN : N.Ok Δ) (hG : NoCount P) (hT : TOk P T) (hC : COkY P Δ B C) (h : SInv Δ B c st.sto) (htm : TmR Δ B c st.tm a.tmps) {o : Oper} {v : V I} {sto' : Sto I} (hs : aeff N T C st o = some (v, sto')) :
    OpOk P Δ B c st.sto a o v sto' := by
  have E := fun x => VR_eval hN htm x
  unfold aeff at hs
  split at hs <;> rename_i heq
  · obtain ⟨u, c', h1, h2⟩ := alloc_sound hN hT h hs
    exact put_wp (c' := c') (fun k e => by rw [heq] at e; cases e) (by simp [execOp, heq, h1]) rfl h2
  · rename_i t x
    obtain ⟨u, c', h1, h2⟩ := box_sound (P := P) (t := t) h (E x) hs
    exact put_wp (c' := c') (fun k e => by rw [heq] at e; cases e) (by simp [execOp, heq, h1]) rfl h2
  · rename_i t x y
    split at hs
    · rename_i hd
      split at hs
      · rename_i st2 hst
        cases hs
        obtain ⟨c', h1, h2⟩ := store_sound hT h (E x) (E y) hst
        intro ro n K Q hK
        have hr : (execOp a.eval o).run P c.w = .ok .skip c'.w := by simp [execOp, heq, h1]
        refine ⟨fun _ _ => trivial, ?_⟩
        rw [Oper.semAt_eq _ _ _ (fun k e => by rw [heq] at e; cases e), hr]
        simp only [Oper.uponIn]
        exact hK undef c' ⟨h2, .any _⟩
      · cases hs
    · cases hs
  · rename_i t n ps
    obtain ⟨u, c', h1, h2⟩ := buildSlice_sound hN hT h (pevals_rel hN htm ps) hs
    exact put_wp (c' := c') (fun k e => by rw [heq] at e; cases e) (by simp [execOp, heq, h1]) rfl h2
  · rename_i t x i ok
    split at hs
    · rename_i v1 hl
      cases hs
      obtain ⟨u, h1, h2⟩ := lookup_sound hN hT h (E x) (E i) hl
      exact put_wp (c' := c) (fun k e => by rw [heq] at e; cases e) (by simp [execOp, heq, h1]) rfl ⟨Step.refl h, h2⟩
    · cases hs
  · rename_i t
    obtain ⟨u, c', h1, h2⟩ := makeMap_sound (P := P) h hs
    exact put_wp (c' := c') (fun k e => by rw [heq] at e; cases e) (by simp [execOp, heq, h1]) rfl h2
  · rename_i t m i x
    split at hs
    · rename_i hd
      split at hs
      · rename_i st2 hst
        cases hs
        obtain ⟨c', h1, h2⟩ := mapUpdate_sound hN hT h (E m) (E i) (E x) hst
        intro ro n K Q hK
        have hr : (execOp a.eval o).run P c.w = .ok .skip c'.w := by simp [execOp, heq, h1]
        refine ⟨fun _ _ => trivial, ?_⟩
        rw [Oper.semAt_eq _ _ _ (fun k e => by rw [heq] at e; cases e), hr]
        simp only [Oper.uponIn]
        exact hK undef c' ⟨h2, .any _⟩
      · cases hs
    · cases hs
  · rename_i t l k
    obtain ⟨u, c', h1, h2⟩ := makeSlice_sound hN hT h (E l) (E k) hs
    exact put_wp (c' := c') (fun k e => by rw [heq] at e; cases e) (by simp [execOp, heq, h1]) rfl h2
  · rename_i k
    split at hs
    · rename_i b hb
      have hargs := evals_rel hN htm k.args
      unfold aeffB at hs
      split at hs
      · rename_i t t' n hts hxs
        rw [hxs] at hargs
        have two : ∃ p q, k.args.map a.eval = #[p, q] ∧ VR Δ B c (.nil : V I) p ∧ VR Δ B c (.int .i64 n) q := by
          match hq : (k.args.map a.eval).toList, hargs with
          | [p, q], hh => exact ⟨p, q, by apply Array.ext'; simpa using hq, hh.2 0 _ p rfl rfl, hh.2 1 _ q rfl rfl⟩
        obtain ⟨p, q, hpq, hp, hq⟩ := two
        cases hp
        have hts' : k.argTypes = #[t, t'] := by apply Array.ext'; simpa using hts
        obtain ⟨u, c', h1, h2⟩ := appZ_sound (ty := o.type) hN hT h hq hs
        refine put_wp (c' := c') (fun k e => by rw [heq] at e; cases e) ?_ rfl h2
        simp only [execOp, heq, resolve, hb, invoke, builtin, Sem.run_bind, Sem.run_pure, Result.andThen_ok, hpq, hts', h1]
      · rename_i t t' s x _ hts hxs
        rw [hxs] at hargs
        have two : ∃ p q, k.args.map a.eval = #[p, q] ∧ VR Δ B c s p ∧ VR Δ B c x q := by
          match hq : (k.args.map a.eval).toList, hargs with
          | [p, q], hh => exact ⟨p, q, by apply Array.ext'; simpa using hq, hh.2 0 s p rfl rfl, hh.2 1 x q rfl rfl⟩
        obtain ⟨p, q, hpq, hp, hq⟩ := two
        have hts' : k.argTypes = #[t, t'] := by apply Array.ext'; simpa using hts
        obtain ⟨u, c', h1, h2⟩ := append_sound (ty := o.type) hN hT h hp hq hs
        refine put_wp (c' := c') (fun k e => by rw [heq] at e; cases e) ?_ rfl h2
        simp only [execOp, heq, resolve, hb, invoke, builtin, Sem.run_bind, Sem.run_pure, Result.andThen_ok, hpq, hts', h1]
      · rename_i t t' s x hts hxs
        rw [hxs] at hargs
        have two : ∃ p q, k.args.map a.eval = #[p, q] ∧ VR Δ B c s p ∧ VR Δ B c x q := by
          match hq : (k.args.map a.eval).toList, hargs with
          | [p, q], hh => exact ⟨p, q, by apply Array.ext'; simpa using hq, hh.2 0 s p rfl rfl, hh.2 1 x q rfl rfl⟩
        obtain ⟨p, q, hpq, hp, hq⟩ := two
        have hts' : k.argTypes = #[t, t'] := by apply Array.ext'; simpa using hts
        obtain ⟨u, c', h1, h2⟩ := copy_sound (t2 := t') (ty := o.type) hN hT h hp hq hs
        refine put_wp (c' := c') (fun k e => by rw [heq] at e; cases e) ?_ rfl h2
        simp only [execOp, heq, resolve, hb, invoke, builtin, Sem.run_bind, Sem.run_pure, Result.andThen_ok, hpq, hts', h1]
      · rename_i t x hts hxs
        rw [hxs] at hargs
        have one : ∃ p, k.args.map a.eval = #[p] ∧ VR Δ B c x p := by
          match hq : (k.args.map a.eval).toList, hargs with
          | [p], hh => exact ⟨p, by apply Array.ext'; simpa using hq, hh.2 0 x p rfl rfl⟩
        obtain ⟨p, hpq, hp⟩ := one
        have hts' : k.argTypes = #[t] := by apply Array.ext'; simpa using hts
        obtain ⟨u, c', h1, h2⟩ := clear_sound (ty := o.type) hN hT h hp hs
        refine put_wp (c' := c') (fun k e => by rw [heq] at e; cases e) ?_ rfl h2
        simp only [execOp, heq, resolve, hb, invoke, builtin, Sem.run_bind, Sem.run_pure, Result.andThen_ok, hpq, hts', h1]
      · rename_i t x hts hxs
        rw [hxs] at hargs
        have one : ∃ p, k.args.map a.eval = #[p] ∧ VR Δ B c x p := by
          match hq : (k.args.map a.eval).toList, hargs with
          | [p], hh => exact ⟨p, by apply Array.ext'; simpa using hq, hh.2 0 x p rfl rfl⟩
        obtain ⟨p, hpq, hp⟩ := one
        have hts' : k.argTypes = #[t] := by apply Array.ext'; simpa using hts
        obtain ⟨u, h1, h2, h3⟩ := mapLen_sound (ty := o.type) hN hT h hp hs
        refine put_wp (c' := c) (fun k e => by rw [heq] at e; cases e) ?_ rfl ⟨h2, h3⟩
        simp only [execOp, heq, resolve, hb, invoke, builtin, Sem.run_bind, Sem.run_pure, Result.andThen_ok, hpq, hts', h1]
      · rename_i t t' s x hts hxs
        rw [hxs] at hargs
        have two : ∃ p q, k.args.map a.eval = #[p, q] ∧ VR Δ B c s p ∧ VR Δ B c x q := by
          match hq : (k.args.map a.eval).toList, hargs with
          | [p, q], hh => exact ⟨p, q, by apply Array.ext'; simpa using hq, hh.2 0 s p rfl rfl, hh.2 1 x q rfl rfl⟩
        obtain ⟨p, q, hpq, hp, hq⟩ := two
        have hts' : k.argTypes = #[t, t'] := by apply Array.ext'; simpa using hts
        obtain ⟨u, c', h1, h2, h3⟩ := delete_sound (t2 := t') (ty := o.type) hN hT h hp hq hs
        refine put_wp (c' := c') (fun k e => by rw [heq] at e; cases e) ?_ rfl ⟨h2, h3⟩
        simp only [execOp, heq, resolve, hb, invoke, builtin, Sem.run_bind, Sem.run_pure, Result.andThen_ok, hpq, hts', h1]
      · cases hs
    · rename_i f hf
      exact call_sound hN hG hC h htm heq hf hs
    · rename_i x name hf
      exact inv_sound hN hG hC h htm heq hf hs
  · cases hs

theorem aop_sound (hN : N.Ok Δ) (hG : NoCount P) (hT : TOk P T) (hC : COkY P Δ B C) (h : SInv Δ B c st.sto) (htm : TmR Δ B c st.tm a.tmps) {o : Oper} {v : V I} {sto' : Sto I} (hs : aop N T C st o = some (v, sto')) :
    OpOk P Δ B c st.sto a o v sto' := by
  unfold aop at hs
  split at hs
  · rename_i y hy
    cases hs
    obtain ⟨u, hu, hv⟩ := apure_run hN hT h htm hy
    exact put_wp (fun k e => by rw [apure, e] at hy; cases hy) hu rfl ⟨Step.refl h, hv⟩
  · exact aeff_sound hN hG hT hC h htm hs

theorem wants_sound (htm : TmR Δ B c st.tm a.tmps) {ops : Array Oper} {o : Oper} {b : Bool} (hw : wants ops.toList st o = some b) : Region.wanted o (yielded ops a.tmps) = b := by
  unfold wants at hw
  unfold Region.wanted
  split at hw
  · rename_i hg; cases hw; simp [hg]
  · rename_i j want hg
    split at hw
    · rename_i g hgj
      split at hw
      · rename_i t ht
        split at hw
        · rename_i q hq
          cases hw
          have hvr := htm t
          rw [hq] at hvr
          generalize hv : a.tmps.getD t undef = v at hvr
          cases hvr
          have hj : ops[j]? = some g := by simpa using hgj
          have hv' : a.tmps[t]? = some (.bool q) := by
            rw [Array.getD_eq_getD_getElem?] at hv
            cases hx : a.tmps[t]? with
            | none => simp [hx, undef] at hv
            | some x => simp [hx] at hv; rw [hv]
          simp [hg, yielded, hj, ht, hv']
        · rename_i hq
          cases hw
          have hvr := htm t
          rw [hq] at hvr
          generalize hv : a.tmps.getD t undef = v at hvr
          have hj : ops[j]? = some g := by simpa using hgj
          have hv1 : a.tmps[t]? = some v ∨ a.tmps[t]? = none := by
            rw [Array.getD_eq_getD_getElem?] at hv
            cases hx : a.tmps[t]? with
            | none => exact .inr rfl
            | some x => simp [hx] at hv; rw [hv]; exact .inl rfl
          cases hvr
          rcases hv1 with h1 | h1 <;> simp [hg, yielded, hj, ht, h1]
        · cases hw
      · cases hw
    · cases hw

theorem put_defers (a : Act) (d : Option Tmp) (u : Value) : (a.put d u).defers = a.defers := by cases d <;> rfl
theorem put_size (a : Act) (d : Option Tmp) (u : Value) : (a.put d u).tmps.size = a.tmps.size := by cases d <;> simp [Act.put]

/-! ## Marks among the deferred calls -/
def markOf (D : Nat) : Deferred := { target := .collected D, args := #[] }
/-- New marks ahead of what was there. -/
def Mk (w0 w' : World) (dl dl' : List Deferred) : Prop := ∃ ms : List Nat, ms.Nodup ∧ (∀ D, D ∈ ms → w0.heap.size ≤ D ∧ w'.heap[D]? = some (.deferred (some []))) ∧ dl' = ms.map markOf ++ dl
theorem Mk.refl {w0 w' : World} (dl : List Deferred) : Mk w0 w' dl dl := ⟨[], by simp, by simp, rfl⟩
theorem Mk.of_eq {w0 w' : World} {dl dl' : List Deferred} (h : dl' = dl) : Mk w0 w' dl dl' := by rw [h]; exact .refl _
theorem Mk.after {w0 w1 w2 : World} {dl dl' : List Deferred} (hs : w0.heap.size ≤ w1.heap.size) (h : Mk w1 w2 dl dl') : Mk w0 w2 dl dl' := by
  obtain ⟨ms, h1, h2, h3⟩ := h
  exact ⟨ms, h1, fun D hD => ⟨Nat.le_trans hs (h2 D hD).1, (h2 D hD).2⟩, h3⟩
theorem Mk.trans {w0 w1 w2 : World} {d0 d1 d2 : List Deferred} (hs : w0.heap.size ≤ w1.heap.size) (ho : Oth w1 w2) (h : Mk w0 w1 d0 d1) (h' : Mk w1 w2 d1 d2) : Mk w0 w2 d0 d2 := by
  obtain ⟨ms, h1, h2, h3⟩ := h
  obtain ⟨ms', k1, k2, k3⟩ := h'
  refine ⟨ms' ++ ms, ?_, fun D hD => ?_, by rw [k3, h3]; simp⟩
  · refine List.nodup_append.2 ⟨k1, h1, fun a ha b hb he => ?_⟩
    subst he
    have e1 := (k2 a ha).1
    have e2 := (Array.getElem?_eq_some_iff.1 (h2 a hb).2).1
    omega
  · rcases List.mem_append.1 hD with hD | hD
    · exact ⟨Nat.le_trans hs (k2 D hD).1, (k2 D hD).2⟩
    · exact ⟨(h2 D hD).1, ho _ _ (h2 D hD).2 rfl⟩

/-- What a piece of code must bring about. -/
def After (Δ : Den I) (B : Nat) (c0 : Cx) (sto0 : Sto I) (nt : Nat) (st' : St I) (dl : List Deferred) (Q : Act → World → Prop) : Prop :=
  ∀ (c' : Cx) (a' : Act), Step Δ B c0 sto0 c' st'.sto → TmR Δ B c' st'.tm a'.tmps → a'.tmps.size = nt → Mk c0.w c'.w dl a'.defers → Q a' c'.w

theorem aops_sound (hN : N.Ok Δ) (hG : NoCount P) (hT : TOk P T) (hC : COkY P Δ B C) {nt : Nat} {ops : Array Oper} {ro : Option Nat} {n : Nat} {Q : Exit → Act → World → Prop} : ∀ (l : List Oper) (c : Cx) (st : St I) (a : Act) (st' : St I),
    SInv Δ B c st.sto → TmR Δ B c st.tm a.tmps → a.tmps.size = nt → aops N T C nt ops.toList l st = some st' → After Δ B c st.sto nt st' a.defers (Q .normal) → wpListIn (Fw ro) n P ops Q l a c.w := by
  intro l
  induction l with
  | nil => intro c st a st' h htm hsz hs hQ; simp [aops] at hs; subst hs; exact hQ c a (Step.refl h) htm hsz (.refl _)
  | cons o r ih =>
    intro c st a st' h htm hsz hs hQ
    simp only [aops] at hs
    split at hs
    · rename_i hw
      split at hs
      · rename_i v s1 ho
        have hok := aop_sound hN hG hT hC h htm ho
        unfold wpListIn
        rw [if_pos (by rw [wants_sound htm hw])]
        refine hok _ _ _ _ (fun u c' hout => ?_)
        obtain ⟨h1, h2⟩ := hout
        have htm' := (htm.mono h1.le).set h2 o.dst
        rw [hsz] at htm'
        exact ih c' _ (a.put o.dst u) st' h1.inv htm' (by rw [put_size, hsz]) hs (fun c2 a2 g1 g2 g3 g4 => hQ c2 a2 (h1.trans g1) g2 g3 (by rw [put_defers] at g4; exact g4.after h1.below.size))
      · cases hs
    · rename_i hw
      unfold wpListIn
      rw [if_neg (by rw [wants_sound htm hw]; simp)]
      have hun : VR Δ B c (.tup ([] : List (V I))) undef := .tup rfl (fun i x v hx _ => by simp at hx)
      have htm' := htm.set hun o.dst
      rw [hsz] at htm'
      exact ⟨fun _ _ => trivial, ih c ⟨setTm nt st.tm o.dst (.tup []), st.sto⟩ (a.put o.dst undef) st' h htm' (by rw [put_size, hsz]) hs (fun c2 a2 g1 g2 g3 g4 => hQ c2 a2 g1 g2 g3 (by rw [put_defers] at g4; exact g4))⟩
    · cases hs

end
end Go.Sx

/-
  Loops' records turn; rounds.
-/
namespace Go.Sx
open Go.RowKit

section
variable {I : Type} {N : Num I} {Δ : Den I} {P : Program} {T : TypeId → Option Ti} {C : FuncId → List (V I) → Sto I → Option (V I × Sto I)} {B : Nat} {c : Cx} {st : St I} {sto : Sto I} {a : Act}

theorem noYls_get : ∀ {xs : List (V I)} {i : Nat} {x : V I}, noYls xs = true → xs[i]? = some x → x.noYl = true
  | [], i, x, _, h => by simp at h
  | y :: r, i, x, hn, h => by
    simp only [noYls, Bool.and_eq_true] at hn
    cases i with
    | zero => simp at h; subst h; exact hn.1
    | succ i => simp at h; exact noYls_get hn.2 h
theorem noYlO_look : ∀ {l : List (Nat × Ob I)} {o : Nat} {x : Ob I}, noYlO l = true → look l o = some x → noYls x = true
  | [], o, x, _, h => by simp [look] at h
  | (o', y) :: r, o, x, hn, h => by
    simp only [noYlO, Bool.and_eq_true] at hn
    rw [look_cons] at h
    split at h
    · cases h; exact hn.1
    · exact noYlO_look hn.2 h

theorem VR.moveN {c c2 : Cx} (hcell : ∀ a u, c.w.cell? a = some u → c2.w.cell? a = some u) (hκ : ∀ o x, c.κ o = some x → c2.κ o = some x) {x : V I} {v : Value} (h : VR Δ B c x v) : x.noYl = true → VR Δ B c2 x v := by
  induction h with
  | any v => intro _; exact .any v
  | bool b => intro _; exact .bool b
  | int k n => intro _; exact .int k n
  | str s => intro _; exact .str s
  | sst j xs => intro _; exact .sst j xs
  | nilIface => intro _; exact .nilIface
  | nilPtr => intro _; exact .nilPtr
  | nilFunc => intro _; exact .nilFunc
  | nil => intro _; exact .nil
  | emp ad cap h => intro _; exact .emp ad cap h
  | slice us h1 h2 h3 h4 _ ih => intro hn; exact .slice us h1 h2 h3 (fun j u hu => hcell _ _ (h4 j u hu)) (fun j x u hx hu => ih j x u hx hu (noYls_get (by simpa [V.noYl] using hn) hx))
  | snil => intro _; exact .snil
  | aint k n => intro _; exact .aint k n
  | bc j v => intro _; exact .bc j v
  | bsl h0 h1 h2 h3 => intro _; exact .bsl h0 h1 h2 (fun i n hn => hcell _ _ (h3 i n hn))
  | bsl0 h0 h => intro _; exact .bsl0 h0 h
  | bys h0 h1 h2 h3 => intro _; exact .bys h0 h1 h2 (fun i n hn => hcell _ _ (h3 i n hn))
  | bys0 h0 h => intro _; exact .bys0 h0 h
  | brs h0 h1 h => intro _; exact .brs h0 h1 (hκ _ _ h)
  | rsl h => intro _; exact .rsl (hκ _ _ h)
  | rslo h h' h2 => intro _; exact .rslo (hκ _ _ h) h' h2
  | ptr h => intro _; exact .ptr (hκ _ _ h)
  | cel h1 h2 _ ih => intro hn; exact .cel h1 (hcell _ _ h2) (ih (by simpa [V.noYl] using hn))
  | func h1 _ h2 _ ih1 ih2 =>
    intro hn
    simp only [V.noYl, Bool.and_eq_true] at hn
    exact .func h1 (fun i x v hx hv => ih1 i x v hx hv (noYls_get hn.1 hx)) h2 (fun i x v hx hv => ih2 i x v hx hv (noYls_get hn.2 hx))
  | iface t _ ih => intro hn; exact .iface t (ih (by simpa [V.noYl] using hn))
  | agg h1 _ ih => intro hn; exact .agg h1 (fun i x v hx hv => ih i x v hx hv (noYls_get (by simpa [V.noYl] using hn) hx))
  | tup h1 _ ih => intro hn; exact .tup h1 (fun i x v hx hv => ih i x v hx hv (noYls_get (by simpa [V.noYl] using hn) hx))
  | yld => intro hn; simp [V.noYl] at hn
  | mp h => intro _; exact .mp (hκ _ _ h)
  | mpc ks vs v => intro _; exact .mpc ks vs v

theorem VR.moveL {c c2 : Cx} (hcell : ∀ a u, c.w.cell? a = some u → c2.w.cell? a = some u) (hκ : ∀ o x, c.κ o = some x → c2.κ o = some x) (hl : ∀ (r : Nat) (rc : Loop), c.w.heap[r]? = some (.loop rc) → c2.w.heap[r]? = some (.loop rc)) {x : V I} {v : Value} (h : VR Δ B c x v) : VR Δ B c2 x v := by
  induction h with
  | any v => exact .any v
  | bool b => exact .bool b
  | int k n => exact .int k n
  | str s => exact .str s
  | sst j xs => exact .sst j xs
  | nilIface => exact .nilIface
  | nilPtr => exact .nilPtr
  | nilFunc => exact .nilFunc
  | nil => exact .nil
  | emp ad cap h => exact .emp ad cap h
  | slice us h1 h2 h3 h4 _ ih => exact .slice us h1 h2 h3 (fun j u hu => hcell _ _ (h4 j u hu)) ih
  | snil => exact .snil
  | aint k n => exact .aint k n
  | bc j v => exact .bc j v
  | bsl h0 h1 h2 h3 => exact .bsl h0 h1 h2 (fun i n hn => hcell _ _ (h3 i n hn))
  | bsl0 h0 h => exact .bsl0 h0 h
  | bys h0 h1 h2 h3 => exact .bys h0 h1 h2 (fun i n hn => hcell _ _ (h3 i n hn))
  | bys0 h0 h => exact .bys0 h0 h
  | brs h0 h1 h => exact .brs h0 h1 (hκ _ _ h)
  | rsl h => exact .rsl (hκ _ _ h)
  | rslo h h' h2 => exact .rslo (hκ _ _ h) h' h2
  | ptr h => exact .ptr (hκ _ _ h)
  | cel h1 h2 _ ih => exact .cel h1 (hcell _ _ h2) ih
  | func h1 _ h2 _ ih1 ih2 => exact .func h1 ih1 h2 ih2
  | iface t _ ih => exact .iface t ih
  | agg h1 _ ih => exact .agg h1 ih
  | tup h1 _ ih => exact .tup h1 ih
  | yld h1 h2 h3 h4 h5 h6 h7 _ ih => exact .yld (hl _ _ h1) h2 h3 h4 h5 h6 h7 ih
  | mp h => exact .mp (hκ _ _ h)
  | mpc ks vs v => exact .mpc ks vs v

/-! ### A block that is no cells is turned -/
section put
variable {w : World} {l : Nat} {o o' : Obj}
theorem putObj_cell (hl : w.heap[l]? = some o) (ho : isLp o = true) (ad : Addr) (u : Value) (h : w.cell? ad = some u) : (w.putObj l o').cell? ad = some u := by
  have hne : ad.block ≠ l := by
    intro e
    subst e
    simp only [World.cell?, hl] at h
    cases o <;> simp [isLp] at ho h
  rw [World.cell?_of_block (w := w) (World.putObj_heap_other hne)]; exact h
theorem putObj_frozen (hl : w.heap[l]? = some o) (ho : isLp o = true) (ho' : isLp o' = true) (ad : Addr) : (w.putObj l o').frozen? ad = w.frozen? ad := by
  by_cases hne : ad.block = l
  · have h1 : (w.putObj l o').heap[ad.block]? = some o' := by rw [hne]; exact World.putObj_heap_same (Array.getElem?_eq_some_iff.1 hl).1
    have h2 : w.heap[ad.block]? = some o := by rw [hne]; exact hl
    simp only [World.frozen?, h1, h2]
    cases o <;> simp [isLp] at ho <;> cases o' <;> simp [isLp] at ho' <;> rfl
  · exact World.frozen?_of_block (w := w) (World.putObj_heap_other hne)
end put

theorem Blk2.moveN {c c2 : Cx} (hcell : ∀ a u, c.w.cell? a = some u → c2.w.cell? a = some u) (hκ : ∀ o x, c.κ o = some x → c2.κ o = some x) {x : Ob I} {cur : Array Value} (h : Blk2 Δ B c x cur) (hn : noYls x = true) : Blk2 Δ B c2 x cur :=
  ⟨⟨h.vrs.1, fun i y v hy hv => (h.vrs.2 i y v hy hv).moveN hcell hκ (noYls_get hn hy)⟩, h.big⟩
theorem Blk2.moveL {c c2 : Cx} (hcell : ∀ a u, c.w.cell? a = some u → c2.w.cell? a = some u) (hκ : ∀ o x, c.κ o = some x → c2.κ o = some x) (hl : ∀ (r : Nat) (rc : Loop), c.w.heap[r]? = some (.loop rc) → c2.w.heap[r]? = some (.loop rc)) {x : Ob I} {cur : Array Value} (h : Blk2 Δ B c x cur) : Blk2 Δ B c2 x cur :=
  ⟨⟨h.vrs.1, fun i y v hy hv => (h.vrs.2 i y v hy hv).moveL hcell hκ hl⟩, h.big⟩

theorem ObR.moveN {c c2 : Cx} (hcell : ∀ a u, c.w.cell? a = some u → c2.w.cell? a = some u) (hκ : ∀ o x, c.κ o = some x → c2.κ o = some x) {x : Ob I} {O : Obj} {n : Nat} (h : ObR Δ B c x O n) (hn : noYls x = true) : ObR Δ B c2 x O n := by
  cases h with
  | cells e h1 h2 h3 => exact .cells e h1 (h2.moveN hcell hκ hn) h3
  | map cl n h1 h2 =>
    simp only [noYls, V.noYl, Bool.and_true, Bool.and_eq_true] at hn
    exact .map cl n ⟨h1.1, fun i y v hy hv => (h1.2 i y v hy hv).moveN hcell hκ (noYls_get hn.1 hy)⟩ ⟨h2.1, fun i y v hy hv => (h2.2 i y v hy hv).moveN hcell hκ (noYls_get hn.2 hy)⟩
theorem ObR.moveL {c c2 : Cx} (hcell : ∀ a u, c.w.cell? a = some u → c2.w.cell? a = some u) (hκ : ∀ o x, c.κ o = some x → c2.κ o = some x) (hl : ∀ (r : Nat) (rc : Loop), c.w.heap[r]? = some (.loop rc) → c2.w.heap[r]? = some (.loop rc)) {x : Ob I} {O : Obj} {n : Nat} (h : ObR Δ B c x O n) : ObR Δ B c2 x O n := by
  cases h with
  | cells e h1 h2 h3 => exact .cells e h1 (h2.moveL hcell hκ hl) h3
  | map cl n h1 h2 => exact .map cl n ⟨h1.1, fun i y v hy hv => (h1.2 i y v hy hv).moveL hcell hκ hl⟩ ⟨h2.1, fun i y v hy hv => (h2.2 i y v hy hv).moveL hcell hκ hl⟩

/-- The store in a world in which one such block has been turned. -/
theorem SInv.turn (h : SInv Δ B c sto) {l : Nat} {o o' : Obj} (hl : c.w.heap[l]? = some o) (ho : isLp o = true) (hx : noYlO sto.obs = true ∨ ∀ rc, o ≠ .loop rc) : SInv Δ B ⟨c.w.putObj l o', c.κ⟩ sto := by
  have hcell := fun a u => putObj_cell (o' := o') hl ho a u
  have hbT : KeepC B c.w (c.w.putObj l o') := fun k hk cur e z hx => by
    have hne : k ≠ l := by intro e; subst e; rw [hl] at hx; cases hx; cases ho
    rw [World.putObj_heap_other hne]; exact hx
  refine ⟨by rw [World.putObj_size]; exact h.base, h.fresh, fun q b n hk => by rw [World.putObj_size]; exact h.blk q b n hk, fun q x hq => ?_, h.inj, h.desc, fun w hb => h.g w ((hbT).trans hb)⟩
  obtain ⟨b, cur, e, h1, h2, h4⟩ := h.ob q x hq
  have hne : b ≠ l := by intro e; subst e; rw [hl] at h2; cases h2; rw [h4.free.1] at ho; cases ho
  refine ⟨b, cur, e, h1, by rw [World.putObj_heap_other hne]; exact h2, ?_⟩
  rcases hx with hx | hx
  · exact h4.moveN (c2 := ⟨c.w.putObj l o', c.κ⟩) hcell (fun _ _ h => h) (noYlO_look hx hq)
  · refine h4.moveL (c2 := ⟨c.w.putObj l o', c.κ⟩) hcell (fun _ _ h => h) (fun r rc hr => ?_)
    have : r ≠ l := by intro e; subst e; rw [hl] at hr; cases hr; exact hx rc rfl
    show (c.w.putObj l o').heap[r]? = _
    rw [World.putObj_heap_other this]; exact hr

/-- A step, and one such block of its own turned. -/
theorem Step.putNew {c' : Cx} {sto' : Sto I} (h : Step Δ B c sto c' sto') (hb : B ≤ c.w.heap.size) {l : Nat} {o o' : Obj} (hnew : c.w.heap.size ≤ l) (hl : c'.w.heap[l]? = some o) (ho : isLp o = true) (ho' : isLp o' = true) (hx : noYlO sto'.obs = true ∨ ∀ rc, o ≠ .loop rc) :
    Step Δ B c sto ⟨c'.w.putObj l o', c'.κ⟩ sto' := by
  have hold : ∀ b, b < c.w.heap.size → (c'.w.putObj l o').heap[b]? = c'.w.heap[b]? := fun b hb => World.putObj_heap_other (by omega)
  refine ⟨h.inv.turn hl ho hx, h.κ, ⟨h.below.os, h.below.tape, h.below.output, by rw [World.putObj_size]; exact h.below.size, fun b hb' => (hold b (by omega)).trans (h.below.block b hb')⟩, h.next, h.low,
    fun b hb' hh => (hold b hb').trans (h.keep b hb' hh), h.old, h.new, fun ad ha => (putObj_frozen hl ho ho' ad).trans (h.frz ad ha), fun b q hb' hq => ?_⟩
  rw [hold b (Array.getElem?_eq_some_iff.1 hb').1]
  exact h.oth b q hb' hq

/-- The store in a world that has grown by blocks that nobody knows. -/
theorem Step.world (h : SInv Δ B c sto) {w' : World} (hs : c.w.heap.size ≤ w'.heap.size) (hold : ∀ b, b < c.w.heap.size → w'.heap[b]? = c.w.heap[b]?) (hos : w'.os = c.w.os) (htp : w'.tape = c.w.tape) (hou : w'.output = c.w.output)
    (hfr : ∀ a : Addr, a.block < c.w.heap.size → w'.frozen? a = c.w.frozen? a) : Step Δ B c sto ⟨w', c.κ⟩ sto := by
  have hb := h.base
  have hbe : Below B c.w w' := ⟨hos, htp, hou, hs, fun b hb' => hold b (by omega)⟩
  have hle : Cx.le B c ⟨w', c.κ⟩ := ⟨fun b hb' => hold b (by omega), fun _ _ h => h, .of_lt hold⟩
  refine ⟨⟨Nat.le_trans hb hs, h.fresh, fun o b n hk => ⟨(h.blk o b n hk).1, Nat.lt_of_lt_of_le (h.blk o b n hk).2 hs⟩, fun o x hx => ?_, h.inj, h.desc, fun w hb => h.g w (hbe.keepC.trans hb)⟩, fun _ _ h => h, hbe, Nat.le_refl _, Nat.le_refl _, fun b hb' _ => hold b hb',
    fun o b n k1 k2 => (by simp only at k1; rw [k2] at k1; cases k1), fun o x k1 k2 => (by simp only at k1; rw [k2] at k1; cases k1), hfr, .of_lt hold⟩
  obtain ⟨b, cur, e, h1, h2, h4⟩ := h.ob o x hx
  exact ⟨b, cur, e, h1, (hold b (h.blk _ _ _ h1).2).trans h2, h4.mono hle⟩

theorem frozen_alloc (w : World) {o : Obj} (ho : isLp o = true) (ad : Addr) : (w.alloc o).frozen? ad = w.frozen? ad := by
  rcases Nat.lt_trichotomy ad.block w.heap.size with h1 | h1 | h1
  · exact World.frozen?_of_block (w := w) (heap_alloc_old w _ h1)
  · have e1 : (w.alloc o).heap[ad.block]? = some o := by rw [h1]; exact heap_alloc_new w o
    rw [frozen_none (w := w) (by rw [h1]; simp)]
    simp only [World.frozen?, e1]
    cases o <;> simp [isLp] at ho <;> rfl
  · rw [frozen_none (w := w) (by simp; omega), frozen_none (w := w.alloc o) (by simp; omega)]

/-- The statement 'for .. range' over a function. -/
theorem range_sound (hN : N.Ok Δ) (hG : NoCount P) (hC : COkY P Δ B C) {nt : Nat} {g : Operand} {ps : Array Tmp} {as bd : Code} {st : St I} {r : V I} {s : Sto I}
    (hs : acallV C st.sto (fnOnly (st.eval N g)) [.yld ps.toList as bd nt ((List.range nt).map fun i => st.tm.get .any i)] = some (r, s)) (hy : noYlO s.obs = true) {n : Nat} {Q : Exit → Act → World → Prop}
    (h : SInv Δ B c st.sto) (htm : TmR Δ B c st.tm a.tmps) (hsz : a.tmps.size = nt) (hQ : After Δ B c st.sto nt ⟨st.tm, s⟩ a.defers (Q .normal)) : (Code.rangeFunc g ps as bd).wpIn (Fw none) n P Q a c.w := by
  refine wpIn_rangeFunc ?_
  intro fn _
  obtain ⟨rec, hrec⟩ : ∃ rec : Loop, rec = { state := .ready, pending := none, fn, tmps := a.tmps, params := ps, assign := as, body := bd, defers := c.w.heap.size } := ⟨_, rfl⟩
  obtain ⟨W1, hW1⟩ : ∃ W1, (c.w.alloc (.deferred (some []))).alloc (.loop rec) = W1 := ⟨_, rfl⟩
  have hL1 : W1.heap[c.w.heap.size + 1]? = some (.loop rec) := by
    rw [← hW1]; have := heap_alloc_new (c.w.alloc (.deferred (some []))) (.loop rec); rwa [World.size_alloc] at this
  have hD1 : W1.heap[c.w.heap.size]? = some (.deferred (some [])) := by
    rw [← hW1]; exact (heap_alloc_old _ _ (by simp)).trans (heap_alloc_new c.w _)
  have hold : ∀ b, b < c.w.heap.size → W1.heap[b]? = c.w.heap[b]? := fun b hb => by
    rw [← hW1, heap_alloc_old _ _ (by simp; omega), heap_alloc_old _ _ hb]
  have hst1 : Step Δ B c st.sto ⟨W1, c.κ⟩ st.sto := by
    refine Step.world h (by rw [← hW1]; simp; omega) hold (by rw [← hW1]; rfl) (by rw [← hW1]; rfl) (by rw [← hW1]; rfl) (fun ad _ => ?_)
    rw [← hW1, frozen_alloc _ rfl, frozen_alloc _ rfl]
  have htm1 := htm.mono hst1.le
  have hyv : VR Δ B ⟨W1, c.κ⟩ (.yld ps.toList as bd nt ((List.range nt).map fun i => st.tm.get .any i)) (.func (.yield (c.w.heap.size + 1)) #[] #[]) := by
    refine .yld hL1 (by rw [hrec]) (by rw [hrec]) (by rw [hrec]) (by rw [hrec]) (by rw [hrec]) (by rw [hrec]; exact hsz) (fun i x v hx hv => ?_)
    rw [List.getElem?_map] at hx
    obtain ⟨i', hi', rfl⟩ := Option.map_eq_some_iff.1 hx
    have hii : i' = i := by
      have := (List.getElem?_eq_some_iff.1 hi').2
      simpa using this.symm
    subst hii
    have := htm1 i'
    rw [hrec] at hv
    simp only at hv
    rwa [Array.getD_eq_getD_getElem?, hv] at this
  have hf := VR_eval hN htm1 g
  have hinv : ∃ gf first cap s1, st.eval N g = .func gf first cap ∧ gf < 1000000 ∧ C gf (first ++ [.yld ps.toList as bd nt ((List.range nt).map fun i => st.tm.get .any i)] ++ cap) ⟨st.sto.next, st.sto.obs, st.sto.next⟩ = some (r, s1) ∧ s = ⟨s1.next, s1.obs, if Nat.blt s1.low st.sto.low then s1.low else st.sto.low⟩ := by
    rcases acallV_inv hs with ⟨gf, first, cap, s1, he, hg, hc, hss⟩ | ⟨_, _, _, _, _, s1, he, hc, _⟩
    · refine ⟨gf, first, cap, s1, ?_, hg, hc, hss⟩
      generalize st.eval N g = x at he ⊢
      cases x <;> simp [fnOnly] at he ⊢
      exact he
    · generalize st.eval N g = x at he
      cases x <;> simp [fnOnly] at he
  obtain ⟨gf, first, cap, s1, he', hg, hc, rfl⟩ := hinv
  rw [he'] at hf
  obtain ⟨ra, rb, hrf, hvr⟩ := func_args (rx := #[.func (.yield (c.w.heap.size + 1)) #[] #[]]) hf (.cons hyv .nil)
  obtain ⟨hgood, fn2, hfn, hb⟩ := hC.fn gf _ _ r s1 hc hg
  refine ⟨c.w.heap.size + 1, [markOf c.w.heap.size], W1, { target := .fn (.func gf) rb, args := ra ++ #[.func (.yield (c.w.heap.size + 1)) #[] #[]] }, W1, gf, ra ++ #[.func (.yield (c.w.heap.size + 1)) #[] #[]] ++ rb, W1, ?_, ?_, fun _ _ => trivial, ?_, FwD, ?_⟩
  · rw [← hW1, hrec]; exact run_enterLoop_outer _ _ _ _ _
  · simp only [resolve, hrf, Deferred.ofValue]
    simp [Act.eval]
  · simp only [invoke]
    exact run_callFunc hG hfn hb _ _
  · refine callsFw (Calls.mono (hgood ⟨W1, c.κ⟩ _ (hst1.inv.low _) hvr) ?_)
    rintro e w' ⟨rv, c', rfl, rfl, hst, hv⟩
    have hst2 := hst1.trans hst.called
    have hl2 : c'.w.heap[c.w.heap.size + 1]? = some (.loop rec) := hst.oth _ _ hL1 rfl
    have hd2 : c'.w.heap[c.w.heap.size]? = some (.deferred (some [])) := hst.oth _ _ hD1 rfl
    have hend : (Instr.endLoop (c.w.heap.size + 1)).run P c'.w = .ok none (c'.w.putObj (c.w.heap.size + 1) (.loop { rec with state := .exhausted })) := by
      have := run_endLoop (P := P) hl2 (by rw [hrec]; simp)
      rw [this, hrec]
    refine ⟨none, _, hend, ?_⟩
    · have hst3 := hst2.putNew (o' := .loop { rec with state := .exhausted }) h.base (l := c.w.heap.size + 1) (by omega) hl2 rfl rfl (.inl hy)
      refine hQ ⟨_, c'.κ⟩ _ hst3 (htm.mono hst3.le) hsz ⟨[c.w.heap.size], by simp, fun D hD => ?_, rfl⟩
      simp only [List.mem_singleton] at hD
      subst hD
      exact ⟨Nat.le_refl _, (World.putObj_heap_other (by omega)).trans hd2⟩

/-- What the machine asks of a tree of temporaries. -/
theorem Tr.all_get {α : Type} {p : α → Bool} {d : α} (hd : p d = true) : ∀ {t : Tr α}, Tr.all p t = true → ∀ i, p (t.get d i) = true := by
  intro t
  induction t with
  | leaf => intro _ i; exact hd
  | node l v r il ir =>
    intro h i
    simp only [Tr.all, Bool.and_eq_true] at h
    cases i with
    | zero => exact h.1
    | succ i =>
      rw [Tr.get_succ]
      split
      · exact il h.2.1 _
      · exact ir h.2.2 _

theorem setPs_rel {nt : Nat} : ∀ {ps : List Nat} {xs : List (V I)} {vs : List Value} {tm : Tr (V I)} {tmps : Array Value}, VRs Δ B c xs vs → TmR Δ B c tm tmps → tmps.size = nt → xs.length = ps.length →
    TmR Δ B c (setPs nt ps xs tm) ((ps.zip vs).foldl (fun t (p, v) => t.setIfInBounds p v) tmps) ∧ ((ps.zip vs).foldl (fun t (p, v) => t.setIfInBounds p v) tmps).size = nt := by
  intro ps
  induction ps with
  | nil => intro xs vs tm tmps hv ht hs hl; cases xs <;> exact ⟨ht, hs⟩
  | cons p ps ih =>
    intro xs vs tm tmps hv ht hs hl
    cases xs with
    | nil => simp at hl
    | cons x xs =>
      cases vs with
      | nil => have := hv.1; simp at this
      | cons v vs =>
        simp only [setPs, List.zip_cons_cons, List.foldl_cons]
        have h1 := TmR.set (a := { tmps := tmps, defers := [] }) ht hv.head (some p)
        rw [show ({ tmps := tmps, defers := [] } : Act).tmps.size = nt from hs] at h1
        exact ih hv.tail h1 (by rw [Array.size_setIfInBounds]; exact hs) (by simpa using hl)

end
end Go.Sx

/-
  Statements, loops, answers, functions: THE MACHINE TELLS THE TRUTH.
-/
namespace Go.Sx
open Go.RowKit

section
variable {I : Type} {N : Num I} {Δ : Den I} {P : Program} {T : TypeId → Option Ti} {C : FuncId → List (V I) → Sto I → Option (V I × Sto I)} {B : Nat} {c : Cx} {st : St I} {sto : Sto I} {a : Act}

def exitOf : AExit → Exit
  | .normal => .normal
  | .exit id => .exit id
  | .goto l => .goto l
  | .ret => .ret

/-- What follows a jump within a scope. -/
def scopeJump (ro : Option Nat) (n : Nat) (P : Program) (c : Code) (l : Nat) (Q : Exit → Act → World → Prop) (a : Act) (w : World) : Prop :=
  ∀ (m : Machine) (b : Frame) (k : List Item) (cs : List Frame), b.roundOf = ro → ArrivesIn (Machine.fenced P (Fw ro)) P m b (.inScope c :: k) cs (.goto l) a w → ∃ e a' w', Q e a' w' ∧ ArrivesIn (Machine.fenced P (Fw ro)) P m b k cs e a' w'

/-- As Q; a jump goes on within the scope. -/
def scQ (ro : Option Nat) (n : Nat) (P : Program) (c : Code) (Q : Exit → Act → World → Prop) : Exit → Act → World → Prop
  | .goto l, a, w => scopeJump ro n P c l Q a w
  | e, a, w => Q e a w

theorem fencedFw {ro : Option Nat} (m : Machine) : m.fenced P (Fw ro) := fenced_wide P m
theorem roomFw {ro : Option Nat} (n : Nat) : (Fw ro).room n := room_wide n

theorem stepR_scope {b : Frame} {a : Act} {k : List Item} {cs : List Frame} {w : World} {c : Code} : step P (lone (b.atR a (.code (.scope c) :: k)) cs w) = .next (lone (b.atR a (.code c :: .inScope c :: k)) cs w) :=
  step_lone_go (by simp [stepG, stepG.exec, Frame.atR])
theorem stepR_inScope {b : Frame} {a : Act} {k : List Item} {cs : List Frame} {w : World} {c : Code} : step P (lone (b.atR a (.inScope c :: k)) cs w) = .next (lone (b.atR a k) cs w) :=
  step_lone_go (by simp [stepG, stepG.exec, Frame.atR])

theorem scope_arrives {ro : Option Nat} {n : Nat} {c : Code} {Q : Exit → Act → World → Prop} {m : Machine} {b : Frame} {k : List Item} {cs : List Frame} {e : Exit} {a : Act} {w : World} (hb : b.roundOf = ro) (hq : scQ ro n P c Q e a w)
    (harr : ArrivesIn (Machine.fenced P (Fw ro)) P m b (.inScope c :: k) cs e a w) : ∃ e a' w', Q e a' w' ∧ ArrivesIn (Machine.fenced P (Fw ro)) P m b k cs e a' w' := by
  cases e with
  | normal => exact ⟨.normal, a, w, hq, StepsIn.trans harr (.one (fencedFw _) stepR_inScope)⟩
  | exit id => exact ⟨.exit id, a, w, hq, fun k' hk => harr.1 k' (by simp [exitTo, hk]), fun hr hk => harr.2 hr (by simp [exitTo, hk])⟩
  | goto l => exact hq m b k cs hb harr
  | ret => exact ⟨_, a, w, hq, harr⟩
  | panic ch => exact ⟨_, a, w, hq, harr⟩
  | outgrown => exact ⟨_, a, w, hq, harr⟩

theorem wp_scope_any {ro : Option Nat} {n : Nat} {c : Code} {Q : Exit → Act → World → Prop} {a : Act} {w : World} (h : c.wpIn (Fw ro) n P (scQ ro n P c Q) a w) : (Code.scope c).wpIn (Fw ro) n P Q a w := by
  intro b k cs hb hf hr
  obtain ⟨e, a₁, w₁, hq, harr⟩ := h b (.inScope c :: k) cs hb hf hr
  obtain ⟨e2, a2, w2, hq2, harr2⟩ := scope_arrives hb hq harr
  exact ⟨e2, a2, w2, hq2, .of_steps (.one (fencedFw _) stepR_scope) harr2⟩

theorem scopeJump_here {ro : Option Nat} {n : Nat} {c rest : Code} {l : Nat} {Q : Exit → Act → World → Prop} {a : Act} {w : World} (hf : findLabel c l = some rest) (h : rest.wpIn (Fw ro) n P (scQ ro n P c Q) a w) : scopeJump ro n P c l Q a w := by
  intro m b k cs hb harr
  have hg : gotoIn l (.inScope c :: k) = some (.code rest :: .inScope c :: k) := by simp [gotoIn, hf]
  obtain ⟨e, a₁, w₁, hq, harr1⟩ := h b (.inScope c :: k) cs hb trivial (roomFw _)
  exact scope_arrives hb hq (.of_steps (harr.1 _ hg) harr1)

theorem scopeJump_out {ro : Option Nat} {n : Nat} {c : Code} {l : Nat} {Q : Exit → Act → World → Prop} {a : Act} {w : World} (hf : findLabel c l = none) (h : Q (.goto l) a w) : scopeJump ro n P c l Q a w := by
  intro m b k cs hb harr
  have hg : gotoIn l (.inScope c :: k) = gotoIn l k := by simp [gotoIn, hf]
  exact ⟨.goto l, a, w, h, fun k' hk => harr.1 k' (by rw [hg]; exact hk), fun hr hk => by
    obtain ⟨k1, h1, h2⟩ := harr.2 hr (by rw [hg]; exact hk)
    exact ⟨k1, h1, h2⟩⟩

/-- A region whose order is open ends so, whatever the order. -/
def DOk (P : Program) (Δ : Den I) (B nt : Nat) (D : List Oper → St I → Option (St I)) : Prop :=
  ∀ (ops : Array Oper) (st st' : St I), D ops.toList st = some st' → ∀ (c : Cx) (a : Act) (id : Nat) (ro : Option Nat) (n : Nat) (Q : Exit → Act → World → Prop), SInv Δ B c st.sto → TmR Δ B c st.tm a.tmps → a.tmps.size = nt →
    After Δ B c st.sto nt st' a.defers (Q .normal) → (Code.region id ops true).wpIn (Fw ro) n P Q a c.w

/-- The loops that the oracle tells end so. -/
def LOk (ro : Option Nat) (P : Program) (Δ : Den I) (B nt : Nat) (L : Code → St I → Option (AExit × St I)) : Prop := ∀ (code : Code) (st : St I) (e : AExit) (st' : St I), L code st = some (e, st') →
  ∀ (c : Cx) (a : Act) (n : Nat) (Q : Exit → Act → World → Prop), SInv Δ B c st.sto → TmR Δ B c st.tm a.tmps → a.tmps.size = nt → After Δ B c st.sto nt st' a.defers (Q (exitOf e)) →
    (match scopeOf code with | some (l, c') => scopeJump ro n P c' l Q a c.w | none => match rangeOf code with | some _ => code.wpIn (Fw ro) n P Q a c.w | none => (Code.loop code).wpIn (Fw ro) n P Q a c.w)

theorem aexec_sound (hN : N.Ok Δ) (hG : NoCount P) (hT : TOk P T) (hC : COkY P Δ B C) {nt : Nat} {D : List Oper → St I → Option (St I)} (hD : DOk P Δ B nt D) {ro : Option Nat} {L : Code → St I → Option (AExit × St I)} (hL : LOk ro P Δ B nt L) :
    ∀ (code : Code) (st : St I) (e : AExit) (st' : St I), aexec N T C nt D L code st = some (e, st') →
      ∀ (c : Cx) (a : Act) (n : Nat) (Q : Exit → Act → World → Prop), SInv Δ B c st.sto → TmR Δ B c st.tm a.tmps → a.tmps.size = nt → After Δ B c st.sto nt st' a.defers (Q (exitOf e)) → code.wpIn (Fw ro) n P Q a c.w := by
  intro code
  induction code with
  | skip => intro st e st' hs c a n Q h htm hsz hQ; simp [aexec] at hs; obtain ⟨rfl, rfl⟩ := hs; exact wpIn_skip (hQ c a (Step.refl h) htm hsz (.refl _))
  | region id ops draw =>
    intro st e st' hs c a n Q h htm hsz hQ
    simp only [aexec] at hs
    split at hs
    · rename_i st1 h1
      cases hs
      cases draw with
      | true => simp only [if_true] at h1; exact hD ops st _ h1 c a id ro n Q h htm hsz hQ
      | false =>
        simp only [Bool.false_eq_true, if_false] at h1
        exact wpIn_region_list (aops_sound hN hG hT hC ops.toList c st a _ h htm hsz h1 hQ)
    · cases hs
  | seq x y ihx ihy =>
    intro st e st' hs c a n Q h htm hsz hQ
    simp only [aexec] at hs
    split at hs
    · rename_i st1 h1
      refine wpIn_seq (ihx st .normal st1 h1 c a n _ h htm hsz (fun c' a' g1 g2 g3 g4 => ?_))
      exact ihy st1 e st' hs c' a' n Q g1.inv g2 g3 (fun c2 a2 k1 k2 k3 k4 => hQ c2 a2 (g1.trans k1) k2 k3 (g4.trans g1.below.size k1.oth k4))
    · rename_i hne
      have hex : e ≠ .normal := fun he => hne st' (by rw [hs, he])
      refine wpIn_seq (ihx st e st' hs c a n _ h htm hsz (fun c' a' g1 g2 g3 g4 => ?_))
      cases e with
      | normal => exact (hex rfl).elim
      | exit id => exact hQ c' a' g1 g2 g3 g4
      | goto l => exact hQ c' a' g1 g2 g3 g4
      | ret => exact hQ c' a' g1 g2 g3 g4
  | cond x p q ihp ihq =>
    intro st e st' hs c a n Q h htm hsz hQ
    simp only [aexec] at hs
    split at hs
    · rename_i b hb
      have hx := VR_eval hN htm x
      rw [hb] at hx
      have hx' : a.eval x = .bool b := by
        generalize a.eval x = rx at hx
        cases hx; rfl
      cases b with
      | true => exact wpIn_cond_true hx' (ihp st e st' hs c a n Q h htm hsz hQ)
      | false => exact wpIn_cond_false hx' (ihq st e st' hs c a n Q h htm hsz hQ)
    · cases hs
  | block id x ih =>
    intro st e st' hs c a n Q h htm hsz hQ
    simp only [aexec] at hs
    split at hs
    · rename_i id' st1 h1
      refine wpIn_block (ih st (.exit id') st1 h1 c a n _ h htm hsz (fun c' a' g1 g2 g3 g4 => ?_))
      simp only [exitOf, Exit.inBlock]
      split at hs
      · rename_i he; cases hs; rw [if_pos he]; exact hQ c' a' g1 g2 g3 g4
      · rename_i he; cases hs; rw [if_neg he]; exact hQ c' a' g1 g2 g3 g4
    · rename_i hne
      refine wpIn_block (ih st e st' hs c a n _ h htm hsz (fun c' a' g1 g2 g3 g4 => ?_))
      cases e with
      | normal => exact hQ c' a' g1 g2 g3 g4
      | exit id' => exact (hne id' st' hs).elim
      | goto l => exact hQ c' a' g1 g2 g3 g4
      | ret => exact hQ c' a' g1 g2 g3 g4
  | loop x ih =>
    intro st e st' hs c a n Q h htm hsz hQ
    simp only [aexec, bite_eq] at hs
    split at hs
    · cases hs
    · rename_i hsc
      have h1 := hL x st e st' hs c a n Q h htm hsz hQ
      have h2 : scopeOf x = none := by cases x <;> first | rfl | (exact (hsc rfl).elim)
      have h3 : rangeOf x = none := by cases x <;> first | rfl | (exact (hsc rfl).elim)
      rw [h2] at h1
      simp only [h3] at h1
      exact h1
  | exit id => intro st e st' hs c a n Q h htm hsz hQ; simp [aexec] at hs; obtain ⟨rfl, rfl⟩ := hs; exact wpIn_exit (hQ c a (Step.refl h) htm hsz (.refl _))
  | ret => intro st e st' hs c a n Q h htm hsz hQ; simp [aexec] at hs; obtain ⟨rfl, rfl⟩ := hs; exact wpIn_ret (hQ c a (Step.refl h) htm hsz (.refl _))
  | rangeFunc g ps as bd =>
    intro st e st' hs c a n Q h htm hsz hQ
    simp only [aexec] at hs
    exact hL _ st e st' hs c a n Q h htm hsz hQ
  | scope x ih =>
    intro st e st' hs c a n Q h htm hsz hQ
    simp only [aexec] at hs
    split at hs
    · rename_i l st1 h1
      refine wp_scope_any (n := n) (ih st (.goto l) st1 h1 c a n _ h htm hsz (fun c' a' g1 g2 g3 g4 => ?_))
      exact hL (.scope (.seq (.goto l) x)) st1 e st' hs c' a' n Q g1.inv g2 g3 (fun c2 a2 k1 k2 k3 k4 => hQ c2 a2 (g1.trans k1) k2 k3 (g4.trans g1.below.size k1.oth k4))
    · rename_i hne
      refine wp_scope_any (n := n) (ih st e st' hs c a n _ h htm hsz (fun c' a' g1 g2 g3 g4 => ?_))
      cases e with
      | normal => exact hQ c' a' g1 g2 g3 g4
      | exit id => exact hQ c' a' g1 g2 g3 g4
      | goto l => exact (hne l st' hs).elim
      | ret => exact hQ c' a' g1 g2 g3 g4
  | label l => intro st e st' hs c a n Q h htm hsz hQ; simp [aexec] at hs; obtain ⟨rfl, rfl⟩ := hs; exact wpIn_label (hQ c a (Step.refl h) htm hsz (.refl _))
  | goto l => intro st e st' hs c a n Q h htm hsz hQ; simp [aexec] at hs; obtain ⟨rfl, rfl⟩ := hs; exact wpIn_goto (hQ c a (Step.refl h) htm hsz (.refl _))
  | refuse => intro st e st' hs; simp [aexec] at hs

theorem keepOnly_rel {tmps : Array Value} (ks : List Nat) (st : St I) (htm : TmR Δ B c st.tm tmps) : ∀ (tm : Tr (V I)), TmR Δ B c tm tmps → TmR Δ B c (keepOnly ks st tm) tmps := by
  induction ks with
  | nil => intro tm h; exact h
  | cons k r ih =>
    intro tm h
    exact ih _ (Tr.set_all tm k (fun m x => VR Δ B c x (tmps.getD m undef)) (fun m => .any _) (htm k) (fun m _ => h m))

theorem havoc_rel {tmps : Array Value} {d : Nat} (ks : Option (List Nat)) (st : St I) (htm : TmR Δ B c st.tm tmps) : TmR Δ B c (havoc (Tr.full .any d) ks st).tm tmps := by
  cases ks with
  | none => exact htm
  | some ks => exact keepOnly_rel ks st htm _ (fun i => by rw [Tr.get_full]; exact .any _)

theorem havoc_sto {t : Tr (V I)} (ks : Option (List Nat)) (st : St I) : (havoc t ks st).sto = st.sto := by cases ks <;> rfl

theorem setArgs_rel {tmps : Array Value} : ∀ (l : List (V I)) (i : Nat) (tm : Tr (V I)), (∀ (j : Nat) (x : V I), l[j]? = some x → VR Δ B c x (tmps.getD (i + j) undef)) → TmR Δ B c tm tmps → TmR Δ B c (setArgs l i tm) tmps := by
  intro l
  induction l with
  | nil => intro i tm _ h; exact h
  | cons x r ih =>
    intro i tm hl h
    refine ih (i + 1) _ (fun j y hy => ?_) (Tr.set_all tm i (fun m x => VR Δ B c x (tmps.getD m undef)) (fun m => .any _) (by have := hl 0 x rfl; simpa using this) (fun m _ => h m))
    have := hl (j + 1) y (by simpa using hy)
    rwa [show i + (j + 1) = i + 1 + j by omega] at this

theorem rangeOf_eq {c : Code} {q : Operand × Array Tmp × Code × Code} (h : rangeOf c = some q) : c = .rangeFunc q.1 q.2.1 q.2.2.1 q.2.2.2 := by
  cases c <;> simp [rangeOf] at h
  subst h; rfl

theorem aloopN_rounds (hN : N.Ok Δ) (hG : NoCount P) (hT : TOk P T) (hC : COkY P Δ B C) {nt d : Nat} {D : List Oper → St I → Option (St I)} (hD : DOk P Δ B nt D) {ro : Option Nat} {kp : Code → Option (List Nat)} (hkp : ro = none ∨ ∀ c q, rangeOf c = some q → kp c ≠ none) :
    ∀ (n : Nat) (code : Code) (st : St I) (e : AExit) (st' : St I),
    aloopN N T C nt D kp (Tr.full .any d) n code st = some (e, st') → ∀ (c : Cx) (a : Act) (m : Nat) (Q : Exit → Act → World → Prop), SInv Δ B c st.sto → TmR Δ B c st.tm a.tmps → a.tmps.size = nt → After Δ B c st.sto nt st' a.defers (Q (exitOf e)) →
      (match scopeOf code with | some (l, c') => scopeJump ro m P c' l Q a c.w | none => match rangeOf code with | some _ => code.wpIn (Fw ro) m P Q a c.w | none => Code.roundsIn (Fw ro) m P code Q n a c.w) := by
  intro n
  induction n with
  | zero => intro code st e st' hs; simp [aloopN] at hs
  | succ n ih =>
    intro code st e st' hs c a m Q h htm hsz hQ
    have hL : LOk ro P Δ B nt (aloopN N T C nt D kp (Tr.full .any d) n) := fun code st e st' hs c a m Q h htm hsz hQ => by
      have h1 := ih code st e st' hs c a m Q h htm hsz hQ
      cases hsc : scopeOf code with
      | some p => rw [hsc] at h1; exact h1
      | none =>
        rw [hsc] at h1
        simp only at h1 ⊢
        cases hro : rangeOf code with
        | some q => rw [hro] at h1; exact h1
        | none => rw [hro] at h1; exact wpIn_loop_rounds n h1
    simp only [aloopN] at hs
    cases hsc : scopeOf code with
    | some p =>
      obtain ⟨l, c'⟩ := p
      rw [hsc] at hs
      simp only at hs ⊢
      cases hf : findLabel c' l with
      | none =>
        rw [hf] at hs
        cases hs
        exact scopeJump_out hf (hQ c a (Step.refl h) htm hsz (.refl _))
      | some rest =>
        rw [hf] at hs
        simp only at hs
        refine scopeJump_here hf ?_
        split at hs
        · rename_i l' st1 h1
          refine aexec_sound hN hG hT hC hD hL rest _ (.goto l') st1 h1 c a m _ h htm hsz (fun c2 a2 g1 g2 g3 g4 => ?_)
          exact ih (.scope (.seq (.goto l') c')) st1 e st' hs c2 a2 m Q g1.inv g2 g3 (fun c3 a3 k1 k2 k3 k4 => hQ c3 a3 (g1.trans k1) k2 k3 (g4.trans g1.below.size k1.oth k4))
        · rename_i hne
          refine aexec_sound hN hG hT hC hD hL rest _ e st' hs c a m _ h htm hsz (fun c2 a2 g1 g2 g3 g4 => ?_)
          cases e with
          | normal => exact hQ c2 a2 g1 g2 g3 g4
          | exit id => exact hQ c2 a2 g1 g2 g3 g4
          | goto l2 => exact (hne l2 st' hs).elim
          | ret => exact hQ c2 a2 g1 g2 g3 g4
    | none =>
    rw [hsc] at hs
    simp only at hs ⊢
    cases hro : rangeOf code with
    | some q =>
      obtain ⟨g, ps, as, bd⟩ := q
      have hcode := rangeOf_eq hro
      rw [hro] at hs
      simp only at hs ⊢
      cases hk : kp code with
      | some _ => rw [hk] at hs; cases hs
      | none =>
        rw [hk] at hs
        have hr0 : ro = none := by
          rcases hkp with h0 | h0
          · exact h0
          · exact (h0 _ _ hro hk).elim
        subst hr0
        simp only at hs
        split at hs
        · rename_i r s hcall
          rw [bite_eq] at hs
          split at hs
          · rename_i hy
            cases hs
            rw [hcode]
            exact range_sound hN hG hC hcall hy h htm hsz hQ
          · cases hs
        · cases hs
    | none =>
    rw [hro] at hs
    simp only at hs ⊢
    rw [roundsIn_succ]
    have htm' : TmR Δ B c (havoc (Tr.full .any d) (kp code) st).tm a.tmps := havoc_rel _ _ htm
    have h' : SInv Δ B c (havoc (Tr.full .any d) (kp code) st).sto := by rw [havoc_sto]; exact h
    split at hs
    · rename_i st1 h1
      refine aexec_sound hN hG hT hC hD hL code _ .normal st1 h1 c a m _ h' htm' hsz (fun c' a' g1 g2 g3 g4 => ?_)
      rw [havoc_sto] at g1
      have h2 := ih code st1 e st' hs c' a' m Q g1.inv g2 g3 (fun c2 a2 k1 k2 k3 k4 => hQ c2 a2 (g1.trans k1) k2 k3 (g4.trans g1.below.size k1.oth k4))
      rw [hsc] at h2
      simp only [hro] at h2
      exact h2
    · rename_i hne
      have hex : e ≠ .normal := fun he => hne st' (by rw [hs, he])
      refine aexec_sound hN hG hT hC hD hL code _ e st' hs c a m _ h' htm' hsz (fun c' a' g1 g2 g3 g4 => ?_)
      rw [havoc_sto] at g1
      cases e with
      | normal => exact (hex rfl).elim
      | exit id => exact hQ c' a' g1 g2 g3 g4
      | goto l => exact hQ c' a' g1 g2 g3 g4
      | ret => exact hQ c' a' g1 g2 g3 g4

theorem aloopN_sound (hN : N.Ok Δ) (hG : NoCount P) (hT : TOk P T) (hC : COkY P Δ B C) {nt d : Nat} {D : List Oper → St I → Option (St I)} (hD : DOk P Δ B nt D) {ro : Option Nat} {kp : Code → Option (List Nat)} (hkp : ro = none ∨ ∀ c q, rangeOf c = some q → kp c ≠ none) (n : Nat) :
    LOk ro P Δ B nt (aloopN N T C nt D kp (Tr.full .any d) n) :=
  fun code st e st' hs c a m Q h htm hsz hQ => by
    have h1 := aloopN_rounds hN hG hT hC hD hkp n code st e st' hs c a m Q h htm hsz hQ
    cases hsc : scopeOf code with
    | some p => rw [hsc] at h1; exact h1
    | none =>
      rw [hsc] at h1
      simp only at h1 ⊢
      cases hro : rangeOf code with
      | some q => rw [hro] at h1; exact h1
      | none => rw [hro] at h1; exact wpIn_loop_rounds n h1

/-- A round. -/
theorem ayield_sound (hN : N.Ok Δ) (hG : NoCount P) (hT : TOk P T) (hC : COkY P Δ B C)
    {DD : (FuncId → List (V I) → Sto I → Option (V I × Sto I)) → Nat → List Oper → St I → Option (St I)} (hD : ∀ C, COkY P Δ B C → ∀ nt, DOk P Δ B nt (DD C nt)) {n : Nat} {args : List (V I)} {sto : Sto I} {r : V I} {sto' : Sto I}
    (hs : ayield N T C DD n args sto = some (r, sto')) : RoundOk P Δ B args sto r sto' := by
  intro c ps as bd nt vals rest rl rargs hargs h hyl hrest
  subst hargs
  simp only [ayield, bite_eq] at hs
  split at hs
  · rename_i hc
    simp only [Bool.and_eq_true] at hc
    have hlen : rest.length = ps.length := Nat.eq_of_beq_eq_true hc.1
    have hvl : vals.length ≤ nt := by simpa [Nat.ble_eq] using hc.2
    generalize hv : Value.func (.yield rl) #[] #[] = fv at hyl
    cases hyl with
    | @yld _ _ _ _ r0 _ rc hheap hst hpe hps has hbd hsz hvals =>
    cases hv
    have hL : LOk (some rl) P Δ B nt (aloopN N T C nt (DD C nt) kpRound (Tr.full .any (depthFor nt)) n) :=
      aloopN_sound hN hG hT hC (hD C hC nt) (.inr (fun c q hq => by simp [kpRound, hq])) n
    split at hs
    · rename_i st1 h1
      split at hs
      · rename_i hy1
        simp only [Bool.and_eq_true] at hy1
        split at hs
        · rename_i st2 h2
          split at hs
          · rename_i hy2
            cases hs
            have hrl : rest.length = rargs.size := by simpa using hrest.1
            have hpz : (rc.params.zip rargs).toList = ps.zip rargs.toList := by rw [Array.toList_zip, hps]
            have hfold : (rc.params.zip rargs).foldl (fun t (t', a) => t.setIfInBounds t' a) rc.tmps = (ps.zip rargs.toList).foldl (fun t (p, v) => t.setIfInBounds p v) rc.tmps := by
              rw [← Array.foldl_toList, hpz]
            have htm0 : TmR Δ B c (setArgs vals 0 (Tr.full .any (depthFor nt))) rc.tmps := by
              refine setArgs_rel vals 0 _ (fun j x hx => ?_) (fun i => by rw [Tr.get_full]; exact .any _)
              have hj : j < rc.tmps.size := by have := (List.getElem?_eq_some_iff.1 hx).1; omega
              rw [Nat.zero_add, Array.getD_eq_getD_getElem?, Array.getElem?_eq_getElem hj]
              exact hvals j x _ hx (Array.getElem?_eq_getElem hj)
            obtain ⟨htm1, hsz1⟩ := setPs_rel hrest htm0 hsz hlen
            refine ⟨rc.fn, _, rc.assign, rc.body, run_yield hheap (by rw [← hrl, hlen, ← hps]; simp), fun m => ?_⟩
            rw [hfold, has, hbd]
            refine roundIn_of_wpIn (F := Fence.wide) trivial ?_
            refine aexec_sound (ro := some rl) hN hG hT hC (hD C hC nt) hL as _ .normal st1 h1 c { tmps := _, defers := [] } m _ h htm1 hsz1 (fun c1 a1 g1 g2 g3 g4 => ?_)
            have hheap1 : c1.w.heap[rl]? = some (.loop rc) := g1.oth _ _ hheap rfl
            refine ⟨_, run_beginRound hheap1 hst, ?_⟩
            -- the record is busy
            have hcell := fun ad u => putObj_cell (o' := .loop { rc with state := .busy }) hheap1 rfl ad u
            have hi2 : SInv Δ B ⟨c1.w.putObj rl (.loop { rc with state := .busy }), c1.κ⟩ st1.sto := g1.inv.turn hheap1 rfl (.inl hy1.2)
            have htm2 : TmR Δ B ⟨c1.w.putObj rl (.loop { rc with state := .busy }), c1.κ⟩ st1.tm a1.tmps := fun i => (g2 i).moveN (c2 := ⟨c1.w.putObj rl (.loop { rc with state := .busy }), c1.κ⟩) hcell (fun _ _ h => h) (Tr.all_get (p := V.noYl) (d := V.any) rfl hy1.1 i)
            refine aexec_sound (ro := some rl) hN hG hT hC (hD C hC nt) hL bd _ .normal st2 h2 ⟨c1.w.putObj rl (.loop { rc with state := .busy }), c1.κ⟩ a1 m _ hi2 htm2 g3 (fun c3 a3 k1 k2 k3 k4 => ?_)
            have hb1 : rl < c1.w.heap.size := (Array.getElem?_eq_some_iff.1 hheap1).1
            have hb0 : rl < c.w.heap.size := (Array.getElem?_eq_some_iff.1 hheap).1
            have hheap2 : (c1.w.putObj rl (.loop { rc with state := .busy })).heap[rl]? = some (.loop { rc with state := .busy }) := World.putObj_heap_same hb1
            have hheap3 : c3.w.heap[rl]? = some (.loop { rc with state := .busy }) := k1.oth _ _ hheap2 rfl
            have hend := run_endRound (P := P) none hheap3
            have hrc : ({ { rc with state := .busy } with state := if (none : Option Code).isNone then .ready else .done, pending := none } : Loop) = rc := by
              cases rc; simp only at hst hpe; subst hst; subst hpe; rfl
            rw [hrc] at hend
            refine ⟨_, _, hend, .bool true, ⟨c3.w.putObj rl (.loop rc), c3.κ⟩, rfl, rfl, ?_, .bool _⟩
            have hb3 : rl < c3.w.heap.size := (Array.getElem?_eq_some_iff.1 hheap3).1
            -- all else is as the steps tell
            have hw : ∀ b, b ≠ rl → (c3.w.putObj rl (.loop rc)).heap[b]? = c3.w.heap[b]? := fun b hb => World.putObj_heap_other hb
            have hw1 : ∀ b, b ≠ rl → (c1.w.putObj rl (.loop { rc with state := .busy })).heap[b]? = c1.w.heap[b]? := fun b hb => World.putObj_heap_other hb
            have hsame : (c3.w.putObj rl (.loop rc)).heap[rl]? = some (.loop rc) := World.putObj_heap_same hb3
            have hsz2 : (c1.w.putObj rl (.loop { rc with state := .busy })).heap.size = c1.w.heap.size := World.putObj_size
            have s1 := g1.below.size
            have s2 := k1.below.size
            simp only [hsz2] at s2
            refine ⟨k1.inv.turn hheap3 rfl (.inl hy2), fun o x hx => k1.κ o x (g1.κ o x hx), ⟨k1.below.os.trans g1.below.os, k1.below.tape.trans g1.below.tape, k1.below.output.trans g1.below.output, by rw [World.putObj_size]; omega, fun b hb => ?_⟩,
              Nat.le_trans g1.next k1.next, Nat.le_trans k1.low g1.low, fun b hb ho => ?_, fun o b q hk hn hb => ?_, fun o x hk hn => ?_, fun ad ha => ?_, fun b o hb ho => ?_⟩
            · by_cases hbr : b = rl
              · subst hbr; rw [hsame, hheap]
              · rw [hw b hbr, k1.below.block b hb, hw1 b hbr, g1.below.block b hb]
            · by_cases hbr : b = rl
              · subst hbr; rw [hsame, hheap]
              · have e1 := g1.keep b hb (fun o q hq => Nat.lt_of_lt_of_le (ho o q hq) k1.low)
                rw [hw b hbr, k1.keep b (by rw [hsz2]; omega) (fun o q hq => ?_), hw1 b hbr, e1]
                simp only at hq
                cases hc0 : c.κ o with
                | some x =>
                  have := g1.κ o x hc0
                  rw [hq] at this; cases this
                  exact ho o q hc0
                | none =>
                  obtain ⟨o', q', e3, e4⟩ := g1.old o b q hq hc0 hb
                  have := ho o' q' e3
                  have := k1.low
                  omega
            · simp only at hk
              cases hc1 : c1.κ o with
              | some x =>
                have := k1.κ o x hc1
                rw [hk] at this; cases this
                obtain ⟨o', q', e3, e4⟩ := g1.old o b q hc1 hn hb
                exact ⟨o', q', e3, Nat.le_trans k1.low e4⟩
              | none =>
                obtain ⟨o', q', e3, e4⟩ := k1.old o b q hk hc1 (by rw [hsz2]; omega)
                cases hc0 : c.κ o' with
                | some x =>
                  have := g1.κ o' x hc0
                  simp only at e3
                  rw [e3] at this; cases this
                  exact ⟨o', q', hc0, e4⟩
                | none =>
                  obtain ⟨o2, q2, e5, e6⟩ := g1.old o' b q' e3 hc0 hb
                  exact ⟨o2, q2, e5, Nat.le_trans k1.low e6⟩
            · simp only at hk
              cases hc1 : c1.κ o with
              | some y => exact g1.new o y hc1 hn
              | none => exact Nat.le_trans g1.next (k1.new o x hk hc1)
            · show (c3.w.putObj rl (.loop rc)).frozen? ad = _
              rw [putObj_frozen hheap3 rfl rfl, k1.frz ad (by simp only [hsz2]; omega)]
              show (c1.w.putObj rl _).frozen? ad = _
              rw [putObj_frozen hheap1 rfl rfl, g1.frz ad ha]
            · by_cases hbr : b = rl
              · subst hbr; rw [hheap] at hb; cases hb; exact hsame
              · show (c3.w.putObj rl (.loop rc)).heap[b]? = _
                rw [hw b hbr]
                refine k1.oth b o ?_ ho
                show (c1.w.putObj rl _).heap[b]? = _
                rw [hw1 b hbr]
                exact g1.oth b o hb ho
          · cases hs
        · cases hs
      · cases hs
    · cases hs
  · cases hs

theorem ainvoke_sound (hC : COkY P Δ B C) {args : List (V I)} {sto : Sto I} {r : V I} {sto' : Sto I} (hs : ainvoke P C args sto = some (r, sto')) : InvOk P Δ B args sto r sto' := by
  intro name t v rest hargs
  subst hargs
  simp only [ainvoke] at hs
  split at hs
  · rename_i f hm
    rw [bite_eq] at hs
    split at hs
    · rename_i hlt
      have hlt' : f < 1000000 := by simpa [Nat.blt_eq] using hlt
      obtain ⟨h1, h2⟩ := hC.fn f _ _ r sto' hs hlt'
      exact ⟨f, hm, h1, h2⟩
    · cases hs
  · cases hs

theorem aresult_sound (hT : TOk P T) (h : SInv Δ B c st.sto) (htm : TmR Δ B c st.tm a.tmps) {r : ResultVar} {x : V I} (hs : aresult T st r = some x) :
    ∃ u, ((match r with
      | .tmp t => pure (a.tmps.getD t undef)
      | .cell ad t => do loadVar t (← asAddr (a.tmps.getD ad undef))) : Sem Value).run P c.w = .ok u c.w ∧ VR Δ B c x u := by
  unfold aresult at hs
  split at hs
  · rename_i t
    cases hs
    exact ⟨a.tmps.getD t undef, by simp, htm t⟩
  · rename_i ad t
    have hvr := htm ad
    generalize hp : a.tmps.getD ad undef = v at hvr
    obtain ⟨u, hu, hur⟩ := load_sound hT h hvr hs
    refine ⟨u, ?_, hur⟩
    generalize hz : Tr.get V.any st.tm ad = p at hvr hs
    have hpt : ∃ q, v = .pointer (some q) := by
      cases hvr <;> first | exact ⟨_, rfl⟩ | (exfalso; revert hs; unfold aload; cases T t <;> simp)
    obtain ⟨q, rfl⟩ := hpt
    simp only [Instr.loadAt, Instr.sureAddr, Sem.run_bind, Sem.run_pure, Result.andThen_ok] at hu
    simp only [hp, asAddr, Sem.run_bind, Sem.run_pure, Result.andThen_ok, hu]

theorem aresults_sound (hT : TOk P T) (h : SInv Δ B c st.sto) (htm : TmR Δ B c st.tm a.tmps) : ∀ {rs : List ResultVar} {xs : List (V I)}, aresults T st rs = some xs →
    ∃ us, (rs.mapM fun (r : ResultVar) => ((match r with
      | .tmp t => pure (a.tmps.getD t undef)
      | .cell ad t => do loadVar t (← asAddr (a.tmps.getD ad undef))) : Sem Value)).run P c.w = .ok us c.w ∧ VRs Δ B c xs us := by
  intro rs
  induction rs with
  | nil => intro xs hs; simp [aresults] at hs; subst hs; exact ⟨[], by simp, .nil⟩
  | cons r l ih =>
    intro xs hs
    simp only [aresults] at hs
    split at hs
    · rename_i v vs hv hvs
      cases hs
      obtain ⟨u, hu, hur⟩ := aresult_sound hT h htm hv
      obtain ⟨us, hus, husr⟩ := ih hvs
      refine ⟨u :: us, ?_, .cons hur husr⟩
      rw [List.mapM_cons, Sem.run_bind, hu]
      simp only [Result.andThen_ok, Sem.run_bind]
      rw [hus]
      simp
    · cases hs

/-! ## What is left of the store -/
theorem dropNew_desc {n0 : Nat} : ∀ {n : Nat} {l : List (Nat × Ob I)}, Desc n l → Desc n (dropNew n0 l)
  | _, [], _ => trivial
  | n, (o, b) :: r, ⟨h1, h2⟩ => by
    simp only [dropNew]
    split
    · exact ⟨h1, h2⟩
    · exact (dropNew_desc h2).mono (Nat.le_of_lt h1)

theorem look_dropNew {n0 : Nat} : ∀ {n : Nat} {l : List (Nat × Ob I)} {o : Nat} {x : Ob I}, Desc n l → look (dropNew n0 l) o = some x → look l o = some x
  | _, [], _, _, _, h => h
  | n, (o', b) :: r, o, x, ⟨h1, h2⟩, h => by
    simp only [dropNew] at h
    split at h
    · exact h
    · have hr := look_dropNew h2 h
      rw [look_cons, if_neg (fun e => by have := h2.look_lt hr; omega)]
      exact hr

theorem keepNew_desc {n0 : Nat} {ks : List Nat} : ∀ {n : Nat} {l : List (Nat × Ob I)}, Desc n l → Desc n (keepNew n0 ks l)
  | _, [], _ => trivial
  | n, (o, b) :: r, ⟨h1, h2⟩ => by
    simp only [keepNew]
    split
    · exact ⟨h1, h2⟩
    · split
      · exact ⟨h1, keepNew_desc h2⟩
      · exact (keepNew_desc h2).mono (Nat.le_of_lt h1)

theorem look_keepNew {n0 : Nat} {ks : List Nat} : ∀ {n : Nat} {l : List (Nat × Ob I)} {o : Nat} {x : Ob I}, Desc n l → look (keepNew n0 ks l) o = some x → look l o = some x
  | _, [], _, _, _, h => h
  | n, (o', b) :: r, o, x, ⟨h1, h2⟩, h => by
    simp only [keepNew] at h
    split at h
    · exact h
    · split at h
      · rw [look_cons] at h ⊢
        split at h
        · rename_i e; rw [if_pos e]; exact h
        · rename_i e; rw [if_neg e]; exact look_keepNew h2 h
      · have hr := look_keepNew h2 h
        rw [look_cons, if_neg (fun e => by have := h2.look_lt hr; omega)]
        exact hr

theorem Step.trim {c' : Cx} {sto' : Sto I} (h : Step Δ B c sto c' sto') (n0 : Nat) (r : V I) : Step Δ B c sto c' (sto'.trim n0 r) := by
  unfold Sto.trim
  split
  · exact h
  · split
    · exact h.forget (dropNew_desc h.inv.desc) (fun o x hx => look_dropNew h.inv.desc hx)
    · split
      · exact h.forget (keepNew_desc h.inv.desc) (fun o x hx => look_keepNew h.inv.desc hx)
      · exact h.forget (keepNew_desc h.inv.desc) (fun o x hx => look_keepNew h.inv.desc hx)

theorem answer_sound (hT : TOk P T) {c0 : Cx} {sto0 : Sto I} (hst : Step Δ B c0 sto0 c st.sto) (htm : TmR Δ B c st.tm a.tmps) {n0 : Nat} {fn : Func} {r : V I} {sto' : Sto I} (hs : answer T st n0 fn.results.toList = some (r, sto')) :
    ∃ rv, (results fn a.tmps).run P c.w = .ok rv c.w ∧ Out Δ B c0 sto0 r sto' rv c := by
  have h := hst.inv
  have hres : ∀ us, (fn.results.toList.mapM fun (r : ResultVar) => ((match r with
      | .tmp t => pure (a.tmps.getD t undef)
      | .cell ad t => do loadVar t (← asAddr (a.tmps.getD ad undef))) : Sem Value)).run P c.w = .ok us c.w →
      (results fn a.tmps).run P c.w = .ok (if h : us.toArray.size = 1 then us.toArray[0] else .tuple us.toArray) c.w := by
    intro us hus
    unfold results
    rw [Array.mapM_eq_mapM_toList, Sem.run_bind, Sem.run_map]
    exact congrArg (fun (z : Result (List Value)) => (z.andThen fun a w' => Result.ok a.toArray w').andThen fun (vs : Array Value) w' => (pure (if h : vs.size = 1 then vs[0] else .tuple vs) : Sem Value).run P w') hus
  unfold answer at hs
  split at hs
  · rename_i v hv
    obtain ⟨us, hus, hur⟩ := aresults_sound hT h htm hv
    cases hs
    match us, hur with
    | [u], hur =>
      exact ⟨u, by have := hres [u] hus; simpa using this, hst.trim _ _, hur.head⟩
  · rename_i vs hne hvs
    obtain ⟨us, hus, hur⟩ := aresults_sound hT h htm hvs
    cases hs
    refine ⟨.tuple us.toArray, ?_, hst.trim _ _, .tup (by simpa using hur.1) (fun i x v hx hv => hur.2 i x v hx (by simpa using hv))⟩
    have hl : ¬ us.toArray.size = 1 := by
      intro e
      have h1 : vs.length = 1 := by rw [hur.1]; simpa using e
      match vs, h1 with
      | [v], _ => exact hne v rfl
    have := hres us hus
    rw [dif_neg hl] at this
    exact this
  · cases hs

/-! ## Leaving -/
theorem leaves_marks {F : Fence} {n : Nat} {fn : Func} {tmps : Array Value} {R : Ending → World → Prop} : ∀ (ms : List Nat) (w : World), ms.Nodup → (∀ D, D ∈ ms → w.heap[D]? = some (.deferred (some []))) → ∀ (ds : List Deferred) (u : FrameMode), u ≠ .run →
    LeavesInM F n P fn tmps R ds u (ms.foldl (fun w D => w.putObj D (.deferred none)) w) → LeavesInM F n P fn tmps R (ms.map markOf ++ ds) u w := by
  intro ms
  induction ms with
  | nil => intro w _ _ ds u _ h; exact h
  | cons D ms ih =>
    intro w hn hd ds u hu h
    simp only [List.map_cons, List.cons_append]
    have hD := hd D (by simp)
    rw [List.nodup_cons] at hn
    refine ⟨hu, .inl ⟨D, _, rfl, run_takeDeferred hD, ?_⟩⟩
    refine ih _ hn.2 (fun D' hD' => ?_) ds u hu h
    have hne : D' ≠ D := fun e => hn.1 (e ▸ hD')
    rw [World.putObj_heap_other hne]
    exact hd D' (by simp [hD'])

/-- A step, and blocks for deferred calls shut behind it. -/
theorem Step.shut {c' : Cx} {sto' : Sto I} (hb : B ≤ c.w.heap.size) : ∀ (ms : List Nat) (c' : Cx), Step Δ B c sto c' sto' → (∀ D, D ∈ ms → c.w.heap.size ≤ D ∧ ∃ q, c'.w.heap[D]? = some (.deferred q)) →
    Step Δ B c sto ⟨ms.foldl (fun w D => w.putObj D (.deferred none)) c'.w, c'.κ⟩ sto' ∧ (∀ {tm : Tr (V I)} {tmps : Array Value}, TmR Δ B c' tm tmps → TmR Δ B ⟨ms.foldl (fun w D => w.putObj D (.deferred none)) c'.w, c'.κ⟩ tm tmps) := by
  intro ms
  induction ms with
  | nil => intro c' h _; exact ⟨h, fun h => h⟩
  | cons D ms ih =>
    intro c' h hd
    obtain ⟨h1, q, h2⟩ := hd D (by simp)
    have hlt := (Array.getElem?_eq_some_iff.1 h2).1
    have hs := h.putNew (o' := .deferred none) hb h1 h2 rfl rfl (.inr (fun rc e => by cases e))
    obtain ⟨k1, k2⟩ := ih ⟨c'.w.putObj D (.deferred none), c'.κ⟩ hs (fun D' hD' => by
      obtain ⟨e1, q', e2⟩ := hd D' (by simp [hD'])
      refine ⟨e1, ?_⟩
      by_cases hDD : D' = D
      · subst hDD; exact ⟨_, World.putObj_heap_same hlt⟩
      · exact ⟨q', (World.putObj_heap_other hDD).trans e2⟩)
    refine ⟨k1, fun htm => k2 (fun i => (htm i).moveL (c2 := ⟨c'.w.putObj D (.deferred none), c'.κ⟩) (fun ad u => putObj_cell h2 rfl ad u) (fun _ _ h => h) (fun r rc hr => ?_))⟩
    have : r ≠ D := by intro e; subst e; rw [h2] at hr; cases hr
    show (c'.w.putObj D _).heap[r]? = _
    rw [World.putObj_heap_other this]; exact hr

/-- A function's body has come to its end: its marks; its answer. -/
theorem end_sound (hT : TOk P T) {c0 : Cx} {sto0 : Sto I} (hb : B ≤ c0.w.heap.size) {c' : Cx} {a' : Act} {st : St I} (hst : Step Δ B c0 sto0 c' st.sto) (htm : TmR Δ B c' st.tm a'.tmps) (hmk : Mk c0.w c'.w [] a'.defers) {n0 : Nat} {fn : Func} {r : V I} {sto' : Sto I}
    (hs : answer T st n0 fn.results.toList = some (r, sto')) {n : Nat} : LeavesInM Fence.wide n P fn a'.tmps (fun e w' => ∃ rv c', e = .returned rv ∧ c'.w = w' ∧ Out Δ B c0 sto0 r sto' rv c') a'.defers .returning c'.w := by
  obtain ⟨ms, h1, h2, h3⟩ := hmk
  rw [h3]
  refine leaves_marks ms c'.w h1 (fun D hD => (h2 D hD).2) [] .returning (by simp) ?_
  obtain ⟨k1, k2⟩ := Step.shut (c' := c') hb ms c' hst (fun D hD => ⟨(h2 D hD).1, _, (h2 D hD).2⟩)
  obtain ⟨rv, e1, e2⟩ := answer_sound (P := P) hT k1 (k2 htm) hs
  exact ⟨rv, e1, rv, _, rfl, rfl, e2⟩

/-- What else the machine knows: functions that defer; calls that panic. -/
def XOk (P : Program) (Δ : Den I) (B : Nat) (X : (FuncId → List (V I) → Sto I → Option (V I × Sto I)) → Nat → FuncId → List (V I) → Sto I → Option (V I × Sto I)) : Prop :=
  ∀ C, COkY P Δ B C → ∀ n k args sto r sto', X C n k args sto = some (r, sto') → (k < 1000000 → Good P Δ B k args sto r sto' ∧ ∃ fn, P.funcs[k]? = some fn ∧ fn.body.isSome = true) ∧ (2000000 ≤ k → PanOk P Δ B (k - 2000000) args sto r sto')

/-- A function's frame as it begins. -/
theorem enter_rel {fn : Func} {c0 : Cx} {args : List (V I)} {rargs : Array Value} (hargs : VRs Δ B c0 args rargs.toList) (hlen : args.length ≤ fn.ntmps) :
    (rargs ++ Array.replicate (fn.ntmps - rargs.size) undef).size = fn.ntmps ∧ TmR Δ B c0 (setArgs args 0 (Tr.full .any (depthFor fn.ntmps))) (rargs ++ Array.replicate (fn.ntmps - rargs.size) undef) := by
  have hl : args.length = rargs.size := by simpa using hargs.1
  refine ⟨by simp; omega, ?_⟩
  refine setArgs_rel args 0 _ (fun j x hx => ?_) (fun i => by rw [Tr.get_full]; exact .any _)
  obtain ⟨v, hv, hvr⟩ := hargs.get hx
  have hj : j < rargs.size := by have := (List.getElem?_eq_some_iff.1 hx).1; omega
  have : (rargs ++ Array.replicate (fn.ntmps - rargs.size) undef).getD (0 + j) undef = v := by
    simp only [Nat.zero_add, Array.getD_eq_getD_getElem?, Array.getElem?_append_left hj]
    have : rargs[j]? = some v := by simpa using hv
    simp [this]
  rw [this]; exact hvr

/-- THE MACHINE TELLS THE TRUTH. -/
theorem acallN_sound (hN : N.Ok Δ) (hG : NoCount P) (hT : TOk P T) {K : FuncId → List (V I) → Sto I → Option (V I × Sto I)} (hK : COk P Δ B K)
    {DD : (FuncId → List (V I) → Sto I → Option (V I × Sto I)) → Nat → List Oper → St I → Option (St I)} (hD : ∀ C, COkY P Δ B C → ∀ nt, DOk P Δ B nt (DD C nt)) {kp : FuncId → Code → Option (List Nat)}
    {X : (FuncId → List (V I) → Sto I → Option (V I × Sto I)) → Nat → FuncId → List (V I) → Sto I → Option (V I × Sto I)} (hX : XOk P Δ B X) :
    ∀ n, COkY P Δ B (acallN N T P K DD kp X n) := by
  intro n
  induction n with
  | zero => exact ⟨fun k args sto r sto' hs => by simp [acallN] at hs, fun args sto r sto' hs => by simp [acallN] at hs, fun args sto r sto' hs => by simp [acallN] at hs, fun k args sto r sto' hs => by simp [acallN] at hs⟩
  | succ n ih =>
    refine ⟨fun k args sto r sto' hs hk => ?_, fun args sto r sto' hs => ?_, fun args sto r sto' hs => ?_, fun k args sto r sto' hs hk => ?_⟩
    · have hk' : Nat.blt k 1000000 = true := by simpa [Nat.blt_eq] using hk
      simp only [acallN, hk', bite_true] at hs
      split at hs
      · rename_i z hz
        cases hs
        exact hK k args sto r sto' hz
      · split at hs
        · rename_i fn hfn
          split at hs
          · rename_i code hb
            rw [bite_eq] at hs
            split at hs
            · rename_i hlen
              have hlen : args.length ≤ fn.ntmps := by simpa [Nat.ble_eq] using hlen
              have hL : LOk none P Δ B fn.ntmps (aloopN N T (acallN N T P K DD kp X n) fn.ntmps (DD (acallN N T P K DD kp X n) fn.ntmps) (kp k) (Tr.full .any (depthFor fn.ntmps)) n) :=
                aloopN_sound hN hG hT ih (hD _ ih _) (.inl rfl) n
              have normal : ∀ (e : AExit) (st : St I), (e = .normal ∨ e = .ret) → aexec N T (acallN N T P K DD kp X n) fn.ntmps (DD (acallN N T P K DD kp X n) fn.ntmps)
                  (aloopN N T (acallN N T P K DD kp X n) fn.ntmps (DD (acallN N T P K DD kp X n) fn.ntmps) (kp k) (Tr.full .any (depthFor fn.ntmps)) n) code ⟨setArgs args 0 (Tr.full .any (depthFor fn.ntmps)), sto⟩ = some (e, st) →
                  answer T st sto.next fn.results.toList = some (r, sto') → Good P Δ B k args sto r sto' := by
                intro e st he hex ha c0 rargs hinv hargs
                obtain ⟨hsz, htm⟩ := enter_rel hargs hlen
                refine callsIn_wide.1 (callsIn_of_wp_marks (F := Fence.wide) (n := 0) hfn hb trivial ?_)
                refine aexec_sound (ro := none) hN hG hT ih (hD _ ih _) hL code _ e st hex c0 { tmps := _, defers := [] } 0 _ hinv htm hsz (fun c' a' g1 g2 g3 g4 => ?_)
                rcases he with rfl | rfl
                · exact end_sound hT hinv.base g1 g2 g4 ha
                · exact end_sound hT hinv.base g1 g2 g4 ha
              split at hs
              · rename_i st hex
                exact ⟨normal .normal st (.inl rfl) hex hs, fn, hfn, by rw [hb]; rfl⟩
              · rename_i st hex
                exact ⟨normal .ret st (.inr rfl) hex hs, fn, hfn, by rw [hb]; rfl⟩
              · exact (hX _ ih n k args sto r sto' hs).1 hk
            · cases hs
          · cases hs
        · cases hs
    · have h1 : Nat.blt yieldId 1000000 = false := by decide
      have h2 : Nat.beq yieldId yieldId = true := by decide
      simp only [acallN, h1, h2, bite_true, bite_false] at hs
      exact ayield_sound hN hG hT ih hD hs
    · have h1 : Nat.blt invokeId 1000000 = false := by decide
      have h2 : Nat.beq invokeId yieldId = false := by decide
      have h3 : Nat.beq invokeId invokeId = true := by decide
      simp only [acallN, h1, h2, h3, bite_true, bite_false] at hs
      exact ainvoke_sound ih hs
    · have hk2 : (2000000 : Nat) ≤ k := hk
      have h1 : Nat.blt k 1000000 = false := by
        cases hq : Nat.blt k 1000000 with
        | false => rfl
        | true => exact absurd (Nat.lt_of_lt_of_le (by simpa [Nat.blt_eq] using hq : (k : Nat) < 1000000) (by decide : (1000000 : Nat) ≤ 2000000)) (Nat.not_lt.2 hk2)
      have h2 : Nat.beq k yieldId = false := by
        cases hq : Nat.beq k yieldId with
        | false => rfl
        | true => exact absurd (Nat.eq_of_beq_eq_true hq : (k : Nat) = 1000001) (by intro e; rw [e] at hk2; exact absurd hk2 (by decide))
      have h3 : Nat.beq k invokeId = false := by
        cases hq : Nat.beq k invokeId with
        | false => rfl
        | true => exact absurd (Nat.eq_of_beq_eq_true hq : (k : Nat) = 1000002) (by intro e; rw [e] at hk2; exact absurd hk2 (by decide))
      have h4 : Nat.ble 2000000 k = true := by simpa [Nat.ble_eq] using hk
      simp only [acallN, h1, h2, h3, h4, bite_true, bite_false] at hs
      exact (hX _ ih n k args sto r sto' hs).2 hk

end
end Go.Sx

/-
  Regions whose order is open: definitions, tables of what is ahead of what.
-/
namespace Go.Sx
open Go.RowKit

def looks (ops : List Oper) (o : Oper) : List Nat :=
  (o.op.operands.toList.filterMap fun x => match x with | .tmp t => some t | _ => none) ++
  (match o.guard with
   | some (g, _) => ((ops[g]?).bind (·.dst)).toList
   | none => [])

def bindsOn (o : Oper) : List Nat := (o.after.toList.filter (Region.binds .any)).map (·.on)

def uniN : List Nat → List Nat → List Nat
  | [], b => b
  | x :: r, b => if b.contains x then uniN r b else uniN r (x :: b)

def befs : List Oper → List (List Nat) → List (List Nat)
  | [], acc => acc
  | o :: r, acc => befs r (acc ++ [(bindsOn o).foldr (fun j f => uniN (j :: acc.getD j []) f) []])

/-- Does the table tell no more than what the edges bring about? -/
def befOk (ops : List Oper) (F : List (List Nat)) : Bool :=
  (List.range ops.length).all fun i => match ops[i]? with
    | some o => (bindsOn o).all (fun k => decide (k < i)) && (F.getD i []).all fun j => (bindsOn o).any fun k => j == k || (F.getD k []).contains j
    | none => true

def chain (ops : List Oper) (F : List (List Nat)) (p : Nat) : Bool :=
  (List.range ops.length).all fun i => decide (i < p) || (List.range i).all fun j => (F.getD i []).contains j

def headOk (ops : List Oper) (F : List (List Nat)) (p : Nat) : Bool :=
  (List.range p).all fun i => match ops[i]? with
    | some o => match o.dst with
      | some t => (List.range p).all fun j => match ops[j]? with
        | some q => (q.dst != some t || j == i) && (!(looks ops q).contains t || (decide (i < j) && (F.getD j []).contains i) || (decide (j < i) && (F.getD i []).contains j))
        | none => false
      | none => false
    | none => false

/-- How many operations lead: the first place from which on all is forced. -/
def lead (ops : List Oper) (F : List (List Nat)) : Nat :=
  ((List.range (ops.length + 1)).find? fun p => chain ops F p).getD ops.length

def okDraw (ops : List Oper) : Option (List (List Nat) × Nat) :=
  if lead ops (befs ops []) ≤ ops.length ∧ befOk ops (befs ops []) = true ∧ chain ops (befs ops []) (lead ops (befs ops [])) = true ∧ headOk ops (befs ops []) (lead ops (befs ops [])) = true then
    some (befs ops [], lead ops (befs ops [])) else none

section
variable {I : Type}

/-- The objects of the operations in a list. -/
def joinN (deps : List Nat) : List (Nat × List (Nat × Ob I)) → List (Nat × Ob I)
  | [] => []
  | (j, l) :: r => if deps.contains j then l ++ joinN deps r else joinN deps r

def allN : List (Nat × List (Nat × Ob I)) → List (Nat × Ob I)
  | [] => []
  | (_, l) :: r => l ++ allN r

noncomputable def takeNew (n0 : Nat) : List (Nat × Ob I) → List (Nat × Ob I)
  | [] => []
  | (o, b) :: r => bite (Nat.ble n0 o) ((o, b) :: takeNew n0 r) []

def addN (i : Nat) (l : List (Nat × Ob I)) (acc : List (Nat × List (Nat × Ob I))) : List (Nat × List (Nat × Ob I)) :=
  match l with
  | [] => acc
  | p :: r => (i, p :: r) :: acc

variable (N : Num I) (T : TypeId → Option Ti) (C : FuncId → List (V I) → Sto I → Option (V I × Sto I)) (nt : Nat)

/-- What the head's operation i sees. -/
noncomputable def seenBy (ops : List Oper) (F : List (List Nat)) (S : Sto I) (nx i : Nat) (o : Oper) (tm : Tr (V I)) (acc : List (Nat × List (Nat × Ob I))) : St I :=
  ⟨keepOnly (looks ops o) ⟨tm, S⟩ (Tr.full .any (depthFor nt)), ⟨nx, joinN (F.getD i []) acc ++ S.obs, nx⟩⟩

/-- The head: each operation names its objects from where the one ahead of it has stopped. -/
noncomputable def dhead (ops : List Oper) (F : List (List Nat)) (S : Sto I) : Nat → Nat → List Oper → Tr (V I) → List (Nat × List (Nat × Ob I)) → Option (Tr (V I) × List (Nat × List (Nat × Ob I)) × Nat)
  | _, nx, [], tm, acc => some (tm, acc, nx)
  | i, nx, o :: r, tm, acc =>
    match wants ops (seenBy nt ops F S nx i o tm acc) o with
    | some true => match aop N T C (seenBy nt ops F S nx i o tm acc) o with
      | some (v, s) => bite (Nat.ble nx s.low && Nat.ble nx s.next)
          (dhead ops F S (i + 1) s.next r (setTm nt tm o.dst v) (addN i (takeNew nx s.obs) acc)) none
      | none => none
    | some false => dhead ops F S (i + 1) nx r (setTm nt tm o.dst .any) acc
    | none => none

def dstsOk (nt : Nat) (l : List Oper) : Bool := l.all fun o => match o.dst with
  | some d => Nat.blt d nt
  | none => false

noncomputable def adraw0 (ops : List Oper) (st : St I) : Option (St I) :=
  match okDraw ops with
  | some (F, p) => bite (dstsOk nt (ops.take p)) (match dhead N T C nt ops F st.sto 0 st.sto.next (ops.take p) st.tm [] with
    | some (tm, acc, nx) => aops N T C nt ops (ops.drop p) ⟨tm, ⟨nx, allN acc ++ st.sto.obs, st.sto.low⟩⟩
    | none => none) none
  | none => none

end

/-! ## What is ahead of what -/
def unl (L : Nat → Bool) : Nat → Nat
  | 0 => 0
  | k + 1 => unl L k + (if L k then 0 else 1)

theorem unl_ext {L L' : Nat → Bool} : ∀ k, (∀ j, j < k → L j = L' j) → unl L k = unl L' k := by
  intro k
  induction k with
  | zero => intro _; rfl
  | succ k ih => intro h; simp only [unl, ih (fun j hj => h j (by omega)), h k (by omega)]

theorem unl_set {L L' : Nat → Bool} {i : Nat} (hL : L i = false) (h' : ∀ j, L' j = (L j || j == i)) : ∀ k, i < k → unl L' k + 1 = unl L k := by
  intro k
  induction k with
  | zero => intro h; omega
  | succ k ih =>
    intro hk
    simp only [unl]
    by_cases hik : i = k
    · subst hik
      rw [unl_ext (L := L') (L' := L) i (fun j hj => by rw [h']; simp; omega)]
      simp [h', hL]
    · have hne : (k == i) = false := by simp; omega
      have := ih (by omega)
      rw [h' k, hne, Bool.or_false]
      omega

theorem unl_zero {L : Nat → Bool} : ∀ k, unl L k = 0 → ∀ i, i < k → L i = true := by
  intro k
  induction k with
  | zero => intro _ i hi; omega
  | succ k ih =>
    intro h i hi
    simp only [unl] at h
    by_cases hik : i = k
    · subst hik
      cases hL : L i with
      | true => rfl
      | false => simp [hL] at h
    · exact ih (by omega) i (by omega)

theorem mem_ready {ops : Array Oper} {listed : Array Bool} {i : Nat} (hsz : listed.size = ops.size) : i ∈ Region.ready .any ops listed ↔
    i < ops.size ∧ listed.getD i false = false ∧ ∃ o, ops[i]? = some o ∧ ∀ k, k ∈ bindsOn o → listed.getD k false = true := by
  unfold Region.ready
  rw [List.mem_filter, List.mem_range]
  constructor
  · rintro ⟨h1, h2⟩
    rw [Bool.and_eq_true] at h2
    obtain ⟨h2, h3⟩ := h2
    have ho : ops[i]? = some ops[i] := Array.getElem?_eq_getElem h1
    refine ⟨h1, ?_, _, ho, fun k hk => ?_⟩
    · have hl : i < listed.size := by omega
      simpa [Array.getD, hl] using h2
    · rw [ho] at h3
      simp only [Option.map_some, Option.getD_some, Array.all_eq_true_iff_forall_mem] at h3
      simp only [bindsOn, List.mem_map, List.mem_filter] at hk
      obtain ⟨e, ⟨he, hb⟩, rfl⟩ := hk
      have := h3 e (by simpa using he)
      simpa [hb] using this
  · rintro ⟨h1, h2, o, ho, h3⟩
    refine ⟨h1, ?_⟩
    rw [Bool.and_eq_true]
    refine ⟨?_, ?_⟩
    · have hl : i < listed.size := by omega
      simpa [Array.getD, hl] using h2
    · rw [ho]
      simp only [Option.map_some, Option.getD_some, Array.all_eq_true_iff_forall_mem]
      intro e he
      cases hb : Region.binds .any e with
      | false => simp
      | true =>
        have := h3 e.on (by simp only [bindsOn, List.mem_map, List.mem_filter]; exact ⟨e, ⟨by simpa using he, hb⟩, rfl⟩)
        simpa using this

theorem bef_sub {ops : List Oper} {F : List (List Nat)} (hb : befOk ops F = true) {L : Nat → Bool} (hD : ∀ (i : Nat) (o : Oper), ops[i]? = some o → L i = true → ∀ k, k ∈ bindsOn o → L k = true) :
    ∀ (i : Nat) (o : Oper), ops[i]? = some o → (∀ k, k ∈ bindsOn o → L k = true) → ∀ j, j ∈ F.getD i [] → L j = true := by
  intro i
  induction i using Nat.strongRecOn with
  | _ i ih =>
    intro o ho hk j hj
    have hlt : i < ops.length := (List.getElem?_eq_some_iff.1 ho).1
    unfold befOk at hb
    rw [List.all_eq_true] at hb
    have h1 := hb i (List.mem_range.2 hlt)
    simp only [ho, Bool.and_eq_true, List.all_eq_true] at h1
    have h2 := h1.2 j hj
    rw [List.any_eq_true] at h2
    obtain ⟨k, hkm, hkj⟩ := h2
    have hki : k < i := by simpa using h1.1 k hkm
    have hLk := hk k hkm
    simp at hkj
    rcases hkj with rfl | hkj
    · exact hLk
    · have hko : ops[k]? = some (ops[k]'(by omega)) := List.getElem?_eq_getElem _
      exact ih k hki _ hko (hD k _ hko hLk) j (by simpa using hkj)

theorem least {L : Nat → Bool} : ∀ n, (∃ i, i < n ∧ L i = false) → ∃ i, i < n ∧ L i = false ∧ ∀ j, j < i → L j = true := by
  intro n
  induction n with
  | zero => rintro ⟨i, h, _⟩; omega
  | succ n ih =>
    rintro ⟨i, h1, h2⟩
    by_cases hex : ∃ i, i < n ∧ L i = false
    · obtain ⟨j, h3, h4, h5⟩ := ih hex; exact ⟨j, by omega, h4, h5⟩
    · have hin : i = n := by
        rcases Nat.lt_or_ge i n with h | h
        · exact absurd ⟨i, h, h2⟩ hex
        · omega
      subst hin
      exact ⟨i, h1, h2, fun j hj => by
        cases hL : L j with
        | true => rfl
        | false => exact absurd ⟨j, hj, hL⟩ hex⟩

theorem getD_set {listed : Array Bool} {i : Nat} (hi : i < listed.size) (j : Nat) : (listed.setIfInBounds i true).getD j false = (listed.getD j false || j == i) := by
  simp only [Array.getD_eq_getD_getElem?]
  by_cases hij : j = i
  · subst hij; simp [hi]
  · have : (j == i) = false := by simpa using hij
    rw [this, Bool.or_false, Array.getElem?_setIfInBounds_ne (fun e => hij e.symm)]


theorem befOk_lt {ops : List Oper} {F : List (List Nat)} (hb : befOk ops F = true) : ∀ (i : Nat) (o : Oper), ops[i]? = some o → ∀ k, k ∈ bindsOn o → k < i := by
  intro i o ho k hk
  have hlt : i < ops.length := (List.getElem?_eq_some_iff.1 ho).1
  unfold befOk at hb
  rw [List.all_eq_true] at hb
  have h1 := hb i (List.mem_range.2 hlt)
  simp only [ho, Bool.and_eq_true, List.all_eq_true] at h1
  simpa using h1.1 k hk

theorem befOk_F {ops : List Oper} {F : List (List Nat)} (hb : befOk ops F = true) : ∀ (i : Nat), i < ops.length → ∀ j, j ∈ F.getD i [] → j < i := by
  intro i
  induction i using Nat.strongRecOn with
  | _ i ih =>
    intro hi j hj
    have hb' := hb
    unfold befOk at hb'
    rw [List.all_eq_true] at hb'
    have h1 := hb' i (List.mem_range.2 hi)
    have ho : ops[i]? = some ops[i] := List.getElem?_eq_getElem hi
    simp only [ho, Bool.and_eq_true, List.all_eq_true] at h1
    have h2 := h1.2 j hj
    rw [List.any_eq_true] at h2
    obtain ⟨k, hk, hkj⟩ := h2
    have hki : k < i := by simpa using h1.1 k hk
    simp at hkj
    rcases hkj with rfl | hkj
    · exact hki
    · exact Nat.lt_trans (ih k hki (by omega) j (by simpa using hkj)) hki

end Go.Sx


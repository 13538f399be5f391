/-
  What functions that draw from bytes make, by runs by hand: a reader, numbers, lists. No condition.
-/
import Derived.Test.YtcpnlgjkijcmhaaRows
import Derived.Test.YtcpnlgjkijcmhaaSym
import Derived.Test.YtcpnlgjkijcmhaaIds
import Derived.Test.YtcpnlgjkijcmhaaDraw
import Derived.WalkKit
import Derived.ProofKit
import Derived.OpenShut
namespace Go.Proofs.Ytcpnlgjkijcmhaa.Draw
open Go.ChangeShapes Go.WideShapes Go.ChangeAt Go.RowKit Go.Sx Go.Proofs.Ytcpnlgjkijcmhaa.Ids
set_option linter.unusedVariables false
set_option linter.unusedSimpArgs false

theorem bldR (xs : List (V Sy)) : abuild (symNum []) (tiOf Try.prog) 52 [(0, .slice xs)] = some (.agg [.slice xs, .int .i64 (.c 0)]) := by kernel_rfl
theorem refs_u8s (bs : List Int) : refsL (u8s bs) = [] := by
  induction bs with
  | nil => rfl
  | cons b r ih => simpa [u8s, refsL, V.refs] using ih
theorem sl2 (bs : List Int) (h : 2000 < bs.length) : aslice (symNum []) (tiOf Try.prog) 22 (.slice (u8s bs)) none (some (.int .i64 (.c 2000))) none = some (.slice (u8s (bs.take 2000))) := by
  have h2 : (2000 : Nat) ≤ bs.length := by omega
  simp [aslice, tiY, tiU, bound, idx?, h2, u8s_take, symNum]

section
attribute [local simp] aops wants aop apure St.eval setTm_some setTm_none Tr.get_set aload evals apureB alen tiS tiI tiB tiY tiU fa0 fa1 abin aint isCmp sym_lt sym_eqs sym_neqs sym_eq sym_neq sym_gtr sym_leq sym_geq sym_add sym_sub sym_mul aeff idx? ofV aindexAddr astore look_cons aggDesc Sto.write u8s_length acallV_func symIn_run aifc_int

theorem newReader (bs : List Int) (m : Nat) :
    symRun Try.prog K0 [] (m + 1) 30 [.slice (u8s bs)] ⟨0, [], 0⟩ = some (.ptr 0 0, ⟨1, [(0, [.slice (u8s (bs.take 2000)), .int .i64 (.c 0)])], 0⟩) := by
  refine own_run hK0 Try.func30 rfl rfl ?_
  simp only [Try.f30]
  have h3 := True.intro
  by_cases h : 2000 < bs.length
  · have h1 : (2000 : Int) < bs.length := by omega
    repeat' (first | refine Wp.seq ?_ | refine Wp.block ?_ | (apply Wp.region; focus ((try simp [setArgs, h1, oeval, sl2 bs h, pevals, bldR, abox, V.cells]) <;> rfl)) | (refine Wp.cond_t ?_ ?_; focus (simp [setArgs, h1, oeval, sl2 bs h, pevals, bldR, abox, V.cells]; done)) | (refine Wp.cond_f ?_ ?_; focus (simp [setArgs, h1, oeval, sl2 bs h, pevals, bldR, abox, V.cells]; done)) | refine Wp.skip ?_ | refine Wp.ret ?_ | refine Wp.exit ?_ | refine Blk.here ?_ | (refine Blk.past ?_ ?_; focus (simp; done)))
    refine ⟨rfl, ?_⟩
    simp [answer, aresults, aresult, Sto.trim, Sto.new, V.refs, Nat.blt, deeper, refsL, refs_u8s, keepNew, h3]
  · have h1 : ¬ (2000 : Int) < bs.length := by omega
    have h2 : bs.take 2000 = bs := List.take_of_length_le (by omega)
    have h3 := h2
    repeat' (first | refine Wp.seq ?_ | refine Wp.block ?_ | (apply Wp.region; focus ((try simp [setArgs, h1, h2, pevals, bldR, abox, V.cells]) <;> rfl)) | (refine Wp.cond_t ?_ ?_; focus (simp [setArgs, h1, h2, pevals, bldR, abox, V.cells]; done)) | (refine Wp.cond_f ?_ ?_; focus (simp [setArgs, h1, h2, pevals, bldR, abox, V.cells]; done)) | refine Wp.skip ?_ | refine Wp.ret ?_ | refine Wp.exit ?_ | refine Blk.here ?_ | (refine Blk.past ?_ ?_; focus (simp; done)))
    refine ⟨rfl, ?_⟩
    simp [answer, aresults, aresult, Sto.trim, Sto.new, V.refs, Nat.blt, deeper, refsL, refs_u8s, keepNew, h3]

theorem _root_.Go.Sx.Nx.call {bs : List Int} {o : Nat} {p q : Int} {sto s1 : Sto Sy} (h : Nx bs o p q ⟨sto.next, sto.obs, sto.next⟩ s1) : Nx bs o p q sto ⟨s1.next, s1.obs, if s1.low < sto.low then s1.low else sto.low⟩ := by
  obtain ⟨p', h1, h2, h3⟩ := h.rd
  refine ⟨⟨p', h1, h2, h3.obj, h3.desc, h3.p0⟩, h.next, ?_, h.keep⟩
  have := h.low
  simp only
  split <;> omega

theorem one (bs : List Int) (hbs : ∀ b, b ∈ bs → 0 ≤ b ∧ b < 256) (o : Nat) (p : Int) (zs : List Int) (sto : Sto Sy) (h : Rd bs o p sto) (hp : p ≤ 1000000) (q : Nat) (hq : q ≠ o) (hz : Go.Sx.look sto.obs q = some (ints (nums zs)))
    (h1 : 1 ≤ zs.length) (h2 : zs.length ≤ 1000000) (m : Nat) :
    ∃ r, symRun Try.prog K0 [] (m + 2) 53 [.ptr o 0, .rsl q 0 zs.length (some zs.length)] sto = some r ∧ ∃ x sto', r = (.int .i64 (.c x), sto') ∧ x ∈ zs ∧ Nx bs o p (p + 1) sto sto' := by
  refine own_run2 hK0 Try.func53 rfl rfl ?_
  simp only [Try.f53]
  obtain ⟨_, hr, x, s1, rfl, hx0, hx1, hn⟩ := pick bs hbs o p zs.length ⟨sto.next, sto.obs, sto.next⟩ ⟨h.obj, h.desc, h.p0⟩ hp (by omega) m
  have hk := hn.keep q _ hq hz
  have hxl : x.toNat < zs.length := by omega
  have hge : zs[x.toNat]? = some zs[x.toNat] := List.getElem?_eq_getElem hxl
  have hlow := hn.low
  have hlt := h.lt
  repeat' (first | refine Wp.seq ?_ | refine Wp.block ?_ | (apply Wp.region; focus ((try simp [setArgs, hr, hx0, hx1, hk, hge, hxl]) <;> rfl)) | (refine Wp.cond_t ?_ ?_; focus (simp [setArgs, hr, hx0, hx1, hk, hge, hxl]; done)) | (refine Wp.cond_f ?_ ?_; focus (simp [setArgs, hr, hx0, hx1, hk, hge, hxl]; done)) | refine Wp.skip ?_ | refine Wp.ret ?_ | refine Wp.exit ?_ | refine Blk.here ?_ | (refine Blk.past ?_ ?_; focus (simp; done)))
  have hn2 := hn.call
  refine ⟨rfl, (.int .i64 (.c zs[x.toNat]), ⟨s1.next, s1.obs, if s1.low < sto.low then s1.low else sto.low⟩), ?_, _, _, rfl, List.getElem_mem hxl, hn2⟩
  simp [answer, aresults, aresult]
  exact trim_low (Nat.lt_of_le_of_lt hn2.low hlt)
end

theorem ans1 {T : TypeId → Option Ti} {st : St Sy} {n0 t : Nat} {v : V Sy} (h : st.tm.get .any t = v) {Q : V Sy × Sto Sy → Prop} (hq : ∀ S, Q (v, S)) : ∃ r, answer T st n0 [.tmp t] = some r ∧ Q r :=
  ⟨(v, st.sto.trim n0 v), by simp [answer, aresults, aresult, h], hq _⟩

theorem take2000 {bs : List Int} (h : ∀ b, b ∈ bs → 0 ≤ b ∧ b < 256) : ∀ b, b ∈ bs.take 2000 → 0 ≤ b ∧ b < 256 := fun b hb => h b (List.mem_of_mem_take hb)

/-- A number is picked. -/
theorem pickC (bs : List Int) (hbs : ∀ b, b ∈ bs → 0 ≤ b ∧ b < 256) {o : Nat} {P : Int} {S : Sto Sy} (h : Rdy bs o P S) (hP : P ≤ 1000000) (n : Int) (hn : 1 ≤ n) (f : Nat) (hf : 1 ≤ f) :
    ∃ x S1, acallV (symIn Try.prog K0 [] f) S (.func 46 [] []) [.ptr o 0, .int .i64 (.c n)] = some (.int .i64 (.c x), S1) ∧ Nw bs o (P + 1) [] S S1 ∧ 0 ≤ x ∧ x < n := by
  obtain ⟨m, rfl⟩ : ∃ m, f = m + 1 := ⟨f - 1, by omega⟩
  obtain ⟨p, hp, hr⟩ := h.lows S.next
  obtain ⟨_, h1, x, s1, rfl, h2, h3, h4⟩ := pick bs hbs o p n _ hr (by omega) hn m
  obtain ⟨v, S1, k1, k2, k3⟩ := run_call (Φ := fun v _ => v = .int .i64 (.c x)) ⟨_, h1, h4.nw (Q := P + 1) (by omega), rfl⟩
  subst k3
  exact ⟨x, S1, k1, k2, h2, h3⟩

/-- One of a list that is written out. -/
theorem oneC (bs : List Int) (hbs : ∀ b, b ∈ bs → 0 ≤ b ∧ b < 256) {o : Nat} {P : Int} {S : Sto Sy} (h : Rdy bs o P S) (hP : P ≤ 1000000) (zs : List Int) (k : Nat) (hk : zs.length = k) (hk1 : 1 ≤ k) (hk2 : k ≤ 1000000) (f : Nat) (hf : 2 ≤ f) :
    ∃ x S1, acallV (symIn Try.prog K0 [] f) (S.new (ints (nums zs))) (.func 53 [] []) [.ptr o 0, .rsl S.next 0 k (some k)] = some (.int .i64 (.c x), S1) ∧ Nw bs o (P + 1) [] S S1 ∧ x ∈ zs := by
  subst hk
  obtain ⟨m, rfl⟩ : ∃ m, f = m + 2 := ⟨f - 2, by omega⟩
  obtain ⟨p, hp, hr⟩ := (h.new (ints (nums zs))).lows (S.new (ints (nums zs))).next
  obtain ⟨_, h1, x, s1, rfl, h2, h4⟩ := one bs hbs o p zs _ hr (by omega) S.next (by have := h.lt; omega) (look_new S _) hk1 hk2 m
  obtain ⟨v, S1, k1, k2, k3⟩ := run_call (Φ := fun v _ => v = .int .i64 (.c x)) ⟨_, h1, h4.nw (Q := P + 1) (by omega), rfl⟩
  subst k3
  exact ⟨x, S1, k1, k2.ahead h.desc (fun k hk => by cases hk), h2⟩

attribute [local simp] aops wants aop apure St.eval setTm_some setTm_none Tr.get_set aload evals pevals apureB alen tiS tiI tiB tiY tiU fa0 fa1 abin aint isCmp sym_lt sym_eqs sym_neqs sym_eq sym_neq sym_gtr sym_leq sym_geq sym_add sym_sub sym_mul aeff aeffB idx? ofV aindexAddr aggDesc aifc_int

theorem readerC (bs : List Int) (f : Nat) (hf : 1 ≤ f) : acallV (symIn Try.prog K0 [] f) ⟨0, [], 0⟩ (.func 30 [] []) [.slice (u8s bs)] = some (.ptr 0 0, ⟨1, [(0, [.slice (u8s (bs.take 2000)), .int .i64 (.c 0)])], 0⟩) := by
  obtain ⟨m, rfl⟩ : ∃ m, f = m + 1 := ⟨f - 1, by omega⟩
  rw [acallV_func (by decide), List.nil_append, List.append_nil, symIn_run (by decide), newReader bs m]
  rfl
theorem reader0 (bs : List Int) : ∃ S, S = (⟨1, [(0, [.slice (u8s (bs.take 2000)), .int .i64 (.c 0)])], 0⟩ : Sto Sy) ∧ Rdy (bs.take 2000) 0 0 S := ⟨_, rfl, 0, Int.le_refl 0, rfl, ⟨Nat.lt_succ_self 0, trivial⟩, Int.le_refl 0⟩

theorem lit0 (sto : Sto Sy) : abuildSlice (symNum []) (tiOf Try.prog) sto 23 0 [] = some (.rsl sto.next 0 0 (some 0), sto.new (ints (nums []))) := by kernel_rfl
theorem lit1 (sto : Sto Sy) : abuildSlice (symNum []) (tiOf Try.prog) sto 23 6 [(0, .int .i64 (.c 4)), (1, .int .i64 (.c 5)), (2, .int .i64 (.c 3)), (3, .int .i64 (.c 2)), (4, .int .i64 (.c 1)), (5, .int .i64 (.c 0))] = some (.rsl sto.next 0 6 (some 6), sto.new (ints (nums [4, 5, 3, 2, 1, 0]))) := by kernel_rfl
theorem lit2 (sto : Sto Sy) : abuildSlice (symNum []) (tiOf Try.prog) sto 23 6 [(0, .int .i64 (.c 0)), (1, .int .i64 (.c 0)), (2, .int .i64 (.c 0)), (3, .int .i64 (.c 0)), (4, .int .i64 (.c 0)), (5, .int .i64 (.c 0))] = some (.rsl sto.next 0 6 (some 6), sto.new (ints (nums [0, 0, 0, 0, 0, 0]))) := by kernel_rfl
theorem lit3 (sto : Sto Sy) : abuildSlice (symNum []) (tiOf Try.prog) sto 23 3 [(0, .int .i64 (.c (-1))), (1, .int .i64 (.c 5)), (2, .int .i64 (.c 2))] = some (.rsl sto.next 0 3 (some 3), sto.new (ints (nums [-1, 5, 2]))) := by kernel_rfl
theorem litx (sto : Sto Sy) (x : Int) : abuildSlice (symNum []) (tiOf Try.prog) sto 23 1 [(0, .int .i64 (.c x))] = some (.rsl sto.next 0 1 (some 1), sto.new (ints (nums [x]))) := by kernel_rfl

set_option maxRecDepth 10000 in
theorem partsOf (bs : List Int) (hbs : ∀ b, b ∈ bs → 0 ≤ b ∧ b < 256) {o : Nat} {P : Int} {S : Sto Sy} (h : Rdy bs o P S) (hP : P ≤ 900000) (n : Nat) (hn : n ≤ 25) (f : Nat) (hf : 30 ≤ f) :
    ∃ v S1, acallV (symIn Try.prog K0 [] f) S (.func 47 [] []) [.ptr o 0, .int .i64 (.c n)] = some (v, S1) ∧ Pre bs o (P + 25) [] S S1 ∧ S1.low ≤ S.low ∧ Lst S.next n n 25 v S1.obs := by
  obtain ⟨g, rfl⟩ : ∃ g, f = g + 1 := ⟨f - 1, by omega⟩
  refine run_callP (Φ := fun v obs => Lst S.next n n 25 v obs) (own_run2 hK0 Try.func47 rfl rfl ?_)
  simp only [Try.f47]
  have h0 := h.lows S.next
  have hlt := h.lt
  have hN : (⟨S.next, S.obs, S.next⟩ : Sto Sy).next = S.next := rfl
  generalize (⟨S.next, S.obs, S.next⟩ : Sto Sy) = S0 at h0 hN ⊢
  repeat' (first | refine Wp.seq ?_ | refine Wp.block ?_ | (apply Wp.region; focus ((try simp [setArgs, lit0]) <;> rfl)) | (refine Wp.cond_t ?_ ?_; focus (simp [setArgs, lit0]; done)) | (refine Wp.cond_f ?_ ?_; focus (simp [setArgs, lit0]; done)) | refine Wp.skip ?_ | refine Wp.ret ?_ | refine Wp.exit ?_ | refine Blk.here ?_ | (refine Blk.past ?_ ?_; focus (simp; done)))
  refine Wp.loop rfl rfl (fun i st => st.tm.get .any 0 = .ptr o 0 ∧ st.tm.get .any 1 = .int .i64 (.c n) ∧ (∃ m : Int, st.tm.get .any 6 = .int .i64 (.c m) ∧ 0 ≤ m ∧ m ≤ i) ∧ ∃ q zs, S0.next ≤ q ∧ IsL st.sto.obs q zs (st.tm.get .any 5) ∧ zs.length = i ∧
    (∀ z, z ∈ zs → -25 ≤ z ∧ z ≤ 25) ∧ Pre bs o (P + i) [] S0 st.sto) n (by omega) ?_ ?_ ?_
  · refine ⟨by simp, by simp, ⟨0, by simp, by omega, by omega⟩, S0.next, [], Nat.le_refl _, ⟨⟨some 0, by simp, .inr rfl⟩, look_new _ _⟩, rfl, by simp, ?_⟩
    have := Pre.made h0 (ints (nums []))
    exact ⟨this.rd.mono (by omega), this.next, this.keep⟩
  · rintro k i ⟨tm, T⟩ hi ⟨e0, e1, ⟨m, e6, hm0, hm1⟩, q, zs, hq, hz, hzl, hzb, hT⟩
    simp only at e0 e1 e6 hz hT
    have hzlt : (zs.length : Int) < n := by omega
    have hqo : q ≠ o := by have := h0.lt; omega
    obtain ⟨cp, hv, hcp⟩ := hz.val
    have hwm := wrap_in (a := m + 1) (by omega) (by omega)
    obtain ⟨y, T1, hc1, hn1, hy1, hy2⟩ := pickC bs hbs hT.rd (by omega) (m + 1) (by omega) g (by omega)
    have t1 := hT.trans h0.desc hn1 (by simp)
    have z1 := hz.keep hn1 hqo (by simp)
    obtain ⟨v', S', k1, k2, q', k3, k4⟩ := append_ok tiS tiI z1 hqo (.inr hq) h0.desc t1 (w := y) (ws := []) (by simp; omega)
    replace k1 : aappend (symNum []) (tiOf Try.prog) (T1.new (ints (nums [y]))) 23 23 (tm.get .any 5) (.rsl T1.next 0 1 (some 1)) = some (v', S') := k1
    rw [hv] at k1
    have hb' : ∀ z, z ∈ zs ++ [y] → -25 ≤ z ∧ z ≤ 25 := fun z hz => by
      rcases List.mem_append.1 hz with hz | hz
      · exact hzb z hz
      · simp at hz; subst hz; omega
    have hq' : S0.next ≤ q' := by have := t1.next; omega
    have k2' : Pre bs o (P + ((i + 1 : Nat) : Int)) [] S0 S' := (k2.more (by omega)).pre
    by_cases hym : y = m
    · subst hym
      repeat' (first | refine Wp.seq ?_ | refine Wp.block ?_ | (apply Wp.region; focus ((try simp [e0, e1, e6, hv, hzlt, hwm, hc1, litx, k1]) <;> rfl)) | (refine Wp.cond_t ?_ ?_; focus (simp [e0, e1, e6, hv, hzlt, hwm, hc1, litx, k1]; done)) | (refine Wp.cond_f ?_ ?_; focus (simp [e0, e1, e6, hv, hzlt, hwm, hc1, litx, k1]; done)) | refine Wp.skip ?_ | refine Wp.ret ?_ | refine Wp.exit ?_ | refine Blk.here ?_ | (refine Blk.past ?_ ?_; focus (simp; done)))
      exact ⟨by simp [e0], by simp [e1], ⟨y + 1, by simp, by omega, by omega⟩, q', _, hq', by simpa using k4, by simp [hzl], hb', k2'⟩
    · repeat' (first | refine Wp.seq ?_ | refine Wp.block ?_ | (apply Wp.region; focus ((try simp [e0, e1, e6, hv, hzlt, hwm, hc1, hym, litx, k1]) <;> rfl)) | (refine Wp.cond_t ?_ ?_; focus (simp [e0, e1, e6, hv, hzlt, hwm, hc1, hym, litx, k1]; done)) | (refine Wp.cond_f ?_ ?_; focus (simp [e0, e1, e6, hv, hzlt, hwm, hc1, hym, litx, k1]; done)) | refine Wp.skip ?_ | refine Wp.ret ?_ | refine Wp.exit ?_ | refine Blk.here ?_ | (refine Blk.past ?_ ?_; focus (simp; done)))
      exact ⟨by simp [e0], by simp [e1], ⟨m, by simp [e6], by omega, by omega⟩, q', _, hq', by simpa using k4, by simp [hzl], hb', k2'⟩
  · rintro k ⟨tm, T⟩ ⟨e0, e1, ⟨m, e6, hm0, hm1⟩, q, zs, hq, hz, hzl, hzb, hT⟩
    simp only at e0 e1 e6 hz hT
    have hzlt : ¬ (zs.length : Int) < n := by omega
    obtain ⟨cp, hv, hcp⟩ := hz.val
    repeat' (first | refine Wp.seq ?_ | refine Wp.block ?_ | (apply Wp.region; focus ((try simp [e0, e1, hv, hzlt]) <;> rfl)) | (refine Wp.cond_t ?_ ?_; focus (simp [e0, e1, hv, hzlt]; done)) | (refine Wp.cond_f ?_ ?_; focus (simp [e0, e1, hv, hzlt]; done)) | refine Wp.skip ?_ | refine Wp.ret ?_ | refine Wp.exit ?_ | refine Blk.here ?_ | (refine Blk.past ?_ ?_; focus (simp; done)))
    refine ⟨rfl, answer_trim1 (by simp; rfl) ⟨?_, q, zs, by omega, ?_, by omega, by omega, hzb⟩⟩
    · rw [← hN]
      exact (hT.more (by omega)).trim h0.desc h0.lt (.rsl q 0 zs.length cp)
    · have := hz.trim1 (n0 := S.next)
      rw [hv] at this
      exact this

set_option maxRecDepth 10000 in
theorem someParts (bs : List Int) (hbs : ∀ b, b ∈ bs → 0 ≤ b ∧ b < 256) {o : Nat} {P : Int} {S : Sto Sy} (h : Rdy bs o P S) (hP : P ≤ 700000) (f : Nat) (hf : 50 ≤ f) :
    ∃ v S1, acallV (symIn Try.prog K0 [] f) S (.func 40 [] []) [.ptr o 0] = some (v, S1) ∧ Nw bs o (P + 100) [] S S1 ∧ Lst S.next 0 11 25 v S1.obs := by
  obtain ⟨g, rfl⟩ : ∃ g, f = g + 1 := ⟨f - 1, by omega⟩
  refine run_call (Φ := fun v obs => Lst S.next 0 11 25 v obs) (own_run2 hK0 Try.func40 rfl rfl ?_)
  simp only [Try.f40]
  have h0 := h.lows S.next
  have hlt := h.lt
  have hN : (⟨S.next, S.obs, S.next⟩ : Sto Sy).next = S.next := rfl
  generalize (⟨S.next, S.obs, S.next⟩ : Sto Sy) = S0 at h0 hN ⊢
  obtain ⟨x, S1, hc1, hn1, hx⟩ := oneC bs hbs h0 (by omega) [4, 5, 3, 2, 1, 0] 6 rfl (by omega) (by omega) g (by omega)
  have hx2 : 0 ≤ x ∧ x ≤ 5 := by simp at hx; omega
  obtain ⟨xn, rfl⟩ : ∃ xn : Nat, x = xn := ⟨x.toNat, by omega⟩
  obtain ⟨v, S2, hc2, hp2, hlow2, q, zs, hq, hz, hzl, hzl2, hzb⟩ := partsOf bs hbs hn1.rd (by omega) xn (by omega) g (by omega)
  have hn2 := hp2.nw (Nat.le_trans hlow2 hn1.low)
  have hqo : q ≠ o := by have := h0.lt; have := hn1.next; omega
  have hqn := hn1.next
  obtain ⟨cp, rfl, hcp⟩ := hz.val
  have t2 := hn1.trans h0.desc hn2 (by simp)
  have hqS : S0.next ≤ q := by omega
  obtain ⟨y, S3, hc3, hn3, hy1, hy2⟩ := pickC bs hbs t2.rd (by omega) 24 (by omega) g (by omega)
  have z3 := hz.keep hn3 hqo (by simp)
  have t3 := t2.trans h0.desc hn3 (by simp)
  by_cases c0 : y = 0
  · subst c0
    obtain ⟨v', S', k1, k2, q', k3, k4⟩ := append_ok tiS tiI z3 hqo (ex := []) (.inr hqS) h0.desc t3 (w := 0) (ws := [0, 0, 0, 0, 0]) (by simp; omega)
    replace k1 : aappend (symNum []) (tiOf Try.prog) (S3.new (ints (nums [0, 0, 0, 0, 0, 0]))) 23 23 (.rsl q 0 zs.length cp) (.rsl S3.next 0 6 (some 6)) = some (v', S') := k1
    repeat' (first | refine Wp.seq ?_ | refine Wp.block ?_ | (apply Wp.region; focus ((try simp [setArgs, lit1, hc1, hc2, hc3, lit2, k1]) <;> rfl)) | (refine Wp.cond_t ?_ ?_; focus (simp [setArgs, lit1, hc1, hc2, hc3, lit2, k1]; done)) | (refine Wp.cond_f ?_ ?_; focus (simp [setArgs, lit1, hc1, hc2, hc3, lit2, k1]; done)) | refine Wp.skip ?_ | refine Wp.ret ?_ | refine Wp.exit ?_ | refine Blk.here ?_ | (refine Blk.past ?_ ?_; focus (simp; done)))
    exact ⟨rfl, answer_one (v := v') (by simp) (k2.lowlt h0 hN) ⟨k2.more (by omega), q', _, (by have := t3.next; omega), k4, by simp, by simp; omega, fun z hz => by
      rcases List.mem_append.1 hz with hz | hz
      · exact hzb z hz
      · simp at hz; omega⟩⟩
  by_cases c1 : y = 1
  · subst c1
    by_cases hz0 : zs.length = 0
    · have hnil := List.eq_nil_of_length_eq_zero hz0
      subst hnil
      repeat' (first | refine Wp.seq ?_ | refine Wp.block ?_ | (apply Wp.region; focus ((try simp [setArgs, lit1, hc1, hc2, hc3]) <;> rfl)) | (refine Wp.cond_t ?_ ?_; focus (simp [setArgs, lit1, hc1, hc2, hc3]; done)) | (refine Wp.cond_f ?_ ?_; focus (simp [setArgs, lit1, hc1, hc2, hc3]; done)) | refine Wp.skip ?_ | refine Wp.ret ?_ | refine Wp.exit ?_ | refine Blk.here ?_ | (refine Blk.past ?_ ?_; focus (simp; done)))
      exact ⟨rfl, answer_one (v := .rsl q 0 0 cp) (by simp) (t3.lowlt h0 hN) ⟨t3.more (by omega), q, [], hN ▸ hqS, z3, by simp, by simp, by simp⟩⟩
    have hne : zs ≠ [] := fun e => hz0 (by rw [e]; rfl)
    have hpos : 0 < zs.length := by omega
    have hz1 : (0 : Int) < zs.length := by omega
    obtain ⟨u, S4, hc4, hn4, hu1, hu2⟩ := pickC bs hbs t3.rd (by omega) zs.length (by omega) g (by omega)
    have z4 := z3.keep hn4 hqo (by simp)
    obtain ⟨w, S5, hc5, hn5, hw⟩ := oneC bs hbs hn4.rd (by omega) [-1, 5, 2] 3 rfl (by omega) (by omega) g (by omega)
    have z5 := z4.keep hn5 hqo (by simp)
    have t := ((t3.trans h0.desc hn4 (by simp)).trans h0.desc hn5 (by simp))
    have hyl : u.toNat < zs.length := by omega
    have hs := store_ok tiI z5 (x := w) hyl
    have zw := z5.wrote u.toNat w
    have tw := t.wrote h0.desc hqo (.inr hqS) (ints (nums (zs.set u.toNat w)))
    have hw2 : -25 ≤ w ∧ w ≤ 25 := by simp at hw; omega
    repeat' (first | refine Wp.seq ?_ | refine Wp.block ?_ | (apply Wp.region; focus ((try simp [setArgs, lit1, hc1, hc2, hc3, hz1, hne, hpos, hc4, hu1, hu2, lit3, hc5, hs]) <;> rfl)) | (refine Wp.cond_t ?_ ?_; focus (simp [setArgs, lit1, hc1, hc2, hc3, hz1, hne, hpos, hc4, hu1, hu2, lit3, hc5, hs]; done)) | (refine Wp.cond_f ?_ ?_; focus (simp [setArgs, lit1, hc1, hc2, hc3, hz1, hne, hpos, hc4, hu1, hu2, lit3, hc5, hs]; done)) | refine Wp.skip ?_ | refine Wp.ret ?_ | refine Wp.exit ?_ | refine Blk.here ?_ | (refine Blk.past ?_ ?_; focus (simp; done)))
    exact ⟨rfl, answer_one (v := .rsl q 0 zs.length cp) (by simp) (tw.lowlt h0 hN) ⟨tw.more (by omega), q, _, hN ▸ hqS, zw, by omega, by rw [List.length_set]; omega, set_bound hzb hw2⟩⟩
  repeat' (first | refine Wp.seq ?_ | refine Wp.block ?_ | (apply Wp.region; focus ((try simp [setArgs, lit1, hc1, hc2, hc3, c0, c1]) <;> rfl)) | (refine Wp.cond_t ?_ ?_; focus (simp [setArgs, lit1, hc1, hc2, hc3, c0, c1]; done)) | (refine Wp.cond_f ?_ ?_; focus (simp [setArgs, lit1, hc1, hc2, hc3, c0, c1]; done)) | refine Wp.skip ?_ | refine Wp.ret ?_ | refine Wp.exit ?_ | refine Blk.here ?_ | (refine Blk.past ?_ ?_; focus (simp; done)))
  exact ⟨rfl, answer_one (v := .rsl q 0 zs.length cp) (by simp) (t3.lowlt h0 hN) ⟨t3.more (by omega), q, zs, hN ▸ hqS, z3, by omega, by omega, hzb⟩⟩

set_option maxRecDepth 10000 in
theorem inRangeC (bs : List Int) {o : Nat} {P : Int} {S : Sto Sy} (h : Rdy bs o P S) (z a b : Int) (f : Nat) (hf : 2 ≤ f) :
    ∃ v S1, acallV (symIn Try.prog K0 [] f) S (.func 49 [] []) [.int .i64 (.c z), .int .i64 (.c a), .int .i64 (.c b)] = some (v, S1) ∧ Pre bs o P [] S S1 ∧ S1.low ≤ S.low ∧ ∃ t, v = .bool t := by
  obtain ⟨g, rfl⟩ : ∃ g, f = g + 1 := ⟨f - 1, by omega⟩
  refine run_callP (Φ := fun v obs => ∃ t, v = .bool t) (own_run2 hK0 Try.func49 rfl rfl ?_)
  simp only [Try.f49]
  have h0 := h.lows S.next
  have hN : (⟨S.next, S.obs, S.next⟩ : Sto Sy).next = S.next := rfl
  generalize (⟨S.next, S.obs, S.next⟩ : Sto Sy) = S0 at h0 hN ⊢
  have fin : ∀ t : Bool, Pre bs o P [] S0 (S0.trim S.next (.bool t)) := fun t => by
    rw [← hN]
    exact (Pre.self h0).trim h0.desc h0.lt (.bool t)
  by_cases h1 : a ≤ z
  · have h1a : ¬ z < a := by omega
    by_cases h2 : z ≤ b
    · have h2a : ¬ b < z := by omega
      repeat' (first | refine Wp.seq ?_ | refine Wp.block ?_ | (apply Wp.region; focus ((try simp [setArgs, h1, h2, h1a, h2a]) <;> rfl)) | (refine Wp.cond_t ?_ ?_; focus (simp [setArgs, h1, h2, h1a, h2a]; done)) | (refine Wp.cond_f ?_ ?_; focus (simp [setArgs, h1, h2, h1a, h2a]; done)) | refine Wp.skip ?_ | refine Wp.ret ?_ | refine Wp.exit ?_ | refine Blk.here ?_ | (refine Blk.past ?_ ?_; focus (simp; done)))
      exact ⟨rfl, answer_trim1 (v := .bool true) (by simp) ⟨fin true, true, rfl⟩⟩
    · have h2a : b < z := by omega
      repeat' (first | refine Wp.seq ?_ | refine Wp.block ?_ | (apply Wp.region; focus ((try simp [setArgs, h1, h2, h1a, h2a]) <;> rfl)) | (refine Wp.cond_t ?_ ?_; focus (simp [setArgs, h1, h2, h1a, h2a]; done)) | (refine Wp.cond_f ?_ ?_; focus (simp [setArgs, h1, h2, h1a, h2a]; done)) | refine Wp.skip ?_ | refine Wp.ret ?_ | refine Wp.exit ?_ | refine Blk.here ?_ | (refine Blk.past ?_ ?_; focus (simp; done)))
      exact ⟨rfl, answer_trim1 (v := .bool false) (by simp) ⟨fin false, false, rfl⟩⟩
  · have h1a : z < a := by omega
    repeat' (first | refine Wp.seq ?_ | refine Wp.block ?_ | (apply Wp.region; focus ((try simp [setArgs, h1, h1a]) <;> rfl)) | (refine Wp.cond_t ?_ ?_; focus (simp [setArgs, h1, h1a]; done)) | (refine Wp.cond_f ?_ ?_; focus (simp [setArgs, h1, h1a]; done)) | refine Wp.skip ?_ | refine Wp.ret ?_ | refine Wp.exit ?_ | refine Blk.here ?_ | (refine Blk.past ?_ ?_; focus (simp; done)))
    exact ⟨rfl, answer_trim1 (v := .bool false) (by simp) ⟨fin false, false, rfl⟩⟩

section
attribute [local simp] aload
set_option maxRecDepth 10000 in
theorem validPartitionC (bs : List Int) {o : Nat} {P : Int} {S : Sto Sy} (h : Rdy bs o P S) {q : Nat} {zs : List Int} {v0 : V Sy} (hz : IsL S.obs q zs v0) (hqo : q ≠ o) (hl : zs.length ≤ 25) (f : Nat) (hf : 30 ≤ f) :
    ∃ v S1, acallV (symIn Try.prog K0 [] f) S (.func 34 [] []) [v0] = some (v, S1) ∧ Pre bs o P [] S S1 ∧ S1.low ≤ S.low ∧ ∃ t, v = .bool t := by
  obtain ⟨g, rfl⟩ : ∃ g, f = g + 1 := ⟨f - 1, by omega⟩
  refine run_callP (Φ := fun v obs => ∃ t, v = .bool t) (own_run2 hK0 Try.func34 rfl rfl ?_)
  simp only [Try.f34]
  have h0 := h.lows S.next
  have hz0 : IsL (⟨S.next, S.obs, S.next⟩ : Sto Sy).obs q zs v0 := hz
  have hN : (⟨S.next, S.obs, S.next⟩ : Sto Sy).next = S.next := rfl
  generalize (⟨S.next, S.obs, S.next⟩ : Sto Sy) = S0 at h0 hz0 hN ⊢
  obtain ⟨cp, rfl, hcp⟩ := hz0.val
  have fin : ∀ (T : Sto Sy) (t : Bool), Pre bs o P [] S0 T → Pre bs o P [] S0 (T.trim S.next (.bool t)) := fun T t hT => by
    rw [← hN]
    exact hT.trim h0.desc h0.lt (.bool t)
  repeat' (first | refine Wp.seq ?_ | refine Wp.block ?_ | (apply Wp.region; focus ((try simp [setArgs]) <;> rfl)) | (refine Wp.cond_t ?_ ?_; focus (simp [setArgs]; done)) | (refine Wp.cond_f ?_ ?_; focus (simp [setArgs]; done)) | refine Wp.skip ?_ | refine Wp.ret ?_ | refine Wp.exit ?_ | refine Blk.here ?_ | (refine Blk.past ?_ ?_; focus (simp; done)))
  refine Wp.loop rfl rfl (fun i st => st.tm.get .any 0 = .rsl q 0 zs.length cp ∧ st.tm.get .any 4 = .int .i64 (.c i) ∧ (∃ m : Int, st.tm.get .any 3 = .int .i64 (.c m) ∧ 0 ≤ m ∧ m ≤ i) ∧ Pre bs o P [] S0 st.sto) zs.length (by omega) ?_ ?_ ?_
  · exact ⟨by simp, by simp, ⟨0, by simp, by omega, by omega⟩, Pre.self h0⟩
  · rintro k i ⟨tm, T⟩ hi ⟨e0, e4, ⟨m, e3, hm0, hm1⟩, hT⟩
    simp only at e0 e4 e3 hT
    have hilt : (i : Int) < zs.length := by omega
    have hla := hT.keep q _ hqo (by simp) hz0.obj
    have hge : zs[i]? = some zs[i] := List.getElem?_eq_getElem hi
    have hwi := wrap_in (a := (i : Int) + 1) (by omega) (by omega)
    have hwm := wrap_in (a := m + 1) (by omega) (by omega)
    obtain ⟨_, T1, hc, hp, hlow, t, rfl⟩ := inRangeC bs hT.rd zs[i] 0 m g (by omega)
    have hT1 := hT.after h0.desc hp (by simp)
    have hla1 := hT1.keep q _ hqo (by simp) hz0.obj
    generalize hzz : zs[i] = z at hge hc
    cases t with
    | false =>
      repeat' (first | refine Wp.seq ?_ | refine Wp.block ?_ | (apply Wp.region; focus ((try simp [e0, e4, e3, hilt, hla, hge, hi, hzz, aun, hc]) <;> rfl)) | (refine Wp.cond_t ?_ ?_; focus (simp [e0, e4, e3, hilt, hla, hge, hi, hzz, aun, hc]; done)) | (refine Wp.cond_f ?_ ?_; focus (simp [e0, e4, e3, hilt, hla, hge, hi, hzz, aun, hc]; done)) | refine Wp.skip ?_ | refine Wp.ret ?_ | refine Wp.exit ?_ | refine Blk.here ?_ | (refine Blk.past ?_ ?_; focus (simp; done)))
      exact ⟨rfl, answer_trim1 (v := .bool false) (by simp) ⟨fin _ false hT1, false, rfl⟩⟩
    | true =>
      by_cases hzm : z = m
      · subst hzm
        repeat' (first | refine Wp.seq ?_ | refine Wp.block ?_ | (apply Wp.region; focus ((try simp [e0, e4, e3, hilt, hla, hla1, hge, hi, hzz, aun, hc, hwm, hwi]) <;> rfl)) | (refine Wp.cond_t ?_ ?_; focus (simp [e0, e4, e3, hilt, hla, hla1, hge, hi, hzz, aun, hc, hwm, hwi]; done)) | (refine Wp.cond_f ?_ ?_; focus (simp [e0, e4, e3, hilt, hla, hla1, hge, hi, hzz, aun, hc, hwm, hwi]; done)) | refine Wp.skip ?_ | refine Wp.ret ?_ | refine Wp.exit ?_ | refine Blk.here ?_ | (refine Blk.past ?_ ?_; focus (simp; done)))
        exact ⟨by simp [e0], by simp, ⟨z + 1, by simp, by omega, by omega⟩, hT1⟩
      · repeat' (first | refine Wp.seq ?_ | refine Wp.block ?_ | (apply Wp.region; focus ((try simp [e0, e4, e3, hilt, hla, hla1, hge, hi, hzz, aun, hc, hzm, hwi]) <;> rfl)) | (refine Wp.cond_t ?_ ?_; focus (simp [e0, e4, e3, hilt, hla, hla1, hge, hi, hzz, aun, hc, hzm, hwi]; done)) | (refine Wp.cond_f ?_ ?_; focus (simp [e0, e4, e3, hilt, hla, hla1, hge, hi, hzz, aun, hc, hzm, hwi]; done)) | refine Wp.skip ?_ | refine Wp.ret ?_ | refine Wp.exit ?_ | refine Blk.here ?_ | (refine Blk.past ?_ ?_; focus (simp; done)))
        exact ⟨by simp [e0], by simp, ⟨m, by simp [e3], by omega, by omega⟩, hT1⟩
  · rintro k ⟨tm, T⟩ ⟨e0, e4, ⟨m, e3, hm0, hm1⟩, hT⟩
    simp only at e0 e4 e3 hT
    by_cases h5 : (5 : Int) < zs.length
    · repeat' (first | refine Wp.seq ?_ | refine Wp.block ?_ | (apply Wp.region; focus ((try simp [e0, e4, h5]) <;> rfl)) | (refine Wp.cond_t ?_ ?_; focus (simp [e0, e4, h5]; done)) | (refine Wp.cond_f ?_ ?_; focus (simp [e0, e4, h5]; done)) | refine Wp.skip ?_ | refine Wp.ret ?_ | refine Wp.exit ?_ | refine Blk.here ?_ | (refine Blk.past ?_ ?_; focus (simp; done)))
      exact ⟨rfl, answer_trim1 (v := .bool false) (by simp) ⟨fin _ false hT, false, rfl⟩⟩
    · repeat' (first | refine Wp.seq ?_ | refine Wp.block ?_ | (apply Wp.region; focus ((try simp [e0, e4, h5]) <;> rfl)) | (refine Wp.cond_t ?_ ?_; focus (simp [e0, e4, h5]; done)) | (refine Wp.cond_f ?_ ?_; focus (simp [e0, e4, h5]; done)) | refine Wp.skip ?_ | refine Wp.ret ?_ | refine Wp.exit ?_ | refine Blk.here ?_ | (refine Blk.past ?_ ?_; focus (simp; done)))
      exact ⟨rfl, answer_trim1 (v := .bool true) (by simp) ⟨fin _ true hT, true, rfl⟩⟩
end

end Go.Proofs.Ytcpnlgjkijcmhaa.Draw

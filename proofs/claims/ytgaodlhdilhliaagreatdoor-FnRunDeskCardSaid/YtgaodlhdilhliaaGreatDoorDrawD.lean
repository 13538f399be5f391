/-
  What functions that draw from bytes make, by runs by hand: lists with a first term that is chosen. No condition.
-/
import Derived.Test.YtgaodlhdilhliaaGreatDoorRows
import Derived.Test.YtgaodlhdilhliaaGreatDoorSym
import Derived.Test.YtgaodlhdilhliaaGreatDoorIds
import Derived.Test.YtgaodlhdilhliaaGreatDoorDraw
import Derived.Test.YtgaodlhdilhliaaGreatDoorDrawC
import Derived.WalkKit
import Derived.ProofKit
import Derived.OpenShut
namespace Go.Proofs.YtgaodlhdilhliaaGreatDoor.Draw
open Go.ChangeShapes Go.WideShapes Go.ChangeAt Go.RowKit Go.Sx Go.Proofs.YtgaodlhdilhliaaGreatDoor.Ids
set_option linter.unusedVariables false
set_option linter.unusedSimpArgs false

attribute [local simp] aops wants aop apure St.eval setTm_some setTm_none Tr.get_set aload evals pevals apureB alen tiS tiI tiB tiY tiU fa0 fa1 abin aint isCmp sym_lt sym_eqs sym_neqs sym_eq sym_neq sym_gtr sym_leq sym_geq sym_add sym_sub sym_mul aeff aeffB idx? ofV aindexAddr aggDesc aifc_int
theorem litU4 (sto : Sto Sy) : abuildSlice (symNum []) (tiOf Tryz.prog) sto 35 4 [(0, .int .i64 (.c 1)), (1, .int .i64 (.c 1)), (2, .int .i64 (.c 1)), (3, .int .i64 (.c (-1)))] = some (.rsl sto.next 0 4 (some 4), sto.new (ints (nums [1, 1, 1, -1]))) := by kernel_rfl
theorem litU2 (sto : Sto Sy) : abuildSlice (symNum []) (tiOf Tryz.prog) sto 35 2 [(0, .int .i64 (.c 0)), (1, .int .i64 (.c 2))] = some (.rsl sto.next 0 2 (some 2), sto.new (ints (nums [0, 2]))) := by kernel_rfl
set_option maxRecDepth 10000 in
theorem unitSeries (bs : List Int) (hbs : ∀ b, b ∈ bs → 0 ≤ b ∧ b < 256) {o : Nat} {P : Int} {S : Sto Sy} (h : Rdy bs o P S) (hP : P ≤ 800000) (n : Nat) (hn0 : 1 ≤ n) (hn : n ≤ 25) (f : Nat) (hf : 40 ≤ f) :
    ∃ v S1, acallV (symIn Tryz.prog K0 [] f) S (.func 18 [] []) [.ptr o 0, .int .i64 (.c n)] = some (v, S1) ∧ Nw bs o (P + 200) [] S S1 ∧ Lst S.next n n 600 v S1.obs := by
  obtain ⟨g, rfl⟩ : ∃ g, f = g + 1 := ⟨f - 1, by omega⟩
  refine run_call (Φ := fun v obs => Lst S.next n n 600 v obs) (own_run2 hK0 Tryz.func18 rfl rfl ?_)
  simp only [Tryz.f18]
  have h0 := h.lows S.next
  have hlt := h.lt
  have hN : (⟨S.next, S.obs, S.next⟩ : Sto Sy).next = S.next := rfl
  generalize (⟨S.next, S.obs, S.next⟩ : Sto Sy) = S0 at h0 hN ⊢
  obtain ⟨v, S1, hc1, hn1, q, zs, hq, hz, hzl, hzb⟩ := seriesOf bs hbs h0 (by omega) n (by omega) g (by omega)
  have hqo : q ≠ o := by have := h0.lt; omega
  obtain ⟨cp, rfl, hcp⟩ := hz.val
  obtain ⟨w, S2, hc2, hn2, hw⟩ := oneC bs hbs hn1.rd (by omega) [1, 1, 1, -1] 4 rfl (by omega) (by omega) g (by omega)
  have z2 := hz.keep hn2 hqo (by simp)
  have t2 := hn1.trans h0.desc hn2 (by simp)
  have s2 := store_ok tiI z2 (i := 0) (x := w) (by omega)
  have z3 := z2.wrote 0 w
  have t3 := t2.wrote h0.desc hqo (.inr hq) (ints (nums (zs.set 0 w)))
  have hw2 : -600 ≤ w ∧ w ≤ 600 := by simp at hw; omega
  have hb3 := set_bound hzb (i := 0) hw2
  have hl3 : (zs.set 0 w).length = n := by rw [List.length_set]; exact hzl
  have hzp : 0 < zs.length := by omega
  generalize S2.write q (ints (nums (zs.set 0 w))) = S3 at s2 z3 t3
  rw [show (V.rsl q 0 zs.length cp : V Sy) = .rsl q 0 (zs.set 0 w).length cp by rw [List.length_set]] at z3
  generalize zs.set 0 w = ws at z3 hb3 hl3
  obtain ⟨x, S4, hc4, hn4, hx1, hx2⟩ := pickC bs hbs t3.rd (by omega) 24 (by omega) g (by omega)
  have z4 := z3.keep hn4 hqo (by simp)
  have t4 := t3.trans h0.desc hn4 (by simp)
  rw [show ws.length = zs.length by omega] at z4
  by_cases c0 : x = 0
  · subst c0
    obtain ⟨y, S5, hc5, hn5, hy⟩ := oneC bs hbs t4.rd (by omega) [0, 2] 2 rfl (by omega) (by omega) g (by omega)
    have z5 := z4.keep hn5 hqo (by simp)
    have t5 := t4.trans h0.desc hn5 (by simp)
    have s5 := store_ok tiI z5 (i := 0) (x := y) (by omega)
    have z6 := z5.wrote 0 y
    have t6 := t5.wrote h0.desc hqo (.inr hq) (ints (nums (ws.set 0 y)))
    have hy2 : -600 ≤ y ∧ y ≤ 600 := by simp at hy; omega
    repeat' (first | refine Wp.seq ?_ | refine Wp.block ?_ | (apply Wp.region; focus ((try simp [setArgs, hc1, litU4, hc2, hzp, s2, hc4, litU2, hc5, s5]) <;> rfl)) | (refine Wp.cond_t ?_ ?_; focus (simp [setArgs, hc1, litU4, hc2, hzp, s2, hc4, litU2, hc5, s5]; done)) | (refine Wp.cond_f ?_ ?_; focus (simp [setArgs, hc1, litU4, hc2, hzp, s2, hc4, litU2, hc5, s5]; done)) | refine Wp.skip ?_ | refine Wp.ret ?_ | refine Wp.exit ?_ | refine Blk.here ?_ | (refine Blk.past ?_ ?_; focus (simp; done)))
    exact ⟨rfl, answer_one (v := .rsl q 0 zs.length cp) (by simp) (t6.lowlt h0 hN) ⟨t6.more (by omega), q, _, by omega, z6, by rw [List.length_set]; omega, by rw [List.length_set]; omega, set_bound hb3 hy2⟩⟩
  repeat' (first | refine Wp.seq ?_ | refine Wp.block ?_ | (apply Wp.region; focus ((try simp [setArgs, hc1, litU4, hc2, hzp, s2, hc4, c0]) <;> rfl)) | (refine Wp.cond_t ?_ ?_; focus (simp [setArgs, hc1, litU4, hc2, hzp, s2, hc4, c0]; done)) | (refine Wp.cond_f ?_ ?_; focus (simp [setArgs, hc1, litU4, hc2, hzp, s2, hc4, c0]; done)) | refine Wp.skip ?_ | refine Wp.ret ?_ | refine Wp.exit ?_ | refine Blk.here ?_ | (refine Blk.past ?_ ?_; focus (simp; done)))
  exact ⟨rfl, answer_one (v := .rsl q 0 zs.length cp) (by simp) (t4.lowlt h0 hN) ⟨t4.more (by omega), q, ws, by omega, z4, by omega, by omega, hb3⟩⟩

set_option maxRecDepth 10000 in
theorem innerSeries (bs : List Int) (hbs : ∀ b, b ∈ bs → 0 ≤ b ∧ b < 256) {o : Nat} {P : Int} {S : Sto Sy} (h : Rdy bs o P S) (hP : P ≤ 800000) (n : Nat) (hn0 : 1 ≤ n) (hn : n ≤ 25) (f : Nat) (hf : 41 ≤ f) :
    ∃ v S1, acallV (symIn Tryz.prog K0 [] f) S (.func 16 [] []) [.ptr o 0, .int .i64 (.c n)] = some (v, S1) ∧ Nw bs o (P + 200) [] S S1 ∧ Lst S.next n n 600 v S1.obs := by
  obtain ⟨g, rfl⟩ : ∃ g, f = g + 1 := ⟨f - 1, by omega⟩
  refine run_call (Φ := fun v obs => Lst S.next n n 600 v obs) (own_run2 hK0 Tryz.func16 rfl rfl ?_)
  simp only [Tryz.f16]
  have h0 := h.lows S.next
  have hlt := h.lt
  have hN : (⟨S.next, S.obs, S.next⟩ : Sto Sy).next = S.next := rfl
  generalize (⟨S.next, S.obs, S.next⟩ : Sto Sy) = S0 at h0 hN ⊢
  obtain ⟨v, S1, hc1, hn1, q, zs, hq, hz, hzl, hzb⟩ := seriesOf bs hbs h0 (by omega) n (by omega) g (by omega)
  have hqo : q ≠ o := by have := h0.lt; omega
  obtain ⟨cp, rfl, hcp⟩ := hz.val
  have hzp : 0 < zs.length := by omega
  have z1 := hz
  have t1 := hn1
  have s2 := store_ok tiI z1 (i := 0) (x := 0) (by omega)
  have z2 := z1.wrote 0 0
  have t2 := t1.wrote h0.desc hqo (.inr hq) (ints (nums (zs.set 0 0)))
  have hb2 := set_bound hzb (i := 0) (x := 0) (by omega)
  have hl2 : (zs.set 0 0).length = zs.length := by simp only [List.length_set] <;> omega
  generalize S1.write q (ints (nums (zs.set 0 0))) = S2 at s2 z2 t2
  generalize zs.set 0 0 = ws at z2 hb2 hl2
  obtain ⟨x, S3, hc3, hn3, hx1, hx2⟩ := pickC bs hbs t2.rd (by omega) 24 (by omega) g (by omega)
  have z3 := z2.keep hn3 hqo (by simp)
  have t3 := t2.trans h0.desc hn3 (by simp)
  by_cases c0 : x = 0
  · subst c0
    have s4 := store_ok tiI z3 (i := 0) (x := 1) (by omega)
    have z4 := z3.wrote 0 1
    have t4 := t3.wrote h0.desc hqo (.inr hq) (ints (nums (ws.set 0 1)))
    have hb4 := set_bound hb2 (i := 0) (x := 1) (by omega)
    have hl4 : (ws.set 0 1).length = zs.length := by simp only [List.length_set] <;> omega
    generalize S3.write q (ints (nums (ws.set 0 1))) = S4 at s4 z4 t4
    generalize ws.set 0 1 = us at z4 hb4 hl4
    repeat' (first | refine Wp.seq ?_ | refine Wp.block ?_ | (apply Wp.region; focus ((try simp [setArgs, hc1, hzp, s2, hc3, s4]) <;> rfl)) | (refine Wp.cond_t ?_ ?_; focus (simp [setArgs, hc1, hzp, s2, hc3, s4]; done)) | (refine Wp.cond_f ?_ ?_; focus (simp [setArgs, hc1, hzp, s2, hc3, s4]; done)) | refine Wp.skip ?_ | refine Wp.ret ?_ | refine Wp.exit ?_ | refine Blk.here ?_ | (refine Blk.past ?_ ?_; focus (simp; done)))
    exact ⟨rfl, answer_one (v := .rsl q 0 zs.length cp) (by simp) (t4.lowlt h0 hN) ⟨t4.more (by omega), q, us, by omega, z4, by omega, by omega, hb4⟩⟩
  repeat' (first | refine Wp.seq ?_ | refine Wp.block ?_ | (apply Wp.region; focus ((try simp [setArgs, hc1, hzp, s2, hc3, c0]) <;> rfl)) | (refine Wp.cond_t ?_ ?_; focus (simp [setArgs, hc1, hzp, s2, hc3, c0]; done)) | (refine Wp.cond_f ?_ ?_; focus (simp [setArgs, hc1, hzp, s2, hc3, c0]; done)) | refine Wp.skip ?_ | refine Wp.ret ?_ | refine Wp.exit ?_ | refine Blk.here ?_ | (refine Blk.past ?_ ?_; focus (simp; done)))
  exact ⟨rfl, answer_one (v := .rsl q 0 zs.length cp) (by simp) (t3.lowlt h0 hN) ⟨t3.more (by omega), q, ws, by omega, z3, by omega, by omega, hb2⟩⟩
end Go.Proofs.YtgaodlhdilhliaaGreatDoor.Draw

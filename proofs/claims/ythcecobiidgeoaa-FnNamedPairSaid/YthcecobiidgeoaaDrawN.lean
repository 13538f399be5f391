/-
  What is drawn of a name and a number, by hand. No condition.
-/
import Derived.Test.YthcecobiidgeoaaRows
import Derived.Test.YthcecobiidgeoaaSym
import Derived.Test.YthcecobiidgeoaaIds
import Derived.Test.YthcecobiidgeoaaDraw
import Derived.Test.YthcecobiidgeoaaDrawC
import Derived.WalkKit
import Derived.ProofKit
import Derived.OpenShut
namespace Go.Proofs.Ythcecobiidgeoaa.Draw
open Go.ChangeShapes Go.WideShapes Go.ChangeAt Go.RowKit Go.Sx Go.Proofs.Ythcecobiidgeoaa.Ids
set_option linter.unusedVariables false
set_option linter.unusedSimpArgs false

theorem tiSs : tiOf Try.prog 80 = some ⟨.slice 9, 1, 24, .slice none 0 0, true⟩ := by kernel_rfl
theorem tiSr : tiOf Try.prog 9 = some ⟨.string, 1, 16, .string ⟨#[]⟩, true⟩ := by kernel_rfl
theorem litS8 (sto : Sto Sy) (a b c d A B C D : ByteArray) : abuildSlice (symNum []) (tiOf Try.prog) sto 80 8 [(0, .str a), (1, .str b), (2, .str c), (3, .str d), (4, .str A), (5, .str B), (6, .str C), (7, .str D)] = some (.rsl sto.next 0 8 (some 8), sto.new [.str a, .str b, .str c, .str d, .str A, .str B, .str C, .str D]) := by
  kernel_rfl
theorem lit7 (sto : Sto Sy) : abuildSlice (symNum []) (tiOf Try.prog) sto 30 7 [(0, .int .i64 (.c 4)), (1, .int .i64 (.c 5)), (2, .int .i64 (.c 6)), (3, .int .i64 (.c 3)), (4, .int .i64 (.c 2)), (5, .int .i64 (.c 1)), (6, .int .i64 (.c 7))] = some (.rsl sto.next 0 7 (some 7), sto.new (ints (nums [4, 5, 6, 3, 2, 1, 7]))) := by kernel_rfl

section
attribute [local simp] aops wants aop apure St.eval setTm_some setTm_none Tr.get_set evals pevals apureB alen tiS tiI tiB tiY tiU tiSs tiSr abin aint isCmp sym_lt sym_eqs sym_neqs sym_eq sym_neq sym_gtr sym_leq sym_geq sym_add sym_sub sym_mul aeff aeffB idx? ofV aindexAddr aggDesc aifc_int
set_option maxRecDepth 10000 in
theorem of8 (bs : List Int) (hbs : ∀ b, b ∈ bs → 0 ≤ b ∧ b < 256) {o : Nat} {P : Int} {S : Sto Sy} (h : Rdy bs o P S) (hP : P ≤ 900000) (a b c d A B C D : ByteArray) (f : Nat) (hf : 2 ≤ f) :
    ∃ v S1, acallV (symIn Try.prog K0 [] f) (S.new [.str a, .str b, .str c, .str d, .str A, .str B, .str C, .str D]) (.func 80 [] []) [.ptr o 0, .rsl S.next 0 8 (some 8)] = some (v, S1) ∧ Nw bs o (P + 1) [] S S1 ∧ (v = .str a ∨ v = .str b ∨ v = .str c ∨ v = .str d ∨ v = .str A ∨ v = .str B ∨ v = .str C ∨ v = .str D) := by
  obtain ⟨g, rfl⟩ : ∃ g, f = g + 1 := ⟨f - 1, by omega⟩
  have main := run_call (P := Try.prog) (K := K0) (sto := S.new [.str a, .str b, .str c, .str d, .str A, .str B, .str C, .str D]) (bs := bs) (o := o) (Q := P + 1) (ex := []) (n := g + 1) (k := 80) (args := [.ptr o 0, .rsl S.next 0 8 (some 8)]) (Φ := fun v obs => v = .str a ∨ v = .str b ∨ v = .str c ∨ v = .str d ∨ v = .str A ∨ v = .str B ∨ v = .str C ∨ v = .str D) (own_run2 hK0 Try.func80 rfl rfl ?_)
  · obtain ⟨v, S1, k1, k2, k3⟩ := main
    exact ⟨v, S1, k1, k2.ahead h.desc (fun k hk => by cases hk), k3⟩
  simp only [Try.f80]
  have h0 := (h.new [.str a, .str b, .str c, .str d, .str A, .str B, .str C, .str D]).lows (S.new [.str a, .str b, .str c, .str d, .str A, .str B, .str C, .str D]).next
  have hl0 : Go.Sx.look (⟨(S.new [.str a, .str b, .str c, .str d, .str A, .str B, .str C, .str D]).next, (S.new [.str a, .str b, .str c, .str d, .str A, .str B, .str C, .str D]).obs, (S.new [.str a, .str b, .str c, .str d, .str A, .str B, .str C, .str D]).next⟩ : Sto Sy).obs S.next = some [.str a, .str b, .str c, .str d, .str A, .str B, .str C, .str D] := by
    show Go.Sx.look ((S.next, noBc [.str a, .str b, .str c, .str d, .str A, .str B, .str C, .str D]) :: S.obs) S.next = _
    rw [look_cons, if_pos rfl]; rfl
  have hq : S.next ≠ o := by have := h.lt; omega
  have hN : (⟨(S.new [.str a, .str b, .str c, .str d, .str A, .str B, .str C, .str D]).next, (S.new [.str a, .str b, .str c, .str d, .str A, .str B, .str C, .str D]).obs, (S.new [.str a, .str b, .str c, .str d, .str A, .str B, .str C, .str D]).next⟩ : Sto Sy).next = S.next + 1 := rfl
  generalize (⟨(S.new [.str a, .str b, .str c, .str d, .str A, .str B, .str C, .str D]).next, (S.new [.str a, .str b, .str c, .str d, .str A, .str B, .str C, .str D]).obs, (S.new [.str a, .str b, .str c, .str d, .str A, .str B, .str C, .str D]).next⟩ : Sto Sy) = S0 at h0 hl0 hN ⊢
  obtain ⟨x, S1, hc, hn, hx1, hx2⟩ := pickC bs hbs h0 (by omega) 8 (by omega) g (by omega)
  have hl1 := hn.keep _ _ hq (by simp) hl0
  have ld : ∀ (i : Nat) (v : V Sy), [V.str a, .str b, .str c, .str d, .str A, .str B, .str C, .str D][i]? = some v → aload (tiOf Try.prog) S1 9 (.ptr S.next i) = some v := fun i v hi => by simp [aload, tiSr, aggDesc, hl1, hi]
  have l0 := ld 0 _ rfl
  have l1 := ld 1 _ rfl
  have l2 := ld 2 _ rfl
  have l3 := ld 3 _ rfl
  have l4 := ld 4 _ rfl
  have l5 := ld 5 _ rfl
  have l6 := ld 6 _ rfl
  have l7 := ld 7 _ rfl
  have hx : x = 0 ∨ x = 1 ∨ x = 2 ∨ x = 3 ∨ x = 4 ∨ x = 5 ∨ x = 6 ∨ x = 7 := by omega
  rcases hx with rfl | rfl | rfl | rfl | rfl | rfl | rfl | rfl
  · repeat' (first | refine Wp.seq ?_ | refine Wp.block ?_ | (apply Wp.region; focus ((try simp [setArgs, hc, l0]) <;> rfl)) | (refine Wp.cond_t ?_ ?_; focus (simp [setArgs, hc, l0]; done)) | (refine Wp.cond_f ?_ ?_; focus (simp [setArgs, hc, l0]; done)) | refine Wp.skip ?_ | refine Wp.ret ?_ | refine Wp.exit ?_ | refine Blk.here ?_ | (refine Blk.past ?_ ?_; focus (simp; done)))
    exact ⟨rfl, answer_one (v := .str a) (by simp) (hn.lowlt h0 hN) ⟨hn, (.inl rfl)⟩⟩
  · repeat' (first | refine Wp.seq ?_ | refine Wp.block ?_ | (apply Wp.region; focus ((try simp [setArgs, hc, l1]) <;> rfl)) | (refine Wp.cond_t ?_ ?_; focus (simp [setArgs, hc, l1]; done)) | (refine Wp.cond_f ?_ ?_; focus (simp [setArgs, hc, l1]; done)) | refine Wp.skip ?_ | refine Wp.ret ?_ | refine Wp.exit ?_ | refine Blk.here ?_ | (refine Blk.past ?_ ?_; focus (simp; done)))
    exact ⟨rfl, answer_one (v := .str b) (by simp) (hn.lowlt h0 hN) ⟨hn, (.inr (.inl rfl))⟩⟩
  · repeat' (first | refine Wp.seq ?_ | refine Wp.block ?_ | (apply Wp.region; focus ((try simp [setArgs, hc, l2]) <;> rfl)) | (refine Wp.cond_t ?_ ?_; focus (simp [setArgs, hc, l2]; done)) | (refine Wp.cond_f ?_ ?_; focus (simp [setArgs, hc, l2]; done)) | refine Wp.skip ?_ | refine Wp.ret ?_ | refine Wp.exit ?_ | refine Blk.here ?_ | (refine Blk.past ?_ ?_; focus (simp; done)))
    exact ⟨rfl, answer_one (v := .str c) (by simp) (hn.lowlt h0 hN) ⟨hn, (.inr (.inr (.inl rfl)))⟩⟩
  · repeat' (first | refine Wp.seq ?_ | refine Wp.block ?_ | (apply Wp.region; focus ((try simp [setArgs, hc, l3]) <;> rfl)) | (refine Wp.cond_t ?_ ?_; focus (simp [setArgs, hc, l3]; done)) | (refine Wp.cond_f ?_ ?_; focus (simp [setArgs, hc, l3]; done)) | refine Wp.skip ?_ | refine Wp.ret ?_ | refine Wp.exit ?_ | refine Blk.here ?_ | (refine Blk.past ?_ ?_; focus (simp; done)))
    exact ⟨rfl, answer_one (v := .str d) (by simp) (hn.lowlt h0 hN) ⟨hn, (.inr (.inr (.inr (.inl rfl))))⟩⟩
  · repeat' (first | refine Wp.seq ?_ | refine Wp.block ?_ | (apply Wp.region; focus ((try simp [setArgs, hc, l4]) <;> rfl)) | (refine Wp.cond_t ?_ ?_; focus (simp [setArgs, hc, l4]; done)) | (refine Wp.cond_f ?_ ?_; focus (simp [setArgs, hc, l4]; done)) | refine Wp.skip ?_ | refine Wp.ret ?_ | refine Wp.exit ?_ | refine Blk.here ?_ | (refine Blk.past ?_ ?_; focus (simp; done)))
    exact ⟨rfl, answer_one (v := .str A) (by simp) (hn.lowlt h0 hN) ⟨hn, (.inr (.inr (.inr (.inr (.inl rfl)))))⟩⟩
  · repeat' (first | refine Wp.seq ?_ | refine Wp.block ?_ | (apply Wp.region; focus ((try simp [setArgs, hc, l5]) <;> rfl)) | (refine Wp.cond_t ?_ ?_; focus (simp [setArgs, hc, l5]; done)) | (refine Wp.cond_f ?_ ?_; focus (simp [setArgs, hc, l5]; done)) | refine Wp.skip ?_ | refine Wp.ret ?_ | refine Wp.exit ?_ | refine Blk.here ?_ | (refine Blk.past ?_ ?_; focus (simp; done)))
    exact ⟨rfl, answer_one (v := .str B) (by simp) (hn.lowlt h0 hN) ⟨hn, (.inr (.inr (.inr (.inr (.inr (.inl rfl))))))⟩⟩
  · repeat' (first | refine Wp.seq ?_ | refine Wp.block ?_ | (apply Wp.region; focus ((try simp [setArgs, hc, l6]) <;> rfl)) | (refine Wp.cond_t ?_ ?_; focus (simp [setArgs, hc, l6]; done)) | (refine Wp.cond_f ?_ ?_; focus (simp [setArgs, hc, l6]; done)) | refine Wp.skip ?_ | refine Wp.ret ?_ | refine Wp.exit ?_ | refine Blk.here ?_ | (refine Blk.past ?_ ?_; focus (simp; done)))
    exact ⟨rfl, answer_one (v := .str C) (by simp) (hn.lowlt h0 hN) ⟨hn, (.inr (.inr (.inr (.inr (.inr (.inr (.inl rfl)))))))⟩⟩
  · repeat' (first | refine Wp.seq ?_ | refine Wp.block ?_ | (apply Wp.region; focus ((try simp [setArgs, hc, l7]) <;> rfl)) | (refine Wp.cond_t ?_ ?_; focus (simp [setArgs, hc, l7]; done)) | (refine Wp.cond_f ?_ ?_; focus (simp [setArgs, hc, l7]; done)) | refine Wp.skip ?_ | refine Wp.ret ?_ | refine Wp.exit ?_ | refine Blk.here ?_ | (refine Blk.past ?_ ?_; focus (simp; done)))
    exact ⟨rfl, answer_one (v := .str D) (by simp) (hn.lowlt h0 hN) ⟨hn, (.inr (.inr (.inr (.inr (.inr (.inr (.inr rfl)))))))⟩⟩

set_option maxRecDepth 10000 in
theorem drawNamedPair (bs : List Int) (hbs0 : ∀ b, b ∈ bs → 0 ≤ b ∧ b < 256) (m : Nat) : ∃ r, symRun Try.prog K0 [] (m + 100) 41 [.slice (u8s bs)] ⟨0, [], 0⟩ = some r ∧ ∃ v x, r.1 = .tup [v, .int .i64 (.c x)] ∧ (1 ≤ x ∧ x ≤ 7) ∧ (v = .str (ByteArray.mk #[112, 97, 115, 99, 97, 108]) ∨ v = .str (ByteArray.mk #[112, 97, 114, 116, 105, 116, 105, 111, 110, 115]) ∨ v = .str (ByteArray.mk #[99, 121, 99, 108, 101, 115]) ∨ v = .str (ByteArray.mk #[108, 105, 115, 116, 115]) ∨ v = .str (ByteArray.mk #[]) ∨ v = .str (ByteArray.mk #[115, 101, 116, 115]) ∨ v = .str (ByteArray.mk #[80, 97, 115, 99, 97, 108])) := by
  refine own_run2 (n := m + 99) rfl Try.func41 rfl rfl ?_
  simp only [Try.f41]
  have hr := readerC bs (m + 99) (by omega)
  have hbs := take2000 hbs0
  obtain ⟨S0, e0, h0⟩ := reader0 bs
  rw [← e0] at hr
  clear e0
  generalize bs.take 2000 = bs1 at hbs h0
  obtain ⟨v, S1, hc1, hn1, hv⟩ := of8 bs1 hbs h0 (by omega) (ByteArray.mk #[112, 97, 115, 99, 97, 108]) (ByteArray.mk #[112, 97, 114, 116, 105, 116, 105, 111, 110, 115]) (ByteArray.mk #[99, 121, 99, 108, 101, 115]) (ByteArray.mk #[108, 105, 115, 116, 115]) (ByteArray.mk #[112, 97, 115, 99, 97, 108]) (ByteArray.mk #[]) (ByteArray.mk #[115, 101, 116, 115]) (ByteArray.mk #[80, 97, 115, 99, 97, 108]) (m + 99) (by omega)
  obtain ⟨x, S2, hc2, hn2, hx⟩ := oneC bs1 hbs hn1.rd (by omega) [4, 5, 6, 3, 2, 1, 7] 7 rfl (by omega) (by omega) (m + 99) (by omega)
  have hx2 : 1 ≤ x ∧ x ≤ 7 := by simp at hx; omega
  repeat' (first | refine Wp.seq ?_ | refine Wp.block ?_ | (apply Wp.region; focus ((try simp [setArgs, hr, litS8, hc1, lit7, hc2]) <;> rfl)) | (refine Wp.cond_t ?_ ?_; focus (simp [setArgs, hr, litS8, hc1, lit7, hc2]; done)) | (refine Wp.cond_f ?_ ?_; focus (simp [setArgs, hr, litS8, hc1, lit7, hc2]; done)) | refine Wp.skip ?_ | refine Wp.ret ?_ | refine Wp.exit ?_ | refine Blk.here ?_ | (refine Blk.past ?_ ?_; focus (simp; done)))
  refine ⟨rfl, answer_trim2 (v := v) (w := .int .i64 (.c x)) (by simp) (by simp) ⟨v, x, rfl, hx2, ?_⟩⟩
  rcases hv with rfl | rfl | rfl | rfl | rfl | rfl | rfl | rfl
  · simp
  · simp
  · simp
  · simp
  · simp
  · simp
  · simp
  · simp
end
end Go.Proofs.Ythcecobiidgeoaa.Draw

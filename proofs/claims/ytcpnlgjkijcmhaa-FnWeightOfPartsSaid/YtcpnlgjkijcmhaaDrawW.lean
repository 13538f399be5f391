/-
  What functions that draw from bytes make, by runs by hand: a reader, numbers, lists. No condition.
-/
import Derived.Test.YtcpnlgjkijcmhaaRows
import Derived.Test.YtcpnlgjkijcmhaaSym
import Derived.Test.YtcpnlgjkijcmhaaIds
import Derived.Test.YtcpnlgjkijcmhaaDraw
import Derived.Test.YtcpnlgjkijcmhaaDrawC
import Derived.WalkKit
import Derived.ProofKit
import Derived.OpenShut
namespace Go.Proofs.Ytcpnlgjkijcmhaa.Draw
open Go.ChangeShapes Go.WideShapes Go.ChangeAt Go.RowKit Go.Sx Go.Proofs.Ytcpnlgjkijcmhaa.Ids
set_option linter.unusedVariables false
set_option linter.unusedSimpArgs false

attribute [local simp] aops wants aop apure St.eval setTm_some setTm_none Tr.get_set aload evals pevals apureB alen tiS tiI tiB tiY tiU fa0 fa1 abin aint isCmp sym_lt sym_eqs sym_neqs sym_eq sym_neq sym_gtr sym_leq sym_geq sym_add sym_sub sym_mul aeff aeffB idx? ofV aindexAddr aggDesc aifc_int


set_option maxRecDepth 10000 in
theorem drawWeightOfParts (bs : List Int) (hbs0 : ∀ b, b ∈ bs → 0 ≤ b ∧ b < 256) (m : Nat) : ∃ r, symRun Try.prog K0 [] (m + 100) 21 [.slice (u8s bs)] ⟨0, [], 0⟩ = some r ∧ ∃ q zs, IsL r.2.obs q zs r.1 ∧ Fit zs := by
  refine own_run2 (n := m + 99) rfl Try.func21 rfl rfl ?_
  simp only [Try.f21]
  have hr := readerC bs (m + 99) (by omega)
  have hbs := take2000 hbs0
  obtain ⟨S0, e0, h0⟩ := reader0 bs
  rw [← e0] at hr
  clear e0
  generalize bs.take 2000 = bs1 at hbs h0
  obtain ⟨v, S1, hc1, hn1, q, zs, hq, hz, _, hzl, hzb⟩ := someParts bs1 hbs h0 (by omega) (m + 99) (by omega)
  have hlt := h0.lt
  have hzb2 : ∀ z, z ∈ zs → -4611686018427387904 ≤ z ∧ z ≤ 4611686018427387904 := fun z hz => by have := hzb z hz; omega
  repeat' (first | refine Wp.seq ?_ | refine Wp.block ?_ | (apply Wp.region; focus ((try simp [setArgs, hr, hc1]) <;> rfl)) | (refine Wp.cond_t ?_ ?_; focus (simp [setArgs, hr, hc1]; done)) | (refine Wp.cond_f ?_ ?_; focus (simp [setArgs, hr, hc1]; done)) | refine Wp.skip ?_ | refine Wp.ret ?_ | refine Wp.exit ?_ | refine Blk.here ?_ | (refine Blk.past ?_ ?_; focus (simp; done)))
  exact ⟨rfl, answer_trim1 (v := v) (by simp) ⟨q, zs, hz.trim1, Fit.of (Nat.le_trans hzl (by omega)) hzb2⟩⟩

end Go.Proofs.Ytcpnlgjkijcmhaa.Draw

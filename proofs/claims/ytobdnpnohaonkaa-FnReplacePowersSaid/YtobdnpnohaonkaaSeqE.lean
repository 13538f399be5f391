import Derived.Test.YtobdnpnohaonkaaRows
import Derived.Test.YtobdnpnohaonkaaSym
import Derived.Test.YtobdnpnohaonkaaSymD
import Derived.Test.YtobdnpnohaonkaaSymE
import Derived.Test.YtobdnpnohaonkaaIds
import Derived.Test.YtobdnpnohaonkaaSeq
import Derived.Test.YtobdnpnohaonkaaSeqB
import Derived.Test.YtobdnpnohaonkaaSeqC
import Derived.WalkKit
import Derived.ProofKit
import Derived.OpenShut
namespace Go.Proofs.Ytobdnpnohaonkaa.Seq
open Go.ChangeShapes Go.WideShapes Go.ChangeAt Go.RowKit Go.Sx Go.Proofs.Ytobdnpnohaonkaa.Ids
set_option linter.unusedVariables false
set_option linter.unusedSimpArgs false

theorem seqB_nil : seqB [] = false := seqB_false (fun h => by have := h.1; simp at this)
theorem implSeq_ok (zss : List (List Int)) (hl0 : zss.length ≤ 1048576) (hl : ∀ zs, zs ∈ zss → zs.length ≤ 1048576) : ∃ (K : Ctr) (n : Nat) (S : Sto Sy), (∀ (ρ : Nat → Int) (s : Sms) (B : Nat), COk Try.prog ⟨Sy.den ρ, s⟩ B K) ∧ symRun Try.prog K [] n 17 [patS zss] ⟨0, [], 0⟩ = some (.bool (seqB zss), S) := by
  cases zss with
  | nil =>
    obtain ⟨⟨v, S⟩, h1, h2⟩ := Option.map_eq_some_iff.1 implSeq_nil
    cases h2
    exact ⟨KI, 20, S, KI_ok, by rw [seqB_nil]; exact h1⟩
  | cons z0 zr =>
    obtain ⟨⟨v, S⟩, h1, h2⟩ := implSeq_run z0 zr hl0 hl ((z0 :: zr).length + 1) (by omega)
    subst h2
    exact ⟨KI, _, S, KI_ok, h1⟩

section
attribute [local simp] aops wants aop apure St.eval setTm_some setTm_none Tr.get_set aload evals pevals apureB tiS tiI tiB abin aint isCmp sym_lt sym_eqs sym_neqs sym_eq sym_neq sym_gtr sym_leq sym_geq sym_add sym_sub sym_mul aeff aeffB idx? ofV aindexAddr aggDesc aifc_int aun
end
end Go.Proofs.Ytobdnpnohaonkaa.Seq

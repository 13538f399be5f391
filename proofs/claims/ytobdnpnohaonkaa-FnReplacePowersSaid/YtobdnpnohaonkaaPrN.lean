import Derived.Test.YtobdnpnohaonkaaPr
import Derived.Test.YtobdnpnohaonkaaPrM
import Derived.Test.YtobdnpnohaonkaaPrF
import Derived.Test.YtobdnpnohaonkaaPrG
import Derived.Test.YtobdnpnohaonkaaPrH
import Derived.Test.YtobdnpnohaonkaaSeq
import Derived.Test.YtobdnpnohaonkaaSeqB
import Derived.Test.YtobdnpnohaonkaaRepB
import Derived.WalkKit
import Derived.ProofKit
import Derived.OpenShut
namespace Go.Proofs.Ytobdnpnohaonkaa.Pr
open Go.ChangeShapes Go.WideShapes Go.ChangeAt Go.RowKit Go.Sx Go.Proofs.Ytobdnpnohaonkaa.Ids Go.Proofs.Ytobdnpnohaonkaa.Seq
set_option linter.unusedVariables false
set_option linter.unusedSimpArgs false

section
variable {zss : List (List Int)}
end

theorem allocP (S : Sto Sy) : aalloc (symNum []) (tiOf Try.prog) S 31 = some (.ptr S.next 0, S.new [.nil, .nil]) := by kernel_rfl
section
attribute [local simp] aops wants aop apure St.eval setTm_some setTm_none Tr.get_set aload evals pevals apureB tiS tiI tiB abin aint isCmp sym_lt sym_eqs sym_neqs sym_eq sym_neq sym_gtr sym_leq sym_geq sym_add sym_sub sym_mul aeff aeffB idx? ofV aindexAddr aggDesc aifc_int aun
end

section
variable {zss : List (List Int)}
theorem same_pat {k : FuncId} {K : Ctr} {n : Nat} (hK : ∀ (ρ : Nat → Int) (s : Sms) (B : Nat), COk Try.prog ⟨Sy.den ρ, s⟩ B K) (h : noPair (symRun Try.prog K [] n k [patS zss] ⟨0, [], 0⟩) = true) : Tells Try.prog k [patS zss] (pairR none) (pairO none) :=
  tells_no (ρ' := fun _ => 0) h (fun R S hr s B' => run_goodK noCount mixed hK _ hr B') (fun _ _ _ _ hv => hv)
end
end Go.Proofs.Ytobdnpnohaonkaa.Pr

import Derived.Test.YtobdnpnohaonkaaRows
import Derived.Test.YtobdnpnohaonkaaSym
import Derived.Test.YtobdnpnohaonkaaSymD
import Derived.Test.YtobdnpnohaonkaaSymE
import Derived.Test.YtobdnpnohaonkaaIds
import Derived.Test.YtobdnpnohaonkaaSeq
import Derived.Test.YtobdnpnohaonkaaSeqB
import Derived.Test.YtobdnpnohaonkaaSeqC
import Derived.Test.YtobdnpnohaonkaaSeqE
import Derived.WalkKit
import Derived.ProofKit
import Derived.OpenShut
namespace Go.Proofs.Ytobdnpnohaonkaa.Seq
open Go.ChangeShapes Go.WideShapes Go.ChangeAt Go.RowKit Go.Sx Go.Proofs.Ytobdnpnohaonkaa.Ids
set_option linter.unusedVariables false
set_option linter.unusedSimpArgs false

section
attribute [local simp] aops wants aop apure St.eval setTm_some setTm_none Tr.get_set aload evals pevals apureB tiS tiI tiB abin aint isCmp sym_lt sym_eqs sym_neqs sym_eq sym_neq sym_gtr sym_leq sym_geq sym_add sym_sub sym_mul aeff aeffB idx? ofV aindexAddr aggDesc aifc_int aun
end
end Go.Proofs.Ytobdnpnohaonkaa.Seq

import Derived.Test.YtobdnpnohaonkaaRows
import Derived.Test.YtobdnpnohaonkaaSym
import Derived.Test.YtobdnpnohaonkaaSymD
import Derived.Test.YtobdnpnohaonkaaSymE
import Derived.Test.YtobdnpnohaonkaaSymF
import Derived.Test.YtobdnpnohaonkaaIds
import Derived.Test.YtobdnpnohaonkaaSumm
import Derived.Test.YtobdnpnohaonkaaNp
import Derived.Test.YtobdnpnohaonkaaSeq
import Derived.Test.YtobdnpnohaonkaaSeqB
import Derived.Test.YtobdnpnohaonkaaSeqC
import Derived.Test.YtobdnpnohaonkaaSeqE
import Derived.Test.YtobdnpnohaonkaaRep
import Derived.Test.YtobdnpnohaonkaaRepB
import Derived.Test.YtobdnpnohaonkaaTel
import Derived.Test.YtobdnpnohaonkaaTelB
import Derived.Test.YtobdnpnohaonkaaTelC
import Derived.WalkKit
import Derived.ProofKit
import Derived.OpenShut
namespace Go.Proofs.Ytobdnpnohaonkaa.Tel
open Go.ChangeShapes Go.WideShapes Go.ChangeAt Go.RowKit Go.Sx Go.Proofs.Ytobdnpnohaonkaa.Ids Go.Proofs.Ytobdnpnohaonkaa.Seq Go.Proofs.Ytobdnpnohaonkaa.Rep
set_option linter.unusedVariables false
set_option linter.unusedSimpArgs false

theorem seqP_of {zss : List (List Int)} (h : seqB zss = true) : SeqP zss := by
  by_cases hs : SeqP zss
  · exact hs
  · rw [seqB_false hs] at h; cases h
noncomputable def KD : Ctr := orK vpK (orK arrK (orK facK uniK))
theorem KD_ok (ρ : Nat → Int) (s : Sms) (B : Nat) : COk Try.prog ⟨Sy.den ρ, s⟩ B KD :=
  orK_ok (vpK_ok _ _ _) (orK_ok (arrK_ok _ _ _) (orK_ok (facK_ok _ _ _) (uniK_ok _ _ _)))
noncomputable def isD (k : FuncId) : Bool := bite (Nat.beq k 56) true (bite (Nat.beq k 57) true (bite (Nat.beq k 53) true (Nat.beq k 55)))
theorem telK_no {α : Type} {k0 k : FuncId} {D : List (V Sy) → Sto Sy → Option α} {R : α → Nat → V Sy} {O : α → Nat → List (Ob Sy)} (h : ¬ Nat.beq k k0 = true) (args : List (V Sy)) (sto : Sto Sy) : telK k0 D R O k args sto = none := by
  unfold telK
  rw [bite_eq, if_neg h]
theorem askSK_no {k0 k : FuncId} {F : List (List Int) → Bool} (h : ¬ Nat.beq k k0 = true) (args : List (V Sy)) (sto : Sto Sy) : askSK k0 F k args sto = none := by
  unfold askSK
  rw [bite_eq, if_neg h]
theorem orK_no {K1 K2 : Ctr} {k : FuncId} {args : List (V Sy)} {sto : Sto Sy} (h : K1 k args sto = none) : orK K1 K2 k args sto = K2 k args sto := by unfold orK; rw [h]
theorem orK_yes {K1 K2 : Ctr} {k : FuncId} {args : List (V Sy)} {sto : Sto Sy} {r : V Sy × Sto Sy} (h : K1 k args sto = some r) : orK K1 K2 k args sto = some r := by unfold orK; rw [h]
theorem KD_none {k : FuncId} {args : List (V Sy)} {sto : Sto Sy} (h : isD k = false) : KD k args sto = none := by
  unfold isD at h
  simp only [bite_eq] at h
  iterate 3
    split at h
    · cases h
  rename_i h1 h2 h3
  unfold KD vpK arrK facK uniK
  rw [orK_no (telK_no h1 _ _), orK_no (telK_no h2 _ _), orK_no (telK_no h3 _ _), telK_no (by rw [h]; decide)]
end Go.Proofs.Ytobdnpnohaonkaa.Tel

import Derived.Test.YtpjenggjcpahaaaRows
import Derived.Test.YtpjenggjcpahaaaSym
import Derived.Test.YtpjenggjcpahaaaSymD
import Derived.Test.YtpjenggjcpahaaaSymE
import Derived.Test.YtpjenggjcpahaaaSymF
import Derived.Test.YtpjenggjcpahaaaIds
import Derived.Test.YtpjenggjcpahaaaSumm
import Derived.Test.YtpjenggjcpahaaaNp
import Derived.Test.YtpjenggjcpahaaaSeq
import Derived.Test.YtpjenggjcpahaaaSeqB
import Derived.Test.YtpjenggjcpahaaaSeqC
import Derived.Test.YtpjenggjcpahaaaSeqE
import Derived.Test.YtpjenggjcpahaaaRep
import Derived.Test.YtpjenggjcpahaaaRepB
import Derived.Test.YtpjenggjcpahaaaTel
import Derived.Test.YtpjenggjcpahaaaTelB
import Derived.Test.YtpjenggjcpahaaaTelC
import Derived.WalkKit
import Derived.ProofKit
import Derived.OpenShut
namespace Go.Proofs.Ytpjenggjcpahaaa.Tel
open Go.ChangeShapes Go.WideShapes Go.ChangeAt Go.RowKit Go.Sx Go.Proofs.Ytpjenggjcpahaaa.Ids Go.Proofs.Ytpjenggjcpahaaa.Seq Go.Proofs.Ytpjenggjcpahaaa.Rep
set_option linter.unusedVariables false
set_option linter.unusedSimpArgs false

noncomputable def KD : Ctr := orK vpK (orK arrK (orK facK uniK))
theorem KD_ok (ρ : Nat → Int) (s : Sms) (B : Nat) : COk Try.prog ⟨Sy.den ρ, s⟩ B KD :=
  orK_ok (vpK_ok _ _ _) (orK_ok (arrK_ok _ _ _) (orK_ok (facK_ok _ _ _) (uniK_ok _ _ _)))
noncomputable def isD (k : FuncId) : Bool := bite (Nat.beq k 44) true (bite (Nat.beq k 45) true (bite (Nat.beq k 116) true (Nat.beq k 106)))
theorem telK_no {α : Type} {k0 k : FuncId} {D : List (V Sy) → Sto Sy → Option α} {R : α → Nat → V Sy} {O : α → Nat → List (Ob Sy)} (h : ¬ Nat.beq k k0 = true) (args : List (V Sy)) (sto : Sto Sy) : telK k0 D R O k args sto = none := by
  unfold telK
  rw [bite_eq, if_neg h]
theorem orK_no {K1 K2 : Ctr} {k : FuncId} {args : List (V Sy)} {sto : Sto Sy} (h : K1 k args sto = none) : orK K1 K2 k args sto = K2 k args sto := by unfold orK; rw [h]
theorem orK_yes {K1 K2 : Ctr} {k : FuncId} {args : List (V Sy)} {sto : Sto Sy} {r : V Sy × Sto Sy} (h : K1 k args sto = some r) : orK K1 K2 k args sto = some r := by unfold orK; rw [h]
theorem KD_none {k : FuncId} {args : List (V Sy)} {sto : Sto Sy} (h : isD k = false) : KD k args sto = none := by
  unfold isD at h
  simp only [bite_eq] at h
  iterate 3
    split at h
    · cases h
  rename_i h1 h2 h3
  unfold KD vpK arrK facK uniK
  rw [orK_no (telK_no h1 _ _), orK_no (telK_no h2 _ _), orK_no (telK_no h3 _ _), telK_no (by rw [h]; decide)]
end Go.Proofs.Ytpjenggjcpahaaa.Tel

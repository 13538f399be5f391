/-
  What bytes are. No condition.
-/
import Derived.Test.YtnaegkpaiahpmaaRows
import Derived.Test.YtnaegkpaiahpmaaSym
import Derived.Test.YtnaegkpaiahpmaaSymD
import Derived.Test.YtnaegkpaiahpmaaSymE
import Derived.Test.YtnaegkpaiahpmaaSymF
import Derived.Test.YtnaegkpaiahpmaaIds
import Derived.WalkKit
import Derived.ProofKit
import Derived.OpenShut
namespace Go.Proofs.Ytnaegkpaiahpmaa.Iv
open Go.ChangeShapes Go.WideShapes Go.ChangeAt Go.RowKit Go.Sx Go.Proofs.Ytnaegkpaiahpmaa.Ids
set_option linter.unusedVariables false
set_option linter.unusedSimpArgs false

/-- What bytes are. -/
theorem bytes_slice {w : World} {bs : List Int} {v : Value} (h : IsBytes w bs v) : ∃ s : Sms, VR ⟨Sy.den (fun _ => 0), s⟩ w.heap.size ⟨w, fun _ => none⟩ (.slice (u8s bs)) v := by
  let s : Sms := ⟨fun _ _ => toBytes bs, fun _ => []⟩
  have hs0 : bytesOf (s.s 0 []) = bs := toBytes_of h.1
  have hvr := h.2 (fun _ => 0) s (.c bs.length) hs0 rfl
  have hinv : SInv ⟨Sy.den (fun _ => 0), s⟩ w.heap.size ⟨w, fun _ => none⟩ (⟨0, [], 0⟩ : Sto Sy) :=
    ⟨Nat.le_refl _, fun _ _ => rfl, fun o b n h => (by cases h), fun o x h => (by cases h), fun o o' x x' b n n' h => (by cases h), trivial⟩
  have := bys_data (ρ' := fun _ => 0) hinv hvr
  rw [hs0] at this
  exact ⟨s, this⟩
end Go.Proofs.Ytnaegkpaiahpmaa.Iv

import Derived.Test.YtobdnpnohaonkaaRows
import Derived.Test.YtobdnpnohaonkaaSym
import Derived.Test.YtobdnpnohaonkaaSymD
import Derived.Test.YtobdnpnohaonkaaSymE
import Derived.Test.YtobdnpnohaonkaaIds
import Derived.Test.YtobdnpnohaonkaaSeq
import Derived.Test.YtobdnpnohaonkaaSeqB
import Derived.Test.YtobdnpnohaonkaaSeqC
import Derived.Test.YtobdnpnohaonkaaSeqE
import Derived.Test.YtobdnpnohaonkaaSeqF
import Derived.WalkKit
import Derived.ProofKit
import Derived.OpenShut
namespace Go.Proofs.Ytobdnpnohaonkaa.Seq
open Go.ChangeShapes Go.WideShapes Go.ChangeAt Go.RowKit Go.Sx Go.Proofs.Ytobdnpnohaonkaa.Ids
set_option linter.unusedVariables false
set_option linter.unusedSimpArgs false

theorem trim_look2 {n0 q : Nat} {r : V Sy} {sto : Sto Sy} (hq : q ∈ deeper sto.obs r.refs) : Go.Sx.look (Sto.trim n0 r sto).obs q = Go.Sx.look sto.obs q := by
  unfold Sto.trim
  split
  · rfl
  · split
    · rename_i h; rw [h] at hq; cases hq
    · split
      · rename_i h; rw [h] at hq; cases hq
      · exact look_kept (List.contains_iff_mem.2 (List.mem_append.2 (.inl (List.mem_append.2 (.inr hq))))) _
def rowsV : Nat → List (List Int) → List (V Sy)
  | _, [] => []
  | o, z :: r => .rsl o 0 z.length none :: rowsV (o + 1) r
theorem rowsV_len : ∀ (o : Nat) (l : List (List Int)), (rowsV o l).length = l.length
  | _, [] => rfl
  | o, z :: r => by simp [rowsV, rowsV_len (o + 1) r]
theorem rowsV_get : ∀ (o : Nat) (l : List (List Int)) (i : Nat), (rowsV o l)[i]? = l[i]?.map fun z => V.rsl (o + i) 0 z.length none
  | _, [], i => by simp [rowsV]
  | o, z :: r, 0 => by simp [rowsV]
  | o, z :: r, i + 1 => by
    simp only [rowsV, List.getElem?_cons_succ]
    rw [rowsV_get (o + 1) r i, show o + 1 + i = o + (i + 1) by omega]
end Go.Proofs.Ytobdnpnohaonkaa.Seq

import Derived.Test.YtobdnpnohaonkaaRows
import Derived.Test.YtobdnpnohaonkaaSym
import Derived.Test.YtobdnpnohaonkaaSymD
import Derived.Test.YtobdnpnohaonkaaSymE
import Derived.Test.YtobdnpnohaonkaaSymF
import Derived.Test.YtobdnpnohaonkaaIds
import Derived.Test.YtobdnpnohaonkaaNp
import Derived.Test.YtobdnpnohaonkaaSeq
import Derived.Test.YtobdnpnohaonkaaSeqB
import Derived.Test.YtobdnpnohaonkaaSeqC
import Derived.Test.YtobdnpnohaonkaaSeqE
import Derived.Test.YtobdnpnohaonkaaSeqG
import Derived.Test.YtobdnpnohaonkaaTel
import Derived.Test.YtobdnpnohaonkaaTelC
import Derived.Test.YtobdnpnohaonkaaTelD
import Derived.Test.YtobdnpnohaonkaaDraw
import Derived.Test.YtobdnpnohaonkaaDrawC
import Derived.Test.YtobdnpnohaonkaaDrawD
import Derived.Test.YtobdnpnohaonkaaDrawE
import Derived.Test.YtobdnpnohaonkaaDrawF
import Derived.Test.YtobdnpnohaonkaaDrawG
import Derived.WalkKit
import Derived.ProofKit
import Derived.OpenShut
namespace Go.Proofs.Ytobdnpnohaonkaa.Draw
open Go.ChangeShapes Go.WideShapes Go.ChangeAt Go.RowKit Go.Sx Go.Proofs.Ytobdnpnohaonkaa.Ids Go.Proofs.Ytobdnpnohaonkaa.Seq Go.Proofs.Ytobdnpnohaonkaa.Tel
set_option linter.unusedVariables false
set_option linter.unusedSimpArgs false

theorem trim_look2 {n0 q : Nat} {r : V Sy} {sto : Sto Sy} (hq : q ∈ deeper sto.obs r.refs) : Go.Sx.look (Sto.trim n0 r sto).obs q = Go.Sx.look sto.obs q := by
  unfold Sto.trim
  split
  · rfl
  · split
    · rename_i h; rw [h] at hq; cases hq
    · split
      · rename_i h; rw [h] at hq; cases hq
      · exact look_kept (List.contains_iff_mem.2 (List.mem_append.2 (.inl (List.mem_append.2 (.inr hq))))) _
theorem trim_lowW {n0 : Nat} {r : V Sy} {sto : Sto Sy} : (Sto.trim n0 r sto).low = sto.low := by
  unfold Sto.trim
  split
  · rfl
  · split
    · rfl
    · split <;> rfl
theorem rowsW_refs : ∀ (rs : List Rw) (r : Rw), r ∈ rs → r.1 ∈ refsL (rowsW rs)
  | [], r, h => by simp at h
  | x :: l, r, h => by
    show r.1 ∈ refsL (rwV x :: rowsW l)
    simp only [refsL, rwV, V.refs]
    rcases List.mem_cons.1 h with rfl | h
    · simp
    · exact List.mem_append.2 (.inr (rowsW_refs l r h))
theorem IsR.trim {S : Sto Sy} {q n0 : Nat} {rs : List Rw} {v : V Sy} (h : IsR S.obs q rs v) : IsR (S.trim n0 v).obs q rs v := by
  obtain ⟨cp, hv, hcp⟩ := h.val
  refine h.mono (fun x hx => ?_) (fun r hr x hx => ?_)
  · rw [hv, trim_look (by simp [V.refs])]; exact hx
  · rw [hv, trim_look2 (by simp only [V.refs, deeper, h.obj, List.append_nil]; exact rowsW_refs rs r hr)]; exact hx
structure Ws (S : Sto Sy) : Prop where
  desc : Desc S.next S.obs
  low : S.low ≤ S.next
theorem telCallW {α : Type} {k0 : FuncId} {D : List (V Sy) → Sto Sy → Option α} {R : α → Nat → V Sy} {O : α → Nat → List (Ob Sy)} {args : List (V Sy)} {S : Sto Sy} {a : α} (h : Ws S) (hk : ∀ args sto, K0 k0 args sto = telK k0 D R O k0 args sto) (hD : D args ⟨S.next, S.obs, S.next⟩ = some a) (f : Nat) (hf : 1 ≤ f) (hk9 : (k0 : Nat) < 1000000 := by decide) :
    ∃ S1, acallV (symIn Try.prog K0 [] f) S (.func k0 [] []) args = some (R a S.next, S1) ∧ Ws S1 ∧ (∀ i x, (O a S.next)[i]? = some x → Go.Sx.look S1.obs (S.next + i) = some x) ∧ ∀ k x, Go.Sx.look S.obs k = some x → Go.Sx.look S1.obs k = some x := by
  obtain ⟨g, rfl⟩ : ∃ g, f = g + 1 := ⟨f - 1, by omega⟩
  have e : K0 k0 args ⟨S.next, S.obs, S.next⟩ = some (R a S.next, ⟨S.next + (O a S.next).length, numO S.next (O a S.next) S.obs, S.next⟩) := by
    rw [hk]
    unfold telK
    rw [Nat.beq_refl, bite_true, hD]
  have hlow := h.low
  refine ⟨_, call_K (n := g) e hk9, ⟨desc_numO _ _ _ h.desc, ?_⟩, fun i x hx => numO_get _ _ _ _ _ hx, fun k x hx => ?_⟩
  · simp only
    split <;> omega
  · rw [numO_get.numO_old _ _ _ _ (h.desc.look_lt hx)]; exact hx
theorem bytes_slice {w : World} {bs : List Int} {v : Value} (h : IsBytes w bs v) : ∃ s : Sms, VR ⟨Sy.den (fun _ => 0), s⟩ w.heap.size ⟨w, fun _ => none⟩ (.slice (u8s bs)) v := by
  let s : Sms := ⟨fun _ _ => toBytes bs, fun _ => []⟩
  have hs0 : bytesOf (s.s 0 []) = bs := toBytes_of h.1
  have hvr := h.2 (fun _ => 0) s (.c bs.length) hs0 rfl
  have hinv : SInv ⟨Sy.den (fun _ => 0), s⟩ w.heap.size ⟨w, fun _ => none⟩ (⟨0, [], 0⟩ : Sto Sy) :=
    ⟨Nat.le_refl _, fun _ _ => rfl, fun o b n h => (by cases h), fun o x h => (by cases h), fun o o' x x' b n n' h => (by cases h), trivial⟩
  have := bys_data (ρ' := fun _ => 0) hinv hvr
  rw [hs0] at this
  exact ⟨s, this⟩
end Go.Proofs.Ytobdnpnohaonkaa.Draw

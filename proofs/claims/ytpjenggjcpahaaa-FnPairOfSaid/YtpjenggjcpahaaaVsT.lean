import Derived.Test.YtpjenggjcpahaaaRows
import Derived.Test.YtpjenggjcpahaaaSym
import Derived.Test.YtpjenggjcpahaaaSymD
import Derived.Test.YtpjenggjcpahaaaSymE
import Derived.Test.YtpjenggjcpahaaaSymF
import Derived.Test.YtpjenggjcpahaaaIds
import Derived.Test.YtpjenggjcpahaaaNp
import Derived.Test.YtpjenggjcpahaaaSeq
import Derived.Test.YtpjenggjcpahaaaSeqB
import Derived.Test.YtpjenggjcpahaaaSeqC
import Derived.Test.YtpjenggjcpahaaaSeqE
import Derived.Test.YtpjenggjcpahaaaSeqG
import Derived.Test.YtpjenggjcpahaaaTel
import Derived.Test.YtpjenggjcpahaaaTelC
import Derived.Test.YtpjenggjcpahaaaTelD
import Derived.Test.YtpjenggjcpahaaaDraw
import Derived.Test.YtpjenggjcpahaaaDrawC
import Derived.Test.YtpjenggjcpahaaaDrawD
import Derived.Test.YtpjenggjcpahaaaDrawE
import Derived.Test.YtpjenggjcpahaaaDrawF
import Derived.Test.YtpjenggjcpahaaaDrawG
import Derived.WalkKit
import Derived.ProofKit
import Derived.OpenShut
namespace Go.Proofs.Ytpjenggjcpahaaa.Draw
open Go.ChangeShapes Go.WideShapes Go.ChangeAt Go.RowKit Go.Sx Go.Proofs.Ytpjenggjcpahaaa.Ids Go.Proofs.Ytpjenggjcpahaaa.Seq Go.Proofs.Ytpjenggjcpahaaa.Tel
set_option linter.unusedVariables false
set_option linter.unusedSimpArgs false

theorem trim_look2 {n0 q : Nat} {r : V Sy} {sto : Sto Sy} (hq : q ∈ deeper sto.obs r.refs) : Go.Sx.look (Sto.trim n0 r sto).obs q = Go.Sx.look sto.obs q := by
  unfold Sto.trim
  split
  · rfl
  · split
    · rename_i h; rw [h] at hq; cases hq
    · split
      · rename_i h; rw [h] at hq; cases hq
      · exact look_kept (List.contains_iff_mem.2 (List.mem_append.2 (.inl (List.mem_append.2 (.inr hq))))) _
theorem trim_lowW {n0 : Nat} {r : V Sy} {sto : Sto Sy} : (Sto.trim n0 r sto).low = sto.low := by
  unfold Sto.trim
  split
  · rfl
  · split
    · rfl
    · split <;> rfl
theorem rowsW_refs : ∀ (rs : List Rw) (r : Rw), r ∈ rs → r.1 ∈ refsL (rowsW rs)
  | [], r, h => by simp at h
  | x :: l, r, h => by
    show r.1 ∈ refsL (rwV x :: rowsW l)
    simp only [refsL, rwV, V.refs]
    rcases List.mem_cons.1 h with rfl | h
    · simp
    · exact List.mem_append.2 (.inr (rowsW_refs l r h))
theorem IsR.trim {S : Sto Sy} {q n0 : Nat} {rs : List Rw} {v : V Sy} (h : IsR S.obs q rs v) : IsR (S.trim n0 v).obs q rs v := by
  obtain ⟨cp, hv, hcp⟩ := h.val
  refine h.mono (fun x hx => ?_) (fun r hr x hx => ?_)
  · rw [hv, trim_look (by simp [V.refs])]; exact hx
  · rw [hv, trim_look2 (by simp only [V.refs, deeper, h.obj, List.append_nil]; exact rowsW_refs rs r hr)]; exact hx
structure Ws (S : Sto Sy) : Prop where
  desc : Desc S.next S.obs
  low : S.low ≤ S.next
theorem bytes_slice {w : World} {bs : List Int} {v : Value} (h : IsBytes w bs v) : ∃ s : Sms, VR ⟨Sy.den (fun _ => 0), s⟩ w.heap.size ⟨w, fun _ => none⟩ (.slice (u8s bs)) v := by
  let s : Sms := ⟨fun _ _ => toBytes bs, fun _ => []⟩
  have hs0 : bytesOf (s.s 0 []) = bs := toBytes_of h.1
  have hvr := h.2 (fun _ => 0) s (.c bs.length) hs0 rfl
  have hinv : SInv ⟨Sy.den (fun _ => 0), s⟩ w.heap.size ⟨w, fun _ => none⟩ (⟨0, [], 0⟩ : Sto Sy) :=
    ⟨Nat.le_refl _, fun _ _ => rfl, fun o b n h => (by cases h), fun o x h => (by cases h), fun o o' x x' b n n' h => (by cases h), trivial⟩
  have := bys_data (ρ' := fun _ => 0) hinv hvr
  rw [hs0] at this
  exact ⟨s, this⟩
end Go.Proofs.Ytpjenggjcpahaaa.Draw

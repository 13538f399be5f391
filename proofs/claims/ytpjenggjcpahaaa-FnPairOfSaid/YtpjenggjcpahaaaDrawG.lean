import Derived.Test.YtpjenggjcpahaaaRows
import Derived.Test.YtpjenggjcpahaaaSym
import Derived.Test.YtpjenggjcpahaaaSymD
import Derived.Test.YtpjenggjcpahaaaSymE
import Derived.Test.YtpjenggjcpahaaaSymF
import Derived.Test.YtpjenggjcpahaaaIds
import Derived.Test.YtpjenggjcpahaaaNp
import Derived.Test.YtpjenggjcpahaaaSeq
import Derived.Test.YtpjenggjcpahaaaSeqG
import Derived.Test.YtpjenggjcpahaaaTel
import Derived.Test.YtpjenggjcpahaaaTelC
import Derived.Test.YtpjenggjcpahaaaTelD
import Derived.Test.YtpjenggjcpahaaaDraw
import Derived.Test.YtpjenggjcpahaaaDrawC
import Derived.Test.YtpjenggjcpahaaaDrawD
import Derived.Test.YtpjenggjcpahaaaDrawE
import Derived.Test.YtpjenggjcpahaaaDrawF
import Derived.WalkKit
import Derived.ProofKit
import Derived.OpenShut
namespace Go.Proofs.Ytpjenggjcpahaaa.Draw
open Go.ChangeShapes Go.WideShapes Go.ChangeAt Go.RowKit Go.Sx Go.Proofs.Ytpjenggjcpahaaa.Ids Go.Proofs.Ytpjenggjcpahaaa.Seq Go.Proofs.Ytpjenggjcpahaaa.Tel
set_option linter.unusedVariables false
set_option linter.unusedSimpArgs false

theorem IsR.setIn {S : Sto Sy} {q : Nat} {rs : List Rw} {v : V Sy} (h : IsR S.obs q rs v) {k : Nat} {r : Rw} (hk : rs[k]? = some r) (i : Nat) (x : Int) : IsR (S.write r.1 (ints (nums (r.2.1.set i x)))).obs q (rs.set k (r.1, r.2.1.set i x, r.2.2)) v := by
  obtain ⟨hkl, hke⟩ := List.getElem?_eq_some_iff.1 hk
  have hrm : r ∈ rs := List.mem_of_getElem? hk
  have hrq : q ≠ r.1 := fun e => (List.nodup_cons.1 h.nd).1 (by rw [e]; exact List.mem_map.2 ⟨r, hrm, rfl⟩)
  have hid : (rs.set k (r.1, r.2.1.set i x, r.2.2)).map (fun x : Rw => x.1) = rs.map (fun x : Rw => x.1) := by
    rw [List.map_set]
    apply List.ext_getElem?
    intro j
    rw [List.getElem?_set]
    split
    · rename_i e
      subst e
      simp [hkl, hke]
    · rfl
  have hrows : rowsW (rs.set k (r.1, r.2.1.set i x, r.2.2)) = rowsW rs := by
    unfold rowsW
    rw [List.map_set]
    apply List.ext_getElem?
    intro j
    rw [List.getElem?_set]
    split
    · rename_i e
      subst e
      simp [hkl, hke, rwV]
    · rfl
  refine ⟨by rw [List.length_set]; exact h.val, ?_, fun y hy => ?_, ?_⟩
  · show Go.Sx.look (put S.obs r.1 _) q = _
    rw [look_put_ne hrq, hrows]; exact h.obj
  · have h0 := h.row r hrm
    obtain ⟨j, hj, hye⟩ := List.mem_iff_getElem.1 hy
    rw [List.getElem_set] at hye
    split at hye
    · subst hye
      refine ⟨?_, ?_⟩
      · obtain ⟨cp, h1, h2⟩ := h0.val
        exact ⟨cp, by simpa [rwV] using h1, by simpa using h2⟩
      · exact (h0.wrote i x).obj
    · rename_i hne
      have hym : y ∈ rs := by rw [← hye]; exact List.getElem_mem _
      have hyr : y.1 ≠ r.1 := by
        intro e
        have nd := (List.nodup_cons.1 h.nd).2
        have hj' : j < rs.length := by simpa using hj
        have e1 : (rs.map (fun x : Rw => x.1))[k]'(by simpa using hkl) = (rs.map (fun x : Rw => x.1))[j]'(by simpa using hj') := by
          simp only [List.getElem_map, hke, hye]
          exact e.symm
        rcases Nat.lt_trichotomy k j with hlt | rfl | hlt
        · exact List.pairwise_iff_getElem.1 nd k j (by simpa using hkl) (by simpa using hj') hlt e1
        · exact hne rfl
        · exact List.pairwise_iff_getElem.1 nd j k (by simpa using hj') (by simpa using hkl) hlt e1.symm
      have := h.row y hym
      refine ⟨this.val, ?_⟩
      show Go.Sx.look (put S.obs r.1 _) y.1 = _
      rw [look_put_ne hyr]; exact this.obj
  · rw [show (rs.set k (r.1, r.2.1.set i x, r.2.2)).map (·.1) = rs.map (·.1) from hid]; exact h.nd
attribute [local simp] aops wants aop apure St.eval setTm_some setTm_none Tr.get_set evals pevals apureB alen tiS tiI tiB tiY tiU tiSs tiSr tiSS abin aint isCmp sym_lt sym_eqs sym_neqs sym_eq sym_neq sym_gtr sym_leq sym_geq sym_add sym_sub sym_mul aeff aeffB idx? ofV aindexAddr aggDesc aifc_int fldP0 fldP1
end Go.Proofs.Ytpjenggjcpahaaa.Draw

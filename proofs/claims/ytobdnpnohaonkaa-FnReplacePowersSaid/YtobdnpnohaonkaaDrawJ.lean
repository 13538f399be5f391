/-
  A polynomial and rows that are drawn, by a run by hand. No condition.
-/
import Derived.Test.YtobdnpnohaonkaaRows
import Derived.Test.YtobdnpnohaonkaaSym
import Derived.Test.YtobdnpnohaonkaaSymD
import Derived.Test.YtobdnpnohaonkaaSymE
import Derived.Test.YtobdnpnohaonkaaSymF
import Derived.Test.YtobdnpnohaonkaaIds
import Derived.Test.YtobdnpnohaonkaaNp
import Derived.Test.YtobdnpnohaonkaaSeq
import Derived.Test.YtobdnpnohaonkaaSeqG
import Derived.Test.YtobdnpnohaonkaaTel
import Derived.Test.YtobdnpnohaonkaaTelC
import Derived.Test.YtobdnpnohaonkaaTelD
import Derived.Test.YtobdnpnohaonkaaDraw
import Derived.Test.YtobdnpnohaonkaaDrawC
import Derived.Test.YtobdnpnohaonkaaDrawD
import Derived.Test.YtobdnpnohaonkaaDrawE
import Derived.Test.YtobdnpnohaonkaaDrawF
import Derived.Test.YtobdnpnohaonkaaDrawG
import Derived.Test.YtobdnpnohaonkaaVsT
import Derived.WalkKit
import Derived.ProofKit
import Derived.OpenShut
namespace Go.Proofs.Ytobdnpnohaonkaa.Draw
open Go.ChangeShapes Go.WideShapes Go.ChangeAt Go.RowKit Go.Sx Go.Proofs.Ytobdnpnohaonkaa.Ids Go.Proofs.Ytobdnpnohaonkaa.Seq Go.Proofs.Ytobdnpnohaonkaa.Tel
set_option linter.unusedVariables false
set_option linter.unusedSimpArgs false

/-- Rows stay behind a cut, if what is kept names them. -/
theorem IsR.trimIn {S : Sto Sy} {q n0 : Nat} {rs : List Rw} {v w : V Sy} (h : IsR S.obs q rs v) (hw : ∀ k, k ∈ v.refs → k ∈ w.refs) : IsR (S.trim n0 w).obs q rs v := by
  obtain ⟨cp, hv, hcp⟩ := h.val
  have hq : q ∈ w.refs := hw q (by rw [hv]; simp [V.refs])
  refine h.mono (fun x hx => ?_) (fun r hr x hx => ?_)
  · rw [trim_look hq]; exact hx
  · have key : ∀ l : List Nat, q ∈ l → ∀ a, a ∈ refsL (rowsW rs) → a ∈ deeper S.obs l := by
      intro l
      induction l with
      | nil => intro hq; cases hq
      | cons b l ih =>
        intro hq a ha
        simp only [deeper]
        rcases List.mem_cons.1 hq with rfl | hq
        · rw [h.obj]; exact List.mem_append.2 (.inl ha)
        · exact List.mem_append.2 (.inr (ih hq a ha))
    rw [trim_look2 (key _ hq _ (rowsW_refs rs r hr))]; exact hx
attribute [local simp] aops wants aop apure St.eval setTm_some setTm_none Tr.get_set evals pevals apureB alen tiS tiI tiB tiY tiU tiSs tiSr tiSS abin aint isCmp sym_lt sym_eqs sym_neqs sym_eq sym_neq sym_gtr sym_leq sym_geq sym_add sym_sub sym_mul aeff aeffB idx? ofV aindexAddr aggDesc aifc_int fldP0 fldP1 aun
set_option maxRecDepth 10000 in
theorem drawRP_run (bs : List Int) (hbs0 : ∀ b, b ∈ bs → 0 ≤ b ∧ b < 256) (m : Nat) : ∃ r, symRun Try.prog K0 [] (m + 100) 4 [.slice (u8s bs)] ⟨0, [], 0⟩ = some r ∧ Ws r.2 ∧ ∃ v w, r.1 = .tup [v, w] ∧ Rwz 0 w r.2.obs ∧ ∃ q zs, IsL r.2.obs q zs v ∧ zs.length ≤ 25 ∧ ∀ z, z ∈ zs → -1000001 ≤ z ∧ z ≤ 1000001 := by
  refine own_run2 (n := m + 99) hK0 Try.func4 rfl rfl ?_
  simp only [Try.f4]
  have hr := readerC bs (m + 99) (by omega)
  obtain ⟨S1, e1, h1⟩ := reader0 bs
  rw [← e1] at hr
  have n1 : S1.next = 1 := by rw [e1]
  clear e1
  have hbs := take2000 hbs0
  obtain ⟨v, T, hc, hn, q, rs, a1, a2, a3, a4, a5⟩ := someSequence (bs.take 2000) hbs h1 (by omega) (m + 99) (by omega)
  obtain ⟨cq, rfl, hcq⟩ := a2.val
  obtain ⟨x, T2, hc2, hn2, hx1, hx2⟩ := pickC (bs.take 2000) hbs hn.rd (by omega) 16 (by omega) (m + 99) (by omega)
  have t2 := hn.trans h1.desc hn2 (by simp)
  have z2 := a2.keep hn2 (by omega) (fun r hr => by have := (a5 r hr).1; omega)
  have fin : ∀ (T3 : Sto Sy) (v3 : V Sy) (lo hi : Nat) {P : Int}, Nw (bs.take 2000) 0 P [] T2 T3 → Lst T2.next lo hi 1000001 v3 T3.obs → hi ≤ 25 → ∃ r, (some (V.tup [v3, .rsl q 0 rs.length cq], T3.trim 0 (.tup [v3, .rsl q 0 rs.length cq])) = some r) ∧ Ws r.2 ∧ ∃ v w, r.1 = .tup [v, w] ∧ Rwz 0 w r.2.obs ∧ ∃ q zs, IsL r.2.obs q zs v ∧ zs.length ≤ 25 ∧ ∀ z, z ∈ zs → -1000001 ≤ z ∧ z ≤ 1000001 := by
    intro T3 v3 lo hi P h3 hl hhi
    obtain ⟨q3, zs, b1, b2, b3, b4, b5⟩ := hl
    have z3 := z2.keep h3 (by omega) (fun r hr => by have := (a5 r hr).1; omega)
    refine ⟨_, rfl, ⟨trim_desc h3.rd.desc, by rw [trim_lowW, trim_next]; have := h3.low; omega⟩, _, _, rfl, ⟨q, rs, Nat.zero_le _, z3.trimIn (fun k hk => by simp [V.refs, refsL] at hk ⊢; exact .inr hk), a3, a4, fun r hr => ⟨Nat.zero_le _, (a5 r hr).2⟩⟩, q3, zs, b2.trimIn (fun k hk => by simp only [V.refs, refsL]; exact List.mem_append.2 (.inl hk)), by omega, b5⟩
  have ans : ∀ (T3 : Sto Sy) (tm : Tr (V Sy)) (v3 : V Sy), tm.get .any 2 = v3 → tm.get .any 3 = .rsl q 0 rs.length cq → answer (tiOf Try.prog) ⟨tm, T3⟩ 0 [.tmp 2, .tmp 3] = some (.tup [v3, .rsl q 0 rs.length cq], T3.trim 0 (.tup [v3, .rsl q 0 rs.length cq])) := fun T3 tm v3 g1 g2 => by
    simp [answer, aresults, aresult, g1, g2]
  by_cases hx0 : x = 0
  · subst hx0
    obtain ⟨v3, T3, hc3, hn3, hl3⟩ := somePoly (bs.take 2000) hbs t2.rd (by omega) (m + 99) (by omega)
    repeat' (first | refine Wp.seq ?_ | refine Wp.block ?_ | (apply Wp.region; focus ((try simp [setArgs, hr, hc, hc2, hc3]) <;> rfl)) | (refine Wp.cond_t ?_ ?_; focus (simp [setArgs, hr, hc, hc2, hc3]; done)) | (refine Wp.cond_f ?_ ?_; focus (simp [setArgs, hr, hc, hc2, hc3]; done)) | refine Wp.skip ?_ | refine Wp.ret ?_ | refine Wp.exit ?_ | refine Blk.here ?_ | (refine Blk.past ?_ ?_; focus (simp; done)))
    obtain ⟨r, k1, k2⟩ := fin T3 v3 0 25 hn3 hl3 (by omega)
    exact ⟨rfl, r, by rw [← k1]; exact ans T3 _ v3 (by simp) (by simp), k2⟩
  · obtain ⟨v3, T3, hc3, hn3, hl3⟩ := polyOf (bs.take 2000) hbs t2.rd (by omega) rs.length (by omega) (by omega) (m + 99) (by omega)
    repeat' (first | refine Wp.seq ?_ | refine Wp.block ?_ | (apply Wp.region; focus ((try simp [setArgs, hr, hc, hc2, hx0, hc3]) <;> rfl)) | (refine Wp.cond_t ?_ ?_; focus (simp [setArgs, hr, hc, hc2, hx0, hc3]; done)) | (refine Wp.cond_f ?_ ?_; focus (simp [setArgs, hr, hc, hc2, hx0, hc3]; done)) | refine Wp.skip ?_ | refine Wp.ret ?_ | refine Wp.exit ?_ | refine Blk.here ?_ | (refine Blk.past ?_ ?_; focus (simp; done)))
    obtain ⟨r, k1, k2⟩ := fin T3 v3 _ _ hn3 hl3 (by omega)
    exact ⟨rfl, r, by rw [← k1]; exact ans T3 _ v3 (by simp) (by simp), k2⟩
end Go.Proofs.Ytobdnpnohaonkaa.Draw

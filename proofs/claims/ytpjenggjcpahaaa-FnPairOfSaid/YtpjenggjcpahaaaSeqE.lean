import Derived.Test.YtpjenggjcpahaaaRows
import Derived.Test.YtpjenggjcpahaaaSym
import Derived.Test.YtpjenggjcpahaaaSymD
import Derived.Test.YtpjenggjcpahaaaSymE
import Derived.Test.YtpjenggjcpahaaaIds
import Derived.Test.YtpjenggjcpahaaaSeq
import Derived.Test.YtpjenggjcpahaaaSeqB
import Derived.Test.YtpjenggjcpahaaaSeqC
import Derived.WalkKit
import Derived.ProofKit
import Derived.OpenShut
namespace Go.Proofs.Ytpjenggjcpahaaa.Seq
open Go.ChangeShapes Go.WideShapes Go.ChangeAt Go.RowKit Go.Sx Go.Proofs.Ytpjenggjcpahaaa.Ids
set_option linter.unusedVariables false
set_option linter.unusedSimpArgs false

section
attribute [local simp] aops wants aop apure St.eval setTm_some setTm_none Tr.get_set aload evals pevals apureB tiS tiI tiB abin aint isCmp sym_lt sym_eqs sym_neqs sym_eq sym_neq sym_gtr sym_leq sym_geq sym_add sym_sub sym_mul aeff aeffB idx? ofV aindexAddr aggDesc aifc_int aun
set_option maxRecDepth 10000 in
theorem specSeq_cons (z0 : List Int) (zr : List (List Int)) (hl0 : (z0 :: zr).length ≤ 1048576) (hl : ∀ zs, zs ∈ z0 :: zr → zs.length ≤ 1048576) (E m : Nat) (hE : (z0 :: zr).length < E) (hm : (z0 :: zr).length + E + 9 < m) :
    ∃ r, symRun Try.prog KSp [] (m + 3) 20 [patS (z0 :: zr)] ⟨0, [], 0⟩ = some r ∧ r.1 = .bool (seqB (z0 :: zr)) := by
  obtain ⟨⟨v, S⟩, h1, h2⟩ := specList_run z0 zr hl0 hl E m hE hm
  subst h2
  obtain ⟨S', hc⟩ : ∃ S', acallV (symIn Try.prog KSp [] (m + 2)) ⟨0, [], 0⟩ (.func 62 [] []) [patS (z0 :: zr)] = some (.bool (seqB (z0 :: zr)), S') := by
    rw [acallV_func (by decide), List.nil_append, List.append_nil, symIn_run (by decide), show (⟨(⟨0, [], 0⟩ : Sto Sy).next, (⟨0, [], 0⟩ : Sto Sy).obs, (⟨0, [], 0⟩ : Sto Sy).next⟩ : Sto Sy) = ⟨0, [], 0⟩ from rfl, h1]
    exact ⟨_, rfl⟩
  refine own_run2 (n := m + 2) (by rfl) Try.func20 rfl rfl ?_
  simp only [Try.f20]
  generalize patS (z0 :: zr) = p at hc ⊢
  repeat' (first | refine Wp.seq ?_ | refine Wp.block ?_ | (apply Wp.region; focus ((try simp [setArgs, hc]) <;> rfl)) | (refine Wp.cond_t ?_ ?_; focus (simp [setArgs, hc]; done)) | (refine Wp.cond_f ?_ ?_; focus (simp [setArgs, hc]; done)) | refine Wp.skip ?_ | refine Wp.ret ?_ | refine Wp.exit ?_ | refine Blk.here ?_ | (refine Blk.past ?_ ?_; focus (simp; done)))
  exact ⟨rfl, answer_trim1 (v := .bool (seqB (z0 :: zr))) (by simp) rfl⟩
end
theorem seqB_nil : seqB [] = false := seqB_false (fun h => by have := h.1; simp at this)
theorem specSeq_ok (zss : List (List Int)) (hl0 : zss.length ≤ 1048576) (hl : ∀ zs, zs ∈ zss → zs.length ≤ 1048576) : ∃ (K : Ctr) (n : Nat) (S : Sto Sy), (∀ (ρ : Nat → Int) (s : Sms) (B : Nat), COk Try.prog ⟨Sy.den ρ, s⟩ B K) ∧ symRun Try.prog K [] n 20 [patS zss] ⟨0, [], 0⟩ = some (.bool (seqB zss), S) := by
  cases zss with
  | nil =>
    obtain ⟨⟨v, S⟩, h1, h2⟩ := Option.map_eq_some_iff.1 specSeq_nil
    cases h2
    exact ⟨KSp, 20, S, KSp_ok, by rw [seqB_nil]; exact h1⟩
  | cons z0 zr =>
    obtain ⟨⟨v, S⟩, h1, h2⟩ := specSeq_cons z0 zr hl0 hl ((z0 :: zr).length + 1) ((z0 :: zr).length + ((z0 :: zr).length + 1) + 10) (by omega) (by omega)
    subst h2
    exact ⟨KSp, _, S, KSp_ok, h1⟩
theorem implSeq_ok (zss : List (List Int)) (hl0 : zss.length ≤ 1048576) (hl : ∀ zs, zs ∈ zss → zs.length ≤ 1048576) : ∃ (K : Ctr) (n : Nat) (S : Sto Sy), (∀ (ρ : Nat → Int) (s : Sms) (B : Nat), COk Try.prog ⟨Sy.den ρ, s⟩ B K) ∧ symRun Try.prog K [] n 19 [patS zss] ⟨0, [], 0⟩ = some (.bool (seqB zss), S) := by
  cases zss with
  | nil =>
    obtain ⟨⟨v, S⟩, h1, h2⟩ := Option.map_eq_some_iff.1 implSeq_nil
    cases h2
    exact ⟨KI, 20, S, KI_ok, by rw [seqB_nil]; exact h1⟩
  | cons z0 zr =>
    obtain ⟨⟨v, S⟩, h1, h2⟩ := implSeq_run z0 zr hl0 hl ((z0 :: zr).length + 1) (by omega)
    subst h2
    exact ⟨KI, _, S, KI_ok, h1⟩

section
attribute [local simp] aops wants aop apure St.eval setTm_some setTm_none Tr.get_set aload evals pevals apureB tiS tiI tiB abin aint isCmp sym_lt sym_eqs sym_neqs sym_eq sym_neq sym_gtr sym_leq sym_geq sym_add sym_sub sym_mul aeff aeffB idx? ofV aindexAddr aggDesc aifc_int aun
end
end Go.Proofs.Ytpjenggjcpahaaa.Seq

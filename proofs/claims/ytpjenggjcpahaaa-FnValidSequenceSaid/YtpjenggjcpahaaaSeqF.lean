/-
  Sequences: what the law does ahead, by runs by hand. No condition.
-/
import Derived.Test.YtpjenggjcpahaaaRows
import Derived.Test.YtpjenggjcpahaaaSym
import Derived.Test.YtpjenggjcpahaaaSymD
import Derived.Test.YtpjenggjcpahaaaSymE
import Derived.Test.YtpjenggjcpahaaaIds
import Derived.Test.YtpjenggjcpahaaaSeq
import Derived.Test.YtpjenggjcpahaaaSeqB
import Derived.Test.YtpjenggjcpahaaaSeqC
import Derived.Test.YtpjenggjcpahaaaSeqE
import Derived.WalkKit
import Derived.ProofKit
import Derived.OpenShut
namespace Go.Proofs.Ytpjenggjcpahaaa.Seq
open Go.ChangeShapes Go.WideShapes Go.ChangeAt Go.RowKit Go.Sx Go.Proofs.Ytpjenggjcpahaaa.Ids
set_option linter.unusedVariables false
set_option linter.unusedSimpArgs false

noncomputable def KL : Ctr := orK (copyK 37) (orK (sameSK 33) (orK (askSK 20 seqB) (askSK 19 seqB)))
theorem eqSS_ok (zss : List (List Int)) (hl0 : zss.length ≤ 1048576) (hl : ∀ zs, zs ∈ zss → zs.length ≤ 1048576) : ∃ (K : Ctr) (n : Nat) (S : Sto Sy), (∀ (ρ : Nat → Int) (s : Sms) (B : Nat), COk Try.prog ⟨Sy.den ρ, s⟩ B K) ∧ symRun Try.prog K [] n 33 [patS zss, patS zss] ⟨0, [], 0⟩ = some (.bool true, S) := by
  cases zss with
  | nil =>
    obtain ⟨⟨v, S⟩, h1, h2⟩ := Option.map_eq_some_iff.1 eqSS_nil
    cases h2
    exact ⟨KE0, 20, S, KE0_ok, h1⟩
  | cons z0 zr =>
    obtain ⟨⟨v, S⟩, h1, h2⟩ := eqSS_run z0 zr hl0 hl ((z0 :: zr).length + 1) (by omega)
    subst h2
    exact ⟨KE0, _, S, KE0_ok, h1⟩
theorem KL_ok (ρ : Nat → Int) (s : Sms) (B : Nat) : COk Try.prog ⟨Sy.den ρ, s⟩ B KL :=
  orK_ok (copyK_ok noCount mixed (body_of Try.func37 rfl) copy_ok)
    (orK_ok (sameSK_ok noCount mixed (body_of Try.func33 rfl) eqSS_ok)
      (orK_ok (askSK_ok noCount mixed (body_of Try.func20 rfl) specSeq_ok) (askSK_ok noCount mixed (body_of Try.func19 rfl) implSeq_ok)))

section
attribute [local simp] aops wants aop apure St.eval setTm_some setTm_none Tr.get_set aload evals pevals apureB tiS tiI tiB abin aint isCmp sym_lt sym_eqs sym_neqs sym_eq sym_neq sym_gtr sym_leq sym_geq sym_add sym_sub sym_mul aeff aeffB idx? ofV aindexAddr aggDesc aifc_int aun
set_option maxRecDepth 10000 in
theorem szRow_run (zs : List Int) (x : Int) (hx : 0 ≤ x ∧ x ≤ 1048576) (hl : zs.length ≤ 9223372036854775807) (m : Nat) : ∃ r, symRun Try.prog KL [] (m + 1) 75 [patL zs, .int .i64 (.c x)] ⟨0, [], 0⟩ = some r ∧ r.2 = ⟨0, [], 0⟩ ∧ ∃ y, r.1 = .int .i64 (.c y) ∧ (y < 0 ∨ (0 ≤ y ∧ y ≤ x ∧ zs.length ≤ 1048576)) := by
  refine own_run2 (n := m) (by rfl) Try.func75 rfl rfl ?_
  simp only [Try.f75]
  have al := alen_patL zs
  generalize hp : patL zs = p at al ⊢
  have hw := wrap_in (a := x - (zs.length : Int)) (by omega) (by omega)
  by_cases h : x - (zs.length : Int) < 0
  · repeat' (first | refine Wp.seq ?_ | refine Wp.block ?_ | (apply Wp.region; focus ((try simp [setArgs, al, hw, h]) <;> rfl)) | (refine Wp.cond_t ?_ ?_; focus (simp [setArgs, al, hw, h]; done)) | (refine Wp.cond_f ?_ ?_; focus (simp [setArgs, al, hw, h]; done)) | refine Wp.skip ?_ | refine Wp.ret ?_ | refine Wp.exit ?_ | refine Blk.here ?_ | (refine Blk.past ?_ ?_; focus (simp; done)))
    refine ⟨rfl, answer_trim1 (v := .int .i64 (.c (-1))) (by simp) ⟨rfl, -1, rfl, .inl (by omega)⟩⟩
  · repeat' (first | refine Wp.seq ?_ | refine Wp.block ?_ | (apply Wp.region; focus ((try simp [setArgs, al, hw, h]) <;> rfl)) | (refine Wp.cond_t ?_ ?_; focus (simp [setArgs, al, hw, h]; done)) | (refine Wp.cond_f ?_ ?_; focus (simp [setArgs, al, hw, h]; done)) | refine Wp.skip ?_ | refine Wp.ret ?_ | refine Wp.exit ?_ | refine Blk.here ?_ | (refine Blk.past ?_ ?_; focus (simp; done)))
    refine ⟨rfl, answer_trim1 (v := .int .i64 (.c (x - zs.length))) (by simp) ⟨rfl, _, rfl, .inr ⟨by omega, by omega, by omega⟩⟩⟩
theorem szRow (zs : List Int) (x : Int) (hx : 0 ≤ x ∧ x ≤ 1048576) (hl : zs.length ≤ 9223372036854775807) (m : Nat) : ∃ y, acallV (symIn Try.prog KL [] (m + 1)) ⟨0, [], 0⟩ (.func 75 [] []) [patL zs, .int .i64 (.c x)] = some (.int .i64 (.c y), ⟨0, [], 0⟩) ∧ (y < 0 ∨ (0 ≤ y ∧ y ≤ x ∧ zs.length ≤ 1048576)) := by
  obtain ⟨⟨v, S⟩, h1, rfl, y, rfl, h2⟩ := szRow_run zs x hx hl m
  refine ⟨y, ?_, h2⟩
  rw [acallV_func (by decide), List.nil_append, List.append_nil, symIn_run (by decide), show (⟨(⟨0, [], 0⟩ : Sto Sy).next, (⟨0, [], 0⟩ : Sto Sy).obs, (⟨0, [], 0⟩ : Sto Sy).next⟩ : Sto Sy) = ⟨0, [], 0⟩ from rfl, h1]
  rfl
set_option maxRecDepth 10000 in
theorem szAll_run (z0 : List Int) (zr : List (List Int)) (hl0 : (z0 :: zr).length ≤ 9223372036854775807) (hl : ∀ zs, zs ∈ z0 :: zr → zs.length ≤ 9223372036854775807) (C : Int) (hC : 0 ≤ C ∧ C ≤ 1048576) (m : Nat) (hm : (z0 :: zr).length < m) :
    ∃ r, symRun Try.prog KL [] (m + 2) 30 [patS (z0 :: zr), .int .i64 (.c C)] ⟨0, [], 0⟩ = some r ∧ r.2 = ⟨0, [], 0⟩ ∧ ∃ y, r.1 = .int .i64 (.c y) ∧ (y < 0 ∨ (0 ≤ y ∧ (z0 :: zr).length ≤ 1048576 ∧ ∀ zs, zs ∈ z0 :: zr → zs.length ≤ 1048576)) := by
  refine own_run2 (n := m + 1) (by rfl) Try.func30 rfl rfl ?_
  simp only [Try.f30]
  rw [show patS (z0 :: zr) = .slice ((z0 :: zr).map patL) from rfl]
  generalize z0 :: zr = zss at hl0 hl hm ⊢
  have hlen : (zss.map patL).length = zss.length := List.length_map ..
  have alS : alen (symNum []) (tiOf Try.prog) 23 (.slice (zss.map patL)) = some (.int .i64 (.c zss.length)) := by simp [alen, tiSS, symNum]
  have hw0 := wrap_in (a := C - (zss.length : Int)) (by omega) (by omega)
  by_cases h : C - (zss.length : Int) < 0
  · repeat' (first | refine Wp.seq ?_ | refine Wp.block ?_ | (apply Wp.region; focus ((try simp [setArgs, alS, hw0, h]) <;> rfl)) | (refine Wp.cond_t ?_ ?_; focus (simp [setArgs, alS, hw0, h]; done)) | (refine Wp.cond_f ?_ ?_; focus (simp [setArgs, alS, hw0, h]; done)) | refine Wp.skip ?_ | refine Wp.ret ?_ | refine Wp.exit ?_ | refine Blk.here ?_ | (refine Blk.past ?_ ?_; focus (simp; done)))
    refine ⟨rfl, answer_trim1 (v := .int .i64 (.c (-1))) (by simp) ⟨rfl, -1, rfl, .inl (by omega)⟩⟩
  · repeat' (first | refine Wp.seq ?_ | refine Wp.block ?_ | (apply Wp.region; focus ((try simp [setArgs, alS, hw0, h]) <;> rfl)) | (refine Wp.cond_t ?_ ?_; focus (simp [setArgs, alS, hw0, h]; done)) | (refine Wp.cond_f ?_ ?_; focus (simp [setArgs, alS, hw0, h]; done)) | refine Wp.skip ?_ | refine Wp.ret ?_ | refine Wp.exit ?_ | refine Blk.here ?_ | (refine Blk.past ?_ ?_; focus (simp; done)))
    refine Wp.loop rfl rfl (fun i st => st.tm.get .any 0 = .slice (zss.map patL) ∧ st.tm.get .any 5 = .int .i64 (.c i) ∧ st.sto = ⟨0, [], 0⟩ ∧ (∃ x, st.tm.get .any 1 = .int .i64 (.c x) ∧ 0 ≤ x ∧ x ≤ 1048576) ∧
      ∀ j, j < i → j < zss.length → (zss.getD j []).length ≤ 1048576) zss.length (by omega) ?_ ?_ ?_
    · exact ⟨by simp, by simp, rfl, ⟨C - zss.length, by simp, by omega, by omega⟩, fun j h => by omega⟩
    · rintro f i ⟨tm, S⟩ hi ⟨h0, h5, rfl, ⟨x, h1, hx⟩, hall⟩
      simp only at h0 h1 h5
      have hlt : (i : Int) < zss.length := by omega
      have hxi : (zss.map patL)[i]? = some (patL (zss.getD i [])) := by simp [List.getD, hi]
      have hxs : zss[i]? = some (zss.getD i []) := by simp [List.getD, hi]
      have hw := wrap_in (a := (i : Int) + 1) (by omega) (by omega)
      have hzl : (zss.getD i []).length ≤ 9223372036854775807 := hl _ (List.mem_of_getElem? hxs)
      generalize hz : zss.getD i [] = zs at hxi hxs hzl
      have hzi : zss[i] = zs := by rw [← hz]; simp [List.getD, hi]
      have hii : i < (zss.map patL).length := by omega
      obtain ⟨y, hc, hy⟩ := szRow zs x hx hzl m
      by_cases hy0 : y < 0
      · repeat' (first | refine Wp.seq ?_ | refine Wp.block ?_ | (apply Wp.region; focus ((try simp [h0, h1, h5, hlt, alS, hxi, hi, hii, hzi, hlen, tiSS, hc, hy0]) <;> rfl)) | (refine Wp.cond_t ?_ ?_; focus (simp [h0, h1, h5, hlt, alS, hxi, hi, hii, hzi, hlen, tiSS, hc, hy0]; done)) | (refine Wp.cond_f ?_ ?_; focus (simp [h0, h1, h5, hlt, alS, hxi, hi, hii, hzi, hlen, tiSS, hc, hy0]; done)) | refine Wp.skip ?_ | refine Wp.ret ?_ | refine Wp.exit ?_ | refine Blk.here ?_ | (refine Blk.past ?_ ?_; focus (simp; done)))
        exact ⟨rfl, answer_trim1 (v := .int .i64 (.c (-1))) (by simp) ⟨rfl, -1, rfl, .inl (by omega)⟩⟩
      · repeat' (first | refine Wp.seq ?_ | refine Wp.block ?_ | (apply Wp.region; focus ((try simp [h0, h1, h5, hlt, alS, hxi, hi, hii, hzi, hlen, tiSS, hc, hy0, hw]) <;> rfl)) | (refine Wp.cond_t ?_ ?_; focus (simp [h0, h1, h5, hlt, alS, hxi, hi, hii, hzi, hlen, tiSS, hc, hy0, hw]; done)) | (refine Wp.cond_f ?_ ?_; focus (simp [h0, h1, h5, hlt, alS, hxi, hi, hii, hzi, hlen, tiSS, hc, hy0, hw]; done)) | refine Wp.skip ?_ | refine Wp.ret ?_ | refine Wp.exit ?_ | refine Blk.here ?_ | (refine Blk.past ?_ ?_; focus (simp; done)))
        exact ⟨by simp [h0], by simp, rfl, ⟨y, by simp, by omega, by omega⟩, fun j h1 h2 => by
          rcases Nat.lt_succ_iff_lt_or_eq.1 h1 with q | rfl
          · exact hall j q h2
          · rw [hz]; omega⟩
    · rintro f ⟨tm, S⟩ ⟨h0, h5, rfl, ⟨x, h1, hx⟩, hall⟩
      simp only at h0 h1 h5
      repeat' (first | refine Wp.seq ?_ | refine Wp.block ?_ | (apply Wp.region; focus ((try simp [h0, h1, h5, alS]) <;> rfl)) | (refine Wp.cond_t ?_ ?_; focus (simp [h0, h1, h5, alS]; done)) | (refine Wp.cond_f ?_ ?_; focus (simp [h0, h1, h5, alS]; done)) | refine Wp.skip ?_ | refine Wp.ret ?_ | refine Wp.exit ?_ | refine Blk.here ?_ | (refine Blk.past ?_ ?_; focus (simp; done)))
      refine ⟨rfl, answer_trim1 (v := .int .i64 (.c x)) (by simp [h1]) ⟨rfl, x, rfl, .inr ⟨hx.1, by omega, fun zs hzs => ?_⟩⟩⟩
      obtain ⟨j, hj, rfl⟩ := List.mem_iff_getElem.1 hzs
      have := hall j hj hj
      simpa [List.getD, hj] using this
end
theorem szAll_nil : symRun Try.prog KL [] 42 30 [.emp, .int .i64 (.c 1048576)] ⟨0, [], 0⟩ = some (.int .i64 (.c 1048576), ⟨0, [], 0⟩) := by kernel_rfl
end Go.Proofs.Ytpjenggjcpahaaa.Seq

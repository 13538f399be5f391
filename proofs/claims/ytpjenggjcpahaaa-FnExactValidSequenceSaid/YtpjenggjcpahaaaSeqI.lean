/-
  Sequences: the law, by hand, by runs by hand. No condition.
-/
import Derived.Test.YtpjenggjcpahaaaRows
import Derived.Test.YtpjenggjcpahaaaSym
import Derived.Test.YtpjenggjcpahaaaSymD
import Derived.Test.YtpjenggjcpahaaaSymE
import Derived.Test.YtpjenggjcpahaaaIds
import Derived.Test.YtpjenggjcpahaaaSeq
import Derived.Test.YtpjenggjcpahaaaSeqB
import Derived.Test.YtpjenggjcpahaaaSeqC
import Derived.Test.YtpjenggjcpahaaaSeqE
import Derived.Test.YtpjenggjcpahaaaSeqF
import Derived.Test.YtpjenggjcpahaaaSeqG
import Derived.Test.YtpjenggjcpahaaaSeqH
import Derived.WalkKit
import Derived.ProofKit
import Derived.OpenShut
namespace Go.Proofs.Ytpjenggjcpahaaa.Seq
open Go.ChangeShapes Go.WideShapes Go.ChangeAt Go.RowKit Go.Sx Go.Proofs.Ytpjenggjcpahaaa.Ids
set_option linter.unusedVariables false
set_option linter.unusedSimpArgs false

theorem toSS_call (zss : List (List Int)) (hl0 : zss.length ≤ 1048576) (hl : ∀ zs, zs ∈ zss → zs.length ≤ 1048576) (S : Sto Sy) (hd : Desc S.next S.obs) (hlow : S.low ≤ S.next) (m : Nat) (hm : zss.length < m) (p : V Sy) (hp : p = .slice (zss.map patL) ∨ (p = .emp ∧ zss = [])) :
    ∃ v S1, acallV (symIn Try.prog KL [] (m + 2)) S (.func 31 [] []) [p] = some (v, S1) ∧ Desc S1.next S1.obs ∧ S1.low ≤ S1.next ∧ IsS S1.obs S.next zss v ∧ ∀ k x, Go.Sx.look S.obs k = some x → Go.Sx.look S1.obs k = some x := by
  obtain ⟨⟨v, S1⟩, h1, h2, h3, h4, h5, h6, h7⟩ := toSS_run zss hl0 hl S hd m hm p hp
  refine ⟨v, ⟨S1.next, S1.obs, if Nat.blt S1.low S.low then S1.low else S.low⟩, ?_, h2, ?_, h6, h7⟩
  · rw [acallV_func (by decide), List.nil_append, List.append_nil, symIn_run (by decide), h1]
  · simp only at h3 h4 h5 ⊢
    split <;> omega
theorem askCall {zss : List (List Int)} (hl0 : zss.length ≤ 1048576) (hl : ∀ zs, zs ∈ zss → zs.length ≤ 1048576) {S : Sto Sy} (hlow : S.low ≤ S.next) {q : Nat} {v : V Sy} (hv : IsS S.obs q zss v) (f : Nat) :
    acallV (symIn Try.prog KL [] (f + 1)) S (.func 20 [] []) [v] = some (.bool (seqB zss), S) ∧ acallV (symIn Try.prog KL [] (f + 1)) S (.func 19 [] []) [v] = some (.bool (seqB zss), S) := by
  have hr : rowsOf (⟨S.next, S.obs, S.next⟩ : Sto Sy) v = some zss := IsS.rows (S := ⟨S.next, S.obs, S.next⟩) hv
  have hb0 : Nat.ble zss.length 1048576 = true := by rw [Nat.ble_eq]; exact hl0
  have hb : (zss.all fun zs => Nat.ble zs.length 1048576) = true := by rw [List.all_eq_true]; intro zs hzs; rw [Nat.ble_eq]; exact hl zs hzs
  have ask : ∀ k : FuncId, askSK k seqB k [v] ⟨S.next, S.obs, S.next⟩ = some (.bool (seqB zss), ⟨S.next, S.obs, S.next⟩) := fun k => by
    have : Nat.beq k k = true := Nat.beq_refl k
    unfold askSK
    simp only [this, hr, hb0, hb, bite_true]
  have e : (⟨S.next, S.obs, if S.next < S.low then S.next else S.low⟩ : Sto Sy) = S := by rw [if_neg (by omega)]
  have or1 : ∀ {K1 K2 : Ctr} {k : FuncId} {args : List (V Sy)} {sto : Sto Sy}, K1 k args sto = none → orK K1 K2 k args sto = K2 k args sto := fun h => by unfold orK; rw [h]
  have or2 : ∀ {K1 K2 : Ctr} {k : FuncId} {args : List (V Sy)} {sto : Sto Sy} {r : V Sy × Sto Sy}, K1 k args sto = some r → orK K1 K2 k args sto = some r := fun h => by unfold orK; rw [h]
  have k1 : KL 20 [v] ⟨S.next, S.obs, S.next⟩ = some (.bool (seqB zss), ⟨S.next, S.obs, S.next⟩) := by
    unfold KL
    rw [or1 (by rfl), or1 (by rfl)]
    exact or2 (ask _)
  have k2 : KL 19 [v] ⟨S.next, S.obs, S.next⟩ = some (.bool (seqB zss), ⟨S.next, S.obs, S.next⟩) := by
    unfold KL
    rw [or1 (by rfl), or1 (by rfl), or1 (by rfl)]
    exact ask _
  refine ⟨(call_K k1).trans ?_, (call_K k2).trans ?_⟩
  · show some (V.bool (seqB zss), (⟨S.next, S.obs, if S.next < S.low then S.next else S.low⟩ : Sto Sy)) = _
    rw [e]
  · show some (V.bool (seqB zss), (⟨S.next, S.obs, if S.next < S.low then S.next else S.low⟩ : Sto Sy)) = _
    rw [e]
theorem sameII_self : ∀ l : List (List Int), sameII l l = true
  | [] => rfl
  | a :: r => by simp only [sameII, sameI_self, bite_true]; exact sameII_self r
theorem eqCall {zss : List (List Int)} (hl0 : zss.length ≤ 1048576) (hl : ∀ zs, zs ∈ zss → zs.length ≤ 1048576) {S : Sto Sy} (hlow : S.low ≤ S.next) {q q' : Nat} {v v' : V Sy} (hv : IsS S.obs q zss v) (hv' : IsS S.obs q' zss v') (f : Nat) :
    acallV (symIn Try.prog KL [] (f + 1)) S (.func 33 [] []) [v, v'] = some (.bool true, S) := by
  have hr : rowsOf (⟨S.next, S.obs, S.next⟩ : Sto Sy) v = some zss := IsS.rows (S := ⟨S.next, S.obs, S.next⟩) hv
  have hr' : rowsOf (⟨S.next, S.obs, S.next⟩ : Sto Sy) v' = some zss := IsS.rows (S := ⟨S.next, S.obs, S.next⟩) hv'
  have hb0 : Nat.ble zss.length 1048576 = true := by rw [Nat.ble_eq]; exact hl0
  have hb : (zss.all fun zs => Nat.ble zs.length 1048576) = true := by rw [List.all_eq_true]; intro zs hzs; rw [Nat.ble_eq]; exact hl zs hzs
  have e : (⟨S.next, S.obs, if S.next < S.low then S.next else S.low⟩ : Sto Sy) = S := by rw [if_neg (by omega)]
  have k1 : KL 33 [v, v'] ⟨S.next, S.obs, S.next⟩ = some (.bool true, ⟨S.next, S.obs, S.next⟩) := by
    have a1 : sameSK 33 33 [v, v'] ⟨S.next, S.obs, S.next⟩ = some (.bool true, ⟨S.next, S.obs, S.next⟩) := by
      unfold sameSK
      simp only [hr, hr', hb0, hb, sameII_self, bite_true]
      rfl
    have a0 : copyK 37 33 [v, v'] ⟨S.next, S.obs, S.next⟩ = none := rfl
    unfold KL orK
    rw [a0]
    simp only [a1]
  refine (call_K k1).trans ?_
  show some (V.bool true, (⟨S.next, S.obs, if S.next < S.low then S.next else S.low⟩ : Sto Sy)) = _
  rw [e]

section
attribute [local simp] aops wants aop apure St.eval setTm_some setTm_none Tr.get_set aload evals pevals apureB tiS tiI tiB abin aint isCmp sym_lt sym_eqs sym_neqs sym_eq sym_neq sym_gtr sym_leq sym_geq sym_add sym_sub sym_mul aeff aeffB idx? ofV aindexAddr aggDesc aifc_int aun
set_option maxRecDepth 10000 in
theorem law_run (zss : List (List Int)) (hl0 : zss.length ≤ 9223372036854775807) (hl : ∀ zs, zs ∈ zss → zs.length ≤ 9223372036854775807) : ∃ n S, symRun Try.prog KL [] n 8 [patS zss] ⟨0, [], 0⟩ = some (.bool true, S) := by
  obtain ⟨m, hm⟩ : ∃ m, m = zss.length + 40 := ⟨_, rfl⟩
  have hsz : ∃ y, acallV (symIn Try.prog KL [] (m + 2)) ⟨0, [], 0⟩ (.func 30 [] []) [patS zss, .int .i64 (.c 1048576)] = some (.int .i64 (.c y), ⟨0, [], 0⟩) ∧ (y < 0 ∨ (0 ≤ y ∧ zss.length ≤ 1048576 ∧ ∀ zs, zs ∈ zss → zs.length ≤ 1048576)) := by
    have call : ∀ (y : Int) (n : Nat), symRun Try.prog KL [] n 30 [patS zss, .int .i64 (.c 1048576)] ⟨0, [], 0⟩ = some (.int .i64 (.c y), ⟨0, [], 0⟩) → acallV (symIn Try.prog KL [] n) ⟨0, [], 0⟩ (.func 30 [] []) [patS zss, .int .i64 (.c 1048576)] = some (.int .i64 (.c y), ⟨0, [], 0⟩) := fun y n h => by
      rw [acallV_func (by decide), List.nil_append, List.append_nil, symIn_run (by decide), show (⟨(⟨0, [], 0⟩ : Sto Sy).next, (⟨0, [], 0⟩ : Sto Sy).obs, (⟨0, [], 0⟩ : Sto Sy).next⟩ : Sto Sy) = ⟨0, [], 0⟩ from rfl, h]
      rfl
    cases zss with
    | nil =>
      have hm' : m + 2 = 42 := by rw [hm]; rfl
      rw [hm']
      exact ⟨1048576, call _ _ szAll_nil, .inr ⟨by omega, Nat.zero_le _, fun zs h => by cases h⟩⟩
    | cons z0 zr =>
      obtain ⟨⟨v, S⟩, h1, rfl, y, rfl, h2⟩ := szAll_run z0 zr hl0 hl 1048576 ⟨by omega, by omega⟩ m (by omega)
      exact ⟨y, call _ _ h1, h2⟩
  obtain ⟨y, hc, hy⟩ := hsz
  have hpp : patS zss = .slice (zss.map patL) ∨ (patS zss = .emp ∧ zss = []) := by
    cases zss with
    | nil => exact .inr ⟨rfl, rfl⟩
    | cons a r => exact .inl rfl
  generalize patS zss = p at hc hpp ⊢
  suffices h : ∃ r, symRun Try.prog KL [] (m + 3) 8 [p] ⟨0, [], 0⟩ = some r ∧ r.1 = .bool true by
    obtain ⟨⟨v, S⟩, h1, h2⟩ := h
    cases h2
    exact ⟨_, _, h1⟩
  refine own_run2 (n := m + 2) (by rfl) Try.func8 rfl rfl ?_
  simp only [Try.f8]
  by_cases hy0 : y < 0
  · repeat' (first | refine Wp.seq ?_ | refine Wp.block ?_ | (apply Wp.region; focus ((try simp [setArgs, hc, hy0]) <;> rfl)) | (refine Wp.cond_t ?_ ?_; focus (simp [setArgs, hc, hy0]; done)) | (refine Wp.cond_f ?_ ?_; focus (simp [setArgs, hc, hy0]; done)) | refine Wp.skip ?_ | refine Wp.ret ?_ | refine Wp.exit ?_ | refine Blk.here ?_ | (refine Blk.past ?_ ?_; focus (simp; done)))
    exact ⟨rfl, answer_trim1 (v := .bool true) (by simp) rfl⟩
  · rcases hy with hy | ⟨_, h0, h1⟩
    · exact (hy0 hy).elim
    obtain ⟨v1, S1, c1, d1, w1, s1, _⟩ := toSS_call zss h0 h1 ⟨0, [], 0⟩ trivial (Nat.le_refl _) m (by omega) p hpp
    obtain ⟨a1, _⟩ := askCall h0 h1 w1 s1 (m + 1)
    obtain ⟨v2, S2, c2, d2, w2, s2, _⟩ := toSS_call zss h0 h1 S1 d1 w1 m (by omega) p hpp
    obtain ⟨_, a2⟩ := askCall h0 h1 w2 s2 (m + 1)
    obtain ⟨v3, S3, c3, d3, w3, s3, k3⟩ := toSS_call zss h0 h1 S2 d2 w2 m (by omega) p hpp
    have a3 := eqCall h0 h1 w3 (s2.keep k3) s3 (m + 1)
    generalize seqB zss = bb at a1 a2
    cases bb with
    | false =>
      repeat' (first | refine Wp.seq ?_ | refine Wp.block ?_ | (apply Wp.region; focus ((try simp [setArgs, hc, hy0, c1, a1, c2, a2, c3, a3]) <;> rfl)) | (refine Wp.cond_t ?_ ?_; focus (simp [setArgs, hc, hy0, c1, a1, c2, a2, c3, a3]; done)) | (refine Wp.cond_f ?_ ?_; focus (simp [setArgs, hc, hy0, c1, a1, c2, a2, c3, a3]; done)) | refine Wp.skip ?_ | refine Wp.ret ?_ | refine Wp.exit ?_ | refine Blk.here ?_ | (refine Blk.past ?_ ?_; focus (simp; done)))
      exact ⟨rfl, answer_trim1 (v := .bool true) (by simp) rfl⟩
    | true =>
      repeat' (first | refine Wp.seq ?_ | refine Wp.block ?_ | (apply Wp.region; focus ((try simp [setArgs, hc, hy0, c1, a1, c2, a2, c3, a3]) <;> rfl)) | (refine Wp.cond_t ?_ ?_; focus (simp [setArgs, hc, hy0, c1, a1, c2, a2, c3, a3]; done)) | (refine Wp.cond_f ?_ ?_; focus (simp [setArgs, hc, hy0, c1, a1, c2, a2, c3, a3]; done)) | refine Wp.skip ?_ | refine Wp.ret ?_ | refine Wp.exit ?_ | refine Blk.here ?_ | (refine Blk.past ?_ ?_; focus (simp; done)))
      exact ⟨rfl, answer_trim1 (v := .bool true) (by simp) rfl⟩
end
end Go.Proofs.Ytpjenggjcpahaaa.Seq

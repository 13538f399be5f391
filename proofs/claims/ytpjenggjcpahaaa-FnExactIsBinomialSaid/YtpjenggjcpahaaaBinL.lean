/-
  Binomial sequences: the law at any lists, by a run by hand. No condition.
-/
import Derived.Test.YtpjenggjcpahaaaRows
import Derived.Test.YtpjenggjcpahaaaSym
import Derived.Test.YtpjenggjcpahaaaSymD
import Derived.Test.YtpjenggjcpahaaaSymE
import Derived.Test.YtpjenggjcpahaaaSymF
import Derived.Test.YtpjenggjcpahaaaIds
import Derived.Test.YtpjenggjcpahaaaSeq
import Derived.Test.YtpjenggjcpahaaaSeqB
import Derived.Test.YtpjenggjcpahaaaSeqC
import Derived.Test.YtpjenggjcpahaaaSeqE
import Derived.Test.YtpjenggjcpahaaaSeqF
import Derived.Test.YtpjenggjcpahaaaSeqG
import Derived.Test.YtpjenggjcpahaaaSeqH
import Derived.Test.YtpjenggjcpahaaaRow
import Derived.Test.YtpjenggjcpahaaaRowB
import Derived.Test.YtpjenggjcpahaaaRowC
import Derived.Test.YtpjenggjcpahaaaRep
import Derived.Test.YtpjenggjcpahaaaRepB
import Derived.Test.YtpjenggjcpahaaaBin
import Derived.Test.YtpjenggjcpahaaaBinF
import Derived.WalkKit
import Derived.ProofKit
import Derived.OpenShut
namespace Go.Proofs.Ytpjenggjcpahaaa.Bin
open Go.ChangeShapes Go.WideShapes Go.ChangeAt Go.RowKit Go.Sx Go.Proofs.Ytpjenggjcpahaaa.Ids Go.Proofs.Ytpjenggjcpahaaa.Seq Go.Proofs.Ytpjenggjcpahaaa.Row Go.Proofs.Ytpjenggjcpahaaa.Rep
set_option linter.unusedVariables false
set_option linter.unusedSimpArgs false

noncomputable def XB : Ctr := orK (askSK 26 binB) (askSK 25 binB)
theorem XB_ok (ρ : Nat → Int) (s : Sms) (B : Nat) : COk Try.prog ⟨Sy.den ρ, s⟩ B (KX XB) :=
  KX_ok (orK_ok (askSK_okG (body_of Try.func26 rfl) specBin_ok) (askSK_okG (body_of Try.func25 rfl) implBin_ok))
theorem XB_no : NoX XB := by
  intro k hk args sto
  simp only [List.mem_cons, List.not_mem_nil, or_false] at hk
  rcases hk with rfl | rfl | rfl | rfl | rfl | rfl <;> rfl
theorem XB_spec (args : List (V Sy)) (sto : Sto Sy) : KX XB 26 args sto = askSK 26 binB 26 args sto := by
  rw [KX_other rfl rfl rfl]
  unfold XB orK
  cases h : askSK 26 binB 26 args sto with
  | none => rfl
  | some r => rfl
theorem XB_impl (args : List (V Sy)) (sto : Sto Sy) : KX XB 25 args sto = askSK 25 binB 25 args sto := by
  rw [KX_other rfl rfl rfl]
  rfl
theorem askCall {X : Ctr} {k : FuncId} {F : List (List Int) → Bool} (hk : ∀ args sto, KX X k args sto = askSK k F k args sto) {S : Sto Sy} (hS : WS S) {u : V Sy} {zss : List (List Int)} (hu : rowsOf ⟨S.next, S.obs, S.next⟩ u = some zss)
    (h0 : zss.length ≤ 1048576) (h2 : ∀ zs, zs ∈ zss → zs.length ≤ 1048576) (f : Nat) (hk9 : (k : Nat) < 1000000) : acallV (symIn Try.prog (KX X) [] (f + 1)) S (.func k [] []) [u] = some (.bool (F zss), S) := by
  refine call_same hS ?_ f hk9
  rw [hk]
  unfold askSK
  have b0 : Nat.ble zss.length 1048576 = true := by rw [Nat.ble_eq]; exact h0
  have b2 : (zss.all fun zs => Nat.ble zs.length 1048576) = true := by rw [List.all_eq_true]; intro zs hzs; rw [Nat.ble_eq]; exact h2 zs hzs
  have bk : Nat.beq k k = true := Nat.beq_refl k
  simp only [bk, hu, b0, b2, bite_true]
section
attribute [local simp] aops wants aop apure St.eval setTm_some setTm_none Tr.get_set aload evals pevals apureB tiS tiI tiB abin aint isCmp sym_lt sym_eqs sym_neqs sym_eq sym_neq sym_gtr sym_leq sym_geq sym_add sym_sub sym_mul aeff aeffB idx? ofV aindexAddr aggDesc aifc_int aun
set_option maxRecDepth 10000 in
theorem law_walk {n : Nat} {q v2 x1 v4 : V Sy} {b : Bool} {S2 S5 S8 : Sto Sy} {y : Int}
    (csz : acallV (symIn Try.prog (KX XB) [] n) ⟨0, [], 0⟩ (.func 30 [] []) [q, .int .i64 (.c 1048576)] = some (.int .i64 (.c y), ⟨0, [], 0⟩)) (hy : ¬ y < 0)
    (c2 : acallV (symIn Try.prog (KX XB) [] n) ⟨0, [], 0⟩ (.func 31 [] []) [q] = some (v2, S2))
    (c3 : acallV (symIn Try.prog (KX XB) [] n) S2 (.func 26 [] []) [v2] = some (.bool b, S2))
    (c5 : acallV (symIn Try.prog (KX XB) [] n) S2 (.func 31 [] []) [q] = some (x1, S5))
    (c6 : acallV (symIn Try.prog (KX XB) [] n) S5 (.func 25 [] []) [x1] = some (.bool b, S5))
    (c8 : acallV (symIn Try.prog (KX XB) [] n) S5 (.func 31 [] []) [q] = some (v4, S8)) (e8 : acallV (symIn Try.prog (KX XB) [] n) S8 (.func 33 [] []) [x1, v4] = some (.bool true, S8)) :
    ∃ r, symRun Try.prog (KX XB) [] (n + 1) 9 [q] ⟨0, [], 0⟩ = some r ∧ r.1 = .bool true := by
  refine own_run2 (n := n) (by rw [KX_other rfl rfl rfl]; rfl) Try.func9 rfl rfl ?_
  simp only [Try.f9]
  cases b with
  | false =>
    repeat' (first | refine Wp.seq ?_ | refine Wp.block ?_ | (apply Wp.region; focus ((try simp [setArgs, csz, hy, c2, c3, c5, c6, c8, e8]) <;> rfl)) | (refine Wp.cond_t ?_ ?_; focus (simp [setArgs, csz, hy, c2, c3, c5, c6, c8, e8]; done)) | (refine Wp.cond_f ?_ ?_; focus (simp [setArgs, csz, hy, c2, c3, c5, c6, c8, e8]; done)) | refine Wp.skip ?_ | refine Wp.ret ?_ | refine Wp.exit ?_ | refine Blk.here ?_ | (refine Blk.past ?_ ?_; focus (simp; done)))
    exact ⟨rfl, answer_trim1 (v := .bool true) (by simp) rfl⟩
  | true =>
    repeat' (first | refine Wp.seq ?_ | refine Wp.block ?_ | (apply Wp.region; focus ((try simp [setArgs, csz, hy, c2, c3, c5, c6, c8, e8]) <;> rfl)) | (refine Wp.cond_t ?_ ?_; focus (simp [setArgs, csz, hy, c2, c3, c5, c6, c8, e8]; done)) | (refine Wp.cond_f ?_ ?_; focus (simp [setArgs, csz, hy, c2, c3, c5, c6, c8, e8]; done)) | refine Wp.skip ?_ | refine Wp.ret ?_ | refine Wp.exit ?_ | refine Blk.here ?_ | (refine Blk.past ?_ ?_; focus (simp; done)))
    exact ⟨rfl, answer_trim1 (v := .bool true) (by simp) rfl⟩
set_option maxRecDepth 10000 in
theorem law_wide {n : Nat} {q : V Sy} {y : Int}
    (csz : acallV (symIn Try.prog (KX XB) [] n) ⟨0, [], 0⟩ (.func 30 [] []) [q, .int .i64 (.c 1048576)] = some (.int .i64 (.c y), ⟨0, [], 0⟩)) (hy : y < 0) : ∃ r, symRun Try.prog (KX XB) [] (n + 1) 9 [q] ⟨0, [], 0⟩ = some r ∧ r.1 = .bool true := by
  refine own_run2 (n := n) (by rw [KX_other rfl rfl rfl]; rfl) Try.func9 rfl rfl ?_
  simp only [Try.f9]
  repeat' (first | refine Wp.seq ?_ | refine Wp.block ?_ | (apply Wp.region; focus ((try simp [setArgs, csz, hy]) <;> rfl)) | (refine Wp.cond_t ?_ ?_; focus (simp [setArgs, csz, hy]; done)) | (refine Wp.cond_f ?_ ?_; focus (simp [setArgs, csz, hy]; done)) | refine Wp.skip ?_ | refine Wp.ret ?_ | refine Wp.exit ?_ | refine Blk.here ?_ | (refine Blk.past ?_ ?_; focus (simp; done)))
  exact ⟨rfl, answer_trim1 (v := .bool true) (by simp) rfl⟩
end
theorem law_run (zss : List (List Int)) (hl0 : zss.length ≤ 9223372036854775807) (hl : ∀ zs, zs ∈ zss → zs.length ≤ 9223372036854775807) : ∃ n S, symRun Try.prog (KX XB) [] n 9 [patS zss] ⟨0, [], 0⟩ = some (.bool true, S) := by
  have out : (∃ n r, symRun Try.prog (KX XB) [] n 9 [patS zss] ⟨0, [], 0⟩ = some r ∧ r.1 = .bool true) → ∃ n S, symRun Try.prog (KX XB) [] n 9 [patS zss] ⟨0, [], 0⟩ = some (.bool true, S) := by
    rintro ⟨n, ⟨v, S⟩, h1, h2⟩
    cases h2
    exact ⟨n, S, h1⟩
  apply out
  obtain ⟨m, hm⟩ : ∃ m, m = zss.length + 1048600 := ⟨_, rfl⟩
  obtain ⟨y, csz, hy⟩ := szAll XB_no zss hl0 hl m (by omega)
  by_cases hy0 : y < 0
  · exact ⟨m + 3, law_wide csz hy0⟩
  rcases hy with hy | ⟨_, h0, hls⟩
  · exact (hy0 hy).elim
  obtain ⟨v2, S2, c2, w2, m2, n2, k2⟩ := copy2 XB_no zss h0 hls ⟨0, [], 0⟩ WS.zero m (by omega)
  have c3 := askCall XB_spec w2 (rows_at m2) h0 hls (m + 1) (by decide)
  obtain ⟨x1, S5, c5, w5, m5, n5, k5⟩ := copy2 XB_no zss h0 hls S2 w2 m (by omega)
  have c6 := askCall XB_impl w5 (rows_at m5) h0 hls (m + 1) (by decide)
  obtain ⟨v4, S8, c8, w8, m8, n8, k8⟩ := copy2 XB_no zss h0 hls S5 w5 m (by omega)
  have e8 := eq2 (X := XB) h0 hls w8 (rows_at (rows_keep m5 k8)) (rows_at m8) (m + 1)
  exact ⟨m + 3, law_walk csz hy0 c2 c3 c5 c6 c8 e8⟩
end Go.Proofs.Ytpjenggjcpahaaa.Bin

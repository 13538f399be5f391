/-
  Polynomials in the place of powers: the law at any lists, by a run by hand. No condition.
-/
import Derived.Test.YtpjenggjcpahaaaRows
import Derived.Test.YtpjenggjcpahaaaSym
import Derived.Test.YtpjenggjcpahaaaSymD
import Derived.Test.YtpjenggjcpahaaaSymE
import Derived.Test.YtpjenggjcpahaaaSymF
import Derived.Test.YtpjenggjcpahaaaIds
import Derived.Test.YtpjenggjcpahaaaSeq
import Derived.Test.YtpjenggjcpahaaaSeqB
import Derived.Test.YtpjenggjcpahaaaSeqC
import Derived.Test.YtpjenggjcpahaaaSeqE
import Derived.Test.YtpjenggjcpahaaaSeqF
import Derived.Test.YtpjenggjcpahaaaSeqG
import Derived.Test.YtpjenggjcpahaaaSeqH
import Derived.Test.YtpjenggjcpahaaaRow
import Derived.Test.YtpjenggjcpahaaaRowB
import Derived.Test.YtpjenggjcpahaaaRowC
import Derived.Test.YtpjenggjcpahaaaRep
import Derived.Test.YtpjenggjcpahaaaRepB
import Derived.WalkKit
import Derived.ProofKit
import Derived.OpenShut
namespace Go.Proofs.Ytpjenggjcpahaaa.Rep
open Go.ChangeShapes Go.WideShapes Go.ChangeAt Go.RowKit Go.Sx Go.Proofs.Ytpjenggjcpahaaa.Ids Go.Proofs.Ytpjenggjcpahaaa.Seq Go.Proofs.Ytpjenggjcpahaaa.Row
set_option linter.unusedVariables false
set_option linter.unusedSimpArgs false

noncomputable def XR : Ctr := orK (repK 28 repF) (repK 21 repF)
theorem XR_ok (ρ : Nat → Int) (s : Sms) (B : Nat) : COk Try.prog ⟨Sy.den ρ, s⟩ B (KX XR) :=
  KX_ok (orK_ok (repK_ok (body_of Try.func28 rfl) specRep_tells) (repK_ok (body_of Try.func21 rfl) implRep_tells))
theorem XR_no : NoX XR := by
  intro k hk args sto
  simp only [List.mem_cons, List.not_mem_nil, or_false] at hk
  rcases hk with rfl | rfl | rfl | rfl | rfl | rfl <;> rfl
theorem XR_spec (args : List (V Sy)) (sto : Sto Sy) : KX XR 28 args sto = repK 28 repF 28 args sto := by
  rw [KX_other rfl rfl rfl]
  unfold XR orK
  cases h : repK 28 repF 28 args sto with
  | none => rfl
  | some r => rfl
theorem XR_impl (args : List (V Sy)) (sto : Sto Sy) : KX XR 21 args sto = repK 21 repF 21 args sto := by
  rw [KX_other rfl rfl rfl]
  rfl
theorem repF_len (zs : List Int) (zss : List (List Int)) : ((repF zs zss).getD []).length ≤ 1048576 := by
  unfold repF
  split
  · split
    · split
      · rename_i h; have := h.2.2; simp at this ⊢; omega
      · simp
    · simp
  · simp
section
attribute [local simp] aops wants aop apure St.eval setTm_some setTm_none Tr.get_set aload evals pevals apureB tiS tiI tiB abin aint isCmp sym_lt sym_eqs sym_neqs sym_eq sym_neq sym_gtr sym_leq sym_geq sym_add sym_sub sym_mul aeff aeffB idx? ofV aindexAddr aggDesc aifc_int aun
set_option maxRecDepth 10000 in
theorem law_walk {n : Nat} {p q v1 v2 w0 x0 x1 g0 v3 v4 v5 v6 h0 : V Sy} {b : Bool} {S1 S2 S3 S4 S5 S6 S7 S8 S9 S10 S11 S12 S13 S14 : Sto Sy} {y c k1 l l2 : Int}
    (al : alen (symNum []) (tiOf Try.prog) 25 p = some (.int .i64 (.c l))) (hl : ¬ 1048576 < l)
    (csz : acallV (symIn Try.prog (KX XR) [] n) ⟨0, [], 0⟩ (.func 30 [] []) [q, .int .i64 (.c 1048576)] = some (.int .i64 (.c y), ⟨0, [], 0⟩)) (hy : ¬ y < 0)
    (c1 : acallV (symIn Try.prog (KX XR) [] n) ⟨0, [], 0⟩ (.func 37 [] []) [p] = some (v1, S1)) (c2 : acallV (symIn Try.prog (KX XR) [] n) S1 (.func 31 [] []) [q] = some (v2, S2))
    (c3 : acallV (symIn Try.prog (KX XR) [] n) S2 (.func 28 [] []) [v1, v2] = some (.tup [w0, .bool b], S3))
    (c4 : acallV (symIn Try.prog (KX XR) [] n) S3 (.func 37 [] []) [p] = some (x0, S4)) (c5 : acallV (symIn Try.prog (KX XR) [] n) S4 (.func 31 [] []) [q] = some (x1, S5))
    (c6 : acallV (symIn Try.prog (KX XR) [] n) S5 (.func 21 [] []) [x0, x1] = some (.tup [g0, .bool b], S6))
    (e6 : acallV (symIn Try.prog (KX XR) [] n) S6 (.func 38 [] []) [g0, w0] = some (.bool true, S6))
    (c7 : acallV (symIn Try.prog (KX XR) [] n) S6 (.func 37 [] []) [p] = some (v3, S7)) (e7 : acallV (symIn Try.prog (KX XR) [] n) S7 (.func 38 [] []) [x0, v3] = some (.bool true, S7))
    (c8 : acallV (symIn Try.prog (KX XR) [] n) S7 (.func 31 [] []) [q] = some (v4, S8)) (e8 : acallV (symIn Try.prog (KX XR) [] n) S8 (.func 33 [] []) [x1, v4] = some (.bool true, S8))
    (c9 : acallV (symIn Try.prog (KX XR) [] n) S8 (.func 39 [] []) [x0, .int .i64 (.c 1)] = some (.int .i64 (.c k1), S9)) (c10 : acallV (symIn Try.prog (KX XR) [] n) S9 (.func 34 [] []) [x1, .int .i64 (.c k1)] = some (.int .i64 (.c c), S10)) (hc : ¬ c < 0)
    (e10 : acallV (symIn Try.prog (KX XR) [] n) S10 (.func 38 [] []) [g0, w0] = some (.bool true, S10))
    (c11 : acallV (symIn Try.prog (KX XR) [] n) S10 (.func 39 [] []) [g0, .int .i64 (.c 1)] = some (.int .i64 (.c l2), S11)) (d11 : acallV (symIn Try.prog (KX XR) [] n) S11 (.func 40 [] []) [g0, .int .i64 (.c 1)] = some (.int .i64 (.c l2), S11)) (hl2 : ¬ l2 < 0)
    (c12 : acallV (symIn Try.prog (KX XR) [] n) S11 (.func 37 [] []) [p] = some (v5, S12)) (c13 : acallV (symIn Try.prog (KX XR) [] n) S12 (.func 31 [] []) [q] = some (v6, S13))
    (c14 : acallV (symIn Try.prog (KX XR) [] n) S13 (.func 21 [] []) [v5, v6] = some (.tup [h0, .bool b], S14))
    (e14 : acallV (symIn Try.prog (KX XR) [] n) S14 (.func 38 [] []) [h0, w0] = some (.bool true, S14)) (d14 : acallV (symIn Try.prog (KX XR) [] n) S14 (.func 40 [] []) [g0, .int .i64 (.c 1)] = some (.int .i64 (.c l2), S14)) :
    ∃ r, symRun Try.prog (KX XR) [] (n + 1) 10 [p, q] ⟨0, [], 0⟩ = some r ∧ r.1 = .bool true := by
  refine own_run2 (n := n) (by rw [KX_other rfl rfl rfl]; rfl) Try.func10 rfl rfl ?_
  simp only [Try.f10]
  cases b with
  | false =>
    repeat' (first | refine Wp.seq ?_ | refine Wp.block ?_ | (apply Wp.region; focus ((try simp [setArgs, al, hl, csz, hy, c1, c2, c3, c4, c5, c6, e6, c7, e7, c8, e8, c9, c10, hc, e10, c11, d11, hl2, c12, c13, c14, e14, d14]) <;> rfl)) | (refine Wp.cond_t ?_ ?_; focus (simp [setArgs, al, hl, csz, hy, c1, c2, c3, c4, c5, c6, e6, c7, e7, c8, e8, c9, c10, hc, e10, c11, d11, hl2, c12, c13, c14, e14, d14]; done)) | (refine Wp.cond_f ?_ ?_; focus (simp [setArgs, al, hl, csz, hy, c1, c2, c3, c4, c5, c6, e6, c7, e7, c8, e8, c9, c10, hc, e10, c11, d11, hl2, c12, c13, c14, e14, d14]; done)) | refine Wp.skip ?_ | refine Wp.ret ?_ | refine Wp.exit ?_ | refine Blk.here ?_ | (refine Blk.past ?_ ?_; focus (simp; done)))
    exact ⟨rfl, answer_trim1 (v := .bool true) (by simp) rfl⟩
  | true =>
    repeat' (first | refine Wp.seq ?_ | refine Wp.block ?_ | (apply Wp.region; focus ((try simp [setArgs, al, hl, csz, hy, c1, c2, c3, c4, c5, c6, e6, c7, e7, c8, e8, c9, c10, hc, e10, c11, d11, hl2, c12, c13, c14, e14, d14]) <;> rfl)) | (refine Wp.cond_t ?_ ?_; focus (simp [setArgs, al, hl, csz, hy, c1, c2, c3, c4, c5, c6, e6, c7, e7, c8, e8, c9, c10, hc, e10, c11, d11, hl2, c12, c13, c14, e14, d14]; done)) | (refine Wp.cond_f ?_ ?_; focus (simp [setArgs, al, hl, csz, hy, c1, c2, c3, c4, c5, c6, e6, c7, e7, c8, e8, c9, c10, hc, e10, c11, d11, hl2, c12, c13, c14, e14, d14]; done)) | refine Wp.skip ?_ | refine Wp.ret ?_ | refine Wp.exit ?_ | refine Blk.here ?_ | (refine Blk.past ?_ ?_; focus (simp; done)))
    exact ⟨rfl, answer_trim1 (v := .bool true) (by simp) rfl⟩
set_option maxRecDepth 10000 in
theorem law_long {n : Nat} {p q : V Sy} {l : Int} (al : alen (symNum []) (tiOf Try.prog) 25 p = some (.int .i64 (.c l))) (hl : 1048576 < l) : ∃ r, symRun Try.prog (KX XR) [] (n + 1) 10 [p, q] ⟨0, [], 0⟩ = some r ∧ r.1 = .bool true := by
  refine own_run2 (n := n) (by rw [KX_other rfl rfl rfl]; rfl) Try.func10 rfl rfl ?_
  simp only [Try.f10]
  repeat' (first | refine Wp.seq ?_ | refine Wp.block ?_ | (apply Wp.region; focus ((try simp [setArgs, al, hl]) <;> rfl)) | (refine Wp.cond_t ?_ ?_; focus (simp [setArgs, al, hl]; done)) | (refine Wp.cond_f ?_ ?_; focus (simp [setArgs, al, hl]; done)) | refine Wp.skip ?_ | refine Wp.ret ?_ | refine Wp.exit ?_ | refine Blk.here ?_ | (refine Blk.past ?_ ?_; focus (simp; done)))
  exact ⟨rfl, answer_trim1 (v := .bool true) (by simp) rfl⟩
set_option maxRecDepth 10000 in
theorem law_wide {n : Nat} {p q : V Sy} {l y : Int} (al : alen (symNum []) (tiOf Try.prog) 25 p = some (.int .i64 (.c l))) (hl : ¬ 1048576 < l)
    (csz : acallV (symIn Try.prog (KX XR) [] n) ⟨0, [], 0⟩ (.func 30 [] []) [q, .int .i64 (.c 1048576)] = some (.int .i64 (.c y), ⟨0, [], 0⟩)) (hy : y < 0) : ∃ r, symRun Try.prog (KX XR) [] (n + 1) 10 [p, q] ⟨0, [], 0⟩ = some r ∧ r.1 = .bool true := by
  refine own_run2 (n := n) (by rw [KX_other rfl rfl rfl]; rfl) Try.func10 rfl rfl ?_
  simp only [Try.f10]
  repeat' (first | refine Wp.seq ?_ | refine Wp.block ?_ | (apply Wp.region; focus ((try simp [setArgs, al, hl, csz, hy]) <;> rfl)) | (refine Wp.cond_t ?_ ?_; focus (simp [setArgs, al, hl, csz, hy]; done)) | (refine Wp.cond_f ?_ ?_; focus (simp [setArgs, al, hl, csz, hy]; done)) | refine Wp.skip ?_ | refine Wp.ret ?_ | refine Wp.exit ?_ | refine Blk.here ?_ | (refine Blk.past ?_ ?_; focus (simp; done)))
  exact ⟨rfl, answer_trim1 (v := .bool true) (by simp) rfl⟩
end
theorem law_run (zs : List Int) (zss : List (List Int)) (hz : zs.length ≤ 9223372036854775807) (hl0 : zss.length ≤ 9223372036854775807) (hl : ∀ zs, zs ∈ zss → zs.length ≤ 9223372036854775807) : ∃ n S, symRun Try.prog (KX XR) [] n 10 [patL zs, patS zss] ⟨0, [], 0⟩ = some (.bool true, S) := by
  have out : (∃ n r, symRun Try.prog (KX XR) [] n 10 [patL zs, patS zss] ⟨0, [], 0⟩ = some r ∧ r.1 = .bool true) → ∃ n S, symRun Try.prog (KX XR) [] n 10 [patL zs, patS zss] ⟨0, [], 0⟩ = some (.bool true, S) := by
    rintro ⟨n, ⟨v, S⟩, h1, h2⟩
    cases h2
    exact ⟨n, S, h1⟩
  apply out
  have al := alen_patL zs
  obtain ⟨m, hm⟩ : ∃ m, m = zss.length + 1048600 := ⟨_, rfl⟩
  by_cases hl1 : (1048576 : Int) < (zs.length : Int)
  · exact ⟨m + 3, law_long al hl1⟩
  obtain ⟨y, csz, hy⟩ := szAll XR_no zss hl0 hl m (by omega)
  by_cases hy0 : y < 0
  · exact ⟨m + 3, law_wide al hl1 csz hy0⟩
  rcases hy with hy | ⟨_, h0, hls⟩
  · exact (hy0 hy).elim
  have h1 : zs.length ≤ 1048576 := by omega
  have ho := repF_len zs zss
  obtain ⟨v1, S1, c1, w1, m1, n1, k1⟩ := copy1 (X := XR) zs h1 ⟨0, [], 0⟩ WS.zero (m + 1)
  obtain ⟨v2, S2, c2, w2, m2, n2, k2⟩ := copy2 XR_no zss h0 hls S1 w1 m (by omega)
  obtain ⟨w0, S3, c3, w3, k3, n3, g3⟩ := repCall XR_spec w2 (list_at (made_keep m1 k2)) (rows_at m2) h1 h0 hls (m + 1) (by decide)
  obtain ⟨x0, S4, c4, w4, m4, n4, k4⟩ := copy1 (X := XR) zs h1 S3 w3 (m + 1)
  obtain ⟨x1, S5, c5, w5, m5, n5, k5⟩ := copy2 XR_no zss h0 hls S4 w4 m (by omega)
  obtain ⟨g0, S6, c6, w6, k6, n6, g6⟩ := repCall XR_impl w5 (list_at (made_keep m4 k5)) (rows_at m5) h1 h0 hls (m + 1) (by decide)
  have wk6 : Keep S3 S6 := (k4.trans k5).trans k6
  have e6 := GV.eq (X := XR) w6 g6 (g3.keep (fun x hx => wk6 _ x hx)) ho (m + 1)
  obtain ⟨v3, S7, c7, w7, m7, n7, k7⟩ := copy1 (X := XR) zs h1 S6 w6 (m + 1)
  have e7 := eq1 (X := XR) h1 w7 (list_at (made_keep m4 ((k5.trans k6).trans k7))) (list_at m7) (m + 1)
  obtain ⟨v4, S8, c8, w8, m8, n8, k8⟩ := copy2 XR_no zss h0 hls S7 w7 m (by omega)
  have e8 := eq2 (X := XR) h0 hls w8 (rows_at (rows_keep m5 ((k6.trans k7).trans k8))) (rows_at m8) (m + 1)
  obtain ⟨S9, c9, d9, _⟩ := mark1 XR_no zs 1 ⟨by omega, by omega⟩ h1 S8 w8 S3.next x0 (made_keep m4 (((k5.trans k6).trans k7).trans k8)) (m + 1) (by omega)
  have r9 : IsS S9.obs S4.next zss x1 := by
    have r8 := rows_keep m5 ((k6.trans k7).trans k8)
    refine ⟨r8.val, ?_, fun j z hj => ?_⟩
    · rw [d9.other _ (by omega)]; exact r8.obj
    · rw [d9.other _ (by omega)]; exact r8.row j z hj
  obtain ⟨c, S10, c10, hc, d10⟩ := mark2 XR_no zss (1 + (zs.length : Int)) ⟨by omega, by omega⟩ h0 hls S9 d9.ws S4.next x1 r9 m (by omega) (by omega)
  have lt5 : S4.next + (zss.length + 1) ≤ S5.next := by
    cases hz : zss.length with
    | zero =>
      have := w5.desc.look_lt m5.obj
      omega
    | succ n =>
      have hn : zss[n]? = some (zss[n]'(by omega)) := List.getElem?_eq_getElem (by omega)
      have := w5.desc.look_lt (m5.row n _ hn)
      omega
  have gw6 : GV S6 (repF zs zss) S2.next w0 := g3.keep (fun x hx => wk6 _ x hx)
  have old : ∀ q, (q < S3.next ∨ S5.next ≤ q) → ∀ x, Go.Sx.look S6.obs q = some x → Go.Sx.look S10.obs q = some x := fun q hq x hx => by
    rw [d10.other _ (by omega), d9.other _ (by omega)]
    exact (k7.trans k8) _ x hx
  have gw10 : GV S10 (repF zs zss) S2.next w0 := by
    rcases gw6 with h | ⟨ys, h1', h2'⟩
    · exact .inl h
    · rcases g3 with ⟨h3', _⟩ | ⟨ys3, h3', h4'⟩
      · rw [h3'] at h1'; cases h1'
      · exact .inr ⟨ys, h1', h2'.val, old _ (.inl (w3.desc.look_lt h4'.obj)) _ h2'.obj⟩
  have gg10 : GV S10 (repF zs zss) S5.next g0 := g6.keep (old _ (.inr (Nat.le_refl _)))
  have e10 := GV.eq (X := XR) d10.ws gg10 gw10 ho (m + 1)
  obtain ⟨S11, c11, d11, hd⟩ := GV.mark XR_no d10.ws gg10 ho (m + 1) (by omega)
  have h11 := hd S11 d11.ws (fun x hx => hx)
  obtain ⟨v5, S12, c12, w12, m12, n12, k12⟩ := copy1 (X := XR) zs h1 S11 d11.ws (m + 1)
  obtain ⟨v6, S13, c13, w13, m13, n13, k13⟩ := copy2 XR_no zss h0 hls S12 w12 m (by omega)
  obtain ⟨h0', S14, c14, w14, k14, n14, g14⟩ := repCall XR_impl w13 (list_at (made_keep m12 k13)) (rows_at m13) h1 h0 hls (m + 1) (by decide)
  have gw14 : GV S14 (repF zs zss) S2.next w0 := by
    rcases gw10 with h | ⟨ys, h1', h2'⟩
    · exact .inl h
    · rcases g3 with ⟨h3', _⟩ | ⟨ys3, h3', h4'⟩
      · rw [h3'] at h1'; cases h1'
      · have hlt := w3.desc.look_lt h4'.obj
        have h5 := h2'.obj
        rw [← d11.other S2.next (by omega)] at h5
        exact .inr ⟨ys, h1', h2'.val, ((k12.trans k13).trans k14) _ _ h5⟩
  have e14 := GV.eq (X := XR) w14 g14 gw14 ho (m + 1)
  have h14 := hd S14 w14 (fun x hx => ((k12.trans k13).trans k14) _ x hx)
  exact ⟨m + 3, law_walk al hl1 csz hy0 c1 c2 c3 c4 c5 c6 e6 c7 e7 c8 e8 c9 c10 (by omega) e10 c11 h11 (by omega) c12 c13 c14 e14 h14⟩
end Go.Proofs.Ytpjenggjcpahaaa.Rep

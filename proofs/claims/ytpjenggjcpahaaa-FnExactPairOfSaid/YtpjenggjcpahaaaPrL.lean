/-
  Pairs of arrays: the law at any rows, by a run by hand. No condition.
-/
import Derived.Test.YtpjenggjcpahaaaRows
import Derived.Test.YtpjenggjcpahaaaSym
import Derived.Test.YtpjenggjcpahaaaSymD
import Derived.Test.YtpjenggjcpahaaaSymE
import Derived.Test.YtpjenggjcpahaaaSymF
import Derived.Test.YtpjenggjcpahaaaIds
import Derived.Test.YtpjenggjcpahaaaSeq
import Derived.Test.YtpjenggjcpahaaaSeqB
import Derived.Test.YtpjenggjcpahaaaSeqC
import Derived.Test.YtpjenggjcpahaaaSeqE
import Derived.Test.YtpjenggjcpahaaaSeqF
import Derived.Test.YtpjenggjcpahaaaSeqG
import Derived.Test.YtpjenggjcpahaaaSeqH
import Derived.Test.YtpjenggjcpahaaaRow
import Derived.Test.YtpjenggjcpahaaaRowB
import Derived.Test.YtpjenggjcpahaaaRowC
import Derived.Test.YtpjenggjcpahaaaRowD
import Derived.Test.YtpjenggjcpahaaaPr
import Derived.Test.YtpjenggjcpahaaaPrM
import Derived.Test.YtpjenggjcpahaaaPrF
import Derived.Test.YtpjenggjcpahaaaPrN
import Derived.WalkKit
import Derived.ProofKit
import Derived.OpenShut
namespace Go.Proofs.Ytpjenggjcpahaaa.Pr
open Go.ChangeShapes Go.WideShapes Go.ChangeAt Go.RowKit Go.Sx Go.Proofs.Ytpjenggjcpahaaa.Ids Go.Proofs.Ytpjenggjcpahaaa.Seq Go.Proofs.Ytpjenggjcpahaaa.Row
set_option linter.unusedVariables false
set_option linter.unusedSimpArgs false

/-- Numbers as a machine has them. -/
def nrmB (zss : List (List Int)) : Bool := zss.all fun zs => zs.all fun z => ieq (IntKind.i64.wrap z) z
theorem nrmB_iff {zss : List (List Int)} : nrmB zss = true ↔ ∀ r, r ∈ zss → ∀ z, z ∈ r → IntKind.i64.wrap z = z := by
  unfold nrmB
  rw [List.all_eq_true]
  constructor
  · intro h r hr z hz
    have := List.all_eq_true.1 (h r hr) z hz
    rw [ieq_eq] at this
    exact eq_of_beq this
  · intro h r hr
    rw [List.all_eq_true]
    intro z hz
    rw [ieq_eq, h r hr z hz]; simp
/-- The contract of a function of rows that answers a pair, and whether there is one. -/
noncomputable def pairK (k0 : FuncId) (F : List (List Int) → Option (List Int × List Int)) : Ctr := fun k args sto =>
  bite (Nat.beq k k0) (match args with
  | [y] => match rowsOf sto y with
    | some zss => bite (Nat.ble zss.length 1048576) (bite (zss.all fun zs => Nat.ble zs.length 1048576) (bite (nrmB zss) (some (pairR (F zss) sto.next, ⟨sto.next + (pairO (F zss) sto.next).length, numO sto.next (pairO (F zss) sto.next) sto.obs, sto.low⟩)) none) none) none
    | none => none
  | _ => none) none
theorem pairK_ok {k0 : FuncId} {F : List (List Int) → Option (List Int × List Int)} (hb : ∃ fn, Try.prog.funcs[k0]? = some fn ∧ fn.body.isSome = true)
    (hF : ∀ zss : List (List Int), zss.length ≤ 1048576 → (∀ r, r ∈ zss → ∀ z, z ∈ r → IntKind.i64.wrap z = z) → Tells Try.prog k0 [patS zss] (pairR (F zss)) (pairO (F zss))) {ρ : Nat → Int} {s : Sms} {B : Nat} : COk Try.prog ⟨Sy.den ρ, s⟩ B (pairK k0 F) := by
  intro k args sto r sto' h
  unfold pairK at h
  rw [bite_eq] at h
  split at h
  case isFalse => cases h
  rename_i hk
  have hk := Nat.eq_of_beq_eq_true hk
  subst hk
  split at h
  case h_2 => cases h
  rename_i y
  split at h
  case h_2 => cases h
  rename_i zss hzs
  simp only [bite_eq] at h
  split at h
  case isFalse => cases h
  rename_i h0
  split at h
  case isFalse => cases h
  rename_i h2
  split at h
  case isFalse => cases h
  rename_i h3
  rw [Nat.ble_eq] at h0
  have hl : ∀ zs, zs ∈ zss → zs.length ≤ 1048576 := fun zs hzs => by
    have := List.all_eq_true.1 h2 zs hzs
    rwa [Nat.ble_eq] at this
  cases h
  refine ⟨(hF zss h0 (nrmB_iff.1 h3)).good (fun c hinv vs hv ρ' => ?_), hb⟩
  obtain ⟨v, rfl, hv2⟩ := hv.one
  exact .cons (patS_rel hzs hl hinv hv2) .nil
noncomputable def XP : Ctr := orK (pairK 13 pF) (pairK 12 pF)
theorem XP_ok (ρ : Nat → Int) (s : Sms) (B : Nat) : COk Try.prog ⟨Sy.den ρ, s⟩ B (KX XP) :=
  KX_ok (orK_ok (pairK_ok (body_of Try.func13 rfl) (fun zss h hn => specPair_tells h hn)) (pairK_ok (body_of Try.func12 rfl) (fun zss h hn => implPair_tells h hn)))
theorem XP_no : NoX XP := by
  intro k hk args sto
  simp only [List.mem_cons, List.not_mem_nil, or_false] at hk
  rcases hk with rfl | rfl | rfl | rfl | rfl | rfl <;> rfl
theorem XP_noP : NoP XP := by
  intro k hk args sto
  simp only [List.mem_cons, List.not_mem_nil, or_false] at hk
  rcases hk with rfl | rfl | rfl <;> rfl
theorem XP_spec (args : List (V Sy)) (sto : Sto Sy) : KX XP 13 args sto = pairK 13 pF 13 args sto := by
  rw [KX_other rfl rfl rfl]
  unfold XP orK
  cases h : pairK 13 pF 13 args sto with
  | none => rfl
  | some r => rfl
theorem XP_impl (args : List (V Sy)) (sto : Sto Sy) : KX XP 12 args sto = pairK 12 pF 12 args sto := by
  rw [KX_other rfl rfl rfl]
  rfl
theorem pairCall {X : Ctr} {k : FuncId} {F : List (List Int) → Option (List Int × List Int)} (hk : ∀ args sto, KX X k args sto = pairK k F k args sto) {S : Sto Sy} (hS : WS S) {u : V Sy} {zss : List (List Int)} (hu : rowsOf ⟨S.next, S.obs, S.next⟩ u = some zss)
    (h0 : zss.length ≤ 1048576) (h2 : ∀ zs, zs ∈ zss → zs.length ≤ 1048576) (hn : ∀ r, r ∈ zss → ∀ z, z ∈ r → IntKind.i64.wrap z = z) (f : Nat) (hk9 : (k : Nat) < 1000000) :
    ∃ a b S', acallV (symIn Try.prog (KX X) [] (f + 1)) S (.func k [] []) [u] = some (.tup [.agg [a, b], .bool (F zss).isSome], S') ∧ WS S' ∧ Keep S S' ∧ S.next ≤ S'.next ∧ PV S' (F zss) S.next a b ∧ ((F zss).isSome = true → S.next + 2 ≤ S'.next) := by
  have e : KX X k [u] ⟨S.next, S.obs, S.next⟩ = some (pairR (F zss) S.next, ⟨S.next + (pairO (F zss) S.next).length, numO S.next (pairO (F zss) S.next) S.obs, S.next⟩) := by
    rw [hk]
    unfold pairK
    have b0 : Nat.ble zss.length 1048576 = true := by rw [Nat.ble_eq]; exact h0
    have b2 : (zss.all fun zs => Nat.ble zs.length 1048576) = true := by rw [List.all_eq_true]; intro zs hzs; rw [Nat.ble_eq]; exact h2 zs hzs
    have bk : Nat.beq k k = true := Nat.beq_refl k
    simp only [bk, hu, b0, b2, nrmB_iff.2 hn, bite_true]
  have h := call_K (P := Try.prog) (n := f) (hk := hk9) e
  have hlow := hS.low
  cases hF : F zss with
  | none =>
    rw [hF] at h
    refine ⟨.nil, .nil, _, h, ⟨hS.desc, ?_⟩, Keep.refl _, Nat.le_refl _, .inl ⟨rfl, rfl, rfl⟩, fun h => by cases h⟩
    show (if S.next < S.low then S.next else S.low) ≤ S.next
    split <;> omega
  | some p =>
    rw [hF] at h
    refine ⟨.rsl S.next 0 p.1.length none, .rsl (S.next + 1) 0 p.2.length none, _, h, ⟨⟨Nat.lt_succ_self _, Nat.lt_succ_self _, hS.desc⟩, ?_⟩, fun q x hq => ?_, Nat.le_add_right _ _, .inr ⟨p, rfl, ⟨.inl rfl, ?_⟩, ⟨.inl rfl, ?_⟩⟩, fun _ => Nat.le_refl _⟩
    · show (if S.next < S.low then S.next else S.low) ≤ S.next + 2
      split <;> omega
    · show Go.Sx.look ((S.next + 1, ints (nums p.2)) :: (S.next, ints (nums p.1)) :: S.obs) q = _
      have := hS.desc.look_lt hq
      rw [look_cons, if_neg (by omega), look_cons, if_neg (by omega)]; exact hq
    · show Go.Sx.look ((S.next + 1, ints (nums p.2)) :: (S.next, ints (nums p.1)) :: S.obs) S.next = _
      rw [look_cons, if_neg (by omega), look_cons, if_pos rfl]
    · show Go.Sx.look ((S.next + 1, ints (nums p.2)) :: (S.next, ints (nums p.1)) :: S.obs) (S.next + 1) = _
      rw [look_cons, if_pos rfl]
theorem pF_len {zss : List (List Int)} {p : List Int × List Int} (h : pF zss = some p) : p.1.length ≤ 1048576 ∧ p.2.length ≤ 1048576 := by
  unfold pF at h
  split at h
  · rename_i hp
    cases h
    have := hp.2.1
    simp only [col_len, quo_len]
    omega
  · cases h
section
attribute [local simp] aops wants aop apure St.eval setTm_some setTm_none Tr.get_set evals pevals apureB tiS tiI tiB abin aint isCmp sym_lt sym_eqs sym_neqs sym_eq sym_neq sym_gtr sym_leq sym_geq sym_add sym_sub sym_mul aeff aeffB idx? ofV aindexAddr aggDesc aifc_int aun
set_option maxRecDepth 10000 in
theorem law_walk {n : Nat} {q v2 x0 w1 w2 g1 g2 h1 h2 v4 v6 : V Sy} {b : Bool} {S2 S3 C3 S5 S6 C6 S7 S8 S10 S11 S12 S13 S14 S15 C15 S16 S17 : Sto Sy} {y c l2 : Int}
    (csz : acallV (symIn Try.prog (KX XP) [] n) ⟨0, [], 0⟩ (.func 30 [] []) [q, .int .i64 (.c 1048576)] = some (.int .i64 (.c y), ⟨0, [], 0⟩)) (hy : ¬ y < 0)
    (c2 : acallV (symIn Try.prog (KX XP) [] n) ⟨0, [], 0⟩ (.func 31 [] []) [q] = some (v2, S2))
    (c3 : acallV (symIn Try.prog (KX XP) [] n) S2 (.func 13 [] []) [v2] = some (.tup [.agg [w1, w2], .bool b], S3))
    (a3 : aalloc (symNum []) (tiOf Try.prog) S3 27 = some (.ptr S3.next 0, S3.new [.nil, .nil])) (t3 : astore (tiOf Try.prog) (S3.new [.nil, .nil]) 27 (.ptr S3.next 0) (.agg [w1, w2]) = some C3)
    (c5 : acallV (symIn Try.prog (KX XP) [] n) C3 (.func 31 [] []) [q] = some (x0, S5))
    (c6 : acallV (symIn Try.prog (KX XP) [] n) S5 (.func 12 [] []) [x0] = some (.tup [.agg [g1, g2], .bool b], S6))
    (a6 : aalloc (symNum []) (tiOf Try.prog) S6 27 = some (.ptr S6.next 0, S6.new [.nil, .nil])) (t6 : astore (tiOf Try.prog) (S6.new [.nil, .nil]) 27 (.ptr S6.next 0) (.agg [g1, g2]) = some C6)
    (lw6 : aload (tiOf Try.prog) C6 27 (.ptr S3.next 0) = some (.agg [w1, w2])) (lg6 : aload (tiOf Try.prog) C6 27 (.ptr S6.next 0) = some (.agg [g1, g2]))
    (e7 : acallV (symIn Try.prog (KX XP) [] n) C6 (.func 32 [] []) [.agg [g1, g2], .agg [w1, w2]] = some (.bool true, S7))
    (c8 : acallV (symIn Try.prog (KX XP) [] n) S7 (.func 31 [] []) [q] = some (v4, S8)) (e8 : acallV (symIn Try.prog (KX XP) [] n) S8 (.func 33 [] []) [x0, v4] = some (.bool true, S8))
    (c10 : acallV (symIn Try.prog (KX XP) [] n) S8 (.func 34 [] []) [x0, .int .i64 (.c 1)] = some (.int .i64 (.c c), S10)) (hc : ¬ c < 0)
    (lw10 : aload (tiOf Try.prog) S10 27 (.ptr S3.next 0) = some (.agg [w1, w2])) (lg10 : aload (tiOf Try.prog) S10 27 (.ptr S6.next 0) = some (.agg [g1, g2]))
    (e11 : acallV (symIn Try.prog (KX XP) [] n) S10 (.func 32 [] []) [.agg [g1, g2], .agg [w1, w2]] = some (.bool true, S11))
    (lg11 : aload (tiOf Try.prog) S11 27 (.ptr S6.next 0) = some (.agg [g1, g2]))
    (c12 : acallV (symIn Try.prog (KX XP) [] n) S11 (.func 35 [] []) [.agg [g1, g2], .int .i64 (.c 1)] = some (.int .i64 (.c l2), S12))
    (lg12 : aload (tiOf Try.prog) S12 27 (.ptr S6.next 0) = some (.agg [g1, g2]))
    (c13 : acallV (symIn Try.prog (KX XP) [] n) S12 (.func 36 [] []) [.agg [g1, g2], .int .i64 (.c 1)] = some (.int .i64 (.c l2), S13)) (hl2 : ¬ l2 < 0)
    (c14 : acallV (symIn Try.prog (KX XP) [] n) S13 (.func 31 [] []) [q] = some (v6, S14))
    (c15 : acallV (symIn Try.prog (KX XP) [] n) S14 (.func 12 [] []) [v6] = some (.tup [.agg [h1, h2], .bool b], S15))
    (a15 : aalloc (symNum []) (tiOf Try.prog) S15 27 = some (.ptr S15.next 0, S15.new [.nil, .nil])) (t15 : astore (tiOf Try.prog) (S15.new [.nil, .nil]) 27 (.ptr S15.next 0) (.agg [h1, h2]) = some C15)
    (lw15 : aload (tiOf Try.prog) C15 27 (.ptr S3.next 0) = some (.agg [w1, w2])) (lh15 : aload (tiOf Try.prog) C15 27 (.ptr S15.next 0) = some (.agg [h1, h2]))
    (e16 : acallV (symIn Try.prog (KX XP) [] n) C15 (.func 32 [] []) [.agg [h1, h2], .agg [w1, w2]] = some (.bool true, S16))
    (lg16 : aload (tiOf Try.prog) S16 27 (.ptr S6.next 0) = some (.agg [g1, g2]))
    (c17 : acallV (symIn Try.prog (KX XP) [] n) S16 (.func 36 [] []) [.agg [g1, g2], .int .i64 (.c 1)] = some (.int .i64 (.c l2), S17)) :
    ∃ r, symRun Try.prog (KX XP) [] (n + 1) 7 [q] ⟨0, [], 0⟩ = some r ∧ r.1 = .bool true := by
  refine own_run2 (n := n) (by rw [KX_other rfl rfl rfl]; rfl) Try.func7 rfl rfl ?_
  simp only [Try.f7]
  cases b with
  | false =>
    repeat' (first | refine Wp.seq ?_ | refine Wp.block ?_ | (apply Wp.region; focus ((try simp [setArgs, csz, hy, c2, c3, a3, t3, c5, c6, a6, t6, lw6, lg6, e7, c8, e8, c10, hc, lw10, lg10, e11, lg11, c12, lg12, c13, hl2, c14, c15, a15, t15, lw15, lh15, e16, lg16, c17]) <;> rfl)) | (refine Wp.cond_t ?_ ?_; focus (simp [setArgs, csz, hy, c2, c3, a3, t3, c5, c6, a6, t6, lw6, lg6, e7, c8, e8, c10, hc, lw10, lg10, e11, lg11, c12, lg12, c13, hl2, c14, c15, a15, t15, lw15, lh15, e16, lg16, c17]; done)) | (refine Wp.cond_f ?_ ?_; focus (simp [setArgs, csz, hy, c2, c3, a3, t3, c5, c6, a6, t6, lw6, lg6, e7, c8, e8, c10, hc, lw10, lg10, e11, lg11, c12, lg12, c13, hl2, c14, c15, a15, t15, lw15, lh15, e16, lg16, c17]; done)) | refine Wp.skip ?_ | refine Wp.ret ?_ | refine Wp.exit ?_ | refine Blk.here ?_ | (refine Blk.past ?_ ?_; focus (simp; done)))
    exact ⟨rfl, answer_trim1 (v := .bool true) (by simp) rfl⟩
  | true =>
    repeat' (first | refine Wp.seq ?_ | refine Wp.block ?_ | (apply Wp.region; focus ((try simp [setArgs, csz, hy, c2, c3, a3, t3, c5, c6, a6, t6, lw6, lg6, e7, c8, e8, c10, hc, lw10, lg10, e11, lg11, c12, lg12, c13, hl2, c14, c15, a15, t15, lw15, lh15, e16, lg16, c17]) <;> rfl)) | (refine Wp.cond_t ?_ ?_; focus (simp [setArgs, csz, hy, c2, c3, a3, t3, c5, c6, a6, t6, lw6, lg6, e7, c8, e8, c10, hc, lw10, lg10, e11, lg11, c12, lg12, c13, hl2, c14, c15, a15, t15, lw15, lh15, e16, lg16, c17]; done)) | (refine Wp.cond_f ?_ ?_; focus (simp [setArgs, csz, hy, c2, c3, a3, t3, c5, c6, a6, t6, lw6, lg6, e7, c8, e8, c10, hc, lw10, lg10, e11, lg11, c12, lg12, c13, hl2, c14, c15, a15, t15, lw15, lh15, e16, lg16, c17]; done)) | refine Wp.skip ?_ | refine Wp.ret ?_ | refine Wp.exit ?_ | refine Blk.here ?_ | (refine Blk.past ?_ ?_; focus (simp; done)))
    exact ⟨rfl, answer_trim1 (v := .bool true) (by simp) rfl⟩
set_option maxRecDepth 10000 in
theorem law_wide {n : Nat} {q : V Sy} {y : Int}
    (csz : acallV (symIn Try.prog (KX XP) [] n) ⟨0, [], 0⟩ (.func 30 [] []) [q, .int .i64 (.c 1048576)] = some (.int .i64 (.c y), ⟨0, [], 0⟩)) (hy : y < 0) : ∃ r, symRun Try.prog (KX XP) [] (n + 1) 7 [q] ⟨0, [], 0⟩ = some r ∧ r.1 = .bool true := by
  refine own_run2 (n := n) (by rw [KX_other rfl rfl rfl]; rfl) Try.func7 rfl rfl ?_
  simp only [Try.f7]
  repeat' (first | refine Wp.seq ?_ | refine Wp.block ?_ | (apply Wp.region; focus ((try simp [setArgs, csz, hy]) <;> rfl)) | (refine Wp.cond_t ?_ ?_; focus (simp [setArgs, csz, hy]; done)) | (refine Wp.cond_f ?_ ?_; focus (simp [setArgs, csz, hy]; done)) | refine Wp.skip ?_ | refine Wp.ret ?_ | refine Wp.exit ?_ | refine Blk.here ?_ | (refine Blk.past ?_ ?_; focus (simp; done)))
  exact ⟨rfl, answer_trim1 (v := .bool true) (by simp) rfl⟩
end
theorem law_run (zss : List (List Int)) (hl0 : zss.length ≤ 9223372036854775807) (hl : ∀ zs, zs ∈ zss → zs.length ≤ 9223372036854775807) (hn : ∀ r, r ∈ zss → ∀ z, z ∈ r → IntKind.i64.wrap z = z) : ∃ n S, symRun Try.prog (KX XP) [] n 7 [patS zss] ⟨0, [], 0⟩ = some (.bool true, S) := by
  have out : (∃ n r, symRun Try.prog (KX XP) [] n 7 [patS zss] ⟨0, [], 0⟩ = some r ∧ r.1 = .bool true) → ∃ n S, symRun Try.prog (KX XP) [] n 7 [patS zss] ⟨0, [], 0⟩ = some (.bool true, S) := by
    rintro ⟨n, ⟨v, S⟩, h1, h2⟩
    cases h2
    exact ⟨n, S, h1⟩
  apply out
  obtain ⟨m, hm⟩ : ∃ m, m = zss.length + 1048600 := ⟨_, rfl⟩
  obtain ⟨y, csz, hy⟩ := szAll XP_no zss hl0 hl m (by omega)
  by_cases hy0 : y < 0
  · exact ⟨m + 3, law_wide csz hy0⟩
  rcases hy with hy | ⟨_, h0, hls⟩
  · exact (hy0 hy).elim
  have hF : ∀ p, pF zss = some p → p.1.length ≤ 1048576 ∧ p.2.length ≤ 1048576 := fun p hp => pF_len hp
  obtain ⟨v2, S2, c2, w2, m2, n2, k2⟩ := copy2 XP_no zss h0 hls ⟨0, [], 0⟩ WS.zero m (by omega)
  obtain ⟨wa, wb, S3, c3, w3, k3, n3, p3, z3⟩ := pairCall XP_spec w2 (rows_at m2) h0 hls hn (m + 1) (by decide)
  obtain ⟨C3, t3, o3, on3, l3⟩ := cellP w3 p3.one.1 p3.one.2
  obtain ⟨x0, S5, c5, w5, m5, n5, k5⟩ := copy2 XP_no zss h0 hls C3 o3.ws m (by omega)
  obtain ⟨ga, gb, S6, c6, w6, k6, n6, p6, z6⟩ := pairCall XP_impl w5 (rows_at m5) h0 hls hn (m + 1) (by decide)
  obtain ⟨C6, t6, o6, on6, l6⟩ := cellP w6 p6.one.1 p6.one.2
  have lt5 : C3.next + (zss.length + 1) ≤ S5.next := by
    cases hz : zss.length with
    | zero =>
      have := w5.desc.look_lt m5.obj
      omega
    | succ n =>
      have hn' : zss[n]? = some (zss[n]'(by omega)) := List.getElem?_eq_getElem (by omega)
      have := w5.desc.look_lt (m5.row n _ hn')
      omega
  have kC6 : Keep C3 C6 := (k5.trans k6).trans (o6.keep w6)
  have pw6 : PV C6 (pF zss) S2.next wa wb := p3.keep (fun k _ x hx => kC6 _ _ (o3.keep w3 _ _ hx))
  have pg6 : PV C6 (pF zss) S5.next ga gb := p6.keep (fun k _ x hx => o6.keep w6 _ _ hx)
  have cw6 : Go.Sx.look C6.obs S3.next = some [wa, wb] := kC6 _ _ l3
  obtain ⟨S7, e7, o7⟩ := eqPair1 (X := XP) XP_noP o6.ws pg6 pw6 hF m
  obtain ⟨v4, S8, c8, w8, m8, n8, k8⟩ := copy2 XP_no zss h0 hls S7 o7.ws m (by omega)
  have k68 : Keep C6 S8 := (o7.keep o6.ws).trans k8
  have r8 : IsS S8.obs C3.next zss x0 := rows_keep m5 ((k6.trans (o6.keep w6)).trans k68)
  have e8 := eq2 (X := XP) h0 hls w8 (rows_at r8) (rows_at m8) (m + 1)
  obtain ⟨c, S10, c10, hc, d10⟩ := mark2 XP_no zss 1 ⟨by omega, by omega⟩ h0 hls S8 w8 C3.next x0 r8 m (by omega) (by omega)
  -- what is no row of the copy is as it was
  have old10 : ∀ k x, (k < C3.next ∨ S5.next ≤ k) → Go.Sx.look C6.obs k = some x → Go.Sx.look S10.obs k = some x := fun k x hk hx => by
    rw [d10.other k (by omega)]; exact k68 _ _ hx
  have ltS3 : (pF zss).isSome = true → S2.next + 2 ≤ S3.next := z3
  have pw10 : PV S10 (pF zss) S2.next wa wb := by
    cases hp : pF zss with
    | none => rw [hp] at pw6; rcases pw6 with h | ⟨p, h, _⟩
              · exact .inl h
              · cases h
    | some p =>
      have := ltS3 (by rw [hp]; rfl)
      rw [hp] at pw6
      exact pw6.keep (fun k hk x hx => old10 k x (by omega) hx)
  have pg10 : PV S10 (pF zss) S5.next ga gb := pg6.keep (fun k hk x hx => old10 k x (by omega) hx)
  have cw10 : Go.Sx.look S10.obs S3.next = some [wa, wb] := old10 _ _ (by omega) cw6
  have cg10 : Go.Sx.look S10.obs S6.next = some [ga, gb] := old10 _ _ (by omega) l6
  obtain ⟨S11, e11, o11⟩ := eqPair1 (X := XP) XP_noP d10.ws pg10 pw10 hF m
  have k11 := o11.keep d10.ws
  have pg11 : PV S11 (pF zss) S5.next ga gb := pg10.keep (fun k _ x hx => k11 _ _ hx)
  have nC6 : S6.next + 1 ≤ S10.next := by rw [d10.next]; have := o7.next; omega
  obtain ⟨S12, c12, w12, n12, o12, hd⟩ := markPair1 XP_no XP_noP o11.ws pg11 (fun h => by have := z6 h; have := o11.next; omega) hF m (by omega)
  have cg11 : Go.Sx.look S11.obs S6.next = some [ga, gb] := k11 _ _ cg10
  have cw11 : Go.Sx.look S11.obs S3.next = some [wa, wb] := k11 _ _ cw10
  have nn : C3.next ≤ S5.next := by omega
  have cg12 : Go.Sx.look S12.obs S6.next = some [ga, gb] := by
    rw [o12 S6.next (by have := o11.next; omega) (fun h => by have := z6 h; omega)]
    exact cg11
  have cw12 : Go.Sx.look S12.obs S3.next = some [wa, wb] := by
    rw [o12 S3.next (by have := o11.next; omega) (fun h => by omega)]
    exact cw11
  have pw12 : PV S12 (pF zss) S2.next wa wb := by
    cases hp : pF zss with
    | none => rw [hp] at pw10; rcases pw10 with h | ⟨p, h, _⟩
              · exact .inl h
              · cases h
    | some p =>
      have := ltS3 (by rw [hp]; rfl)
      rw [hp] at pw10 o12
      refine pw10.keep (fun k hk x hx => ?_)
      rw [o12 k (by have := o11.next; omega) (fun _ => by omega)]
      exact k11 _ _ hx
  have hsz : 0 ≤ sizP (pF zss) := by unfold sizP; omega
  have lt12 : (pF zss).isSome = true → S5.next + 1 < S12.next := fun h => by have := z6 h; have := o11.next; omega
  have hold : ∀ S'', WS S'' → (∀ k, k < S12.next → Go.Sx.look S''.obs k = Go.Sx.look S12.obs k) → acallV (symIn Try.prog (KX XP) [] (m + 1)) S'' (.func 40 [] []) [ga, .int .i64 (.c 1)] = some (.int .i64 (.c (1 + ((((pF zss).map (·.1)).getD []).length : Nat))), S'') ∧
        acallV (symIn Try.prog (KX XP) [] (m + 1)) S'' (.func 40 [] []) [gb, .int .i64 (.c (1 + ((((pF zss).map (·.1)).getD []).length : Nat)))] = some (.int .i64 (.c (1 + sizP (pF zss))), S'') := fun S'' h'' hk'' => hd S'' h'' (fun k hk y hy => by rw [hk'' k (w12.desc.look_lt hy)]; exact hy)
  obtain ⟨S13, c13, o13⟩ := heldPair1 (X := XP) XP_noP w12 (x := 1 + ((((pF zss).map (·.1)).getD []).length : Nat)) (by omega) (by omega) hold
  obtain ⟨v6, S14, c14, w14, m14, n14, k14⟩ := copy2 XP_no zss h0 hls S13 o13.ws m (by omega)
  obtain ⟨ha, hb, S15, c15, w15, k15, n15, p15, z15⟩ := pairCall XP_impl w14 (rows_at m14) h0 hls hn (m + 1) (by decide)
  obtain ⟨C15, t15, o15, on15, l15⟩ := cellP w15 p15.one.1 p15.one.2
  have kk : Keep S12 C15 := (((o13.keep w12).trans k14).trans k15).trans (o15.keep w15)
  have pw15 : PV C15 (pF zss) S2.next wa wb := pw12.keep (fun k _ x hx => kk _ _ hx)
  have ph15 : PV C15 (pF zss) S14.next ha hb := p15.keep (fun k _ x hx => o15.keep w15 _ _ hx)
  obtain ⟨S16, e16, o16⟩ := eqPair1 (X := XP) XP_noP o15.ws ph15 pw15 hF m
  have kk16 : Keep S12 S16 := kk.trans (o16.keep o15.ws)
  obtain ⟨S17, c17, o17⟩ := heldPair1 (X := XP) XP_noP o16.ws (x := 1 + ((((pF zss).map (·.1)).getD []).length : Nat)) (y := 1 + sizP (pF zss)) (a := ga) (b := gb) (f := m) (by omega) (by omega) (fun S'' h'' hk'' => hd S'' h'' (fun k hk y hy => by
    have := kk16 _ _ hy
    rw [hk'' k (o16.ws.desc.look_lt this)]; exact this))
  exact ⟨m + 3, law_walk csz hy0 c2 c3 (allocP _) t3 c5 c6 (allocP _) t6 (loadP cw6) (loadP l6) e7 c8 e8 c10 (by omega) (loadP cw10) (loadP cg10) e11 (loadP cg11) c12 (loadP cg12) c13 (by omega) c14 c15 (allocP _) t15 (loadP (kk _ _ cw12)) (loadP l15) e16 (loadP (kk16 _ _ cg12)) c17⟩
end Go.Proofs.Ytpjenggjcpahaaa.Pr

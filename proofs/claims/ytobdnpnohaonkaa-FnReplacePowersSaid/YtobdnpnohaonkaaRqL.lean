/-
  Polynomials in the place of powers: the law, by a run by hand. No condition.
-/
import Derived.Test.YtobdnpnohaonkaaRows
import Derived.Test.YtobdnpnohaonkaaSym
import Derived.Test.YtobdnpnohaonkaaSymD
import Derived.Test.YtobdnpnohaonkaaSymE
import Derived.Test.YtobdnpnohaonkaaSymF
import Derived.Test.YtobdnpnohaonkaaSymG
import Derived.Test.YtobdnpnohaonkaaIds
import Derived.Test.YtobdnpnohaonkaaSumm
import Derived.Test.YtobdnpnohaonkaaNp
import Derived.Test.YtobdnpnohaonkaaSeq
import Derived.Test.YtobdnpnohaonkaaSeqB
import Derived.Test.YtobdnpnohaonkaaSeqC
import Derived.Test.YtobdnpnohaonkaaSeqE
import Derived.Test.YtobdnpnohaonkaaSeqF
import Derived.Test.YtobdnpnohaonkaaSeqG
import Derived.Test.YtobdnpnohaonkaaRep
import Derived.Test.YtobdnpnohaonkaaRepB
import Derived.Test.YtobdnpnohaonkaaTel
import Derived.Test.YtobdnpnohaonkaaTelB
import Derived.Test.YtobdnpnohaonkaaTelC
import Derived.Test.YtobdnpnohaonkaaTelD
import Derived.Test.YtobdnpnohaonkaaDraw
import Derived.Test.YtobdnpnohaonkaaDrawC
import Derived.Test.YtobdnpnohaonkaaDrawD
import Derived.Test.YtobdnpnohaonkaaDrawE
import Derived.Test.YtobdnpnohaonkaaDrawF
import Derived.Test.YtobdnpnohaonkaaDrawG
import Derived.Test.YtobdnpnohaonkaaVsT
import Derived.Test.YtobdnpnohaonkaaDrawJ
import Derived.Test.YtobdnpnohaonkaaPr
import Derived.Test.YtobdnpnohaonkaaPrM
import Derived.Test.YtobdnpnohaonkaaPrF
import Derived.Test.YtobdnpnohaonkaaPrE
import Derived.Test.YtobdnpnohaonkaaPrG
import Derived.Test.YtobdnpnohaonkaaPrH
import Derived.Test.YtobdnpnohaonkaaPrN
import Derived.Test.YtobdnpnohaonkaaRq
import Derived.Test.YtobdnpnohaonkaaRqB
import Derived.WalkKit
import Derived.ProofKit
import Derived.OpenShut
namespace Go.Proofs.Ytobdnpnohaonkaa.Rq
open Go.ChangeShapes Go.WideShapes Go.ChangeAt Go.RowKit Go.Sx Go.Proofs.Ytobdnpnohaonkaa.Ids Go.Proofs.Ytobdnpnohaonkaa.Draw
open Go.Proofs.Ytobdnpnohaonkaa.Seq (SeqP seqB rowsV rowsV_len rowsV_get)
open Go.Proofs.Ytobdnpnohaonkaa.Rep (RepP repF specRep_tells implRep_tells)
open Go.Proofs.Ytobdnpnohaonkaa.Tel (telK telK_ok vr_agg2 ne_len rowsR rowsO objsO orK_no orK_yes)
open Go.Proofs.Ytobdnpnohaonkaa.Pr (PairP col quo pF pairR pairO pF_yes pF_no col_len quo_len)
set_option linter.unusedVariables false
set_option linter.unusedSimpArgs false

/-! ## Are two lists equal? -/
theorem ans1 {T : TypeId → Option Ti} {st : St Sy} {n0 t : Nat} {v : V Sy} (h : st.tm.get .any t = v) {Q : V Sy × Sto Sy → Prop} (hq : ∀ S, Q (v, S)) : ∃ r, answer T st n0 [.tmp t] = some r ∧ Q r :=
  ⟨(v, st.sto.trim n0 v), by simp [answer, aresults, aresult, h], hq _⟩
section
attribute [local simp] aops wants aop apure St.eval setTm_some setTm_none Tr.get_set aload evals pevals apureB alen tiS tiI tiB abin aint isCmp sym_lt sym_eqs sym_neqs sym_eq sym_neq sym_gtr sym_leq sym_geq sym_add aeff aeffB idx? ofV aindexAddr aggDesc aifc_int aun
set_option maxRecDepth 10000 in
theorem eql_run (zs us : List Int) (hz : zs.length ≤ 1000) (hu : us.length ≤ 1000) :
    ∃ r, symRun Try.prog noK [] (2999 + 1) 7 [.slice (ints (nums zs)), .slice (ints (nums us))] ⟨0, [], 0⟩ = some r ∧ r.1 = .bool (decide (zs = us)) := by
  refine own_run2 rfl Try.func7 rfl rfl ?_
  simp only [Try.f7]
  by_cases hl : zs.length = us.length
  case neg =>
    have hlI : ((zs.length : Int) == us.length) = false := by simpa using (show ¬ (zs.length : Int) = us.length by omega)
    have hne : decide (zs = us) = false := decide_eq_false (fun e => hl (by rw [e]))
    repeat' (first | refine Wp.seq ?_ | refine Wp.block ?_ | (apply Wp.region; focus ((try simp [setArgs, hlI]) <;> rfl)) | (refine Wp.cond_t ?_ ?_; focus (simp [setArgs, hlI]; done)) | (refine Wp.cond_f ?_ ?_; focus (simp [setArgs, hlI]; done)) | refine Wp.skip ?_ | refine Wp.ret ?_ | refine Wp.exit ?_ | refine Blk.here ?_ | (refine Blk.past ?_ ?_; focus (simp; done)))
    exact ⟨rfl, ans1 (v := .bool false) (by simp) (by simp [hne])⟩
  have hlI : ((zs.length : Int) == us.length) = true := by simpa using (show (zs.length : Int) = us.length by omega)
  repeat' (first | refine Wp.seq ?_ | refine Wp.block ?_ | (apply Wp.region; focus ((try simp [setArgs, hlI]) <;> rfl)) | (refine Wp.cond_t ?_ ?_; focus (simp [setArgs, hlI]; done)) | (refine Wp.cond_f ?_ ?_; focus (simp [setArgs, hlI]; done)) | refine Wp.skip ?_ | refine Wp.ret ?_ | refine Wp.exit ?_ | refine Blk.here ?_ | (refine Blk.past ?_ ?_; focus (simp; done)))
  refine Wp.loop rfl rfl (fun i st => st.tm.get .any 0 = .slice (ints (nums zs)) ∧ st.tm.get .any 1 = .slice (ints (nums us)) ∧ st.tm.get .any 5 = .int .i64 (.c i) ∧ st.sto = ⟨0, [], 0⟩ ∧ zs.take i = us.take i) zs.length (by omega) ?_ ?_ ?_
  · exact ⟨by simp [setArgs], by simp [setArgs], by simp, rfl, by simp⟩
  · rintro f i ⟨tm, S⟩ hi ⟨h0, h1, h5, rfl, htk⟩
    simp only at h0 h1 h5
    have hlt : (i : Int) < zs.length := by omega
    have hiu : i < us.length := by omega
    have hltu : (i : Int) < us.length := by omega
    have hxi : zs[i]? = some zs[i] := List.getElem?_eq_getElem hi
    have hyi : us[i]? = some us[i] := List.getElem?_eq_getElem hiu
    have hw := wrap_in (a := (i : Int) + 1) (by omega) (by omega)
    have hs : zs.take (i + 1) = us.take (i + 1) ↔ zs[i] = us[i] := by
      rw [List.take_add_one, List.take_add_one, hxi, hyi, htk]
      simp only [Option.toList_some, List.append_cancel_left_eq, List.cons.injEq, and_true]
    generalize hx : zs[i] = x at hxi hs
    generalize hy : us[i] = y at hyi hs
    repeat' (first | refine Wp.seq ?_ | refine Wp.block ?_ | (apply Wp.region; focus ((try simp [h0, h1, h5, hlt]) <;> rfl)) | (refine Wp.cond_t ?_ ?_; focus (simp [h0, h1, h5, hlt]; done)) | (refine Wp.cond_f ?_ ?_; focus (simp [h0, h1, h5, hlt]; done)) | refine Wp.skip ?_ | refine Wp.ret ?_ | refine Wp.exit ?_ | refine Blk.here ?_ | (refine Blk.past ?_ ?_; focus (simp; done)))
    (apply Wp.drawn2 8; (focus kernel_rfl); (focus kernel_rfl); (focus intro F; simp [dhead, seenBy, keepOnly, looks, joinN, addN, bite_eq, Op.operands, takeNew, Call.operands, h0, h1, h5, hlt, hltu, hi, hiu, hxi, hyi, hx, hy]; exact ⟨rfl, rfl, rfl⟩); (focus (try simp [allN, takeNew, Call.operands, h0, h1, h5, hlt, hltu, hi, hiu, hxi, hyi, hx, hy]) <;> rfl))
    by_cases hxy : x = y
    · subst hxy
      repeat' (first | refine Wp.seq ?_ | refine Wp.block ?_ | (apply Wp.region; focus ((try simp [h0, h1, h5, hw]) <;> rfl)) | (refine Wp.cond_t ?_ ?_; focus (simp [h0, h1, h5, hw]; done)) | (refine Wp.cond_f ?_ ?_; focus (simp [h0, h1, h5, hw]; done)) | refine Wp.skip ?_ | refine Wp.ret ?_ | refine Wp.exit ?_ | refine Blk.here ?_ | (refine Blk.past ?_ ?_; focus (simp; done)))
      exact ⟨by simp [h0], by simp [h1], by simp [hw], rfl, hs.2 rfl⟩
    · have hxy' : (x == y) = false := by simpa using hxy
      have hne : decide (zs = us) = false := decide_eq_false (fun e => hxy (hs.1 (by rw [e])))
      repeat' (first | refine Wp.seq ?_ | refine Wp.block ?_ | (apply Wp.region; focus ((try simp [h0, h1, h5, hxy, hxy']) <;> rfl)) | (refine Wp.cond_t ?_ ?_; focus (simp [h0, h1, h5, hxy, hxy']; done)) | (refine Wp.cond_f ?_ ?_; focus (simp [h0, h1, h5, hxy, hxy']; done)) | refine Wp.skip ?_ | refine Wp.ret ?_ | refine Wp.exit ?_ | refine Blk.here ?_ | (refine Blk.past ?_ ?_; focus (simp; done)))
      exact ⟨rfl, ans1 (v := .bool false) (by simp) (by simp [hne])⟩
  · rintro f ⟨tm, S⟩ ⟨h0, h1, h5, rfl, htk⟩
    simp only at h0 h1 h5
    have hnl : ¬ (zs.length : Int) < zs.length := by omega
    rw [List.take_of_length_le (Nat.le_refl _), List.take_of_length_le (by omega)] at htk
    subst htk
    repeat' (first | refine Wp.seq ?_ | refine Wp.block ?_ | (apply Wp.region; focus ((try simp [h0, h1, h5, hnl]) <;> rfl)) | (refine Wp.cond_t ?_ ?_; focus (simp [h0, h1, h5, hnl]; done)) | (refine Wp.cond_f ?_ ?_; focus (simp [h0, h1, h5, hnl]; done)) | refine Wp.skip ?_ | refine Wp.ret ?_ | refine Wp.exit ?_ | refine Blk.here ?_ | (refine Blk.past ?_ ?_; focus (simp; done)))
    exact ⟨rfl, ans1 (v := .bool true) (by simp) (by simp)⟩
end
theorem eql_nil : (symRun Try.prog noK [] 60 7 [.emp, .emp] ⟨0, [], 0⟩).map (·.1) = some (.bool true) := by kernel_rfl
theorem patL_cons {z : List Int} (h : 1 ≤ z.length) : patL z = .slice (ints (nums z)) := by
  cases z with
  | nil => simp at h
  | cons a r => rfl
open Classical in
noncomputable def dEq : List (V Sy) → Sto Sy → Option (List Int × List Int)
  | [x, y], sto => match constsOf sto x, constsOf sto y with
    | some a, some b => if ((1 ≤ a.length ∧ a.length ≤ 6) ∧ 1 ≤ b.length ∧ b.length ≤ 6) ∨ (a = [] ∧ b = []) then some (a, b) else none
    | _, _ => none
  | _, _ => none
theorem dEq_eq {sto : Sto Sy} {x y : V Sy} {a b : List Int} (ha : constsOf sto x = some a) (hb : constsOf sto y = some b) (h : ((1 ≤ a.length ∧ a.length ≤ 6) ∧ 1 ≤ b.length ∧ b.length ≤ 6) ∨ (a = [] ∧ b = [])) : dEq [x, y] sto = some (a, b) := by
  simp only [dEq, ha, hb]
  rw [if_pos h]
noncomputable def eqbK : Ctr := telK 7 dEq (fun p _ => .bool (decide (p.1 = p.2))) (fun _ _ => [])
theorem eqbK_ok (ρ : Nat → Int) (s : Sms) (B : Nat) : COk Try.prog ⟨Sy.den ρ, s⟩ B eqbK := by
  refine telK_ok (body_of Try.func7 rfl) (fun args sto p h => ?_)
  unfold dEq at h
  split at h
  case h_2 => cases h
  rename_i x y
  split at h
  case h_2 => cases h
  rename_i a b ha hb
  split at h
  case isFalse => cases h
  rename_i hp
  cases h
  have hl : a.length ≤ 6 ∧ b.length ≤ 6 := by
    rcases hp with hp | ⟨rfl, rfl⟩
    · exact ⟨hp.1.2, hp.2.2⟩
    · simp
  refine ⟨[patL a, patL b], ?_, fun ρ s B c hinv vs hvs ρ' => ?_⟩
  · rcases hp with hp | ⟨rfl, rfl⟩
    · obtain ⟨⟨v, S⟩, hr, hv⟩ := eql_run a b (by omega) (by omega)
      simp only at hv
      subst hv
      exact ⟨fun _ => 0, [.slice (ints (nums a)), .slice (ints (nums b))], _, S, [], fun _ => 0, fun s B' => run_goodK noCount mixed (fun _ _ _ => noK_ok) _ hr B', List.nodup_nil, fun n ρ => ⟨rfl, fun j o b hj => by simp at hj, .bool _⟩, fun s B c vs h => by rwa [patL_cons hp.1.1, patL_cons hp.2.1] at h⟩
    · obtain ⟨⟨v, S⟩, hr, hv⟩ := Option.map_eq_some_iff.1 eql_nil
      cases hv
      exact ⟨fun _ => 0, [.emp, .emp], _, S, [], fun _ => 0, fun s B' => run_goodK noCount mixed (fun _ _ _ => noK_ok) _ hr B', List.nodup_nil, fun n ρ => ⟨rfl, fun j o b hj => by simp at hj, .bool _⟩, fun s B c vs h => h⟩
  · obtain ⟨v, w, rfl, hv, hw⟩ := hvs.two
    exact .cons (patL_rel ha (by omega) hinv hv) (.cons (patL_rel hb (by omega) hinv hw) .nil)

/-! ## A polynomial and rows -/
open Classical in
noncomputable def dRp : List (V Sy) → Sto Sy → Option (List Int × List (List Int))
  | [x, y], sto => match constsOf sto x, rowsOf sto y with
    | some zs, some zss => if (zs.length ≤ 1048576 ∧ zss.length ≤ 1048576 ∧ ∀ r, r ∈ zss → r.length ≤ 1048576) then some (zs, zss) else none
    | _, _ => none
  | _, _ => none
theorem dRp_eq {sto : Sto Sy} {x y : V Sy} {zs : List Int} {zss : List (List Int)} (ha : constsOf sto x = some zs) (hb : rowsOf sto y = some zss) (h : zs.length ≤ 25 ∧ zss.length ≤ 6 ∧ ∀ r, r ∈ zss → r.length ≤ 6) : dRp [x, y] sto = some (zs, zss) := by
  simp only [dRp, ha, hb]
  rw [if_pos ⟨by omega, by omega, fun r hr => by have := h.2.2 r hr; omega⟩]
noncomputable def rpK (k : FuncId) : Ctr := telK k dRp (fun p => ansR (repF p.1 p.2)) (fun p => ansO (repF p.1 p.2))
theorem rpK_ok {k : FuncId} (hb : ∃ fn, Try.prog.funcs[k]? = some fn ∧ fn.body.isSome = true) (hT : ∀ (zs : List Int) (zss : List (List Int)), zs.length ≤ 1048576 → (∀ zs, zs ∈ zss → zs.length ≤ 1048576) → zss.length ≤ 1048576 → Tells Try.prog k [patL zs, patS zss] (ansR (repF zs zss)) (ansO (repF zs zss))) (ρ : Nat → Int) (s : Sms) (B : Nat) : COk Try.prog ⟨Sy.den ρ, s⟩ B (rpK k) := by
  refine telK_ok hb (fun args sto p h => ?_)
  unfold dRp at h
  split at h
  case h_2 => cases h
  rename_i x y
  split at h
  case h_2 => cases h
  rename_i zs zss ha hb
  split at h
  case isFalse => cases h
  rename_i hp
  cases h
  refine ⟨[patL zs, patS zss], hT zs zss hp.1 hp.2.2 hp.2.1, fun ρ s B c hinv vs hvs ρ' => ?_⟩
  obtain ⟨v, w, rfl, hv, hw⟩ := hvs.two
  exact .cons (patL_rel ha hp.1 hinv hv) (.cons (patS_rel hb hp.2.2 hinv hw) .nil)

/-! ## The pair of a sequence -/
set_option maxRecDepth 1000000 in
theorem few1 (y : V Sy) : Pr.noPair (symRun Try.prog noK [] 60 8 [.slice [y]] ⟨0, [], 0⟩) = true := by (show _ = _; kernel_rfl)
theorem seq_nrm {zss : List (List Int)} (hS : SeqP zss) : ∀ r, r ∈ zss → ∀ z, z ∈ r → IntKind.i64.wrap z = z := by
  intro r hr z hz
  obtain ⟨n, hn, rfl⟩ := List.mem_iff_getElem.1 hr
  have h2 := (hS.2.2 n hn).2.1.1
  simp only [List.getD, List.getElem?_eq_getElem hn, Option.getD_some] at h2
  have := h2 z hz
  exact wrap_in (by omega) (by omega)
theorem seq_len {zss : List (List Int)} (hS : SeqP zss) : ∀ r, r ∈ zss → r.length = zss.length := by
  intro r hr
  obtain ⟨n, hn, rfl⟩ := List.mem_iff_getElem.1 hr
  have h2 := (hS.2.2 n hn).1
  simpa [List.getD, hn] using h2
theorem implPair_seq {zss : List (List Int)} (hS : SeqP zss) : Tells Try.prog 8 [patS zss] (pairR (pF zss)) (pairO (pF zss)) := by
  have hn := seq_nrm hS
  have hl := seq_len hS
  by_cases h2 : 2 ≤ zss.length
  · refine Pr.impl_sq ⟨h2, hS.2.1, hl, hn⟩ (fun n hnl => ?_)
    rw [Pr.col_get]
    have h3 := (hS.2.2 n hnl).2.1.1
    have h4 := (hS.2.2 n hnl).1
    generalize zss.getD n [] = w at h3 h4
    have e : w.getD 1 0 ∈ w := by simp [List.getD, show 1 < w.length by omega]
    have := h3 _ e
    omega
  · rw [pF_no (fun hp => h2 hp.1)]
    have h1 := hS.1
    match zss, h1, h2 with
    | [a], _, _ => exact Pr.same_pat (fun _ _ _ => noK_ok) (few1 (patL a))
    | [], h, _ => simp at h
    | a :: b :: r, _, h => exact (h (by simp)).elim
open Classical in
noncomputable def dRows : List (V Sy) → Sto Sy → Option (List (List Int))
  | [x], sto => match rowsOf sto x with
    | some zss => if SeqP zss then some zss else none
    | none => none
  | _, _ => none
theorem dRows_eq {sto : Sto Sy} {x : V Sy} {zss : List (List Int)} (ha : rowsOf sto x = some zss) (h : SeqP zss) : dRows [x] sto = some zss := by
  simp only [dRows, ha]
  rw [if_pos h]
noncomputable def prK : Ctr := telK 8 dRows (fun zss => pairR (pF zss)) (fun zss => pairO (pF zss))
theorem prK_ok (ρ : Nat → Int) (s : Sms) (B : Nat) : COk Try.prog ⟨Sy.den ρ, s⟩ B prK := by
  refine telK_ok (body_of Try.func8 rfl) (fun args sto zss h => ?_)
  unfold dRows at h
  split at h
  case h_2 => cases h
  rename_i x
  split at h
  case h_2 => cases h
  rename_i zss' ha
  split at h
  case isFalse => cases h
  rename_i hp
  cases h
  refine ⟨[patS zss], implPair_seq hp, fun ρ s B c hinv vs hvs ρ' => ?_⟩
  obtain ⟨v, rfl, hv⟩ := hvs.one
  exact .cons (patS_rel ha (fun r hr => by have := seq_len hp r hr; have := hp.2.1; omega) hinv hv) .nil

/-! ## The square of the pair -/
set_option maxRecDepth 1000000 in
theorem mul_nil : Pr.noPair (symRun Try.prog noK [] 60 9 [.agg [.emp, .emp], .agg [.emp, .emp]] ⟨0, [], 0⟩) = true := by kernel_rfl
open Classical in
noncomputable def dMu (zss : List (List Int)) : List (V Sy) → Sto Sy → Option (Option (List Int × List Int))
  | [.agg [x, y], .agg [u, v]], sto => match constsOf sto x, constsOf sto y, constsOf sto u, constsOf sto v with
    | some a, some b, some a', some b' => if (PairN zss ∧ a = col zss 0 ∧ b = quo zss ∧ a' = col zss 0 ∧ b' = quo zss) then some (mulF zss) else if (a = [] ∧ b = [] ∧ a' = [] ∧ b' = []) then some none else none
    | _, _, _, _ => none
  | _, _ => none
theorem dMu_eq {zss : List (List Int)} {sto : Sto Sy} {x y u v : V Sy} (h1 : constsOf sto x = some (col zss 0)) (h2 : constsOf sto y = some (quo zss)) (h3 : constsOf sto u = some (col zss 0)) (h4 : constsOf sto v = some (quo zss)) (h : PairN zss) : dMu zss [.agg [x, y], .agg [u, v]] sto = some (mulF zss) := by
  simp only [dMu, h1, h2, h3, h4]
  rw [if_pos ⟨h, rfl, rfl, rfl, rfl⟩]
theorem dMu_nil {zss : List (List Int)} {sto : Sto Sy} : dMu zss [.agg [.nil, .nil], .agg [.nil, .nil]] sto = some none := by
  have e : constsOf sto .nil = some [] := rfl
  simp only [dMu, e]
  rw [if_neg, if_pos (by simp)]
  rintro ⟨h, h1, _⟩
  have h2 := h.1.1
  have := col_len (zss := zss) 0
  rw [← h1] at this
  simp at this
  omega
noncomputable def muK (zss : List (List Int)) : Ctr := telK 9 (dMu zss) pairR pairO
theorem muK_ok (zss : List (List Int)) (ρ : Nat → Int) (s : Sms) (B : Nat) : COk Try.prog ⟨Sy.den ρ, s⟩ B (muK zss) := by
  refine telK_ok (body_of Try.func9 rfl) (fun args sto p h => ?_)
  unfold dMu at h
  split at h
  case h_2 => cases h
  rename_i x y u v
  split at h
  case h_2 => cases h
  rename_i a b a' b' h1 h2 h3 h4
  split at h
  · rename_i hp
    cases h
    obtain ⟨hP, rfl, rfl, rfl, rfl⟩ := hp
    refine ⟨_, mul_tells hP, fun ρ s B c hinv vs hvs ρ' => ?_⟩
    obtain ⟨v1, v2, rfl, hv1, hv2⟩ := hvs.two
    obtain ⟨p1, q1, rfl, hp1, hq1⟩ := vr_agg2 hv1
    obtain ⟨p2, q2, rfl, hp2, hq2⟩ := vr_agg2 hv2
    have l1 := col_len (zss := zss) 0
    have l2 := quo_len (zss := zss)
    have h6 := hP.1.2.1
    exact .cons (VRs.agg (.cons (patL_rel h1 (by omega) hinv hp1) (.cons (patL_rel h2 (by omega) hinv hq1) .nil))) (.cons (VRs.agg (.cons (patL_rel h3 (by omega) hinv hp2) (.cons (patL_rel h4 (by omega) hinv hq2) .nil))) .nil)
  · split at h
    case isFalse => cases h
    rename_i hp
    cases h
    obtain ⟨rfl, rfl, rfl, rfl⟩ := hp
    refine ⟨[.agg [.emp, .emp], .agg [.emp, .emp]], Pr.tells_no (ρ' := fun _ => 0) mul_nil (fun R S hr s B' => run_goodK noCount mixed (fun _ _ _ => noK_ok) _ hr B') (fun _ _ _ _ hv => hv), fun ρ s B c hinv vs hvs ρ' => ?_⟩
    obtain ⟨v1, v2, rfl, hv1, hv2⟩ := hvs.two
    obtain ⟨p1, q1, rfl, hp1, hq1⟩ := vr_agg2 hv1
    obtain ⟨p2, q2, rfl, hp2, hq2⟩ := vr_agg2 hv2
    exact .cons (VRs.agg (.cons (patL_rel h1 (by simp) hinv hp1) (.cons (patL_rel h2 (by simp) hinv hq1) .nil))) (.cons (VRs.agg (.cons (patL_rel h3 (by simp) hinv hp2) (.cons (patL_rel h4 (by simp) hinv hq2) .nil))) .nil)
open Classical in
noncomputable def dAr (zss : List (List Int)) : List (V Sy) → Sto Sy → Option Unit
  | [.agg [x, y]], sto => match constsOf sto x, constsOf sto y with
    | some a, some b => if (PairN zss ∧ a = sgZ zss ∧ b = sfZ zss ∧ validP 600 (sgZ zss) ∧ validP 600 (sfZ zss)) then some () else none
    | _, _ => none
  | _, _ => none
theorem dAr_eq {zss : List (List Int)} {sto : Sto Sy} {x y : V Sy} (h1 : constsOf sto x = some (sgZ zss)) (h2 : constsOf sto y = some (sfZ zss)) (h : PairN zss) (h3 : validP 600 (sgZ zss)) (h4 : validP 600 (sfZ zss)) : dAr zss [.agg [x, y]] sto = some () := by
  simp only [dAr, h1, h2]
  rw [if_pos ⟨h, rfl, rfl, h3, h4⟩]
noncomputable def arK (zss : List (List Int)) : Ctr := telK 10 (dAr zss) (fun _ => rowsR (sqZ zss)) (fun _ => rowsO (sqZ zss))
theorem arK_ok (zss : List (List Int)) (ρ : Nat → Int) (s : Sms) (B : Nat) : COk Try.prog ⟨Sy.den ρ, s⟩ B (arK zss) := by
  refine telK_ok (body_of Try.func10 rfl) (fun args sto p h => ?_)
  unfold dAr at h
  split at h
  case h_2 => cases h
  rename_i x y
  split at h
  case h_2 => cases h
  rename_i a b h1 h2
  split at h
  case isFalse => cases h
  rename_i hp
  cases h
  obtain ⟨hP, rfl, rfl, v2, v3⟩ := hp
  refine ⟨_, ar_tells hP v2 v3, fun ρ s B c hinv vs hvs ρ' => ?_⟩
  obtain ⟨v1, rfl, hv1⟩ := hvs.one
  obtain ⟨p1, q1, rfl, hp1, hq1⟩ := vr_agg2 hv1
  have := v2.2.2
  have := v3.2.2
  exact .cons (VRs.agg (.cons (patL_rel h1 (by omega) hinv hp1) (.cons (patL_rel h2 (by omega) hinv hq1) .nil))) .nil

/-! ## All of them -/
/-- One contract for a function, another one for the others. -/
noncomputable def swK (k0 : FuncId) (A B : Ctr) : Ctr := fun k args sto => bite (Nat.beq k k0) (A k args sto) (B k args sto)
theorem swK_ok {Δ : Den Sy} {B0 : Nat} {k0 : FuncId} {A B : Ctr} (hA : COk Try.prog Δ B0 A) (hB : COk Try.prog Δ B0 B) : COk Try.prog Δ B0 (swK k0 A B) := by
  intro k args sto r s h
  unfold swK at h
  rw [bite_eq] at h
  split at h
  · exact hA k args sto r s h
  · exact hB k args sto r s h
theorem swK_at {k0 : FuncId} {A B : Ctr} {args : List (V Sy)} {sto : Sto Sy} : swK k0 A B k0 args sto = A k0 args sto := by
  unfold swK
  rw [Nat.beq_refl, bite_true]
theorem swK_ne {k k0 : FuncId} {A B : Ctr} {args : List (V Sy)} {sto : Sto Sy} (h : ¬ Nat.beq k k0 = true) : swK k0 A B k args sto = B k args sto := by
  unfold swK
  rw [bite_eq, if_neg h]
noncomputable def drK : Ctr := fun k args sto => symRun Try.prog K0 [] 201 k args sto
theorem drK_ok (ρ : Nat → Int) (s : Sms) (B : Nat) : COk Try.prog ⟨Sy.den ρ, s⟩ B drK := fun k args sto r sto' h =>
  symRun_ok noCount mixed (Γ := []) (fun f hf => by cases hf) (K0_ok ρ s B) 201 k args sto r sto' h
noncomputable def K1 (zss : List (List Int)) : Ctr := swK 4 drK (swK 5 (rpK 5) (swK 6 (rpK 6) (swK 7 eqbK (swK 8 prK (swK 9 (muK zss) (swK 10 (arK zss) noK))))))
theorem K1_ok (zss : List (List Int)) (ρ : Nat → Int) (s : Sms) (B : Nat) : COk Try.prog ⟨Sy.den ρ, s⟩ B (K1 zss) :=
  swK_ok (drK_ok _ _ _) (swK_ok (rpK_ok (body_of Try.func5 rfl) implRep_tells _ _ _) (swK_ok (rpK_ok (body_of Try.func6 rfl) specRep_tells _ _ _) (swK_ok (eqbK_ok _ _ _) (swK_ok (prK_ok _ _ _) (swK_ok (muK_ok _ _ _ _) (swK_ok (arK_ok _ _ _ _) noK_ok))))))
section
variable (zss : List (List Int)) (args : List (V Sy)) (sto : Sto Sy)
theorem K1_dr : K1 zss 4 args sto = symRun Try.prog K0 [] 201 4 args sto := by
  unfold K1; rw [swK_at]; rfl
theorem K1_ri : K1 zss 5 args sto = telK 5 dRp (fun p => ansR (repF p.1 p.2)) (fun p => ansO (repF p.1 p.2)) 5 args sto := by
  unfold K1; rw [swK_ne (by decide), swK_at]; rfl
theorem K1_rs : K1 zss 6 args sto = telK 6 dRp (fun p => ansR (repF p.1 p.2)) (fun p => ansO (repF p.1 p.2)) 6 args sto := by
  unfold K1; rw [swK_ne (by decide), swK_ne (by decide), swK_at]; rfl
theorem K1_eq : K1 zss 7 args sto = telK 7 dEq (fun p _ => .bool (decide (p.1 = p.2))) (fun _ _ => []) 7 args sto := by
  unfold K1; rw [swK_ne (by decide), swK_ne (by decide), swK_ne (by decide), swK_at]; rfl
theorem K1_pr : K1 zss 8 args sto = telK 8 dRows (fun zss => pairR (pF zss)) (fun zss => pairO (pF zss)) 8 args sto := by
  unfold K1; rw [swK_ne (by decide), swK_ne (by decide), swK_ne (by decide), swK_ne (by decide), swK_at]; rfl
theorem K1_mu : K1 zss 9 args sto = telK 9 (dMu zss) pairR pairO 9 args sto := by
  unfold K1; rw [swK_ne (by decide), swK_ne (by decide), swK_ne (by decide), swK_ne (by decide), swK_ne (by decide), swK_at]; rfl
theorem K1_ar : K1 zss 10 args sto = telK 10 (dAr zss) (fun _ => rowsR (sqZ zss)) (fun _ => rowsO (sqZ zss)) 10 args sto := by
  unfold K1; rw [swK_ne (by decide), swK_ne (by decide), swK_ne (by decide), swK_ne (by decide), swK_ne (by decide), swK_ne (by decide), swK_at]; rfl
theorem hK1 : K1 zss 3 args sto = none := by
  unfold K1; rw [swK_ne (by decide), swK_ne (by decide), swK_ne (by decide), swK_ne (by decide), swK_ne (by decide), swK_ne (by decide), swK_ne (by decide)]; rfl
end

/-! ## Stores between calls -/
theorem telP {K : Ctr} {α : Type} {k0 : FuncId} {D : List (V Sy) → Sto Sy → Option α} {R : α → Nat → V Sy} {O : α → Nat → List (Ob Sy)} {args : List (V Sy)} {S : Sto Sy} {a : α} (h : Ws S) (hk : ∀ args sto, K k0 args sto = telK k0 D R O k0 args sto) (hD : D args ⟨S.next, S.obs, S.next⟩ = some a) (f : Nat) (hf : 1 ≤ f) (hk9 : (k0 : Nat) < 1000000 := by decide) :
    ∃ S1, acallV (symIn Try.prog K [] f) S (.func k0 [] []) args = some (R a S.next, S1) ∧ Ws S1 ∧ S1.next = S.next + (O a S.next).length ∧ (∀ i x, (O a S.next)[i]? = some x → Go.Sx.look S1.obs (S.next + i) = some x) ∧ ∀ k x, Go.Sx.look S.obs k = some x → Go.Sx.look S1.obs k = some x := by
  obtain ⟨g, rfl⟩ : ∃ g, f = g + 1 := ⟨f - 1, by omega⟩
  have e : K k0 args ⟨S.next, S.obs, S.next⟩ = some (R a S.next, ⟨S.next + (O a S.next).length, numO S.next (O a S.next) S.obs, S.next⟩) := by
    rw [hk]
    unfold telK
    rw [Nat.beq_refl, bite_true, hD]
  have hlow := h.low
  refine ⟨_, call_K (n := g) e hk9, ⟨desc_numO _ _ _ h.desc, ?_⟩, rfl, fun i x hx => numO_get _ _ _ _ _ hx, fun k x hx => ?_⟩
  · simp only
    split <;> omega
  · rw [numO_get.numO_old _ _ _ _ (h.desc.look_lt hx)]; exact hx
theorem eqP1 {zss : List (List Int)} {S : Sto Sy} (h : Ws S) {x y : V Sy} {a b : List Int} (ha : constsOf ⟨S.next, S.obs, S.next⟩ x = some a) (hb : constsOf ⟨S.next, S.obs, S.next⟩ y = some b) (hl : ((1 ≤ a.length ∧ a.length ≤ 6) ∧ 1 ≤ b.length ∧ b.length ≤ 6) ∨ (a = [] ∧ b = [])) : acallV (symIn Try.prog (K1 zss) [] 300) S (.func 7 [] []) [x, y] = some (.bool (decide (a = b)), S) := by
  have e : K1 zss 7 [x, y] ⟨S.next, S.obs, S.next⟩ = some (.bool (decide (a = b)), ⟨S.next, S.obs, S.next⟩) := by
    rw [K1_eq]
    unfold telK
    rw [Nat.beq_refl, bite_true, dEq_eq ha hb hl]
    rfl
  rw [call_K (P := Try.prog) (n := 299) e (by decide)]
  have hlow := h.low
  obtain ⟨n, ob, l⟩ := S
  simp only at hlow ⊢
  have : (if n < l then n else l) = l := by split <;> omega
  rw [this]
theorem cellW {S : Sto Sy} (h : Ws S) {a b : V Sy} (ha : a.oneCell = true) (hb : b.oneCell = true) : ∃ S', astore (tiOf Try.prog) (S.new [V.nil, V.nil]) 31 (.ptr S.next 0) (.agg [a, b]) = some S' ∧ Ws S' ∧ S'.next = S.next + 1 ∧ Go.Sx.look S'.obs S.next = some [a, b] ∧ ∀ k x, Go.Sx.look S.obs k = some x → Go.Sx.look S'.obs k = some x := by
  refine ⟨(S.new [V.nil, V.nil]).write S.next [a, b], storeP (lookN S V.nil V.nil) ha hb, ⟨Desc.put _ _ (show Desc (S.next + 1) ((S.next, noBc [V.nil, V.nil]) :: S.obs) from ⟨Nat.lt_succ_self _, h.desc⟩), ?_⟩, rfl, lookW (lookN S V.nil V.nil), fun k x hx => ?_⟩
  · show (if Nat.blt S.next S.low then S.next else S.low) ≤ S.next + 1
    have := h.low
    split <;> omega
  · have := h.desc.look_lt hx
    show Go.Sx.look (put (S.new [V.nil, V.nil]).obs S.next _) k = _
    rw [look_put_ne (by omega)]
    show Go.Sx.look ((S.next, noBc [V.nil, V.nil]) :: S.obs) k = _
    rw [look_cons, if_neg (by omega)]; exact hx
theorem newW {S : Sto Sy} (h : Ws S) (cs : List (V Sy)) : Ws (S.new cs) ∧ ∀ k x, Go.Sx.look S.obs k = some x → Go.Sx.look (S.new cs).obs k = some x := by
  refine ⟨⟨⟨Nat.lt_succ_self _, h.desc⟩, ?_⟩, fun k x hx => ?_⟩
  · have := h.low
    show S.low ≤ S.next + 1
    omega
  · show Go.Sx.look ((S.next, noBc cs) :: S.obs) k = _
    rw [look_cons, if_neg (by have := h.desc.look_lt hx; omega)]; exact hx
/-- A list grows by one number. -/
theorem appendW {S : Sto Sy} (w : Ws S) {q : Nat} {zs : List Int} {v : V Sy} (h : IsL S.obs q zs v) (x : Int) (hl : zs.length ≤ 1000) :
    ∃ v' S', aappend (symNum []) (tiOf Try.prog) (S.new (ints (nums [x]))) 23 23 v (.rsl S.next 0 1 (some 1)) = some (v', S') ∧ Ws S' ∧ (∀ k y, k ≠ q → Go.Sx.look S.obs k = some y → Go.Sx.look S'.obs k = some y) ∧ ∃ q', S.next ≤ q' ∧ IsL S'.obs q' (zs ++ [x]) v' := by
  obtain ⟨cp, rfl, hcp⟩ := h.val
  have hqn := w.desc.look_lt h.obj
  obtain ⟨wn, kn⟩ := newW w (ints (nums [x]))
  have ho : lookC (S.new (ints (nums [x]))).obs q = some (ints (nums zs)) := lookC_ints (kn _ _ h.obj)
  have he : (S.new (ints (nums [x]))).elems (.rsl S.next 0 1 (some 1)) = some (ints (nums [x])) := by
    simp only [Sto.elems, Sto.cells, lookC_ints (look_new _ _)]
    rfl
  have hall : (ints (nums [x])).all V.oneCell = true := ints_oneCells (nums [x])
  have hz : (ofV (symNum []) (Value.int .i64 0)).oneCell = true := rfl
  have happ : ints (nums zs) ++ ints (nums [x]) = ints (nums (zs ++ [x])) := by rw [nums_append, ints_append]
  have hlen : zs.length + (ints (nums [x])).length = (zs ++ [x]).length := by simp
  have hb1 : (zs.length + (ints (nums [x])).length) * 8 ≤ 140737488355328 := by simp; omega
  have hb2 : zs.length + (ints (nums [x])).length ≤ 9223372036854775807 := by simp; omega
  have hyl : (ints (nums [x])).length = 1 := by simp
  cases hys : ints (nums [x]) with
  | nil => rw [hys] at hyl; simp at hyl
  | cons y ys =>
    rw [hys] at hall happ hlen hb1 hb2
    rcases hcp with rfl | rfl
    · refine ⟨.rsl (S.next + 1) 0 (zs ++ [x]).length none, ⟨S.next + 1 + 1, (S.next + 1, ints (nums (zs ++ [x]))) :: del (S.new (ints (nums [x]))).obs q, if Nat.blt q (S.new (ints (nums [x]))).low then q else (S.new (ints (nums [x]))).low⟩, ?_, ⟨⟨Nat.lt_succ_self _, Desc.del q wn.desc⟩, ?_⟩, fun k y' hk hy => ?_, S.next + 1, by omega, ⟨_, rfl, .inl rfl⟩, ?_⟩
      · rw [hys] at he ho ⊢
        rw [hlen] at hb1 hb2
        have htk : (ints (nums zs)).take zs.length = ints (nums zs) := List.take_of_length_le (by simp)
        simp only [aappend, tiS, tiI, he, ho, hz, hall, true_and, and_true, if_true, ints_length, nums_length, htk, happ, hlen, Nat.le_refl]
        rw [if_pos ⟨hb1, hb2⟩]
        rfl
      · have := wn.low
        show (if Nat.blt q (S.new (ints (nums [x]))).low then q else (S.new (ints (nums [x]))).low) ≤ S.next + 1 + 1
        have e : (S.new (ints (nums [x]))).next = S.next + 1 := rfl
        split <;> omega
      · have := w.desc.look_lt hy
        show Go.Sx.look ((S.next + 1, _) :: del (S.new (ints (nums [x]))).obs q) k = _
        rw [look_cons, if_neg (by omega), look_del_ne hk]; exact kn _ _ hy
      · show Go.Sx.look ((S.next + 1, _) :: _) (S.next + 1) = _
        rw [look_cons]; exact if_pos rfl
    · have hc : ¬ zs.length + (y :: ys).length ≤ zs.length := by simp
      obtain ⟨wm, km⟩ := newW wn (ints (nums (zs ++ [x])))
      refine ⟨.rsl (S.next + 1) 0 (zs ++ [x]).length none, (S.new (ints (nums [x]))).new (ints (nums (zs ++ [x]))), ?_, wm, fun k y' hk hy => km _ _ (kn _ _ hy), S.next + 1, by omega, ⟨_, rfl, .inl rfl⟩, look_new (S.new _) _⟩
      rw [hys] at he ho ⊢
      have hdt : ((ints (nums zs)).drop 0).take zs.length ++ y :: ys = ints (nums (zs ++ [x])) := by rw [← happ, List.drop_zero, List.take_of_length_le (by simp)]
      rw [hlen] at hc hb1 hb2
      simp only [aappend, tiS, tiI, he, ho, hz, hall, true_and, and_true, if_true, ints_length, nums_length, hlen, hdt, Nat.le_refl, Nat.zero_add]
      rw [if_pos ⟨hb1, hb2⟩, if_neg hc]
      rfl
theorem loadI {S : Sto Sy} {q i : Nat} {zs : List Int} {x : Int} (h : Go.Sx.look S.obs q = some (ints (nums zs))) (hi : zs[i]? = some x) : aload (tiOf Try.prog) S 3 (.ptr q i) = some (.int .i64 (.c x)) := by
  have h2 := lookC_ints h
  simp only [aload, tiI, h2, aggDesc]
  rw [if_neg (by decide), ints_get, nums_get, hi]
  rfl
end Go.Proofs.Ytobdnpnohaonkaa.Rq

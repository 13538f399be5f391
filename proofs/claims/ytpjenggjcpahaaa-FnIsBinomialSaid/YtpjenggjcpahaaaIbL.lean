import Derived.Test.YtpjenggjcpahaaaRows
import Derived.Test.YtpjenggjcpahaaaSym
import Derived.Test.YtpjenggjcpahaaaSymD
import Derived.Test.YtpjenggjcpahaaaSymE
import Derived.Test.YtpjenggjcpahaaaSymF
import Derived.Test.YtpjenggjcpahaaaIds
import Derived.Test.YtpjenggjcpahaaaNp
import Derived.Test.YtpjenggjcpahaaaSeq
import Derived.Test.YtpjenggjcpahaaaSeqB
import Derived.Test.YtpjenggjcpahaaaSeqC
import Derived.Test.YtpjenggjcpahaaaSeqE
import Derived.Test.YtpjenggjcpahaaaSeqG
import Derived.Test.YtpjenggjcpahaaaBin
import Derived.Test.YtpjenggjcpahaaaBinF
import Derived.Test.YtpjenggjcpahaaaPr
import Derived.Test.YtpjenggjcpahaaaPrM
import Derived.Test.YtpjenggjcpahaaaPrF
import Derived.Test.YtpjenggjcpahaaaPrN
import Derived.Test.YtpjenggjcpahaaaIb
import Derived.Test.YtpjenggjcpahaaaIbB
import Derived.Test.YtpjenggjcpahaaaTel
import Derived.Test.YtpjenggjcpahaaaTelC
import Derived.Test.YtpjenggjcpahaaaTelD
import Derived.Test.YtpjenggjcpahaaaDraw
import Derived.Test.YtpjenggjcpahaaaDrawC
import Derived.Test.YtpjenggjcpahaaaDrawD
import Derived.Test.YtpjenggjcpahaaaDrawE
import Derived.Test.YtpjenggjcpahaaaDrawF
import Derived.Test.YtpjenggjcpahaaaDrawG
import Derived.Test.YtpjenggjcpahaaaVsT
import Derived.WalkKit
import Derived.ProofKit
import Derived.OpenShut
namespace Go.Proofs.Ytpjenggjcpahaaa.Ib
open Go.ChangeShapes Go.WideShapes Go.ChangeAt Go.RowKit Go.Sx Go.Proofs.Ytpjenggjcpahaaa.Ids Go.Proofs.Ytpjenggjcpahaaa.Seq Go.Proofs.Ytpjenggjcpahaaa.Tel Go.Proofs.Ytpjenggjcpahaaa.Draw
open Go.Proofs.Ytpjenggjcpahaaa.Pr (pF PairP pairR pairO col pF_yes pF_no)
open Go.Proofs.Ytpjenggjcpahaaa.Bin (binB specBin_ok implBin_ok BinP binB_eq)
set_option linter.unusedVariables false
set_option linter.unusedSimpArgs false

section
attribute [local simp] aops wants aop apure St.eval setTm_some setTm_none Tr.get_set aload evals pevals apureB alen tiS tiI tiB abin aint isCmp sym_lt sym_eqs sym_neqs sym_eq sym_neq sym_gtr sym_leq sym_geq sym_add aeff aeffB idx? ofV aindexAddr aggDesc aifc_int aun
set_option maxRecDepth 10000 in
theorem eql_run (zs us : List Int) (hz : zs.length ≤ 1000) (hu : us.length ≤ 1000) :
    ∃ r, symRun Try.prog noK [] (2999 + 1) 23 [.slice (ints (nums zs)), .slice (ints (nums us))] ⟨0, [], 0⟩ = some r ∧ r.1 = .bool (decide (zs = us)) := by
  refine own_run2 rfl Try.func23 rfl rfl ?_
  simp only [Try.f23]
  by_cases hl : zs.length = us.length
  case neg =>
    have hlI : ((zs.length : Int) == us.length) = false := by simpa using (show ¬ (zs.length : Int) = us.length by omega)
    have hne : decide (zs = us) = false := decide_eq_false (fun e => hl (by rw [e]))
    repeat' (first | refine Wp.seq ?_ | refine Wp.block ?_ | (apply Wp.region; focus ((try simp [setArgs, hlI]) <;> rfl)) | (refine Wp.cond_t ?_ ?_; focus (simp [setArgs, hlI]; done)) | (refine Wp.cond_f ?_ ?_; focus (simp [setArgs, hlI]; done)) | refine Wp.skip ?_ | refine Wp.ret ?_ | refine Wp.exit ?_ | refine Blk.here ?_ | (refine Blk.past ?_ ?_; focus (simp; done)))
    exact ⟨rfl, ans1 (v := .bool false) (by simp) (by simp [hne])⟩
  have hlI : ((zs.length : Int) == us.length) = true := by simpa using (show (zs.length : Int) = us.length by omega)
  repeat' (first | refine Wp.seq ?_ | refine Wp.block ?_ | (apply Wp.region; focus ((try simp [setArgs, hlI]) <;> rfl)) | (refine Wp.cond_t ?_ ?_; focus (simp [setArgs, hlI]; done)) | (refine Wp.cond_f ?_ ?_; focus (simp [setArgs, hlI]; done)) | refine Wp.skip ?_ | refine Wp.ret ?_ | refine Wp.exit ?_ | refine Blk.here ?_ | (refine Blk.past ?_ ?_; focus (simp; done)))
  refine Wp.loop rfl rfl (fun i st => st.tm.get .any 0 = .slice (ints (nums zs)) ∧ st.tm.get .any 1 = .slice (ints (nums us)) ∧ st.tm.get .any 5 = .int .i64 (.c i) ∧ st.sto = ⟨0, [], 0⟩ ∧ zs.take i = us.take i) zs.length (by omega) ?_ ?_ ?_
  · exact ⟨by simp [setArgs], by simp [setArgs], by simp, rfl, by simp⟩
  · rintro f i ⟨tm, S⟩ hi ⟨h0, h1, h5, rfl, htk⟩
    simp only at h0 h1 h5
    have hlt : (i : Int) < zs.length := by omega
    have hiu : i < us.length := by omega
    have hltu : (i : Int) < us.length := by omega
    have hxi : zs[i]? = some zs[i] := List.getElem?_eq_getElem hi
    have hyi : us[i]? = some us[i] := List.getElem?_eq_getElem hiu
    have hw := wrap_in (a := (i : Int) + 1) (by omega) (by omega)
    have hs : zs.take (i + 1) = us.take (i + 1) ↔ zs[i] = us[i] := by
      rw [List.take_add_one, List.take_add_one, hxi, hyi, htk]
      simp only [Option.toList_some, List.append_cancel_left_eq, List.cons.injEq, and_true]
    generalize hx : zs[i] = x at hxi hs
    generalize hy : us[i] = y at hyi hs
    repeat' (first | refine Wp.seq ?_ | refine Wp.block ?_ | (apply Wp.region; focus ((try simp [h0, h1, h5, hlt]) <;> rfl)) | (refine Wp.cond_t ?_ ?_; focus (simp [h0, h1, h5, hlt]; done)) | (refine Wp.cond_f ?_ ?_; focus (simp [h0, h1, h5, hlt]; done)) | refine Wp.skip ?_ | refine Wp.ret ?_ | refine Wp.exit ?_ | refine Blk.here ?_ | (refine Blk.past ?_ ?_; focus (simp; done)))
    (apply Wp.drawn2 8; (focus kernel_rfl); (focus kernel_rfl); (focus intro F; simp [dhead, seenBy, keepOnly, looks, joinN, addN, bite_eq, Op.operands, takeNew, Call.operands, h0, h1, h5, hlt, hltu, hi, hiu, hxi, hyi, hx, hy]; exact ⟨rfl, rfl, rfl⟩); (focus (try simp [allN, takeNew, Call.operands, h0, h1, h5, hlt, hltu, hi, hiu, hxi, hyi, hx, hy]) <;> rfl))
    by_cases hxy : x = y
    · subst hxy
      repeat' (first | refine Wp.seq ?_ | refine Wp.block ?_ | (apply Wp.region; focus ((try simp [h0, h1, h5, hw]) <;> rfl)) | (refine Wp.cond_t ?_ ?_; focus (simp [h0, h1, h5, hw]; done)) | (refine Wp.cond_f ?_ ?_; focus (simp [h0, h1, h5, hw]; done)) | refine Wp.skip ?_ | refine Wp.ret ?_ | refine Wp.exit ?_ | refine Blk.here ?_ | (refine Blk.past ?_ ?_; focus (simp; done)))
      exact ⟨by simp [h0], by simp [h1], by simp [hw], rfl, hs.2 rfl⟩
    · have hxy' : (x == y) = false := by simpa using hxy
      have hne : decide (zs = us) = false := decide_eq_false (fun e => hxy (hs.1 (by rw [e])))
      repeat' (first | refine Wp.seq ?_ | refine Wp.block ?_ | (apply Wp.region; focus ((try simp [h0, h1, h5, hxy, hxy']) <;> rfl)) | (refine Wp.cond_t ?_ ?_; focus (simp [h0, h1, h5, hxy, hxy']; done)) | (refine Wp.cond_f ?_ ?_; focus (simp [h0, h1, h5, hxy, hxy']; done)) | refine Wp.skip ?_ | refine Wp.ret ?_ | refine Wp.exit ?_ | refine Blk.here ?_ | (refine Blk.past ?_ ?_; focus (simp; done)))
      exact ⟨rfl, ans1 (v := .bool false) (by simp) (by simp [hne])⟩
  · rintro f ⟨tm, S⟩ ⟨h0, h1, h5, rfl, htk⟩
    simp only at h0 h1 h5
    have hnl : ¬ (zs.length : Int) < zs.length := by omega
    rw [List.take_of_length_le (Nat.le_refl _), List.take_of_length_le (by omega)] at htk
    subst htk
    repeat' (first | refine Wp.seq ?_ | refine Wp.block ?_ | (apply Wp.region; focus ((try simp [h0, h1, h5, hnl]) <;> rfl)) | (refine Wp.cond_t ?_ ?_; focus (simp [h0, h1, h5, hnl]; done)) | (refine Wp.cond_f ?_ ?_; focus (simp [h0, h1, h5, hnl]; done)) | refine Wp.skip ?_ | refine Wp.ret ?_ | refine Wp.exit ?_ | refine Blk.here ?_ | (refine Blk.past ?_ ?_; focus (simp; done)))
    exact ⟨rfl, ans1 (v := .bool true) (by simp) (by simp)⟩
end
open Classical in
noncomputable def dTwo : List (V Sy) → Sto Sy → Option (List Int × List Int)
  | [x, y], sto => match constsOf sto x, constsOf sto y with
    | some a, some b => if ((1 ≤ a.length ∧ a.length ≤ 6) ∧ 1 ≤ b.length ∧ b.length ≤ 6) then some (a, b) else none
    | _, _ => none
  | _, _ => none
theorem dTwo_eq {sto : Sto Sy} {x y : V Sy} {a b : List Int} (ha : constsOf sto x = some a) (hb : constsOf sto y = some b) (h : (1 ≤ a.length ∧ a.length ≤ 6) ∧ 1 ≤ b.length ∧ b.length ≤ 6) : dTwo [x, y] sto = some (a, b) := by
  simp only [dTwo, ha, hb]
  rw [if_pos h]
noncomputable def eqbK : Ctr := telK 23 dTwo (fun p _ => .bool (decide (p.1 = p.2))) (fun _ _ => [])
theorem patL_cons {z : List Int} (h : 1 ≤ z.length) : patL z = .slice (ints (nums z)) := by
  cases z with
  | nil => simp at h
  | cons a r => rfl
theorem eqbK_ok (ρ : Nat → Int) (s : Sms) (B : Nat) : COk Try.prog ⟨Sy.den ρ, s⟩ B eqbK := by
  refine telK_ok (body_of Try.func23 rfl) (fun args sto p h => ?_)
  unfold dTwo at h
  split at h
  case h_2 => cases h
  rename_i x y
  split at h
  case h_2 => cases h
  rename_i a b ha hb
  split at h
  case isFalse => cases h
  rename_i hp
  cases h
  obtain ⟨⟨v, S⟩, hr, hv⟩ := eql_run a b (by omega) (by omega)
  simp only at hv
  subst hv
  refine ⟨[patL a, patL b], ⟨fun _ => 0, [.slice (ints (nums a)), .slice (ints (nums b))], _, S, [], fun _ => 0, fun s B' => run_goodK noCount mixed (fun _ _ _ => noK_ok) _ hr B', List.nodup_nil, fun n ρ => ⟨rfl, fun j o b hj => by simp at hj, .bool _⟩, fun s B c vs h => by rwa [patL_cons hp.1.1, patL_cons hp.2.1] at h⟩, fun ρ s B c hinv vs hvs ρ' => ?_⟩
  obtain ⟨v, w, rfl, hv, hw⟩ := hvs.two
  exact .cons (patL_rel ha (by omega) hinv hv) (.cons (patL_rel hb (by omega) hinv hw) .nil)

set_option maxRecDepth 1000000 in
theorem few1 (y : V Sy) : Pr.noPair (symRun Try.prog noK [] 60 12 [.slice [y]] ⟨0, [], 0⟩) = true := by (show _ = _; kernel_rfl)
theorem seq_nrm {zss : List (List Int)} (hS : SeqP zss) : ∀ r, r ∈ zss → ∀ z, z ∈ r → IntKind.i64.wrap z = z := by
  intro r hr z hz
  obtain ⟨n, hn, rfl⟩ := List.mem_iff_getElem.1 hr
  have h2 := (hS.2.2 n hn).2.1.1
  simp only [List.getD, List.getElem?_eq_getElem hn, Option.getD_some] at h2
  have := h2 z hz
  exact wrap_in (by omega) (by omega)
theorem seq_len {zss : List (List Int)} (hS : SeqP zss) : ∀ r, r ∈ zss → r.length = zss.length := by
  intro r hr
  obtain ⟨n, hn, rfl⟩ := List.mem_iff_getElem.1 hr
  have h2 := (hS.2.2 n hn).1
  simpa [List.getD, hn] using h2
theorem implPair_seq {zss : List (List Int)} (hS : SeqP zss) : Tells Try.prog 12 [patS zss] (pairR (pF zss)) (pairO (pF zss)) := by
  have hn := seq_nrm hS
  have hl := seq_len hS
  by_cases h2 : 2 ≤ zss.length
  · refine Pr.impl_sq ⟨h2, hS.2.1, hl, hn⟩ (fun n hnl => ?_)
    rw [Pr.col_get]
    have h3 := (hS.2.2 n hnl).2.1.1
    have h4 := (hS.2.2 n hnl).1
    generalize zss.getD n [] = w at h3 h4
    have e : w.getD 1 0 ∈ w := by simp [List.getD, show 1 < w.length by omega]
    have := h3 _ e
    omega
  · rw [pF_no (fun hp => h2 hp.1)]
    have h1 := hS.1
    match zss, h1, h2 with
    | [a], _, _ => exact Pr.same_pat (fun _ _ _ => noK_ok) (few1 (patL a))
    | [], h, _ => simp at h
    | a :: b :: r, _, h => exact (h (by simp)).elim
open Classical in
noncomputable def dRows : List (V Sy) → Sto Sy → Option (List (List Int))
  | [x], sto => match rowsOf sto x with
    | some zss => if SeqP zss then some zss else none
    | none => none
  | _, _ => none
theorem dRows_eq {sto : Sto Sy} {x : V Sy} {zss : List (List Int)} (ha : rowsOf sto x = some zss) (h : SeqP zss) : dRows [x] sto = some zss := by
  simp only [dRows, ha]
  rw [if_pos h]
noncomputable def prK : Ctr := telK 12 dRows (fun zss => pairR (pF zss)) (fun zss => pairO (pF zss))
theorem prK_ok (ρ : Nat → Int) (s : Sms) (B : Nat) : COk Try.prog ⟨Sy.den ρ, s⟩ B prK := by
  refine telK_ok (body_of Try.func12 rfl) (fun args sto zss h => ?_)
  unfold dRows at h
  split at h
  case h_2 => cases h
  rename_i x
  split at h
  case h_2 => cases h
  rename_i zss' ha
  split at h
  case isFalse => cases h
  rename_i hp
  cases h
  refine ⟨[patS zss], implPair_seq hp, fun ρ s B c hinv vs hvs ρ' => ?_⟩
  obtain ⟨v, rfl, hv⟩ := hvs.one
  exact .cons (patS_rel ha (fun r hr => by have := seq_len hp r hr; have := hp.2.1; omega) hinv hv) .nil

noncomputable def drK : Ctr := fun k args sto => bite (Nat.beq k 24) (symRun Try.prog K0 [] 201 k args sto) none
theorem drK_ok (ρ : Nat → Int) (s : Sms) (B : Nat) : COk Try.prog ⟨Sy.den ρ, s⟩ B drK := by
  intro k args sto r sto' h
  unfold drK at h
  rw [bite_eq] at h
  split at h
  · exact symRun_ok noCount mixed (Γ := []) (fun f hf => by cases hf) (K0_ok ρ s B) 201 k args sto r sto' h
  · cases h
noncomputable def K1 : Ctr := orK drK (orK prK (orK linK (orK eqbK (orK (askSK 26 binB) (orK (askSK 25 binB) (askSK 19 seqB))))))
theorem K1_ok (ρ : Nat → Int) (s : Sms) (B : Nat) : COk Try.prog ⟨Sy.den ρ, s⟩ B K1 :=
  orK_ok (drK_ok _ _ _) (orK_ok (prK_ok _ _ _) (orK_ok (linK_ok _ _ _) (orK_ok (eqbK_ok _ _ _) (orK_ok (askSK_okG (body_of Try.func26 rfl) specBin_ok) (orK_ok (askSK_okG (body_of Try.func25 rfl) implBin_ok) (askSK_ok noCount mixed (body_of Try.func19 rfl) implSeq_ok))))))
theorem drK_no {k : FuncId} (h : ¬ Nat.beq k 24 = true) (args : List (V Sy)) (sto : Sto Sy) : drK k args sto = none := by
  unfold drK
  rw [bite_eq, if_neg h]
theorem or_same {K1 K2 : Ctr} {k : FuncId} {args : List (V Sy)} {sto : Sto Sy} (h : K2 k args sto = none) : orK K1 K2 k args sto = K1 k args sto := by
  cases e : K1 k args sto with
  | some r => exact orK_yes e
  | none => rw [orK_no e, h]
theorem K1_dr (args : List (V Sy)) (sto : Sto Sy) : K1 24 args sto = symRun Try.prog K0 [] 201 24 args sto := by
  unfold K1 prK linK eqbK
  rw [or_same (by rw [orK_no (telK_no (by decide) _ _), orK_no (telK_no (by decide) _ _), orK_no (telK_no (by decide) _ _), orK_no (askSK_no (by decide) _ _), orK_no (askSK_no (by decide) _ _), askSK_no (by decide)])]
  unfold drK
  rw [bite_eq, if_pos (by decide)]
theorem K1_pr (args : List (V Sy)) (sto : Sto Sy) : K1 12 args sto = telK 12 dRows (fun zss => pairR (pF zss)) (fun zss => pairO (pF zss)) 12 args sto := by
  unfold K1 linK eqbK
  rw [orK_no (drK_no (by decide) _ _), or_same (by rw [orK_no (telK_no (by decide) _ _), orK_no (telK_no (by decide) _ _), orK_no (askSK_no (by decide) _ _), orK_no (askSK_no (by decide) _ _), askSK_no (by decide)])]
  rfl
theorem K1_lin (args : List (V Sy)) (sto : Sto Sy) : K1 22 args sto = telK 22 dLin (fun n => lstR (e0 n)) (fun n => lstO (e0 n)) 22 args sto := by
  unfold K1 prK eqbK
  rw [orK_no (drK_no (by decide) _ _), orK_no (telK_no (by decide) _ _), or_same (by rw [orK_no (telK_no (by decide) _ _), orK_no (askSK_no (by decide) _ _), orK_no (askSK_no (by decide) _ _), askSK_no (by decide)])]
  rfl
theorem K1_eqb (args : List (V Sy)) (sto : Sto Sy) : K1 23 args sto = telK 23 dTwo (fun p _ => .bool (decide (p.1 = p.2))) (fun _ _ => []) 23 args sto := by
  unfold K1 prK linK
  rw [orK_no (drK_no (by decide) _ _), orK_no (telK_no (by decide) _ _), orK_no (telK_no (by decide) _ _), or_same (by rw [orK_no (askSK_no (by decide) _ _), orK_no (askSK_no (by decide) _ _), askSK_no (by decide)])]
  rfl
theorem K1_sb (args : List (V Sy)) (sto : Sto Sy) : K1 26 args sto = askSK 26 binB 26 args sto := by
  unfold K1 prK linK eqbK
  rw [orK_no (drK_no (by decide) _ _), orK_no (telK_no (by decide) _ _), orK_no (telK_no (by decide) _ _), orK_no (telK_no (by decide) _ _), or_same (by rw [orK_no (askSK_no (by decide) _ _), askSK_no (by decide)])]
theorem K1_ib (args : List (V Sy)) (sto : Sto Sy) : K1 25 args sto = askSK 25 binB 25 args sto := by
  unfold K1 prK linK eqbK
  rw [orK_no (drK_no (by decide) _ _), orK_no (telK_no (by decide) _ _), orK_no (telK_no (by decide) _ _), orK_no (telK_no (by decide) _ _), orK_no (askSK_no (by decide) _ _), or_same (askSK_no (by decide) _ _)]
theorem K1_vs (args : List (V Sy)) (sto : Sto Sy) : K1 19 args sto = askSK 19 seqB 19 args sto := by
  unfold K1 prK linK eqbK
  rw [orK_no (drK_no (by decide) _ _), orK_no (telK_no (by decide) _ _), orK_no (telK_no (by decide) _ _), orK_no (telK_no (by decide) _ _), orK_no (askSK_no (by decide) _ _), orK_no (askSK_no (by decide) _ _)]
theorem askW {k : FuncId} {F : List (List Int) → Bool} (hk : ∀ args sto, K1 k args sto = askSK k F k args sto) {S : Sto Sy} (h : Ws S) {v : V Sy} {zss : List (List Int)} (hv : rowsOf ⟨S.next, S.obs, S.next⟩ v = some zss) (h0 : zss.length ≤ 6) (hl : ∀ z, z ∈ zss → z.length ≤ 6) (f : Nat) (hf : 1 ≤ f) (hk9 : (k : Nat) < 1000000 := by decide) : acallV (symIn Try.prog K1 [] f) S (.func k [] []) [v] = some (.bool (F zss), S) := by
  obtain ⟨g, rfl⟩ : ∃ g, f = g + 1 := ⟨f - 1, by omega⟩
  have e : K1 k [v] ⟨S.next, S.obs, S.next⟩ = some (.bool (F zss), ⟨S.next, S.obs, S.next⟩) := by
    rw [hk]
    unfold askSK
    have h1 : Nat.ble zss.length 1048576 = true := by rw [Nat.ble_eq]; omega
    have h2 : (zss.all fun zs => Nat.ble zs.length 1048576) = true := List.all_eq_true.2 (fun z hz => by rw [Nat.ble_eq]; have := hl z hz; omega)
    simp only [Nat.beq_refl, bite_true, hv, h1, h2]
  have := call_K (P := Try.prog) (n := g) e hk9
  rw [this]
  have hlow := h.low
  obtain ⟨n, ob, l⟩ := S
  simp only at hlow ⊢
  have : (if n < l then n else l) = l := by split <;> omega
  rw [this]
theorem telW {α : Type} {k0 : FuncId} {D : List (V Sy) → Sto Sy → Option α} {R : α → Nat → V Sy} {O : α → Nat → List (Ob Sy)} {args : List (V Sy)} {S : Sto Sy} {a : α} (h : Ws S) (hk : ∀ args sto, K1 k0 args sto = telK k0 D R O k0 args sto) (hD : D args ⟨S.next, S.obs, S.next⟩ = some a) (f : Nat) (hf : 1 ≤ f) (hk9 : (k0 : Nat) < 1000000 := by decide) :
    acallV (symIn Try.prog K1 [] f) S (.func k0 [] []) args = some (R a S.next, ⟨S.next + (O a S.next).length, numO S.next (O a S.next) S.obs, S.low⟩) := by
  obtain ⟨g, rfl⟩ : ∃ g, f = g + 1 := ⟨f - 1, by omega⟩
  have e : K1 k0 args ⟨S.next, S.obs, S.next⟩ = some (R a S.next, ⟨S.next + (O a S.next).length, numO S.next (O a S.next) S.obs, S.next⟩) := by
    rw [hk]
    unfold telK
    rw [Nat.beq_refl, bite_true, hD]
  rw [call_K (n := g) e hk9]
  have hlow := h.low
  have : (if S.next < S.low then S.next else S.low) = S.low := by split <;> omega
  rw [this]
attribute [local simp] aops wants aop apure St.eval setTm_some setTm_none Tr.get_set evals pevals apureB alen tiS tiI tiB tiY tiU tiSs tiSr Draw.tiSS abin aint isCmp sym_lt sym_eqs sym_neqs sym_eq sym_neq sym_gtr sym_leq sym_geq sym_add sym_sub sym_mul aeff aeffB idx? ofV aindexAddr aggDesc aifc_int fldP0 fldP1 aun u8s_length
set_option maxRecDepth 10000 in
theorem drawIB_run (bs : List Int) (hbs0 : ∀ b, b ∈ bs → 0 ≤ b ∧ b < 256) (m : Nat) : ∃ r, symRun Try.prog K0 [] (m + 100) 24 [.slice (u8s bs)] ⟨0, [], 0⟩ = some r ∧ Ws r.2 ∧ Rwz 0 r.1 r.2.obs := by
  refine own_run2 (n := m + 99) hK0 Try.func24 rfl rfl ?_
  simp only [Try.f24]
  have hr := readerC bs (m + 99) (by omega)
  obtain ⟨S1, e1, h1⟩ := reader0 bs
  rw [← e1] at hr
  have hbs := take2000 hbs0
  obtain ⟨v, T, hc, hn, q, rs, a1, a2, a3, a4, a5⟩ := someSequence (bs.take 2000) hbs h1 (by omega) (m + 99) (by omega)
  repeat' (first | refine Wp.seq ?_ | refine Wp.block ?_ | (apply Wp.region; focus ((try simp [setArgs, hr, hc]) <;> rfl)) | (refine Wp.cond_t ?_ ?_; focus (simp [setArgs, hr, hc]; done)) | (refine Wp.cond_f ?_ ?_; focus (simp [setArgs, hr, hc]; done)) | refine Wp.skip ?_ | refine Wp.ret ?_ | refine Wp.exit ?_ | refine Blk.here ?_ | (refine Blk.past ?_ ?_; focus (simp; done)))
  exact ⟨rfl, answer_trim1 (v := v) (by simp) ⟨⟨trim_desc hn.rd.desc, by rw [trim_lowW, trim_next]; show T.low ≤ T.next; have := hn.low; omega⟩, q, rs, Nat.zero_le _, a2.trim, a3, a4, fun r hr => ⟨Nat.zero_le _, (a5 r hr).2⟩⟩⟩
theorem drawIB (bs : List Int) (hbs0 : ∀ b, b ∈ bs → 0 ≤ b ∧ b < 256) (f : Nat) (hf : 1 ≤ f) : ∃ v S, acallV (symIn Try.prog K1 [] f) ⟨0, [], 0⟩ (.func 24 [] []) [.slice (u8s bs)] = some (v, S) ∧ Ws S ∧ Rwz 0 v S.obs := by
  obtain ⟨g, rfl⟩ : ∃ g, f = g + 1 := ⟨f - 1, by omega⟩
  obtain ⟨⟨v, S⟩, h1, h2, h3⟩ := drawIB_run bs hbs0 101
  have e : K1 24 [.slice (u8s bs)] ⟨(⟨0, [], 0⟩ : Sto Sy).next, (⟨0, [], 0⟩ : Sto Sy).obs, (⟨0, [], 0⟩ : Sto Sy).next⟩ = some (v, S) := by rw [K1_dr]; exact h1
  refine ⟨v, _, call_K (P := Try.prog) (n := g) e (by decide), ⟨h2.desc, ?_⟩, h3⟩
  simp
theorem aifc_bool {T : TypeId → Option Ti} {op : BinOp} {t : TypeId} {ox oy : Operand} {a b : Bool} : aifc (I := Sy) T op t ox oy (.bool a) (.bool b) = none := rfl
attribute [local simp] aifc_bool
noncomputable def okJ (ops : List Oper) (p i j : Nat) : Bool := match okDraw ops with
  | some (F, q) => bite (Nat.beq q p) ((F.getD i []).contains j) false
  | none => false
theorem drawn3 {I : Type} {N : Num I} {T : TypeId → Option Ti} {C : FuncId → List (V I) → Sto I → Option (V I × Sto I)} {nt : Nat} {L : Code → St I → Option (AExit × St I)} {Qn : St I → Prop} {Qx : AExit → St I → Prop}
    {id : Nat} {ops : Array Oper} {st st' : St I} {tm : Tr (V I)} {acc : List (Nat × List (Nat × Ob I))} {nx : Nat} (p i j : Nat) (h0 : okJ ops.toList p i j = true) (h1 : dstsOk nt (ops.toList.take p) = true)
    (h2 : ∀ F : List (List Nat), (F.getD i []).contains j = true → dhead N T C nt ops.toList F st.sto 0 st.sto.next (ops.toList.take p) st.tm [] = some (tm, acc, nx)) (h3 : aops N T C nt ops.toList (ops.toList.drop p) ⟨tm, ⟨nx, allN acc ++ st.sto.obs, st.sto.low⟩⟩ = some st') (h : Qn st') :
    Wp N T C nt (adraw N T C nt) L (.region id ops true) st Qn Qx := by
  unfold okJ at h0
  split at h0
  case h_2 => cases h0
  rename_i F q he
  rw [bite_eq] at h0
  split at h0
  case isFalse => cases h0
  rename_i hq
  have hq := Nat.eq_of_beq_eq_true hq
  subst hq
  exact Wp.drawn1 he h1 (h2 F h0) h3 h
theorem hK1 {args : List (V Sy)} {sto : Sto Sy} : K1 5 args sto = none := by
  unfold K1 prK linK eqbK
  rw [orK_no (drK_no (by decide) _ _), orK_no (telK_no (by decide) _ _), orK_no (telK_no (by decide) _ _), orK_no (telK_no (by decide) _ _), orK_no (askSK_no (by decide) _ _), orK_no (askSK_no (by decide) _ _), askSK_no (by decide)]
set_option maxRecDepth 10000 in
theorem law_ib (bs : List Int) (hbs : ∀ b, b ∈ bs → 0 ≤ b ∧ b < 256) : ∃ r, symRun Try.prog K1 [] 301 5 [.slice (u8s bs)] ⟨0, [], 0⟩ = some r ∧ r.1 = .bool true := by
  refine own_run2 (n := 300) hK1 Try.func5 rfl rfl ?_
  simp only [Try.f5]
  by_cases hbig : (1048576 : Int) < bs.length
  · repeat' (first | refine Wp.seq ?_ | refine Wp.block ?_ | (apply Wp.region; focus ((try simp [setArgs, hbig]) <;> rfl)) | (refine Wp.cond_t ?_ ?_; focus (simp [setArgs, hbig]; done)) | (refine Wp.cond_f ?_ ?_; focus (simp [setArgs, hbig]; done)) | refine Wp.skip ?_ | refine Wp.ret ?_ | refine Wp.exit ?_ | refine Blk.here ?_ | (refine Blk.past ?_ ?_; focus (simp; done)))
    exact ⟨rfl, answer_trim1 (v := .bool true) (by simp) rfl⟩
  obtain ⟨v, S1, hc1, w1, q, rs, _, hz, hl1, hl2, hb⟩ := drawIB bs hbs 300 (by omega)
  have hro := hz.rows (S := ⟨S1.next, S1.obs, S1.next⟩)
  have hzl : (rs.map (·.2.1)).length = rs.length := by simp
  have hrl : ∀ z, z ∈ rs.map (·.2.1) → z.length ≤ 6 := fun z hz => by obtain ⟨r, hr, rfl⟩ := List.mem_map.1 hz; exact (hb r hr).2
  have c2 := askW K1_ib w1 hro (by omega) hrl 300 (by omega)
  have c3 := askW K1_sb w1 hro (by omega) hrl 300 (by omega)
  have c4 := askW K1_vs w1 hro (by omega) hrl 300 (by omega)
  generalize hzs : rs.map (·.2.1) = zss at *
  obtain ⟨cq, rfl, hcq⟩ := hz.val
  cases hq : seqB zss with
  | false =>
    rw [hq] at c4
    generalize binB zss = b at *
    cases b
    all_goals
      repeat' (first | refine Wp.seq ?_ | refine Wp.block ?_ | (apply Wp.region; focus ((try simp [setArgs, hbig, hc1, c2, c3, c4]) <;> rfl)) | (refine Wp.cond_t ?_ ?_; focus (simp [setArgs, hbig, hc1, c2, c3, c4]; done)) | (refine Wp.cond_f ?_ ?_; focus (simp [setArgs, hbig, hc1, c2, c3, c4]; done)) | refine Wp.skip ?_ | refine Wp.ret ?_ | refine Wp.exit ?_ | refine Blk.here ?_ | (refine Blk.past ?_ ?_; focus (simp; done)))
      exact ⟨rfl, answer_trim1 (v := .bool true) (by simp) rfl⟩
  | true =>
    rw [hq] at c4
    have hS := seqP_of hq
    have hnrm := seq_nrm hS
    have c5 := telW w1 K1_pr (dRows_eq hro hS) 300 (by omega)
    by_cases hP : PairP zss
    case neg =>
      rw [pF_no hP] at c5
      simp only [pairR, pairO, numO, List.length_nil, Nat.add_zero] at c5
      have e1 : (⟨S1.next, S1.obs, S1.low⟩ : Sto Sy) = S1 := rfl
      rw [e1] at c5
      have st := storeP (S := S1.new [V.nil, V.nil]) (v := V.nil) (w := V.nil) (lookN S1 V.nil V.nil) rfl rfl
      have htk0 : takeNew ((S1.new [V.nil, V.nil]).write S1.next [V.nil, V.nil]).next ((S1.new [V.nil, V.nil]).write S1.next [V.nil, V.nil]).obs = [] := takeNew_id (Desc.put _ _ (show Desc (S1.next + 1) ((S1.next, noBc [V.nil, V.nil]) :: S1.obs) from ⟨Nat.lt_succ_self _, w1.desc⟩))
      generalize (S1.new [V.nil, V.nil]).write S1.next [V.nil, V.nil] = S3 at st htk0
      generalize binB zss = b at *
      cases b
      all_goals
        repeat' (first | refine Wp.seq ?_ | refine Wp.block ?_ | (apply Wp.region; focus ((try simp [setArgs, hbig, hc1, c2, c3, c4, c5, allocP, st]) <;> rfl)) | (refine Wp.cond_t ?_ ?_; focus (simp [setArgs, hbig, hc1, c2, c3, c4, c5, allocP, st]; done)) | (refine Wp.cond_f ?_ ?_; focus (simp [setArgs, hbig, hc1, c2, c3, c4, c5, allocP, st]; done)) | refine Wp.skip ?_ | refine Wp.ret ?_ | refine Wp.exit ?_ | refine Blk.here ?_ | (refine Blk.past ?_ ?_; focus (simp; done)))
        (apply Wp.drawn2 10; (focus kernel_rfl); (focus kernel_rfl); (focus intro F; simp [dhead, seenBy, keepOnly, looks, joinN, addN, bite_eq, Op.operands, htk0, Call.operands]; exact ⟨rfl, rfl, rfl⟩); (focus (try simp [allN, htk0, Call.operands]) <;> rfl))
        refine Wp.ret ?_
        exact ⟨rfl, answer_trim1 (v := .bool true) (by simp) rfl⟩
    case pos =>
      have hbin : binB zss = decide (col zss 0 = e0 rs.length) := by
        refine binB_eq hS ?_
        rw [bin_iff hnrm hP hS, hzl]
        simp
      rw [pF_yes hP] at c5
      have hgl : (col zss 0).length = rs.length := by rw [Pr.col_len, hzl]
      have hnew : (pairO (some (col zss 0, Pr.quo zss)) S1.next).length = 2 := rfl
      simp only [pairR, hnew, hgl] at c5
      have ho : Go.Sx.look (numO S1.next (pairO (some (col zss 0, Pr.quo zss)) S1.next) S1.obs) S1.next = some (ints (nums (col zss 0))) := numO_get _ _ _ 0 _ rfl
      have hd := desc_numO (pairO (some (col zss 0, Pr.quo zss)) S1.next) S1.next S1.obs w1.desc
      rw [hnew] at hd
      generalize numO S1.next (pairO (some (col zss 0, Pr.quo zss)) S1.next) S1.obs = ob at c5 ho hd
      have hlow := w1.low
      obtain ⟨S2, hS2⟩ : ∃ S2 : Sto Sy, S2 = ⟨S1.next + 2, ob, S1.low⟩ := ⟨_, rfl⟩
      rw [← hS2] at c5
      generalize (Pr.quo zss).length = ql at c5
      have st := storeP (S := S2.new [V.nil, V.nil]) (v := .rsl S1.next 0 rs.length none) (w := .rsl (S1.next + 1) 0 ql none) (lookN S2 V.nil V.nil) rfl rfl
      have m3 := lookW (a := V.rsl S1.next 0 rs.length none) (b := V.rsl (S1.next + 1) 0 ql none) (lookN S2 V.nil V.nil)
      have n2 : S2.next = S1.next + 2 := by rw [hS2]
      have hd2 : Desc S2.next S2.obs := by rw [hS2]; exact hd
      have hlow2 : S2.low ≤ S2.next := by rw [hS2]; show S1.low ≤ S1.next + 2; omega
      have o3 : Go.Sx.look ((S2.new [V.nil, V.nil]).write S2.next [.rsl S1.next 0 rs.length none, .rsl (S1.next + 1) 0 ql none]).obs S1.next = some (ints (nums (col zss 0))) := by
        show Go.Sx.look (put (S2.new [V.nil, V.nil]).obs S2.next _) S1.next = _
        rw [look_put_ne (by omega)]
        show Go.Sx.look ((S2.next, noBc [V.nil, V.nil]) :: S2.obs) S1.next = _
        rw [look_cons, if_neg (by omega), hS2]
        exact ho
      have w3 : Ws ((S2.new [V.nil, V.nil]).write S2.next [.rsl S1.next 0 rs.length none, .rsl (S1.next + 1) 0 ql none]) := by
        refine ⟨Desc.put _ _ (show Desc (S2.next + 1) ((S2.next, noBc [V.nil, V.nil]) :: S2.obs) from ⟨Nat.lt_succ_self _, hd2⟩), ?_⟩
        show (if Nat.blt S2.next S2.low then S2.next else S2.low) ≤ S2.next + 1
        split <;> omega
      have n3 : ((S2.new [V.nil, V.nil]).write S2.next [V.rsl S1.next 0 rs.length none, .rsl (S1.next + 1) 0 ql none]).next = S2.next + 1 := rfl
      generalize (S2.new [V.nil, V.nil]).write S2.next [V.rsl S1.next 0 rs.length none, .rsl (S1.next + 1) 0 ql none] = S3 at st m3 o3 w3 n3
      have w4 : Ws ⟨S3.next, S3.obs, S3.next⟩ := ⟨w3.desc, Nat.le_refl _⟩
      have ld : aload (tiOf Try.prog) ⟨S3.next, S3.obs, S3.next⟩ 25 (.ptr S2.next 0) = some (.rsl S1.next 0 rs.length none) := loadS (S := ⟨S3.next, S3.obs, S3.next⟩) m3 rfl
      have c6 := telW (args := [.int .i64 (.c rs.length), .int .i64 (.c 0)]) w4 K1_lin (dLin_eq hl1 hl2) 300 (by omega)
      have hel : (e0 rs.length).length = rs.length := e0_len hl1
      simp only [lstR, lstO, objsO, List.map_cons, List.map_nil, numO, List.length_cons, List.length_nil, hel, Nat.zero_add] at c6
      have htk0 : takeNew S3.next S3.obs = [] := takeNew_id w3.desc
      have htk : takeNew S3.next ((S3.next, ints (nums (e0 rs.length))) :: S3.obs) = [(S3.next, ints (nums (e0 rs.length)))] := by
        simp only [takeNew, show Nat.ble S3.next S3.next = true by rw [Nat.ble_eq]; exact Nat.le_refl _, bite_true, takeNew_id w3.desc]
      have w5 : Ws ⟨S3.next + 1, (S3.next, ints (nums (e0 rs.length))) :: S3.obs, S3.next + 1⟩ := ⟨⟨Nat.lt_succ_self _, w3.desc⟩, Nat.le_refl _⟩
      have htk2 : takeNew (S3.next + 1) ((S3.next, ints (nums (e0 rs.length))) :: S3.obs) = [] := takeNew_id w5.desc
      have hne : S1.next ≠ S3.next := by omega
      have i1 : IsL ((S3.next, ints (nums (e0 rs.length))) :: S3.obs) S1.next (col zss 0) (.rsl S1.next 0 rs.length none) := ⟨⟨none, by rw [hgl], .inl rfl⟩, by rw [look_cons, if_neg (Ne.symm hne)]; exact o3⟩
      have i2 : IsL ((S3.next, ints (nums (e0 rs.length))) :: S3.obs) S3.next (e0 rs.length) (.rsl S3.next 0 rs.length none) := ⟨⟨none, by rw [hel], .inl rfl⟩, by rw [look_cons, if_pos rfl]⟩
      have c7 := telW (args := [.rsl S1.next 0 rs.length none, .rsl S3.next 0 rs.length none]) w5 K1_eqb (dTwo_eq (isL_consts (S := ⟨S3.next + 1, (S3.next, ints (nums (e0 rs.length))) :: S3.obs, S3.next + 1⟩) i1) (isL_consts (S := ⟨S3.next + 1, (S3.next, ints (nums (e0 rs.length))) :: S3.obs, S3.next + 1⟩) i2) ⟨⟨by omega, by omega⟩, by omega, by omega⟩) 300 (by omega)
      simp only [numO, List.length_nil, Nat.add_zero] at c7
      rw [hbin] at c2 c3
      generalize ints (nums (e0 rs.length)) = ee at *
      generalize decide (col zss 0 = e0 rs.length) = b at *
      cases b
      all_goals
        repeat' (first | refine Wp.seq ?_ | refine Wp.block ?_ | (apply Wp.region; focus ((try simp [setArgs, hbig, hc1, c2, c3, c4, c5, allocP, st]) <;> rfl)) | (refine Wp.cond_t ?_ ?_; focus (simp [setArgs, hbig, hc1, c2, c3, c4, c5, allocP, st]; done)) | (refine Wp.cond_f ?_ ?_; focus (simp [setArgs, hbig, hc1, c2, c3, c4, c5, allocP, st]; done)) | refine Wp.skip ?_ | refine Wp.ret ?_ | refine Wp.exit ?_ | refine Blk.here ?_ | (refine Blk.past ?_ ?_; focus (simp; done)))
        apply drawn3 10 9 8
        focus kernel_rfl
        focus kernel_rfl
        focus
          intro F hF
          simp at hF
          simp [dhead, seenBy, keepOnly, looks, joinN, addN, bite_eq, Op.operands, hF, htk0, htk, htk2, Call.operands, ld, c6, c7]
          exact ⟨rfl, rfl, rfl⟩
        focus ((try simp [allN]) <;> rfl)
        refine Wp.ret ?_
        exact ⟨rfl, answer_trim1 (v := .bool true) (by simp) rfl⟩
end Go.Proofs.Ytpjenggjcpahaaa.Ib

/-
  Equal lists, equal pairs, lists of one 1; stores between calls. No condition.
-/
import Derived.Test.YtnaegkpaiahpmaaRows
import Derived.Test.YtnaegkpaiahpmaaSym
import Derived.Test.YtnaegkpaiahpmaaSymD
import Derived.Test.YtnaegkpaiahpmaaSymE
import Derived.Test.YtnaegkpaiahpmaaSymF
import Derived.Test.YtnaegkpaiahpmaaSymG
import Derived.Test.YtnaegkpaiahpmaaIds
import Derived.Test.YtnaegkpaiahpmaaSumm
import Derived.Test.YtnaegkpaiahpmaaNp
import Derived.Test.YtnaegkpaiahpmaaTel
import Derived.Test.YtnaegkpaiahpmaaIv
import Derived.Test.YtnaegkpaiahpmaaDraw
import Derived.Test.YtnaegkpaiahpmaaDrawC
import Derived.Test.YtnaegkpaiahpmaaDrawD
import Derived.Test.YtnaegkpaiahpmaaIvA
import Derived.Test.YtnaegkpaiahpmaaIvB
import Derived.Test.YtnaegkpaiahpmaaIvC
import Derived.WalkKit
import Derived.ProofKit
import Derived.OpenShut
namespace Go.Proofs.Ytnaegkpaiahpmaa.Iv
open Go.ChangeShapes Go.WideShapes Go.ChangeAt Go.RowKit Go.Sx Go.Proofs.Ytnaegkpaiahpmaa.Ids
open Go.Proofs.Ytnaegkpaiahpmaa.Tel (telK telK_ok vr_agg2 rowsR rowsO objsO lstR lstO lstIs tells_lst)
open Go.Proofs.Ytnaegkpaiahpmaa.Draw (fldP0 fldP1 loadS lookN loadP storeP lookW)
set_option linter.unusedVariables false
set_option linter.unusedSimpArgs false

/-! ## Stores between calls -/
structure Ws (S : Sto Sy) : Prop where
  desc : Desc S.next S.obs
  low : S.low ≤ S.next
theorem numO_old : ∀ (l : List (Ob Sy)) (o : Nat) (acc : List (Nat × Ob Sy)) (k : Nat), k < o → Go.Sx.look (numO o l acc) k = Go.Sx.look acc k
  | [], o, acc, k, h => rfl
  | b :: r, o, acc, k, h => by
    simp only [numO]
    rw [numO_old r (o + 1) _ k (by omega), look_cons, if_neg (by omega)]
theorem numO_get : ∀ (l : List (Ob Sy)) (o : Nat) (acc : List (Nat × Ob Sy)) (i : Nat) (x : Ob Sy), l[i]? = some x → Go.Sx.look (numO o l acc) (o + i) = some x
  | [], o, acc, i, x, h => by simp at h
  | b :: r, o, acc, 0, x, h => by
    simp at h
    subst h
    simp only [numO]
    rw [numO_old r (o + 1) _ (o + 0) (by omega), look_cons, if_pos (by omega)]
  | b :: r, o, acc, i + 1, x, h => by
    simp only [numO]
    rw [show o + (i + 1) = o + 1 + i by omega]
    exact numO_get r _ _ i x (by simpa using h)
theorem telP {K : Ctr} {α : Type} {k0 : FuncId} {D : List (V Sy) → Sto Sy → Option α} {R : α → Nat → V Sy} {O : α → Nat → List (Ob Sy)} {args : List (V Sy)} {S : Sto Sy} {a : α} (h : Ws S) (hk : ∀ args sto, K k0 args sto = telK k0 D R O k0 args sto) (hD : D args ⟨S.next, S.obs, S.next⟩ = some a) (f : Nat) (hf : 1 ≤ f) (hk9 : (k0 : Nat) < 1000000 := by decide) :
    ∃ S1, acallV (symIn Try.prog K [] f) S (.func k0 [] []) args = some (R a S.next, S1) ∧ Ws S1 ∧ S1.next = S.next + (O a S.next).length ∧ (∀ i x, (O a S.next)[i]? = some x → Go.Sx.look S1.obs (S.next + i) = some x) ∧ ∀ k x, Go.Sx.look S.obs k = some x → Go.Sx.look S1.obs k = some x := by
  obtain ⟨g, rfl⟩ : ∃ g, f = g + 1 := ⟨f - 1, by omega⟩
  have e : K k0 args ⟨S.next, S.obs, S.next⟩ = some (R a S.next, ⟨S.next + (O a S.next).length, numO S.next (O a S.next) S.obs, S.next⟩) := by
    rw [hk]
    unfold telK
    rw [Nat.beq_refl, bite_true, hD]
  have hlow := h.low
  refine ⟨_, call_K (n := g) e hk9, ⟨desc_numO _ _ _ h.desc, ?_⟩, rfl, fun i x hx => numO_get _ _ _ _ _ hx, fun k x hx => ?_⟩
  · simp only
    split <;> omega
  · rw [numO_old _ _ _ _ (h.desc.look_lt hx)]; exact hx
theorem cellW {S : Sto Sy} (h : Ws S) {a b : V Sy} (ha : a.oneCell = true) (hb : b.oneCell = true) : ∃ S', astore (tiOf Try.prog) (S.new [V.nil, V.nil]) 25 (.ptr S.next 0) (.agg [a, b]) = some S' ∧ Ws S' ∧ S'.next = S.next + 1 ∧ Go.Sx.look S'.obs S.next = some [a, b] ∧ ∀ k x, Go.Sx.look S.obs k = some x → Go.Sx.look S'.obs k = some x := by
  refine ⟨(S.new [V.nil, V.nil]).write S.next [a, b], storeP (lookN S V.nil V.nil) ha hb, ⟨Desc.put _ _ (show Desc (S.next + 1) ((S.next, noBc [V.nil, V.nil]) :: S.obs) from ⟨Nat.lt_succ_self _, h.desc⟩), ?_⟩, rfl, lookW (lookN S V.nil V.nil), fun k x hx => ?_⟩
  · show (if Nat.blt S.next S.low then S.next else S.low) ≤ S.next + 1
    have := h.low
    split <;> omega
  · have := h.desc.look_lt hx
    show Go.Sx.look (put (S.new [V.nil, V.nil]).obs S.next _) k = _
    rw [look_put_ne (by omega)]
    show Go.Sx.look ((S.next, noBc [V.nil, V.nil]) :: S.obs) k = _
    rw [look_cons, if_neg (by omega)]; exact hx
theorem loadI {S : Sto Sy} {q i : Nat} {zs : List Int} {x : Int} (h : Go.Sx.look S.obs q = some (ints (nums zs))) (hi : zs[i]? = some x) : aload (tiOf Try.prog) S 3 (.ptr q i) = some (.int .i64 (.c x)) := by
  have h2 := lookC_ints h
  simp only [aload, tiI, h2, aggDesc]
  rw [if_neg (by decide), ints_get, nums_get, hi]
  rfl

/-! ## Are two lists equal? -/
theorem ans1 {T : TypeId → Option Ti} {st : St Sy} {n0 t : Nat} {v : V Sy} (h : st.tm.get .any t = v) {Q : V Sy × Sto Sy → Prop} (hq : ∀ S, Q (v, S)) : ∃ r, answer T st n0 [.tmp t] = some r ∧ Q r :=
  ⟨(v, st.sto.trim n0 v), by simp [answer, aresults, aresult, h], hq _⟩
section
attribute [local simp] aops wants aop apure St.eval setTm_some setTm_none Tr.get_set aload evals pevals apureB alen tiS tiI tiB abin aint isCmp sym_lt sym_eqs sym_neqs sym_eq sym_neq sym_gtr sym_leq sym_geq sym_add aeff aeffB idx? ofV aindexAddr aggDesc aifc_int aun
set_option maxRecDepth 10000 in
theorem eql_run (zs us : List Int) (hz : zs.length ≤ 1000) (hu : us.length ≤ 1000) :
    ∃ r, symRun Try.prog noK [] (2999 + 1) 12 [.slice (ints (nums zs)), .slice (ints (nums us))] ⟨0, [], 0⟩ = some r ∧ r.1 = .bool (decide (zs = us)) := by
  refine own_run2 rfl Try.func12 rfl rfl ?_
  simp only [Try.f12]
  by_cases hl : zs.length = us.length
  case neg =>
    have hlI : ((zs.length : Int) == us.length) = false := by simpa using (show ¬ (zs.length : Int) = us.length by omega)
    have hne : decide (zs = us) = false := decide_eq_false (fun e => hl (by rw [e]))
    repeat' (first | refine Wp.seq ?_ | refine Wp.block ?_ | (apply Wp.region; focus ((try simp [setArgs, hlI]) <;> rfl)) | (refine Wp.cond_t ?_ ?_; focus (simp [setArgs, hlI]; done)) | (refine Wp.cond_f ?_ ?_; focus (simp [setArgs, hlI]; done)) | refine Wp.skip ?_ | refine Wp.ret ?_ | refine Wp.exit ?_ | refine Blk.here ?_ | (refine Blk.past ?_ ?_; focus (simp; done)))
    exact ⟨rfl, ans1 (v := .bool false) (by simp) (by simp [hne])⟩
  have hlI : ((zs.length : Int) == us.length) = true := by simpa using (show (zs.length : Int) = us.length by omega)
  repeat' (first | refine Wp.seq ?_ | refine Wp.block ?_ | (apply Wp.region; focus ((try simp [setArgs, hlI]) <;> rfl)) | (refine Wp.cond_t ?_ ?_; focus (simp [setArgs, hlI]; done)) | (refine Wp.cond_f ?_ ?_; focus (simp [setArgs, hlI]; done)) | refine Wp.skip ?_ | refine Wp.ret ?_ | refine Wp.exit ?_ | refine Blk.here ?_ | (refine Blk.past ?_ ?_; focus (simp; done)))
  refine Wp.loop rfl rfl (fun i st => st.tm.get .any 0 = .slice (ints (nums zs)) ∧ st.tm.get .any 1 = .slice (ints (nums us)) ∧ st.tm.get .any 5 = .int .i64 (.c i) ∧ st.sto = ⟨0, [], 0⟩ ∧ zs.take i = us.take i) zs.length (by omega) ?_ ?_ ?_
  · exact ⟨by simp [setArgs], by simp [setArgs], by simp, rfl, by simp⟩
  · rintro f i ⟨tm, S⟩ hi ⟨h0, h1, h5, rfl, htk⟩
    simp only at h0 h1 h5
    have hlt : (i : Int) < zs.length := by omega
    have hiu : i < us.length := by omega
    have hltu : (i : Int) < us.length := by omega
    have hxi : zs[i]? = some zs[i] := List.getElem?_eq_getElem hi
    have hyi : us[i]? = some us[i] := List.getElem?_eq_getElem hiu
    have hw := wrap_in (a := (i : Int) + 1) (by omega) (by omega)
    have hs : zs.take (i + 1) = us.take (i + 1) ↔ zs[i] = us[i] := by
      rw [List.take_add_one, List.take_add_one, hxi, hyi, htk]
      simp only [Option.toList_some, List.append_cancel_left_eq, List.cons.injEq, and_true]
    generalize hx : zs[i] = x at hxi hs
    generalize hy : us[i] = y at hyi hs
    repeat' (first | refine Wp.seq ?_ | refine Wp.block ?_ | (apply Wp.region; focus ((try simp [h0, h1, h5, hlt]) <;> rfl)) | (refine Wp.cond_t ?_ ?_; focus (simp [h0, h1, h5, hlt]; done)) | (refine Wp.cond_f ?_ ?_; focus (simp [h0, h1, h5, hlt]; done)) | refine Wp.skip ?_ | refine Wp.ret ?_ | refine Wp.exit ?_ | refine Blk.here ?_ | (refine Blk.past ?_ ?_; focus (simp; done)))
    (apply Wp.drawn2 8; (focus kernel_rfl); (focus kernel_rfl); (focus intro F; simp [dhead, seenBy, keepOnly, looks, joinN, addN, bite_eq, Op.operands, takeNew, Call.operands, h0, h1, h5, hlt, hltu, hi, hiu, hxi, hyi, hx, hy]; exact ⟨rfl, rfl, rfl⟩); (focus (try simp [allN, takeNew, Call.operands, h0, h1, h5, hlt, hltu, hi, hiu, hxi, hyi, hx, hy]) <;> rfl))
    by_cases hxy : x = y
    · subst hxy
      repeat' (first | refine Wp.seq ?_ | refine Wp.block ?_ | (apply Wp.region; focus ((try simp [h0, h1, h5, hw]) <;> rfl)) | (refine Wp.cond_t ?_ ?_; focus (simp [h0, h1, h5, hw]; done)) | (refine Wp.cond_f ?_ ?_; focus (simp [h0, h1, h5, hw]; done)) | refine Wp.skip ?_ | refine Wp.ret ?_ | refine Wp.exit ?_ | refine Blk.here ?_ | (refine Blk.past ?_ ?_; focus (simp; done)))
      exact ⟨by simp [h0], by simp [h1], by simp [hw], rfl, hs.2 rfl⟩
    · have hxy' : (x == y) = false := by simpa using hxy
      have hne : decide (zs = us) = false := decide_eq_false (fun e => hxy (hs.1 (by rw [e])))
      repeat' (first | refine Wp.seq ?_ | refine Wp.block ?_ | (apply Wp.region; focus ((try simp [h0, h1, h5, hxy, hxy']) <;> rfl)) | (refine Wp.cond_t ?_ ?_; focus (simp [h0, h1, h5, hxy, hxy']; done)) | (refine Wp.cond_f ?_ ?_; focus (simp [h0, h1, h5, hxy, hxy']; done)) | refine Wp.skip ?_ | refine Wp.ret ?_ | refine Wp.exit ?_ | refine Blk.here ?_ | (refine Blk.past ?_ ?_; focus (simp; done)))
      exact ⟨rfl, ans1 (v := .bool false) (by simp) (by simp [hne])⟩
  · rintro f ⟨tm, S⟩ ⟨h0, h1, h5, rfl, htk⟩
    simp only at h0 h1 h5
    have hnl : ¬ (zs.length : Int) < zs.length := by omega
    rw [List.take_of_length_le (Nat.le_refl _), List.take_of_length_le (by omega)] at htk
    subst htk
    repeat' (first | refine Wp.seq ?_ | refine Wp.block ?_ | (apply Wp.region; focus ((try simp [h0, h1, h5, hnl]) <;> rfl)) | (refine Wp.cond_t ?_ ?_; focus (simp [h0, h1, h5, hnl]; done)) | (refine Wp.cond_f ?_ ?_; focus (simp [h0, h1, h5, hnl]; done)) | refine Wp.skip ?_ | refine Wp.ret ?_ | refine Wp.exit ?_ | refine Blk.here ?_ | (refine Blk.past ?_ ?_; focus (simp; done)))
    exact ⟨rfl, ans1 (v := .bool true) (by simp) (by simp)⟩
end
theorem eql_nil : (symRun Try.prog noK [] 60 12 [.emp, .emp] ⟨0, [], 0⟩).map (·.1) = some (.bool true) := by kernel_rfl
theorem patL_cons {z : List Int} (h : 1 ≤ z.length) : patL z = .slice (ints (nums z)) := by
  cases z with
  | nil => simp at h
  | cons a r => rfl
/-- Both short, or both none. -/
def Bo (a b : List Int) : Prop := ((1 ≤ a.length ∧ a.length ≤ 6) ∧ 1 ≤ b.length ∧ b.length ≤ 6) ∨ (a = [] ∧ b = [])
theorem Bo.le {a b : List Int} (h : Bo a b) : a.length ≤ 6 ∧ b.length ≤ 6 := by
  rcases h with hp | ⟨rfl, rfl⟩
  · exact ⟨hp.1.2, hp.2.2⟩
  · simp
open Classical in
noncomputable def dEq : List (V Sy) → Sto Sy → Option (List Int × List Int)
  | [x, y], sto => match constsOf sto x, constsOf sto y with
    | some a, some b => if Bo a b then some (a, b) else none
    | _, _ => none
  | _, _ => none
theorem dEq_eq {sto : Sto Sy} {x y : V Sy} {a b : List Int} (ha : constsOf sto x = some a) (hb : constsOf sto y = some b) (h : Bo a b) : dEq [x, y] sto = some (a, b) := by
  simp only [dEq, ha, hb]
  rw [if_pos h]
noncomputable def eqbK : Ctr := telK 12 dEq (fun p _ => .bool (decide (p.1 = p.2))) (fun _ _ => [])
theorem eqbK_ok (ρ : Nat → Int) (s : Sms) (B : Nat) : COk Try.prog ⟨Sy.den ρ, s⟩ B eqbK := by
  refine telK_ok (body_of Try.func12 rfl) (fun args sto p h => ?_)
  unfold dEq at h
  split at h
  case h_2 => cases h
  rename_i x y
  split at h
  case h_2 => cases h
  rename_i a b ha hb
  split at h
  case isFalse => cases h
  rename_i hp
  cases h
  have hl := hp.le
  refine ⟨[patL a, patL b], ?_, fun ρ s B c hinv vs hvs ρ' => ?_⟩
  · rcases hp with hp | ⟨rfl, rfl⟩
    · obtain ⟨⟨v, S⟩, hr, hv⟩ := eql_run a b (by omega) (by omega)
      simp only at hv
      subst hv
      exact ⟨fun _ => 0, [.slice (ints (nums a)), .slice (ints (nums b))], _, S, [], fun _ => 0, fun s B' => run_goodK noCount mixed (fun _ _ _ => noK_ok) _ hr B', List.nodup_nil, fun n ρ => ⟨rfl, fun j o b hj => by simp at hj, .bool _⟩, fun s B c vs h => by rwa [patL_cons hp.1.1, patL_cons hp.2.1] at h⟩
    · obtain ⟨⟨v, S⟩, hr, hv⟩ := Option.map_eq_some_iff.1 eql_nil
      cases hv
      exact ⟨fun _ => 0, [.emp, .emp], _, S, [], fun _ => 0, fun s B' => run_goodK noCount mixed (fun _ _ _ => noK_ok) _ hr B', List.nodup_nil, fun n ρ => ⟨rfl, fun j o b hj => by simp at hj, .bool _⟩, fun s B c vs h => h⟩
  · obtain ⟨v, w, rfl, hv, hw⟩ := hvs.two
    exact .cons (patL_rel ha (by omega) hinv hv) (.cons (patL_rel hb (by omega) hinv hw) .nil)

/-! ## Are two pairs equal? -/
section
attribute [local simp] aops wants aop apure St.eval setTm_some setTm_none Tr.get_set evals pevals apureB tiS tiI tiB abin aint isCmp sym_lt sym_eqs sym_neqs sym_eq sym_neq sym_gtr sym_leq sym_geq sym_add sym_sub sym_mul aeff aeffB idx? ofV aindexAddr aggDesc aifc_int aun fldP0 fldP1
set_option maxRecDepth 10000 in
theorem eqp_run (a b a' b' : List Int) (h1 : Bo a a') (h2 : Bo b b') : ∃ r, symRun Try.prog eqbK [] 22 8 [.agg [patL a, patL b], .agg [patL a', patL b']] ⟨0, [], 0⟩ = some r ∧ r.1 = .bool (decide (a = a' ∧ b = b')) := by
  refine own_run2 (n := 21) (by rfl) Try.func8 rfl rfl ?_
  simp only [Try.f8]
  have bx1 := bxP ⟨0, [], 0⟩ a b
  have bx2 := bxP ((⟨0, [], 0⟩ : Sto Sy).new [patL a, patL b]) a' b'
  have k1 : Go.Sx.look (((⟨0, [], 0⟩ : Sto Sy).new [patL a, patL b]).new [patL a', patL b']).obs 0 = some [patL a, patL b] := look_pair a b ⟨0, [], 0⟩
  have k2 := look_pair a' b' ((⟨0, [], 0⟩ : Sto Sy).new [patL a, patL b])
  have hm1 : isMp [patL a, patL b] = false := by cases a <;> cases b <;> rfl
  have hm2 : isMp [patL a', patL b'] = false := by cases a' <;> cases b' <;> rfl
  have l0 := loadS (i := 0) k1 rfl hm1
  have l1 := loadS (i := 1) k1 rfl hm1
  have l2 := loadS (i := 0) k2 rfl hm2
  have l3 := loadS (i := 1) k2 rfl hm2
  have c1 := boolC (K := eqbK) (S := ((⟨0, [], 0⟩ : Sto Sy).new [patL a, patL b]).new [patL a', patL b']) (Nat.zero_le _) (fun _ _ => rfl) (dEq_eq (consts_pat _ a) (consts_pat _ a') h1) 21 (by omega)
  have c2 := boolC (K := eqbK) (S := ((⟨0, [], 0⟩ : Sto Sy).new [patL a, patL b]).new [patL a', patL b']) (Nat.zero_le _) (fun _ _ => rfl) (dEq_eq (consts_pat _ b) (consts_pat _ b') h2) 21 (by omega)
  have n1 : ((⟨0, [], 0⟩ : Sto Sy).new [patL a, patL b]).next = 1 := rfl
  rw [n1] at l2 l3 bx2
  generalize ((⟨0, [], 0⟩ : Sto Sy).new [patL a, patL b]).new [patL a', patL b'] = S2 at *
  generalize (⟨0, [], 0⟩ : Sto Sy).new [patL a, patL b] = S1 at *
  have e : decide (a = a' ∧ b = b') = (decide (a = a') && decide (b = b')) := by simp
  rw [e]
  simp only at c1 c2
  generalize decide (a = a') = p at *
  generalize decide (b = b') = q at *
  generalize patL a = x at *
  generalize patL b = y at *
  generalize patL a' = x' at *
  generalize patL b' = y' at *
  cases p with
  | false =>
    repeat' (first | refine Wp.seq ?_ | refine Wp.block ?_ | (apply Wp.region; focus ((try simp [setArgs, bx1, bx2, l0, l1, l2, l3, c1, c2]) <;> rfl)) | (refine Wp.cond_t ?_ ?_; focus (simp [setArgs, bx1, bx2, l0, l1, l2, l3, c1, c2]; done)) | (refine Wp.cond_f ?_ ?_; focus (simp [setArgs, bx1, bx2, l0, l1, l2, l3, c1, c2]; done)) | refine Wp.skip ?_ | refine Wp.ret ?_ | refine Wp.exit ?_ | refine Blk.here ?_ | (refine Blk.past ?_ ?_; focus (simp; done)))
    exact ⟨rfl, ans1 (v := .bool false) (by simp) (by simp)⟩
  | true =>
    repeat' (first | refine Wp.seq ?_ | refine Wp.block ?_ | (apply Wp.region; focus ((try simp [setArgs, bx1, bx2, l0, l1, l2, l3, c1, c2]) <;> rfl)) | (refine Wp.cond_t ?_ ?_; focus (simp [setArgs, bx1, bx2, l0, l1, l2, l3, c1, c2]; done)) | (refine Wp.cond_f ?_ ?_; focus (simp [setArgs, bx1, bx2, l0, l1, l2, l3, c1, c2]; done)) | refine Wp.skip ?_ | refine Wp.ret ?_ | refine Wp.exit ?_ | refine Blk.here ?_ | (refine Blk.past ?_ ?_; focus (simp; done)))
    exact ⟨rfl, ans1 (v := .bool q) (by simp) (by simp)⟩
end
open Classical in
noncomputable def dEp : List (V Sy) → Sto Sy → Option ((List Int × List Int) × (List Int × List Int))
  | [.agg [x, y], .agg [u, v]], sto => match constsOf sto x, constsOf sto y, constsOf sto u, constsOf sto v with
    | some a, some b, some a', some b' => if Bo a a' ∧ Bo b b' then some ((a, b), (a', b')) else none
    | _, _, _, _ => none
  | _, _ => none
theorem dEp_eq {sto : Sto Sy} {x y u v : V Sy} {a b a' b' : List Int} (h1 : constsOf sto x = some a) (h2 : constsOf sto y = some b) (h3 : constsOf sto u = some a') (h4 : constsOf sto v = some b') (h : Bo a a') (h' : Bo b b') : dEp [.agg [x, y], .agg [u, v]] sto = some ((a, b), (a', b')) := by
  simp only [dEp, h1, h2, h3, h4]
  rw [if_pos ⟨h, h'⟩]
noncomputable def eqpK : Ctr := telK 8 dEp (fun p _ => .bool (decide (p.1.1 = p.2.1 ∧ p.1.2 = p.2.2))) (fun _ _ => [])
theorem eqpK_ok (ρ : Nat → Int) (s : Sms) (B : Nat) : COk Try.prog ⟨Sy.den ρ, s⟩ B eqpK := by
  refine telK_ok (body_of Try.func8 rfl) (fun args sto p h => ?_)
  unfold dEp at h
  split at h
  case h_2 => cases h
  rename_i x y u v
  split at h
  case h_2 => cases h
  rename_i a b a' b' h1 h2 h3 h4
  split at h
  case isFalse => cases h
  rename_i hp
  cases h
  have l1 := hp.1.le
  have l2 := hp.2.le
  refine ⟨_, tells_run eqbK_ok (eqp_run a b a' b' hp.1 hp.2), fun ρ s B c hinv vs hvs ρ' => ?_⟩
  obtain ⟨v1, v2, rfl, hv1, hv2⟩ := hvs.two
  obtain ⟨p1, q1, rfl, hp1, hq1⟩ := vr_agg2 hv1
  obtain ⟨p2, q2, rfl, hp2, hq2⟩ := vr_agg2 hv2
  exact .cons (VRs.agg (.cons (patL_rel h1 (by omega) hinv hp1) (.cons (patL_rel h2 (by omega) hinv hq1) .nil))) (.cons (VRs.agg (.cons (patL_rel h3 (by omega) hinv hp2) (.cons (patL_rel h4 (by omega) hinv hq2) .nil))) .nil)
end Go.Proofs.Ytnaegkpaiahpmaa.Iv

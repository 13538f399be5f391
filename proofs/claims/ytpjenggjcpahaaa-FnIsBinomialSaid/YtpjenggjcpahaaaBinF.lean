import Derived.Test.YtpjenggjcpahaaaBin
import Derived.Test.YtpjenggjcpahaaaBinM
import Derived.Test.YtpjenggjcpahaaaBinS
import Derived.Test.YtpjenggjcpahaaaBinSa
import Derived.Test.YtpjenggjcpahaaaBinI
import Derived.Test.YtpjenggjcpahaaaBinIa
import Derived.Test.YtpjenggjcpahaaaSeq
import Derived.Test.YtpjenggjcpahaaaSeqB
import Derived.Test.YtpjenggjcpahaaaSeqC
import Derived.Test.YtpjenggjcpahaaaSeqE
import Derived.Test.YtpjenggjcpahaaaRep
import Derived.Test.YtpjenggjcpahaaaRepB
namespace Go.Proofs.Ytpjenggjcpahaaa.Bin
open Go.ChangeShapes Go.WideShapes Go.ChangeAt Go.RowKit Go.Sx Go.Proofs.Ytpjenggjcpahaaa.Ids Go.Proofs.Ytpjenggjcpahaaa.Rep Go.Proofs.Ytpjenggjcpahaaa.Seq
set_option linter.unusedVariables false
set_option linter.unusedSimpArgs false

theorem ans1 {T : TypeId → Option Ti} {st : St Sy} {n0 t : Nat} {v : V Sy} (h : st.tm.get .any t = v) {Q : V Sy × Sto Sy → Prop} (hq : ∀ S, Q (v, S)) : ∃ r, answer T st n0 [.tmp t] = some r ∧ Q r :=
  ⟨(v, st.sto.trim n0 v), by simp [answer, aresults, aresult, h], hq _⟩
section
attribute [local simp] aops wants aop apure St.eval setTm_some setTm_none Tr.get_set aload evals pevals apureB alen tiS tiI tiB abin aint isCmp sym_lt sym_eqs sym_neqs sym_eq sym_neq sym_gtr sym_leq sym_geq sym_add aeff aeffB idx? ofV aindexAddr aggDesc aifc_int aun
set_option maxRecDepth 10000 in
theorem same_run (zs us : List Int) (hz : zs.length ≤ 1000) (hu : us.length ≤ 1000) :
    ∃ r, symRun Try.prog noK [] (2999 + 1) 90 [.slice (ints (nums zs)), .slice (ints (nums us))] ⟨0, [], 0⟩ = some r ∧ r.1 = .bool (decide (zs = us)) := by
  refine own_run2 rfl Try.func90 rfl rfl ?_
  simp only [Try.f90]
  by_cases hl : zs.length = us.length
  case neg =>
    have hlI : ((zs.length : Int) == us.length) = false := by simpa using (show ¬ (zs.length : Int) = us.length by omega)
    have hne : decide (zs = us) = false := decide_eq_false (fun e => hl (by rw [e]))
    repeat' (first | refine Wp.seq ?_ | refine Wp.block ?_ | (apply Wp.region; focus ((try simp [setArgs, hlI]) <;> rfl)) | (refine Wp.cond_t ?_ ?_; focus (simp [setArgs, hlI]; done)) | (refine Wp.cond_f ?_ ?_; focus (simp [setArgs, hlI]; done)) | refine Wp.skip ?_ | refine Wp.ret ?_ | refine Wp.exit ?_ | refine Blk.here ?_ | (refine Blk.past ?_ ?_; focus (simp; done)))
    exact ⟨rfl, ans1 (v := .bool false) (by simp) (by simp [hne])⟩
  have hlI : ((zs.length : Int) == us.length) = true := by simpa using (show (zs.length : Int) = us.length by omega)
  repeat' (first | refine Wp.seq ?_ | refine Wp.block ?_ | (apply Wp.region; focus ((try simp [setArgs, hlI]) <;> rfl)) | (refine Wp.cond_t ?_ ?_; focus (simp [setArgs, hlI]; done)) | (refine Wp.cond_f ?_ ?_; focus (simp [setArgs, hlI]; done)) | refine Wp.skip ?_ | refine Wp.ret ?_ | refine Wp.exit ?_ | refine Blk.here ?_ | (refine Blk.past ?_ ?_; focus (simp; done)))
  refine Wp.loop rfl rfl (fun i st => st.tm.get .any 0 = .slice (ints (nums zs)) ∧ st.tm.get .any 1 = .slice (ints (nums us)) ∧ st.tm.get .any 5 = .int .i64 (.c i) ∧ st.sto = ⟨0, [], 0⟩ ∧ zs.take i = us.take i) zs.length (by omega) ?_ ?_ ?_
  · exact ⟨by simp [setArgs], by simp [setArgs], by simp, rfl, by simp⟩
  · rintro f i ⟨tm, S⟩ hi ⟨h0, h1, h5, rfl, htk⟩
    simp only at h0 h1 h5
    have hlt : (i : Int) < zs.length := by omega
    have hiu : i < us.length := by omega
    have hltu : (i : Int) < us.length := by omega
    have hxi : zs[i]? = some zs[i] := List.getElem?_eq_getElem hi
    have hyi : us[i]? = some us[i] := List.getElem?_eq_getElem hiu
    have hw := wrap_in (a := (i : Int) + 1) (by omega) (by omega)
    have hs : zs.take (i + 1) = us.take (i + 1) ↔ zs[i] = us[i] := by
      rw [List.take_add_one, List.take_add_one, hxi, hyi, htk]
      simp only [Option.toList_some, List.append_cancel_left_eq, List.cons.injEq, and_true]
    generalize hx : zs[i] = x at hxi hs
    generalize hy : us[i] = y at hyi hs
    repeat' (first | refine Wp.seq ?_ | refine Wp.block ?_ | (apply Wp.region; focus ((try simp [h0, h1, h5, hlt]) <;> rfl)) | (refine Wp.cond_t ?_ ?_; focus (simp [h0, h1, h5, hlt]; done)) | (refine Wp.cond_f ?_ ?_; focus (simp [h0, h1, h5, hlt]; done)) | refine Wp.skip ?_ | refine Wp.ret ?_ | refine Wp.exit ?_ | refine Blk.here ?_ | (refine Blk.past ?_ ?_; focus (simp; done)))
    (apply Wp.drawn2 8; (focus kernel_rfl); (focus kernel_rfl); (focus intro F; simp [dhead, seenBy, keepOnly, looks, joinN, addN, bite_eq, Op.operands, takeNew, Call.operands, h0, h1, h5, hlt, hltu, hi, hiu, hxi, hyi, hx, hy]; exact ⟨rfl, rfl, rfl⟩); (focus (try simp [allN, takeNew, Call.operands, h0, h1, h5, hlt, hltu, hi, hiu, hxi, hyi, hx, hy]) <;> rfl))
    by_cases hxy : x = y
    · subst hxy
      repeat' (first | refine Wp.seq ?_ | refine Wp.block ?_ | (apply Wp.region; focus ((try simp [h0, h1, h5, hw]) <;> rfl)) | (refine Wp.cond_t ?_ ?_; focus (simp [h0, h1, h5, hw]; done)) | (refine Wp.cond_f ?_ ?_; focus (simp [h0, h1, h5, hw]; done)) | refine Wp.skip ?_ | refine Wp.ret ?_ | refine Wp.exit ?_ | refine Blk.here ?_ | (refine Blk.past ?_ ?_; focus (simp; done)))
      exact ⟨by simp [h0], by simp [h1], by simp [hw], rfl, hs.2 rfl⟩
    · have hxy' : (x == y) = false := by simpa using hxy
      have hne : decide (zs = us) = false := decide_eq_false (fun e => hxy (hs.1 (by rw [e])))
      repeat' (first | refine Wp.seq ?_ | refine Wp.block ?_ | (apply Wp.region; focus ((try simp [h0, h1, h5, hxy, hxy']) <;> rfl)) | (refine Wp.cond_t ?_ ?_; focus (simp [h0, h1, h5, hxy, hxy']; done)) | (refine Wp.cond_f ?_ ?_; focus (simp [h0, h1, h5, hxy, hxy']; done)) | refine Wp.skip ?_ | refine Wp.ret ?_ | refine Wp.exit ?_ | refine Blk.here ?_ | (refine Blk.past ?_ ?_; focus (simp; done)))
      exact ⟨rfl, ans1 (v := .bool false) (by simp) (by simp [hne])⟩
  · rintro f ⟨tm, S⟩ ⟨h0, h1, h5, rfl, htk⟩
    simp only at h0 h1 h5
    have hnl : ¬ (zs.length : Int) < zs.length := by omega
    rw [List.take_of_length_le (Nat.le_refl _), List.take_of_length_le (by omega)] at htk
    subst htk
    repeat' (first | refine Wp.seq ?_ | refine Wp.block ?_ | (apply Wp.region; focus ((try simp [h0, h1, h5, hnl]) <;> rfl)) | (refine Wp.cond_t ?_ ?_; focus (simp [h0, h1, h5, hnl]; done)) | (refine Wp.cond_f ?_ ?_; focus (simp [h0, h1, h5, hnl]; done)) | refine Wp.skip ?_ | refine Wp.ret ?_ | refine Wp.exit ?_ | refine Blk.here ?_ | (refine Blk.past ?_ ?_; focus (simp; done)))
    exact ⟨rfl, ans1 (v := .bool true) (by simp) (by simp)⟩
end

theorem eqF_case {ρ : Nat → Int} : ∀ l : List (Sy × Sy), ((∀ p, p ∈ l → p.1.den ρ = p.2.den ρ) ∧ ∀ f, f ∈ eqF l l.length → f.Ok ρ) ∨ ∃ (j : Nat) (p : Sy × Sy), j < l.length ∧ l[j]? = some p ∧ p.1.den ρ ≠ p.2.den ρ ∧ ∀ f, f ∈ eqF l j → f.Ok ρ
  | [] => .inl ⟨by simp, by simp [eqF]⟩
  | a :: r => by
    by_cases h : a.1.den ρ = a.2.den ρ
    · rcases eqF_case r with ⟨h1, h2⟩ | ⟨j, p, h1, h2, h3, h4⟩
      · refine .inl ⟨fun p hp => ?_, fun f hf => ?_⟩
        · rcases List.mem_cons.1 hp with rfl | hp
          · exact h
          · exact h1 p hp
        · simp only [List.length_cons, eqF, List.mem_cons] at hf
          rcases hf with rfl | hf
          · exact Fact.eq_yes h
          · exact h2 f hf
      · refine .inr ⟨j + 1, p, by simpa using h1, by simpa using h2, h3, fun f hf => ?_⟩
        simp only [eqF, List.mem_cons] at hf
        rcases hf with rfl | hf
        · exact Fact.eq_yes h
        · exact h4 f hf
    · refine .inr ⟨0, a, by simp, rfl, h, fun f hf => ?_⟩
      simp only [eqF, List.mem_cons, List.not_mem_nil, or_false] at hf
      subst hf
      exact Fact.eq_no h
theorem qEs_case {ρ : Nat → Int} : ∀ l : List (List Sy × List Sy), ((∀ p, p ∈ l → p.1.map (Sy.den ρ) = p.2.map (Sy.den ρ)) ∧ ∀ f, f ∈ qEs l l.length → f.Ok ρ) ∨ ∃ (j : Nat) (p : List Sy × List Sy), j < l.length ∧ l[j]? = some p ∧ p.1.map (Sy.den ρ) ≠ p.2.map (Sy.den ρ) ∧ ∀ f, f ∈ qEs l j → f.Ok ρ
  | [] => .inl ⟨by simp, by simp [qEs]⟩
  | a :: r => by
    by_cases h : a.1.map (Sy.den ρ) = a.2.map (Sy.den ρ)
    · rcases qEs_case r with ⟨h1, h2⟩ | ⟨j, p, h1, h2, h3, h4⟩
      · refine .inl ⟨fun p hp => ?_, fun f hf => ?_⟩
        · rcases List.mem_cons.1 hp with rfl | hp
          · exact h
          · exact h1 p hp
        · simp only [List.length_cons, qEs, List.mem_cons] at hf
          rcases hf with rfl | hf
          · exact decide_eq_true h
          · exact h2 f hf
      · refine .inr ⟨j + 1, p, by simpa using h1, by simpa using h2, h3, fun f hf => ?_⟩
        simp only [qEs, List.mem_cons] at hf
        rcases hf with rfl | hf
        · exact decide_eq_true h
        · exact h4 f hf
    · refine .inr ⟨0, a, by simp, rfl, h, fun f hf => ?_⟩
      simp only [qEs, List.mem_cons, List.not_mem_nil, or_false] at hf
      subst hf
      exact decide_eq_false h

def BinP (zss : List (List Int)) : Prop := ∀ n, n < zss.length → ∀ i, i < n + 1 → ∀ j, j < n + 1 - i → (aI n i j).den (rhoR [] zss) = (bI n i j).den (rhoR [] zss)
open Classical in
noncomputable def binB (zss : List (List Int)) : Bool := decide (SeqP zss ∧ BinP zss)
theorem rho_in {zss : List (List Int)} (h : SeqP zss) (k : Nat) : -1000000 ≤ rhoR [] zss k ∧ rhoR [] zss k ≤ 1000000 := by
  unfold rhoR
  rw [if_neg (by simp)]
  generalize (unT.getD (k - ([] : List Int).length) (0, 0)).1 = n
  generalize (unT.getD (k - ([] : List Int).length) (0, 0)).2 = i
  rcases Nat.lt_or_ge n zss.length with hn | hn
  · have h2 := (h.2.2 n hn).2.1.1
    generalize zss.getD n [] = w at h2
    rcases Nat.lt_or_ge i w.length with hi | hi
    · have e : w.getD i 0 = w[i] := by simp [List.getD, hi]
      rw [e]; exact h2 _ (List.getElem_mem hi)
    · have e : w.getD i 0 = 0 := by simp [List.getD, List.getElem?_eq_none hi]
      rw [e]; omega
  · have e : zss.getD n [] = [] := by simp [List.getD, List.getElem?_eq_none hn]
    rw [e]; simp
theorem varB_ok {zss : List (List Int)} (h : SeqP zss) : ∀ f, f ∈ varB → f.Ok (rhoR [] zss) := by
  refine rngF_ok (fun z hz => ?_)
  obtain ⟨x, hx, rfl⟩ := List.mem_map.1 hz
  obtain ⟨k, hk, rfl⟩ := List.mem_map.1 hx
  rw [List.mem_range] at hk
  have := rho_in h k
  rw [vx_den _ k (by omega) (wrap1e6 this)]
  exact this
theorem diag_ok {zss : List (List Int)} (h : SeqP zss) : ∀ f, f ∈ diagF zss.length 0 → f.Ok (rhoR [] zss) := by
  intro f hf
  obtain ⟨n, hn, rfl⟩ := List.mem_map.1 hf
  rw [List.mem_range] at hn
  refine Fact.eq_no ?_
  obtain ⟨_, h6, hall⟩ := h
  obtain ⟨a1, a2, a3⟩ := hall n (by omega)
  rw [ends_iff] at a3
  obtain ⟨b1, b2, b3⟩ := a3
  obtain ⟨c1, c2⟩ := unT_at n (by omega) n (by omega)
  have er : rhoR [] zss (0 + n * (n + 1) / 2 + n) = (zss.getD n []).getD n 0 := by
    unfold rhoR
    rw [if_neg (by simp), show 0 + n * (n + 1) / 2 + n - ([] : List Int).length = n * (n + 1) / 2 + n by simp, c1]
  show ¬ (vx (0 + n * (n + 1) / 2 + n)).den (rhoR [] zss) = (Sy.c 0).den (rhoR [] zss)
  have hm : (zss.getD n []).getD n 0 ∈ zss.getD n [] := by
    generalize zss.getD n [] = w at b1
    simp [List.getD, b1]
  rw [vx_den _ _ (by omega) (by rw [er]; exact wrap1e6 (a2.1 _ hm)), er]
  exact b2
theorem seqV_ok {zss : List (List Int)} (h : SeqP zss) : ∀ e, e ∈ seqV zss.length 0 → e.Ok (rhoR [] zss) := by
  intro e he
  obtain ⟨ps', hps, rfl⟩ := List.mem_map.1 he
  obtain ⟨n, hn, rfl⟩ := List.mem_map.1 hps
  rw [List.mem_range] at hn
  have := rowS_den (zs := []) (by simp) h hn
  unfold VEnt.Ok
  simp only [List.length_nil] at this
  simp only [this]
  exact decide_eq_true (h.2.2 n hn).2.1
theorem pat_ok {zss : List (List Int)} (h : SeqP zss) (s : Sms) (B : Nat) (c : Cx) (v : Value) (hv : VR ⟨Sy.den (rhoR [] zss), s⟩ B c (patS zss) v) : VR ⟨Sy.den (rhoR [] zss), s⟩ B c (rowsP zss.length 0) v := by
  have hd := rowsS_den (zs := []) (by simp) h
  exact patS_sym hd (by intro e; rw [e] at h; have := h.1; simp at this) (fun z hz e => by
    obtain ⟨n, hn, rfl⟩ := List.mem_iff_getElem.1 hz
    have := (h.2.2 n hn).1
    simp [List.getD, hn, e] at this
    omega) hv
theorem lsL_iff {zss : List (List Int)} (h : SeqP zss) : (∀ p, p ∈ lsL zss.length → p.1.map (Sy.den (rhoR [] zss)) = p.2.map (Sy.den (rhoR [] zss))) ↔ BinP zss := by
  have hv := varB_ok h
  have one : ∀ n, n < zss.length → ((∀ p, p ∈ lsS zss.length n → p.1.map (Sy.den (rhoR [] zss)) = p.2.map (Sy.den (rhoR [] zss))) ↔ ∀ i, i < n + 1 → ∀ c, c < n + 1 → (aS n c i).den (rhoR [] zss) = (bS n c i).den (rhoR [] zss)) := by
    intro n hn
    constructor
    · intro hp i hi c hc
      have := hp _ (List.mem_map.2 ⟨c, List.mem_range.2 hc, rfl⟩)
      simp only [List.map_map] at this
      have h2 := congrArg (fun l => l[i]?) this
      simp only [List.getElem?_map, List.getElem?_range (show i < zss.length by omega), Option.map_some, Function.comp, show Nat.ble i n = true by rw [Nat.ble_eq]; omega, bite_true, Option.some.injEq] at h2
      exact h2
    · intro hall p hp
      obtain ⟨c, hc, rfl⟩ := List.mem_map.1 hp
      rw [List.mem_range] at hc
      simp only [List.map_map]
      refine List.map_congr_left (fun i hi => ?_)
      simp only [Function.comp, bite_eq]
      split
      · rename_i hb
        rw [Nat.ble_eq] at hb
        exact hall i (by omega) c hc
      · rfl
  unfold lsL BinP
  constructor
  · intro hp n hn
    exact (n_eqv hv (by have := h.2.1; omega)).2 ((one n hn).1 (fun p hp' => hp p (List.mem_flatMap.2 ⟨n, List.mem_range.2 hn, hp'⟩)))
  · intro hb p hp
    obtain ⟨n, hn, hp⟩ := List.mem_flatMap.1 hp
    rw [List.mem_range] at hn
    exact (one n hn).2 ((n_eqv hv (by have := h.2.1; omega)).1 (hb n hn)) p hp
theorem prsI_iff (zss : List (List Int)) : (∀ p, p ∈ upTo prsI zss.length → p.1.den (rhoR [] zss) = p.2.den (rhoR [] zss)) ↔ BinP zss := by
  unfold upTo prsI BinP
  constructor
  · intro hp n hn i hi j hj
    exact hp (aI n i j, bI n i j) (List.mem_flatMap.2 ⟨n, List.mem_range.2 hn, List.mem_flatMap.2 ⟨i, List.mem_range.2 hi, List.mem_map.2 ⟨j, List.mem_range.2 hj, rfl⟩⟩⟩)
  · intro hb p hp
    obtain ⟨n, hn, hp⟩ := List.mem_flatMap.1 hp
    obtain ⟨i, hi, hp⟩ := List.mem_flatMap.1 hp
    obtain ⟨j, hj, rfl⟩ := List.mem_map.1 hp
    exact hb n (List.mem_range.1 hn) i (List.mem_range.1 hi) j (List.mem_range.1 hj)
theorem binB_eq {zss : List (List Int)} (h : SeqP zss) {q : Bool} (hq : BinP zss ↔ q = true) : binB zss = q := by
  unfold binB
  by_cases hb : BinP zss
  · rw [hq.1 hb]; simp [h, hb]
  · cases q with
    | true => exact (hb (hq.2 rfl)).elim
    | false => simp [hb]

theorem KQ_ok {L : Nat} {l : List QEnt} {ρ : Nat → Int} (hl : ∀ e, e ∈ l → e.Ok ρ) (hΓ : ∀ f, f ∈ diagF L 0 → f.Ok ρ) (hV : ∀ e, e ∈ seqV L 0 → e.Ok ρ) (s : Sms) (B : Nat) : COk Try.prog ⟨Sy.den ρ, s⟩ B (KQ L l) :=
  orK_ok (forK_ok choK_ok) (orK_ok (forK_ok (pickC_ok valT_ok)) (orK_ok (forK_ok (pickC_ok shfT_ok)) (orK_ok (eqE_ok noCount mixed (body_of Try.func90 rfl) same_run hl) (symK_ok noCount mixed ids_ok (by simp) hΓ hV))))
theorem spec_seq {k : FuncId} {zss : List (List Int)} (h : SeqP zss) (hk : ∀ j, j < (lsL zss.length).length + 1 → sbinAt k zss.length j = true) : ∃ S : Sto Sy, ∀ (s : Sms) (B' : Nat), Go.Sx.Good Try.prog ⟨Sy.den (rhoR [] zss), s⟩ B' k [rowsP zss.length 0] ⟨0, [], 0⟩ (.bool (binB zss)) S := by
  have fin : ∀ j, (∀ f, f ∈ qEs (lsL zss.length) j → f.Ok (rhoR [] zss)) → (BinP zss ↔ Nat.ble (lsL zss.length).length j = true) → (∀ p, (lsL zss.length)[j]? = some p → p.1.map (Sy.den (rhoR [] zss)) ≠ p.2.map (Sy.den (rhoR [] zss))) → j < (lsL zss.length).length + 1 → ∃ S : Sto Sy, ∀ (s : Sms) (B' : Nat), Go.Sx.Good Try.prog ⟨Sy.den (rhoR [] zss), s⟩ B' k [rowsP zss.length 0] ⟨0, [], 0⟩ (.bool (binB zss)) S := by
    intro j hf hq hne hj
    have h1 := hk j hj
    unfold sbinAt at h1
    rw [bite_eq] at h1
    split at h1
    · rename_i h2
      obtain ⟨S, hS⟩ := isB_iff h2
      rw [binB_eq h hq]
      exact ⟨S, fun s B' => (symRun_ok noCount mixed (diag_ok h) (KQ_ok hf (diag_ok h) (seqV_ok h) s B') 60 _ _ _ _ _ hS).1⟩
    · split at h1
      · rename_i p hp
        exact (hne p hp (by rw [sames_eq h1])).elim
      · cases h1
  rcases qEs_case (ρ := rhoR [] zss) (lsL zss.length) with ⟨h1, h2⟩ | ⟨j, p, h1, h2, h3, h4⟩
  · refine fin _ h2 ?_ (fun p hp => by simp at hp) (by omega)
    rw [← lsL_iff h]
    exact ⟨fun _ => by rw [Nat.ble_eq]; exact Nat.le_refl _, fun _ => h1⟩
  · refine fin j h4 ?_ (fun p' hp' => by rw [h2] at hp'; cases hp'; exact h3) (by omega)
    rw [← lsL_iff h]
    constructor
    · intro hall; exact (h3 (hall p (List.mem_of_getElem? h2))).elim
    · intro hb; rw [Nat.ble_eq] at hb; omega
theorem impl_seq {k : FuncId} {zss : List (List Int)} (h : SeqP zss) (hk : ∀ j, j < (upTo prsI zss.length).length + 1 → binAt k prsI zss.length j = true) : ∃ S : Sto Sy, ∀ (s : Sms) (B' : Nat), Go.Sx.Good Try.prog ⟨Sy.den (rhoR [] zss), s⟩ B' k [rowsP zss.length 0] ⟨0, [], 0⟩ (.bool (binB zss)) S := by
  have fin : ∀ j, (∀ f, f ∈ eqF (upTo prsI zss.length) j → f.Ok (rhoR [] zss)) → (BinP zss ↔ Nat.ble (upTo prsI zss.length).length j = true) → (∀ p, (upTo prsI zss.length)[j]? = some p → p.1.den (rhoR [] zss) ≠ p.2.den (rhoR [] zss)) → j < (upTo prsI zss.length).length + 1 → ∃ S : Sto Sy, ∀ (s : Sms) (B' : Nat), Go.Sx.Good Try.prog ⟨Sy.den (rhoR [] zss), s⟩ B' k [rowsP zss.length 0] ⟨0, [], 0⟩ (.bool (binB zss)) S := by
    intro j hf hq hne hj
    have h1 := hk j hj
    have hΓ : ∀ f, f ∈ eqF (upTo prsI zss.length) j ++ diagF zss.length 0 → f.Ok (rhoR [] zss) := fun f hf' => (List.mem_append.1 hf').elim (hf f) (diag_ok h f)
    unfold binAt at h1
    rw [bite_eq] at h1
    split at h1
    · rename_i h2
      obtain ⟨S, hS⟩ := isB_iff h2
      rw [binB_eq h hq]
      exact ⟨S, fun s B' => (symRun_ok noCount mixed hΓ (symK_ok noCount mixed ids_ok (t := Bns.tab) Bns.tab_ok hΓ (seqV_ok h)) 60 _ _ _ _ _ hS).1⟩
    · rw [bite_eq] at h1
      split at h1
      · rename_i h2
        exact (clash_no hf h2).elim
      · split at h1
        · rename_i p hp
          exact (hne p hp (by rw [Sy.same_eq h1])).elim
        · cases h1
  rcases eqF_case (ρ := rhoR [] zss) (upTo prsI zss.length) with ⟨h1, h2⟩ | ⟨j, p, h1, h2, h3, h4⟩
  · refine fin _ h2 ?_ (fun p hp => by simp at hp) (by omega)
    rw [← prsI_iff]
    exact ⟨fun _ => by rw [Nat.ble_eq]; exact Nat.le_refl _, fun _ => h1⟩
  · refine fin j h4 ?_ (fun p' hp' => by rw [h2] at hp'; cases hp'; exact h3) (by omega)
    rw [← prsI_iff]
    constructor
    · intro hall; exact (h3 (hall p (List.mem_of_getElem? h2))).elim
    · intro hb; rw [Nat.ble_eq] at hb; omega
theorem s_len_1 : (lsL 1).length = 1 := by kernel_rfl
theorem s_all_1 : ∀ j, j < (lsL 1).length + 1 → sbinAt 26 1 j = true
  | 0, _ => s_1_0
  | 1, _ => s_1_1
  | n + 2, h => by rw [s_len_1] at h; omega
theorem s_len_2 : (lsL 2).length = 3 := by kernel_rfl
theorem s_all_2 : ∀ j, j < (lsL 2).length + 1 → sbinAt 26 2 j = true
  | 0, _ => s_2_0
  | 1, _ => s_2_1
  | 2, _ => s_2_2
  | 3, _ => s_2_3
  | n + 4, h => by rw [s_len_2] at h; omega
theorem s_len_3 : (lsL 3).length = 6 := by kernel_rfl
theorem s_all_3 : ∀ j, j < (lsL 3).length + 1 → sbinAt 26 3 j = true
  | 0, _ => s_3_0
  | 1, _ => s_3_1
  | 2, _ => s_3_2
  | 3, _ => s_3_3
  | 4, _ => s_3_4
  | 5, _ => s_3_5
  | 6, _ => s_3_6
  | n + 7, h => by rw [s_len_3] at h; omega
theorem s_len_4 : (lsL 4).length = 10 := by kernel_rfl
theorem s_all_4 : ∀ j, j < (lsL 4).length + 1 → sbinAt 26 4 j = true
  | 0, _ => s_4_0
  | 1, _ => s_4_1
  | 2, _ => s_4_2
  | 3, _ => s_4_3
  | 4, _ => s_4_4
  | 5, _ => s_4_5
  | 6, _ => s_4_6
  | 7, _ => s_4_7
  | 8, _ => s_4_8
  | 9, _ => s_4_9
  | 10, _ => s_4_10
  | n + 11, h => by rw [s_len_4] at h; omega
theorem s_len_5 : (lsL 5).length = 15 := by kernel_rfl
theorem s_all_5 : ∀ j, j < (lsL 5).length + 1 → sbinAt 26 5 j = true
  | 0, _ => s_5_0
  | 1, _ => s_5_1
  | 2, _ => s_5_2
  | 3, _ => s_5_3
  | 4, _ => s_5_4
  | 5, _ => s_5_5
  | 6, _ => s_5_6
  | 7, _ => s_5_7
  | 8, _ => s_5_8
  | 9, _ => s_5_9
  | 10, _ => s_5_10
  | 11, _ => s_5_11
  | 12, _ => s_5_12
  | 13, _ => s_5_13
  | 14, _ => s_5_14
  | 15, _ => s_5_15
  | n + 16, h => by rw [s_len_5] at h; omega
theorem s_len_6 : (lsL 6).length = 21 := by kernel_rfl
theorem s_all_6 : ∀ j, j < (lsL 6).length + 1 → sbinAt 26 6 j = true
  | 0, _ => s_6_0
  | 1, _ => s_6_1
  | 2, _ => s_6_2
  | 3, _ => s_6_3
  | 4, _ => s_6_4
  | 5, _ => s_6_5
  | 6, _ => s_6_6
  | 7, _ => s_6_7
  | 8, _ => s_6_8
  | 9, _ => s_6_9
  | 10, _ => s_6_10
  | 11, _ => s_6_11
  | 12, _ => s_6_12
  | 13, _ => s_6_13
  | 14, _ => s_6_14
  | 15, _ => s_6_15
  | 16, _ => s_6_16
  | 17, _ => s_6_17
  | 18, _ => s_6_18
  | 19, _ => s_6_19
  | 20, _ => s_6_20
  | 21, _ => s_6_21
  | n + 22, h => by rw [s_len_6] at h; omega
theorem i_len_1 : (upTo prsI 1).length = 1 := by kernel_rfl
theorem i_all_1 : ∀ j, j < (upTo prsI 1).length + 1 → binAt 25 prsI 1 j = true
  | 0, _ => i_1_0
  | 1, _ => i_1_1
  | n + 2, h => by rw [i_len_1] at h; omega
theorem i_len_2 : (upTo prsI 2).length = 4 := by kernel_rfl
theorem i_all_2 : ∀ j, j < (upTo prsI 2).length + 1 → binAt 25 prsI 2 j = true
  | 0, _ => i_2_0
  | 1, _ => i_2_1
  | 2, _ => i_2_2
  | 3, _ => i_2_3
  | 4, _ => i_2_4
  | n + 5, h => by rw [i_len_2] at h; omega
theorem i_len_3 : (upTo prsI 3).length = 10 := by kernel_rfl
theorem i_all_3 : ∀ j, j < (upTo prsI 3).length + 1 → binAt 25 prsI 3 j = true
  | 0, _ => i_3_0
  | 1, _ => i_3_1
  | 2, _ => i_3_2
  | 3, _ => i_3_3
  | 4, _ => i_3_4
  | 5, _ => i_3_5
  | 6, _ => i_3_6
  | 7, _ => i_3_7
  | 8, _ => i_3_8
  | 9, _ => i_3_9
  | 10, _ => i_3_10
  | n + 11, h => by rw [i_len_3] at h; omega
theorem i_len_4 : (upTo prsI 4).length = 20 := by kernel_rfl
theorem i_all_4 : ∀ j, j < (upTo prsI 4).length + 1 → binAt 25 prsI 4 j = true
  | 0, _ => i_4_0
  | 1, _ => i_4_1
  | 2, _ => i_4_2
  | 3, _ => i_4_3
  | 4, _ => i_4_4
  | 5, _ => i_4_5
  | 6, _ => i_4_6
  | 7, _ => i_4_7
  | 8, _ => i_4_8
  | 9, _ => i_4_9
  | 10, _ => i_4_10
  | 11, _ => i_4_11
  | 12, _ => i_4_12
  | 13, _ => i_4_13
  | 14, _ => i_4_14
  | 15, _ => i_4_15
  | 16, _ => i_4_16
  | 17, _ => i_4_17
  | 18, _ => i_4_18
  | 19, _ => i_4_19
  | 20, _ => i_4_20
  | n + 21, h => by rw [i_len_4] at h; omega
theorem i_len_5 : (upTo prsI 5).length = 35 := by kernel_rfl
theorem i_all_5 : ∀ j, j < (upTo prsI 5).length + 1 → binAt 25 prsI 5 j = true
  | 0, _ => i_5_0
  | 1, _ => i_5_1
  | 2, _ => i_5_2
  | 3, _ => i_5_3
  | 4, _ => i_5_4
  | 5, _ => i_5_5
  | 6, _ => i_5_6
  | 7, _ => i_5_7
  | 8, _ => i_5_8
  | 9, _ => i_5_9
  | 10, _ => i_5_10
  | 11, _ => i_5_11
  | 12, _ => i_5_12
  | 13, _ => i_5_13
  | 14, _ => i_5_14
  | 15, _ => i_5_15
  | 16, _ => i_5_16
  | 17, _ => i_5_17
  | 18, _ => i_5_18
  | 19, _ => i_5_19
  | 20, _ => i_5_20
  | 21, _ => i_5_21
  | 22, _ => i_5_22
  | 23, _ => i_5_23
  | 24, _ => i_5_24
  | 25, _ => i_5_25
  | 26, _ => i_5_26
  | 27, _ => i_5_27
  | 28, _ => i_5_28
  | 29, _ => i_5_29
  | 30, _ => i_5_30
  | 31, _ => i_5_31
  | 32, _ => i_5_32
  | 33, _ => i_5_33
  | 34, _ => i_5_34
  | 35, _ => i_5_35
  | n + 36, h => by rw [i_len_5] at h; omega
theorem i_len_6 : (upTo prsI 6).length = 56 := by kernel_rfl
theorem i_all_6 : ∀ j, j < (upTo prsI 6).length + 1 → binAt 25 prsI 6 j = true
  | 0, _ => i_6_0
  | 1, _ => i_6_1
  | 2, _ => i_6_2
  | 3, _ => i_6_3
  | 4, _ => i_6_4
  | 5, _ => i_6_5
  | 6, _ => i_6_6
  | 7, _ => i_6_7
  | 8, _ => i_6_8
  | 9, _ => i_6_9
  | 10, _ => i_6_10
  | 11, _ => i_6_11
  | 12, _ => i_6_12
  | 13, _ => i_6_13
  | 14, _ => i_6_14
  | 15, _ => i_6_15
  | 16, _ => i_6_16
  | 17, _ => i_6_17
  | 18, _ => i_6_18
  | 19, _ => i_6_19
  | 20, _ => i_6_20
  | 21, _ => i_6_21
  | 22, _ => i_6_22
  | 23, _ => i_6_23
  | 24, _ => i_6_24
  | 25, _ => i_6_25
  | 26, _ => i_6_26
  | 27, _ => i_6_27
  | 28, _ => i_6_28
  | 29, _ => i_6_29
  | 30, _ => i_6_30
  | 31, _ => i_6_31
  | 32, _ => i_6_32
  | 33, _ => i_6_33
  | 34, _ => i_6_34
  | 35, _ => i_6_35
  | 36, _ => i_6_36
  | 37, _ => i_6_37
  | 38, _ => i_6_38
  | 39, _ => i_6_39
  | 40, _ => i_6_40
  | 41, _ => i_6_41
  | 42, _ => i_6_42
  | 43, _ => i_6_43
  | 44, _ => i_6_44
  | 45, _ => i_6_45
  | 46, _ => i_6_46
  | 47, _ => i_6_47
  | 48, _ => i_6_48
  | 49, _ => i_6_49
  | 50, _ => i_6_50
  | 51, _ => i_6_51
  | 52, _ => i_6_52
  | 53, _ => i_6_53
  | 54, _ => i_6_54
  | 55, _ => i_6_55
  | 56, _ => i_6_56
  | n + 57, h => by rw [i_len_6] at h; omega
theorem six {Q : Nat → Prop} (h1 : Q 1) (h2 : Q 2) (h3 : Q 3) (h4 : Q 4) (h5 : Q 5) (h6 : Q 6) {L : Nat} (hl : 1 ≤ L) (hu : L ≤ 6) : Q L := by
  have h : L = 1 ∨ L = 2 ∨ L = 3 ∨ L = 4 ∨ L = 5 ∨ L = 6 := by omega
  rcases h with rfl | rfl | rfl | rfl | rfl | rfl
  · exact h1
  · exact h2
  · exact h3
  · exact h4
  · exact h5
  · exact h6
theorem binB_no {zss : List (List Int)} (h : ¬ SeqP zss) : binB zss = false := by unfold binB; simp [h]
section
attribute [local simp] aops wants aop apure St.eval setTm_some setTm_none Tr.get_set aload evals pevals apureB tiS tiI tiB abin aint isCmp sym_lt sym_eqs sym_neqs sym_eq sym_neq sym_gtr sym_leq sym_geq sym_add sym_sub sym_mul aeff aeffB idx? ofV aindexAddr aggDesc aifc_int aun
set_option maxRecDepth 10000 in
theorem implBad (zss : List (List Int)) (hl0 : zss.length ≤ 1048576) (hls : ∀ zs, zs ∈ zss → zs.length ≤ 1048576) (hno : ¬ SeqP zss) :
    ∃ r, symRun Try.prog KRI [] 22 25 [patS zss] ⟨0, [], 0⟩ = some r ∧ r.1 = .bool (binB zss) := by
  refine own_run2 (n := 21) (by rfl) Try.func25 rfl rfl ?_
  simp only [Try.f25]
  have c2 : acallV (symIn Try.prog KRI [] 21) ⟨0, [], 0⟩ (.func 19 [] []) [patS zss] = some (.bool (seqB zss), ⟨0, [], 0⟩) := callSK2 rfl rfl (by decide) hl0 hls 20
  rw [seqB_false hno] at c2
  rw [binB_no hno]
  generalize hy : patS zss = y at c2 ⊢
  repeat' (first | refine Wp.seq ?_ | refine Wp.block ?_ | (apply Wp.region; focus ((try simp [setArgs, c2]) <;> rfl)) | (refine Wp.cond_t ?_ ?_; focus (simp [setArgs, c2]; done)) | (refine Wp.cond_f ?_ ?_; focus (simp [setArgs, c2]; done)) | refine Wp.skip ?_ | refine Wp.ret ?_ | refine Wp.exit ?_ | refine Blk.here ?_ | (refine Blk.past ?_ ?_; focus (simp; done)))
  exact ⟨rfl, answer_trim1 (v := .bool false) (by simp) rfl⟩
set_option maxRecDepth 10000 in
theorem specBad (zss : List (List Int)) (hl0 : zss.length ≤ 1048576) (hls : ∀ zs, zs ∈ zss → zs.length ≤ 1048576) (hno : ¬ SeqP zss) :
    ∃ r, symRun Try.prog KRS [] 22 26 [patS zss] ⟨0, [], 0⟩ = some r ∧ r.1 = .bool (binB zss) := by
  refine own_run2 (n := 21) (by rfl) Try.func26 rfl rfl ?_
  simp only [Try.f26]
  have c2 : acallV (symIn Try.prog KRS [] 21) ⟨0, [], 0⟩ (.func 62 [] []) [patS zss] = some (.bool (seqB zss), ⟨0, [], 0⟩) := callSK2 rfl rfl (by decide) hl0 hls 20
  rw [seqB_false hno] at c2
  rw [binB_no hno]
  generalize hy : patS zss = y at c2 ⊢
  repeat' (first | refine Wp.seq ?_ | refine Wp.block ?_ | (apply Wp.region; focus ((try simp [setArgs, c2]) <;> rfl)) | (refine Wp.cond_t ?_ ?_; focus (simp [setArgs, c2]; done)) | (refine Wp.cond_f ?_ ?_; focus (simp [setArgs, c2]; done)) | refine Wp.skip ?_ | refine Wp.ret ?_ | refine Wp.exit ?_ | refine Blk.here ?_ | (refine Blk.past ?_ ?_; focus (simp; done)))
  exact ⟨rfl, answer_trim1 (v := .bool false) (by simp) rfl⟩
end
theorem specBin_ok (zss : List (List Int)) (hl0 : zss.length ≤ 1048576) (hls : ∀ zs, zs ∈ zss → zs.length ≤ 1048576) : ∃ (ρ' : Nat → Int) (pat : V Sy) (S : Sto Sy), (∀ (s : Sms) (B' : Nat), Go.Sx.Good Try.prog ⟨Sy.den ρ', s⟩ B' 26 [pat] ⟨0, [], 0⟩ (.bool (binB zss)) S) ∧
      ∀ (s : Sms) (B : Nat) (c : Cx) (v : Value), VR ⟨Sy.den ρ', s⟩ B c (patS zss) v → VR ⟨Sy.den ρ', s⟩ B c pat v := by
  by_cases h : SeqP zss
  · obtain ⟨S, hS⟩ := spec_seq h (six (Q := fun L => ∀ j, j < (lsL L).length + 1 → sbinAt 26 L j = true) s_all_1 s_all_2 s_all_3 s_all_4 s_all_5 s_all_6 h.1 h.2.1)
    exact ⟨_, _, S, hS, pat_ok h⟩
  · obtain ⟨⟨R, S⟩, h1, h2⟩ := specBad zss hl0 hls h
    simp only at h2
    subst h2
    exact ⟨fun _ => 0, patS zss, S, fun s B' => run_goodK noCount mixed KRS_ok _ h1 B', fun _ _ _ _ hv => hv⟩
theorem implBin_ok (zss : List (List Int)) (hl0 : zss.length ≤ 1048576) (hls : ∀ zs, zs ∈ zss → zs.length ≤ 1048576) : ∃ (ρ' : Nat → Int) (pat : V Sy) (S : Sto Sy), (∀ (s : Sms) (B' : Nat), Go.Sx.Good Try.prog ⟨Sy.den ρ', s⟩ B' 25 [pat] ⟨0, [], 0⟩ (.bool (binB zss)) S) ∧
      ∀ (s : Sms) (B : Nat) (c : Cx) (v : Value), VR ⟨Sy.den ρ', s⟩ B c (patS zss) v → VR ⟨Sy.den ρ', s⟩ B c pat v := by
  by_cases h : SeqP zss
  · obtain ⟨S, hS⟩ := impl_seq h (six (Q := fun L => ∀ j, j < (upTo prsI L).length + 1 → binAt 25 prsI L j = true) i_all_1 i_all_2 i_all_3 i_all_4 i_all_5 i_all_6 h.1 h.2.1)
    exact ⟨_, _, S, hS, pat_ok h⟩
  · obtain ⟨⟨R, S⟩, h1, h2⟩ := implBad zss hl0 hls h
    simp only at h2
    subst h2
    exact ⟨fun _ => 0, patS zss, S, fun s B' => run_goodK noCount mixed KRI_ok _ h1 B', fun _ _ _ _ hv => hv⟩
end Go.Proofs.Ytpjenggjcpahaaa.Bin

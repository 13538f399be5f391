/-
  Sequences that are drawn: the law, by a run by hand. No condition.
-/
import Derived.Test.YtpjenggjcpahaaaRows
import Derived.Test.YtpjenggjcpahaaaSym
import Derived.Test.YtpjenggjcpahaaaSymD
import Derived.Test.YtpjenggjcpahaaaSymE
import Derived.Test.YtpjenggjcpahaaaSymF
import Derived.Test.YtpjenggjcpahaaaIds
import Derived.Test.YtpjenggjcpahaaaNp
import Derived.Test.YtpjenggjcpahaaaSeq
import Derived.Test.YtpjenggjcpahaaaSeqB
import Derived.Test.YtpjenggjcpahaaaSeqC
import Derived.Test.YtpjenggjcpahaaaSeqE
import Derived.Test.YtpjenggjcpahaaaSeqG
import Derived.Test.YtpjenggjcpahaaaTel
import Derived.Test.YtpjenggjcpahaaaTelC
import Derived.Test.YtpjenggjcpahaaaTelD
import Derived.Test.YtpjenggjcpahaaaDraw
import Derived.Test.YtpjenggjcpahaaaDrawC
import Derived.Test.YtpjenggjcpahaaaDrawD
import Derived.Test.YtpjenggjcpahaaaDrawE
import Derived.Test.YtpjenggjcpahaaaDrawF
import Derived.Test.YtpjenggjcpahaaaDrawG
import Derived.WalkKit
import Derived.ProofKit
import Derived.OpenShut
namespace Go.Proofs.Ytpjenggjcpahaaa.Draw
open Go.ChangeShapes Go.WideShapes Go.ChangeAt Go.RowKit Go.Sx Go.Proofs.Ytpjenggjcpahaaa.Ids Go.Proofs.Ytpjenggjcpahaaa.Seq Go.Proofs.Ytpjenggjcpahaaa.Tel
set_option linter.unusedVariables false
set_option linter.unusedSimpArgs false

theorem trim_look2 {n0 q : Nat} {r : V Sy} {sto : Sto Sy} (hq : q ∈ deeper sto.obs r.refs) : Go.Sx.look (Sto.trim n0 r sto).obs q = Go.Sx.look sto.obs q := by
  unfold Sto.trim
  split
  · rfl
  · split
    · rename_i h; rw [h] at hq; cases hq
    · split
      · rename_i h; rw [h] at hq; cases hq
      · exact look_kept (List.contains_iff_mem.2 (List.mem_append.2 (.inl (List.mem_append.2 (.inr hq))))) _
theorem trim_lowW {n0 : Nat} {r : V Sy} {sto : Sto Sy} : (Sto.trim n0 r sto).low = sto.low := by
  unfold Sto.trim
  split
  · rfl
  · split
    · rfl
    · split <;> rfl
theorem rowsW_refs : ∀ (rs : List Rw) (r : Rw), r ∈ rs → r.1 ∈ refsL (rowsW rs)
  | [], r, h => by simp at h
  | x :: l, r, h => by
    show r.1 ∈ refsL (rwV x :: rowsW l)
    simp only [refsL, rwV, V.refs]
    rcases List.mem_cons.1 h with rfl | h
    · simp
    · exact List.mem_append.2 (.inr (rowsW_refs l r h))
theorem IsR.trim {S : Sto Sy} {q n0 : Nat} {rs : List Rw} {v : V Sy} (h : IsR S.obs q rs v) : IsR (S.trim n0 v).obs q rs v := by
  obtain ⟨cp, hv, hcp⟩ := h.val
  refine h.mono (fun x hx => ?_) (fun r hr x hx => ?_)
  · rw [hv, trim_look (by simp [V.refs])]; exact hx
  · rw [hv, trim_look2 (by simp only [V.refs, deeper, h.obj, List.append_nil]; exact rowsW_refs rs r hr)]; exact hx
/-- A store between calls. -/
structure Ws (S : Sto Sy) : Prop where
  desc : Desc S.next S.obs
  low : S.low ≤ S.next
theorem telCallW {α : Type} {k0 : FuncId} {D : List (V Sy) → Sto Sy → Option α} {R : α → Nat → V Sy} {O : α → Nat → List (Ob Sy)} {args : List (V Sy)} {S : Sto Sy} {a : α} (h : Ws S) (hk : ∀ args sto, K0 k0 args sto = telK k0 D R O k0 args sto) (hD : D args ⟨S.next, S.obs, S.next⟩ = some a) (f : Nat) (hf : 1 ≤ f) (hk9 : (k0 : Nat) < 1000000 := by decide) :
    ∃ S1, acallV (symIn Try.prog K0 [] f) S (.func k0 [] []) args = some (R a S.next, S1) ∧ Ws S1 ∧ (∀ i x, (O a S.next)[i]? = some x → Go.Sx.look S1.obs (S.next + i) = some x) ∧ ∀ k x, Go.Sx.look S.obs k = some x → Go.Sx.look S1.obs k = some x := by
  obtain ⟨g, rfl⟩ : ∃ g, f = g + 1 := ⟨f - 1, by omega⟩
  have e : K0 k0 args ⟨S.next, S.obs, S.next⟩ = some (R a S.next, ⟨S.next + (O a S.next).length, numO S.next (O a S.next) S.obs, S.next⟩) := by
    rw [hk]
    unfold telK
    rw [Nat.beq_refl, bite_true, hD]
  have hlow := h.low
  refine ⟨_, call_K (n := g) e hk9, ⟨desc_numO _ _ _ h.desc, ?_⟩, fun i x hx => numO_get _ _ _ _ _ hx, fun k x hx => ?_⟩
  · simp only
    split <;> omega
  · rw [numO_get.numO_old _ _ _ _ (h.desc.look_lt hx)]; exact hx
theorem K0_vs (zss : List (List Int)) {k : FuncId} (hk : k = 20 ∨ k = 19) (args : List (V Sy)) (sto : Sto Sy) : K0 k args sto = askSK k seqB k args sto := by
  rcases hk with rfl | rfl
  · rw [K0_at]
    unfold KD vpK arrK facK uniK linK eqlK re0K
    rw [orK_no (telK_no (by decide) _ _), orK_no (telK_no (by decide) _ _), orK_no (telK_no (by decide) _ _), orK_no (telK_no (by decide) _ _), orK_no (telK_no (by decide) _ _), orK_no (telK_no (by decide) _ _), orK_no (telK_no (by decide) _ _)]
    cases h : askSK 20 seqB 20 args sto with
    | some r => exact orK_yes h
    | none => rw [orK_no h, askSK_no (by decide)]
  · rw [K0_at]
    unfold KD vpK arrK facK uniK linK eqlK re0K
    rw [orK_no (telK_no (by decide) _ _), orK_no (telK_no (by decide) _ _), orK_no (telK_no (by decide) _ _), orK_no (telK_no (by decide) _ _), orK_no (telK_no (by decide) _ _), orK_no (telK_no (by decide) _ _), orK_no (telK_no (by decide) _ _), orK_no (askSK_no (by decide) _ _)]
theorem vsCall {k : FuncId} (hk : k = 20 ∨ k = 19) {S : Sto Sy} (h : Ws S) {v : V Sy} {zss : List (List Int)} (hv : rowsOf ⟨S.next, S.obs, S.next⟩ v = some zss) (h0 : zss.length ≤ 6) (hl : ∀ z, z ∈ zss → z.length ≤ 6) (f : Nat) (hf : 1 ≤ f) : acallV (symIn Try.prog K0 [] f) S (.func k [] []) [v] = some (.bool (seqB zss), S) := by
  obtain ⟨g, rfl⟩ : ∃ g, f = g + 1 := ⟨f - 1, by omega⟩
  have e : K0 k [v] ⟨S.next, S.obs, S.next⟩ = some (.bool (seqB zss), ⟨S.next, S.obs, S.next⟩) := by
    rw [K0_vs zss hk]
    unfold askSK
    have h1 : Nat.ble zss.length 1048576 = true := by rw [Nat.ble_eq]; omega
    have h2 : (zss.all fun zs => Nat.ble zs.length 1048576) = true := List.all_eq_true.2 (fun z hz => by rw [Nat.ble_eq]; have := hl z hz; omega)
    simp only [Nat.beq_refl, bite_true, hv, h1, h2]
  have hk9 : (k : Nat) < 1000000 := by rcases hk with rfl | rfl <;> decide
  have := call_K (P := Try.prog) (n := g) e hk9
  rw [this]
  have hlow := h.low
  obtain ⟨n, ob, l⟩ := S
  simp only at hlow ⊢
  have : (if n < l then n else l) = l := by split <;> omega
  rw [this]

attribute [local simp] aops wants aop apure St.eval setTm_some setTm_none Tr.get_set evals pevals apureB alen tiS tiI tiB tiY tiU tiSs tiSr tiSS abin aint isCmp sym_lt sym_eqs sym_neqs sym_eq sym_neq sym_gtr sym_leq sym_geq sym_add sym_sub sym_mul aeff aeffB idx? ofV aindexAddr aggDesc aifc_int fldP0 fldP1 aun u8s_length
set_option maxRecDepth 10000 in
theorem drawVS_run (bs : List Int) (hbs0 : ∀ b, b ∈ bs → 0 ≤ b ∧ b < 256) (m : Nat) : ∃ r, symRun Try.prog K0 [] (m + 100) 18 [.slice (u8s bs)] ⟨0, [], 0⟩ = some r ∧ Ws r.2 ∧ Rwz 0 r.1 r.2.obs := by
  refine own_run2 (n := m + 99) hK0 Try.func18 rfl rfl ?_
  simp only [Try.f18]
  have hr := readerC bs (m + 99) (by omega)
  obtain ⟨S1, e1, h1⟩ := reader0 bs
  rw [← e1] at hr
  have hbs := take2000 hbs0
  obtain ⟨v, T, hc, hn, q, rs, a1, a2, a3, a4, a5⟩ := someSequence (bs.take 2000) hbs h1 (by omega) (m + 99) (by omega)
  repeat' (first | refine Wp.seq ?_ | refine Wp.block ?_ | (apply Wp.region; focus ((try simp [setArgs, hr, hc]) <;> rfl)) | (refine Wp.cond_t ?_ ?_; focus (simp [setArgs, hr, hc]; done)) | (refine Wp.cond_f ?_ ?_; focus (simp [setArgs, hr, hc]; done)) | refine Wp.skip ?_ | refine Wp.ret ?_ | refine Wp.exit ?_ | refine Blk.here ?_ | (refine Blk.past ?_ ?_; focus (simp; done)))
  exact ⟨rfl, answer_trim1 (v := v) (by simp) ⟨⟨trim_desc hn.rd.desc, by rw [trim_lowW, trim_next]; show T.low ≤ T.next; have := hn.low; omega⟩, q, rs, Nat.zero_le _, a2.trim, a3, a4, fun r hr => ⟨Nat.zero_le _, (a5 r hr).2⟩⟩⟩
theorem drawVS (bs : List Int) (hbs0 : ∀ b, b ∈ bs → 0 ≤ b ∧ b < 256) (f : Nat) (hf : 100 ≤ f) : ∃ v S, acallV (symIn Try.prog K0 [] f) ⟨0, [], 0⟩ (.func 18 [] []) [.slice (u8s bs)] = some (v, S) ∧ Ws S ∧ Rwz 0 v S.obs := by
  obtain ⟨m, rfl⟩ : ∃ m, f = m + 100 := ⟨f - 100, by omega⟩
  obtain ⟨⟨v, S⟩, h1, h2, h3⟩ := drawVS_run bs hbs0 m
  have hlow := h2.low
  refine ⟨v, ⟨S.next, S.obs, if S.low < 0 then S.low else 0⟩, ?_, ⟨h2.desc, by simp⟩, h3⟩
  rw [acallV_func (by decide), List.nil_append, List.append_nil, symIn_run (by decide), h1]
  rfl
set_option maxRecDepth 10000 in
theorem law_vs (bs : List Int) (hbs : ∀ b, b ∈ bs → 0 ≤ b ∧ b < 256) : ∃ r, symRun Try.prog K0 [] 201 4 [.slice (u8s bs)] ⟨0, [], 0⟩ = some r ∧ r.1 = .bool true := by
  refine own_run2 (n := 200) hK0 Try.func4 rfl rfl ?_
  simp only [Try.f4]
  by_cases hbig : (1048576 : Int) < bs.length
  · repeat' (first | refine Wp.seq ?_ | refine Wp.block ?_ | (apply Wp.region; focus ((try simp [setArgs, hbig]) <;> rfl)) | (refine Wp.cond_t ?_ ?_; focus (simp [setArgs, hbig]; done)) | (refine Wp.cond_f ?_ ?_; focus (simp [setArgs, hbig]; done)) | refine Wp.skip ?_ | refine Wp.ret ?_ | refine Wp.exit ?_ | refine Blk.here ?_ | (refine Blk.past ?_ ?_; focus (simp; done)))
    exact ⟨rfl, answer_trim1 (v := .bool true) (by simp) rfl⟩
  obtain ⟨v, S1, hc1, w1, q, rs, _, hz, hl1, hl2, hb⟩ := drawVS bs hbs 200 (by omega)
  have hro := hz.rows (S := ⟨S1.next, S1.obs, S1.next⟩)
  have hzl : (rs.map (·.2.1)).length = rs.length := by simp
  have hrl : ∀ z, z ∈ rs.map (·.2.1) → z.length ≤ 6 := fun z hz => by obtain ⟨r, hr, rfl⟩ := List.mem_map.1 hz; exact (hb r hr).2
  have c2 := vsCall (.inr rfl) w1 hro (by omega) hrl 200 (by omega)
  have c3 := vsCall (.inl rfl) w1 hro (by omega) hrl 200 (by omega)
  generalize hzs : rs.map (·.2.1) = zss at *
  cases hq : seqB zss with
  | false =>
    rw [hq] at c2 c3
    repeat' (first | refine Wp.seq ?_ | refine Wp.block ?_ | (apply Wp.region; focus ((try simp [setArgs, hbig, hc1, c2, c3]) <;> rfl)) | (refine Wp.cond_t ?_ ?_; focus (simp [setArgs, hbig, hc1, c2, c3]; done)) | (refine Wp.cond_f ?_ ?_; focus (simp [setArgs, hbig, hc1, c2, c3]; done)) | refine Wp.skip ?_ | refine Wp.ret ?_ | refine Wp.exit ?_ | refine Blk.here ?_ | (refine Blk.past ?_ ?_; focus (simp; done)))
    exact ⟨rfl, answer_trim1 (v := .bool true) (by simp) rfl⟩
  | true =>
    rw [hq] at c2 c3
    have hS := seqP_of hq
    obtain ⟨cq, rfl, hcq⟩ := hz.val
    obtain ⟨S2, c4, w4, o4, k4⟩ := telCallW (args := [.int .i64 (.c rs.length), .int .i64 (.c 0)]) w1 K0_lin (dLin_eq hl1 hl2) 200 (by omega)
    have z4 : IsR S2.obs q rs (.rsl q 0 rs.length cq) := hz.mono (fun x hx => k4 _ _ hx) (fun r _ x hx => k4 _ _ hx)
    have i4 : IsL S2.obs S1.next (e0 rs.length) (.rsl S1.next 0 (e0 rs.length).length none) := ⟨⟨none, rfl, .inl rfl⟩, o4 0 _ rfl⟩
    have hd : dRe0 [.rsl S1.next 0 (e0 rs.length).length none, .rsl q 0 rs.length cq] ⟨S2.next, S2.obs, S2.next⟩ = some zss := by
      refine dRe0_eq ?_ ?_ hS
      · rw [hzl]; exact isL_consts (S := ⟨S2.next, S2.obs, S2.next⟩) i4
      · rw [← hzs]; exact z4.rows (S := ⟨S2.next, S2.obs, S2.next⟩)
    obtain ⟨S3, c5, w5, o5, k5⟩ := telCallW (args := [.rsl S1.next 0 (e0 rs.length).length none, .rsl q 0 rs.length cq]) w4 K0_re0 hd 200 (by omega)
    have z5 : IsR S3.obs q rs (.rsl q 0 rs.length cq) := z4.mono (fun x hx => k5 _ _ hx) (fun r _ x hx => k5 _ _ hx)
    have h0r : 0 < rs.length := by omega
    have h0i : (0 : Int) < rs.length := by omega
    have e0 : zss.getD 0 [] = rs[0].2.1 := by rw [← hzs]; simp [List.getD, h0r]
    have r0 := z5.row rs[0] (List.getElem_mem h0r)
    have ld : aload (tiOf Try.prog) S3 25 (.ptr q 0) = some (rwV rs[0]) := by
      refine loadS z5.obj ?_ (rowsW_nm rs).1
      simp [rowsW, h0r]
    obtain ⟨v1, v2, v3⟩ := hS.2.2 0 (by omega)
    have i5 : IsL S3.obs S2.next (zss.getD 0 []) (.rsl S2.next 0 (zss.getD 0 []).length none) := ⟨⟨none, rfl, .inl rfl⟩, o5 0 _ rfl⟩
    have he : dEql [.rsl S2.next 0 (zss.getD 0 []).length none, rwV rs[0]] ⟨S3.next, S3.obs, S3.next⟩ = some (zss.getD 0 []) := by
      refine dEql_eq (isL_consts (S := ⟨S3.next, S3.obs, S3.next⟩) i5) ?_ (by omega) (by omega) (fun z hz => ?_)
      · rw [e0]; exact isL_consts (S := ⟨S3.next, S3.obs, S3.next⟩) r0
      · have := v2.1 z hz
        exact wrap_in (by omega) (by omega)
    obtain ⟨S4, c6, w6, _, _⟩ := telCallW (args := [.rsl S2.next 0 (zss.getD 0 []).length none, rwV rs[0]]) w5 K0_eql he 200 (by omega)
    simp only [lstR] at c4
    simp only [ansR] at c5
    generalize rwV rs[0] = rv at *
    generalize zss.getD 0 [] = z0 at *
    repeat' (first | refine Wp.seq ?_ | refine Wp.block ?_ | (apply Wp.region; focus ((try simp [setArgs, hbig, hc1, c2, c3, c4, c5, h0r, h0i, ld, c6]) <;> rfl)) | (refine Wp.cond_t ?_ ?_; focus (simp [setArgs, hbig, hc1, c2, c3, c4, c5, h0r, h0i, ld, c6]; done)) | (refine Wp.cond_f ?_ ?_; focus (simp [setArgs, hbig, hc1, c2, c3, c4, c5, h0r, h0i, ld, c6]; done)) | refine Wp.skip ?_ | refine Wp.ret ?_ | refine Wp.exit ?_ | refine Blk.here ?_ | (refine Blk.past ?_ ?_; focus (simp; done)))
    exact ⟨rfl, answer_trim1 (v := .bool true) (by simp) rfl⟩
/-- What bytes are. -/
theorem bytes_slice {w : World} {bs : List Int} {v : Value} (h : IsBytes w bs v) : ∃ s : Sms, VR ⟨Sy.den (fun _ => 0), s⟩ w.heap.size ⟨w, fun _ => none⟩ (.slice (u8s bs)) v := by
  let s : Sms := ⟨fun _ _ => toBytes bs, fun _ => []⟩
  have hs0 : bytesOf (s.s 0 []) = bs := toBytes_of h.1
  have hvr := h.2 (fun _ => 0) s (.c bs.length) hs0 rfl
  have hinv : SInv ⟨Sy.den (fun _ => 0), s⟩ w.heap.size ⟨w, fun _ => none⟩ (⟨0, [], 0⟩ : Sto Sy) :=
    ⟨Nat.le_refl _, fun _ _ => rfl, fun o b n h => (by cases h), fun o x h => (by cases h), fun o o' x x' b n n' h => (by cases h), trivial⟩
  have := bys_data (ρ' := fun _ => 0) hinv hvr
  rw [hs0] at this
  exact ⟨s, this⟩
end Go.Proofs.Ytpjenggjcpahaaa.Draw

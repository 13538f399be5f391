/-
  Lists of lists: marked, and functions of them called, beside any other contract. No condition.
-/
import Derived.Test.YtpjenggjcpahaaaRows
import Derived.Test.YtpjenggjcpahaaaSym
import Derived.Test.YtpjenggjcpahaaaSymD
import Derived.Test.YtpjenggjcpahaaaSymE
import Derived.Test.YtpjenggjcpahaaaSymF
import Derived.Test.YtpjenggjcpahaaaIds
import Derived.Test.YtpjenggjcpahaaaSeq
import Derived.Test.YtpjenggjcpahaaaSeqB
import Derived.Test.YtpjenggjcpahaaaSeqC
import Derived.Test.YtpjenggjcpahaaaSeqE
import Derived.Test.YtpjenggjcpahaaaSeqF
import Derived.Test.YtpjenggjcpahaaaSeqG
import Derived.Test.YtpjenggjcpahaaaSeqH
import Derived.Test.YtpjenggjcpahaaaRow
import Derived.Test.YtpjenggjcpahaaaRowB
import Derived.WalkKit
import Derived.ProofKit
import Derived.OpenShut
namespace Go.Proofs.Ytpjenggjcpahaaa.Row
open Go.ChangeShapes Go.WideShapes Go.ChangeAt Go.RowKit Go.Sx Go.Proofs.Ytpjenggjcpahaaa.Ids Go.Proofs.Ytpjenggjcpahaaa.Seq
set_option linter.unusedVariables false
set_option linter.unusedSimpArgs false

theorem rowsV_nm (o : Nat) (l : List (List Int)) : isMp (rowsV o l) = false := by rw [← halfR_all]; exact (halfR_nm _ _ _ (Nat.le_refl _)).1
section
variable {X : Ctr}
section
attribute [local simp] aops wants aop apure St.eval setTm_some setTm_none Tr.get_set aload evals pevals apureB tiS tiI tiB abin aint isCmp sym_lt sym_eqs sym_neqs sym_eq sym_neq sym_gtr sym_leq sym_geq sym_add sym_sub sym_mul aeff aeffB idx? ofV aindexAddr aggDesc aifc_int aun
set_option maxRecDepth 10000 in
theorem markSS_run (hX : NoX X) (zss : List (List Int)) (x : Int) (hx : 0 ≤ x ∧ x ≤ 1048577) (hl0 : zss.length ≤ 1048576) (hl : ∀ zs, zs ∈ zss → zs.length ≤ 1048576) (S : Sto Sy) (hS : WS ⟨S.next, S.obs, S.next⟩) (q : Nat) (v : V Sy) (hv : IsS S.obs q zss v) (M m : Nat) (hm : zss.length < m) (hM : ∀ zs, zs ∈ zss → zs.length < M) (hmM : M ≤ m) :
    ∃ r, symRun Try.prog (KX X) [] (m + 2) 34 [v, .int .i64 (.c x)] ⟨S.next, S.obs, S.next⟩ = some r ∧ WS r.2 ∧ r.2.next = S.next ∧ (∀ k, (k < q ∨ q + (zss.length + 1) ≤ k) → Go.Sx.look r.2.obs k = Go.Sx.look S.obs k) ∧ ∃ c : Int, r.1 = .int .i64 (.c c) ∧ 0 ≤ c := by
  obtain ⟨rfl, hob, hrow⟩ := hv
  refine own_run2 (n := m + 1) (hX.at (by decide)) Try.func34 rfl rfl ?_
  simp only [Try.f34]
  have al : alen (symNum []) (tiOf Try.prog) 23 (.rsl q 0 zss.length (some zss.length) : V Sy) = some (.int .i64 (.c zss.length)) := by simp [alen, tiSS, symNum]
  repeat' (first | refine Wp.seq ?_ | refine Wp.block ?_ | (apply Wp.region; focus ((try simp [setArgs, al]) <;> rfl)) | (refine Wp.cond_t ?_ ?_; focus (simp [setArgs, al]; done)) | (refine Wp.cond_f ?_ ?_; focus (simp [setArgs, al]; done)) | refine Wp.skip ?_ | refine Wp.ret ?_ | refine Wp.exit ?_ | refine Blk.here ?_ | (refine Blk.past ?_ ?_; focus (simp; done)))
  refine Wp.loop rfl rfl (fun i st => st.tm.get .any 0 = .rsl q 0 zss.length (some zss.length) ∧ st.tm.get .any 5 = .int .i64 (.c i) ∧ (∃ c : Int, st.tm.get .any 1 = .int .i64 (.c c) ∧ 0 ≤ c ∧ c ≤ 1048577 + 1048576 * (i : Int)) ∧
    WS st.sto ∧ st.sto.next = S.next ∧ ∀ k, (k < q + 1 ∨ q + 1 + i ≤ k) → Go.Sx.look st.sto.obs k = Go.Sx.look S.obs k) zss.length (by omega) ?_ ?_ ?_
  · exact ⟨by simp, by simp, ⟨x, by simp, hx.1, by omega⟩, hS, rfl, fun _ _ => rfl⟩
  · rintro f i ⟨tm, T⟩ hi ⟨h0, h5, ⟨c, h1, hc0, hc1⟩, hT, hn, hoth⟩
    simp only at h0 h5 h1 hT hn hoth
    have hlt : (i : Int) < zss.length := by omega
    have hw := wrap_in (a := (i : Int) + 1) (by omega) (by omega)
    have hxs : zss[i]? = some (zss.getD i []) := by simp [List.getD, hi]
    have hzl : (zss.getD i []).length ≤ 1048576 := hl _ (List.mem_of_getElem? hxs)
    have hzM : (zss.getD i []).length < M := hM _ (List.mem_of_getElem? hxs)
    have hro := hrow i _ hxs
    generalize hz : zss.getD i [] = zs at hxs hzl hro hzM
    have hq : Go.Sx.look T.obs q = some (rowsV (q + 1) zss) := by rw [hoth q (by omega)]; exact hob
    have hqi : Go.Sx.look T.obs (q + 1 + i) = some (ints (nums zs)) := by rw [hoth _ (by omega)]; exact hro
    have hnm := rowsV_nm (q + 1) zss
    have hg : (rowsV (q + 1) zss)[i]? = some (.rsl (q + 1 + i) 0 zs.length none) := by rw [rowsV_get, hxs]; rfl
    have hlenV := rowsV_len (q + 1) zss
    obtain ⟨T', cm, mk, _⟩ := mark1 hX zs c ⟨hc0, by omega⟩ hzl T hT (q + 1 + i) (.rsl (q + 1 + i) 0 zs.length none) ⟨.inl rfl, hqi⟩ m (by omega)
    repeat' (first | refine Wp.seq ?_ | refine Wp.block ?_ | (apply Wp.region; focus ((try simp [h0, h5, h1, al, hlt, lookC, hq, hnm, hg, cm, hw, tiSS]) <;> rfl)) | (refine Wp.cond_t ?_ ?_; focus (simp [h0, h5, h1, al, hlt, lookC, hq, hnm, hg, cm, hw, tiSS]; done)) | (refine Wp.cond_f ?_ ?_; focus (simp [h0, h5, h1, al, hlt, lookC, hq, hnm, hg, cm, hw, tiSS]; done)) | refine Wp.skip ?_ | refine Wp.ret ?_ | refine Wp.exit ?_ | refine Blk.here ?_ | (refine Blk.past ?_ ?_; focus (simp; done)))
    refine ⟨by simp [h0], by simp, ⟨c + zs.length, by simp, by omega, by push_cast; omega⟩, mk.ws, mk.next.trans hn, fun k hk => ?_⟩
    show Go.Sx.look T'.obs k = _
    rw [mk.other k (by omega), hoth k (by omega)]
  · rintro f ⟨tm, T⟩ ⟨h0, h5, ⟨c, h1, hc0, hc1⟩, hT, hn, hoth⟩
    simp only at h0 h5 h1 hT hn hoth
    repeat' (first | refine Wp.seq ?_ | refine Wp.block ?_ | (apply Wp.region; focus ((try simp [h0, h5, h1, al]) <;> rfl)) | (refine Wp.cond_t ?_ ?_; focus (simp [h0, h5, h1, al]; done)) | (refine Wp.cond_f ?_ ?_; focus (simp [h0, h5, h1, al]; done)) | refine Wp.skip ?_ | refine Wp.ret ?_ | refine Wp.exit ?_ | refine Blk.here ?_ | (refine Blk.past ?_ ?_; focus (simp; done)))
    have ht : Sto.trim S.next (.int .i64 (.c c)) T = T := by
      have := trim_plain (sto := T) (r := .int .i64 (.c c)) hT.desc rfl
      rwa [hn] at this
    exact ⟨rfl, (.int .i64 (.c c), T), by simp [answer, aresults, aresult, h1, ht], hT, hn, fun k hk => hoth k (by omega), c, rfl, hc0⟩
theorem mark2 (hX : NoX X) (zss : List (List Int)) (x : Int) (hx : 0 ≤ x ∧ x ≤ 1048577) (hl0 : zss.length ≤ 1048576) (hl : ∀ zs, zs ∈ zss → zs.length ≤ 1048576) (S : Sto Sy) (hS : WS S) (q : Nat) (v : V Sy) (hv : IsS S.obs q zss v) (m : Nat) (hm : zss.length < m) (hM : 1048576 < m) :
    ∃ (c : Int) (S' : Sto Sy), acallV (symIn Try.prog (KX X) [] (m + 2)) S (.func 34 [] []) [v, .int .i64 (.c x)] = some (.int .i64 (.c c), S') ∧ 0 ≤ c ∧ Marked S S' q (zss.length + 1) := by
  obtain ⟨⟨r, S1⟩, h1, h2, h3, h4, c, rfl, h5⟩ := markSS_run hX zss x hx hl0 hl S ⟨hS.desc, Nat.le_refl _⟩ q v hv 1048577 m hm (fun zs hzs => by have := hl zs hzs; omega) (by omega)
  simp only at h2 h3 h4
  have hlow := hS.low
  have hlow2 := h2.low
  refine ⟨c, ⟨S1.next, S1.obs, if Nat.blt S1.low S.low then S1.low else S.low⟩, ?_, h5, ⟨⟨h2.desc, ?_⟩, h3, h4⟩⟩
  · rw [acallV_func (by decide), List.nil_append, List.append_nil, symIn_run (by decide), h1]
  · simp only
    split <;> omega
end

/-- An answer: none, or a list that has been made. -/
def GV (S : Sto Sy) (o : Option (List Int)) (q : Nat) (g : V Sy) : Prop := (o = none ∧ g = .nil) ∨ ∃ ys, o = some ys ∧ Made S ys q g
theorem GV.keep {S S' : Sto Sy} {o : Option (List Int)} {q : Nat} {g : V Sy} (h : GV S o q g) (hk : ∀ x, Go.Sx.look S.obs q = some x → Go.Sx.look S'.obs q = some x) : GV S' o q g :=
  h.elim .inl (fun ⟨ys, h1, h2⟩ => .inr ⟨ys, h1, h2.val, hk _ h2.obj⟩)
theorem GV.keep2 {S S' : Sto Sy} {o : Option (List Int)} {q : Nat} {g : V Sy} (hS : WS S) (h : GV S o q g) (hk : q < S.next → ∀ x, Go.Sx.look S.obs q = some x → Go.Sx.look S'.obs q = some x) : GV S' o q g :=
  h.elim .inl (fun ⟨ys, h1, h2⟩ => .inr ⟨ys, h1, h2.val, hk (hS.desc.look_lt h2.obj) _ h2.obj⟩)
theorem GV.consts {S : Sto Sy} {o : Option (List Int)} {q : Nat} {g : V Sy} (h : GV S o q g) : constsOf ⟨S.next, S.obs, S.next⟩ g = some (o.getD []) := by
  rcases h with ⟨rfl, rfl⟩ | ⟨ys, rfl, h⟩
  · rfl
  · exact made_consts ⟨h.val, h.obj⟩
theorem GV.eq {S : Sto Sy} {o : Option (List Int)} {q q' : Nat} {g g' : V Sy} (hS : WS S) (h : GV S o q g) (h' : GV S o q' g') (ho : (o.getD []).length ≤ 1048576) (f : Nat) : acallV (symIn Try.prog (KX X) [] (f + 1)) S (.func 38 [] []) [g, g'] = some (.bool true, S) :=
  eq1 ho hS h.consts h'.consts f
/-- The marks of an answer. -/
theorem GV.mark {S : Sto Sy} {o : Option (List Int)} {q : Nat} {g : V Sy} (hX : NoX X) (hS : WS S) (h : GV S o q g) (ho : (o.getD []).length ≤ 1048576) (m : Nat) (hm : 1048576 < m) : ∃ S', acallV (symIn Try.prog (KX X) [] (m + 1)) S (.func 39 [] []) [g, .int .i64 (.c 1)] = some (.int .i64 (.c (1 + ((o.getD []).length : Nat))), S') ∧ Marked S S' q 1 ∧
    ∀ S'', WS S'' → (∀ x, Go.Sx.look S'.obs q = some x → Go.Sx.look S''.obs q = some x) → acallV (symIn Try.prog (KX X) [] (m + 1)) S'' (.func 40 [] []) [g, .int .i64 (.c 1)] = some (.int .i64 (.c (1 + ((o.getD []).length : Nat))), S'') := by
  rcases h with ⟨rfl, rfl⟩ | ⟨ys, rfl, h⟩
  · refine ⟨S, ?_, ⟨hS, rfl, fun _ _ => rfl⟩, fun S'' h'' _ => ?_⟩
    · exact markNil hX 1 S hS m (by omega)
    · exact heldNil hX 1 S'' h'' m (by omega)
  · simp only [Option.getD_some] at ho ⊢
    obtain ⟨S', h1, h2, h3⟩ := mark1 hX ys 1 ⟨by omega, by omega⟩ ho S hS q g h m (by omega)
    refine ⟨S', h1, h2, fun S'' h'' hk => ?_⟩
    exact held1 hX ys.length 1 ⟨by omega, by omega⟩ ho S'' h'' q g ⟨h3.val, hk _ h3.obj⟩ m (by omega)
/-- A function that is told by its contract is called. -/
theorem repCall {k : FuncId} {F : List Int → List (List Int) → Option (List Int)} (hk : ∀ args sto, KX X k args sto = repK k F k args sto) {S : Sto Sy} (hS : WS S) {v u : V Sy} {zs : List Int} {zss : List (List Int)} (hv : constsOf ⟨S.next, S.obs, S.next⟩ v = some zs) (hu : rowsOf ⟨S.next, S.obs, S.next⟩ u = some zss)
    (h1 : zs.length ≤ 1048576) (h0 : zss.length ≤ 1048576) (h2 : ∀ zs, zs ∈ zss → zs.length ≤ 1048576) (f : Nat) (hk9 : (k : Nat) < 1000000) :
    ∃ g S', acallV (symIn Try.prog (KX X) [] (f + 1)) S (.func k [] []) [v, u] = some (.tup [g, .bool (F zs zss).isSome], S') ∧ WS S' ∧ Keep S S' ∧ S.next ≤ S'.next ∧ GV S' (F zs zss) S.next g := by
  have e : KX X k [v, u] ⟨S.next, S.obs, S.next⟩ = some (ansR (F zs zss) S.next, ⟨S.next + (ansO (F zs zss) S.next).length, numO S.next (ansO (F zs zss) S.next) S.obs, S.next⟩) := by
    rw [hk]
    unfold repK
    have b1 : Nat.ble zs.length 1048576 = true := by rw [Nat.ble_eq]; exact h1
    have b0 : Nat.ble zss.length 1048576 = true := by rw [Nat.ble_eq]; exact h0
    have b2 : (zss.all fun zs => Nat.ble zs.length 1048576) = true := by rw [List.all_eq_true]; intro zs hzs; rw [Nat.ble_eq]; exact h2 zs hzs
    have bk : Nat.beq k k = true := Nat.beq_refl k
    simp only [bk, hv, hu, b1, b0, b2, bite_true]
  have h := call_K (P := Try.prog) (n := f) (hk := hk9) e
  have hlow := hS.low
  cases hF : F zs zss with
  | none =>
    rw [hF] at h
    refine ⟨.nil, _, h, ⟨hS.desc, ?_⟩, Keep.refl _, Nat.le_refl _, .inl ⟨rfl, rfl⟩⟩
    show (if S.next < S.low then S.next else S.low) ≤ S.next
    split <;> omega
  | some ys =>
    rw [hF] at h
    refine ⟨.rsl S.next 0 ys.length none, _, h, ⟨⟨Nat.lt_succ_self _, hS.desc⟩, ?_⟩, fun q x hq => ?_, Nat.le_succ _, .inr ⟨ys, rfl, .inl rfl, ?_⟩⟩
    · show (if S.next < S.low then S.next else S.low) ≤ S.next + 1
      split <;> omega
    · show Go.Sx.look ((S.next, ints (nums ys)) :: S.obs) q = _
      rw [look_cons, if_neg (by have := hS.desc.look_lt hq; omega)]; exact hq
    · show Go.Sx.look ((S.next, ints (nums ys)) :: S.obs) S.next = _
      rw [look_cons, if_pos rfl]
theorem rows_at {S : Sto Sy} {q : Nat} {zss : List (List Int)} {v : V Sy} (h : IsS S.obs q zss v) : rowsOf ⟨S.next, S.obs, S.next⟩ v = some zss := IsS.rows (S := ⟨S.next, S.obs, S.next⟩) h
theorem list_at {S : Sto Sy} {zs : List Int} {q : Nat} {v : V Sy} (h : Made S zs q v) : constsOf ⟨S.next, S.obs, S.next⟩ v = some zs := made_consts (S := ⟨S.next, S.obs, S.next⟩) ⟨h.val, h.obj⟩
theorem rows_keep {S S' : Sto Sy} {q : Nat} {zss : List (List Int)} {v : V Sy} (h : IsS S.obs q zss v) (hk : Keep S S') : IsS S'.obs q zss v := h.keep hk
end
end Go.Proofs.Ytpjenggjcpahaaa.Row

/-
  Pairs of lists: compared, marked, beside any other contract. No condition.
-/
import Derived.Test.YtpjenggjcpahaaaRows
import Derived.Test.YtpjenggjcpahaaaSym
import Derived.Test.YtpjenggjcpahaaaSymD
import Derived.Test.YtpjenggjcpahaaaSymE
import Derived.Test.YtpjenggjcpahaaaSymF
import Derived.Test.YtpjenggjcpahaaaIds
import Derived.Test.YtpjenggjcpahaaaSeq
import Derived.Test.YtpjenggjcpahaaaSeqB
import Derived.Test.YtpjenggjcpahaaaSeqC
import Derived.Test.YtpjenggjcpahaaaSeqE
import Derived.Test.YtpjenggjcpahaaaSeqF
import Derived.Test.YtpjenggjcpahaaaSeqG
import Derived.Test.YtpjenggjcpahaaaSeqH
import Derived.Test.YtpjenggjcpahaaaRow
import Derived.Test.YtpjenggjcpahaaaRowB
import Derived.Test.YtpjenggjcpahaaaRowC
import Derived.WalkKit
import Derived.ProofKit
import Derived.OpenShut
namespace Go.Proofs.Ytpjenggjcpahaaa.Row
open Go.ChangeShapes Go.WideShapes Go.ChangeAt Go.RowKit Go.Sx Go.Proofs.Ytpjenggjcpahaaa.Ids Go.Proofs.Ytpjenggjcpahaaa.Seq
set_option linter.unusedVariables false
set_option linter.unusedSimpArgs false

theorem allocP (S : Sto Sy) : aalloc (symNum []) (tiOf Try.prog) S 27 = some (.ptr S.next 0, S.new [.nil, .nil]) := by kernel_rfl
theorem fldP0 (o off : Nat) : afieldAddr (I := Sy) (tiOf Try.prog) 27 (.ptr o off) 0 = some (.ptr o off) := by kernel_rfl
theorem fldP1 (o off : Nat) : afieldAddr (I := Sy) (tiOf Try.prog) 27 (.ptr o off) 1 = some (.ptr o (off + 1)) := by kernel_rfl
theorem tiP : ∃ ti, tiOf Try.prog 27 = some ti ∧ aggDesc ti.desc = true ∧ ti.size = 2 := by
  have e : (tiOf Try.prog 27).map (fun ti => (aggDesc ti.desc, ti.size)) = some (true, 2) := by kernel_rfl
  cases h : tiOf Try.prog 27 with
  | none => rw [h] at e; cases e
  | some ti => rw [h] at e; simp at e; exact ⟨ti, rfl, e.1, e.2⟩
theorem loadP {S : Sto Sy} {q : Nat} {a b : V Sy} (h : Go.Sx.look S.obs q = some [a, b]) : aload (tiOf Try.prog) S 27 (.ptr q 0) = some (.agg [a, b]) := by
  obtain ⟨ti, h1, h2, h3⟩ := tiP
  simp [aload, h1, h, h2, h3]
theorem storeP {S : Sto Sy} {q : Nat} {a b v w : V Sy} (h : Go.Sx.look S.obs q = some [a, b]) (hv : v.oneCell = true) (hw : w.oneCell = true) : astore (tiOf Try.prog) S 27 (.ptr q 0) (.agg [v, w]) = some (S.write q [v, w]) := by
  obtain ⟨ti, h1, h2, h3⟩ := tiP
  simp [astore, h1, V.cells, h, h3, setRange, hv, hw]
theorem loadS {S : Sto Sy} {q i : Nat} {b : Ob Sy} {x : V Sy} (h : Go.Sx.look S.obs q = some b) (hi : b[i]? = some x) (hmp : isMp b = false := by rfl) : aload (tiOf Try.prog) S 25 (.ptr q i) = some x := by
  simp [aload, tiS, aggDesc, h, hi, lookC, hmp]
theorem nb2 (a b : V Sy) : noBc [a, b] = [a, b] := by cases a <;> rfl
/-- What was there is as it was. -/
structure Old (S S' : Sto Sy) : Prop where
  ws : WS S'
  next : S.next ≤ S'.next
  old : ∀ k, k < S.next → Go.Sx.look S'.obs k = Go.Sx.look S.obs k
theorem Old.keep {S S' : Sto Sy} (hS : WS S) (h : Old S S') : Keep S S' := fun k x hk => by rw [h.old k (hS.desc.look_lt hk)]; exact hk
theorem WS.new {S : Sto Sy} (h : WS S) (cs : Ob Sy) : WS (S.new cs) := ⟨⟨Nat.lt_succ_self _, h.desc⟩, Nat.le_trans h.low (Nat.le_succ _)⟩
theorem new_old {S : Sto Sy} (cs : Ob Sy) {k : Nat} (hk : k < S.next) : Go.Sx.look (S.new cs).obs k = Go.Sx.look S.obs k := by
  show Go.Sx.look ((S.next, noBc cs) :: S.obs) k = _
  rw [look_cons, if_neg (by omega)]
theorem new_two {S : Sto Sy} (a b : V Sy) : Go.Sx.look (S.new [a, b]).obs S.next = some [a, b] := by
  show Go.Sx.look ((S.next, noBc [a, b]) :: S.obs) S.next = _
  rw [look_cons, if_pos rfl, nb2]
/-- A pair into a new cell. -/
theorem cellP {S : Sto Sy} (hS : WS S) {a b : V Sy} (ha : a.oneCell = true) (hb : b.oneCell = true) : ∃ S', astore (tiOf Try.prog) (S.new [.nil, .nil]) 27 (.ptr S.next 0) (.agg [a, b]) = some S' ∧ Old S S' ∧ S'.next = S.next + 1 ∧ Go.Sx.look S'.obs S.next = some [a, b] := by
  have e : ((S.new [.nil, .nil]).write S.next [a, b]).obs = put (S.new [.nil, .nil]).obs S.next [a, b] := by
    show put _ _ (noBc [a, b]) = _
    rw [nb2]
  have hlow := hS.low
  refine ⟨_, storeP (new_two .nil .nil) ha hb, ⟨⟨?_, ?_⟩, Nat.le_succ _, fun k hk => ?_⟩, rfl, ?_⟩
  · rw [e]; exact (hS.new [.nil, .nil]).desc.put _ _
  · show (if Nat.blt S.next S.low then S.next else S.low) ≤ S.next + 1
    split <;> omega
  · rw [e, look_put_ne (by omega)]; exact new_old _ hk
  · rw [e]; exact look_put_self (new_two .nil .nil)
/-- A pair that a function has answered. -/
def PV (S : Sto Sy) (o : Option (List Int × List Int)) (q : Nat) (a b : V Sy) : Prop := (o = none ∧ a = .nil ∧ b = .nil) ∨ ∃ p, o = some p ∧ Made S p.1 q a ∧ Made S p.2 (q + 1) b
theorem PV.keep {S S' : Sto Sy} {o : Option (List Int × List Int)} {q : Nat} {a b : V Sy} (h : PV S o q a b) (hk : ∀ k, (k = q ∨ k = q + 1) → ∀ x, Go.Sx.look S.obs k = some x → Go.Sx.look S'.obs k = some x) : PV S' o q a b :=
  h.elim .inl (fun ⟨p, h1, h2, h3⟩ => .inr ⟨p, h1, ⟨h2.val, hk _ (.inl rfl) _ h2.obj⟩, ⟨h3.val, hk _ (.inr rfl) _ h3.obj⟩⟩)
theorem made_one {S : Sto Sy} {zs : List Int} {q : Nat} {v : V Sy} (h : Made S zs q v) : v.oneCell = true := by rcases h.val with rfl | rfl <;> rfl
theorem PV.one {S : Sto Sy} {o : Option (List Int × List Int)} {q : Nat} {a b : V Sy} (h : PV S o q a b) : a.oneCell = true ∧ b.oneCell = true := by
  rcases h with ⟨_, rfl, rfl⟩ | ⟨p, _, h1, h2⟩
  · exact ⟨rfl, rfl⟩
  · exact ⟨made_one h1, made_one h2⟩
theorem PV.parts {S : Sto Sy} {o : Option (List Int × List Int)} {q : Nat} {a b : V Sy} (h : PV S o q a b) : GV S (o.map (·.1)) q a ∧ GV S (o.map (·.2)) (q + 1) b := by
  rcases h with ⟨rfl, rfl, rfl⟩ | ⟨p, rfl, h1, h2⟩
  · exact ⟨.inl ⟨rfl, rfl⟩, .inl ⟨rfl, rfl⟩⟩
  · exact ⟨.inr ⟨_, rfl, h1⟩, .inr ⟨_, rfl, h2⟩⟩
section
variable {X : Ctr}
def NoP (X : Ctr) : Prop := ∀ k, k ∈ ([32, 35, 36] : List FuncId) → ∀ args sto, X k args sto = none
theorem NoP.at {X : Ctr} (h : NoP X) {k : FuncId} (hk : k ∈ ([32, 35, 36] : List FuncId)) {args : List (V Sy)} {sto : Sto Sy} : KX X k args sto = none := by
  rw [KX_other]
  · exact h k hk args sto
  all_goals
    simp only [List.mem_cons, List.not_mem_nil, or_false] at hk
    rcases hk with rfl | rfl | rfl <;> rfl
section
attribute [local simp] aops wants aop apure St.eval setTm_some setTm_none Tr.get_set evals pevals apureB tiS tiI tiB abin aint isCmp sym_lt sym_eqs sym_neqs sym_eq sym_neq sym_gtr sym_leq sym_geq sym_add sym_sub sym_mul aeff aeffB idx? ofV aindexAddr aggDesc aifc_int aun fldP0 fldP1 abox V.cells
set_option maxRecDepth 10000 in
theorem eqPair1 (hP : NoP X) {S : Sto Sy} (hS : WS S) {o : Option (List Int × List Int)} {q q' : Nat} {a b c d : V Sy} (h : PV S o q a b) (h' : PV S o q' c d) (h1 : ∀ p, o = some p → p.1.length ≤ 1048576 ∧ p.2.length ≤ 1048576) (f : Nat) :
    ∃ S', acallV (symIn Try.prog (KX X) [] (f + 2)) S (.func 32 [] []) [.agg [a, b], .agg [c, d]] = some (.bool true, S') ∧ Old S S' := by
  have hS0 : WS ⟨S.next, S.obs, S.next⟩ := ⟨hS.desc, Nat.le_refl _⟩
  have hr : ∃ r, symRun Try.prog (KX X) [] (f + 2) 32 [.agg [a, b], .agg [c, d]] ⟨S.next, S.obs, S.next⟩ = some r ∧ r.1 = .bool true ∧ Desc r.2.next r.2.obs ∧ S.next ≤ r.2.next ∧ r.2.low = S.next ∧ ∀ k, k < S.next → Go.Sx.look r.2.obs k = Go.Sx.look S.obs k := by
    refine own_run2 (n := f + 1) (hP.at (by decide)) Try.func32 rfl rfl ?_
    simp only [Try.f32]
    obtain ⟨T, hT⟩ : ∃ T, T = (Sto.new (Sto.new (⟨S.next, S.obs, S.next⟩ : Sto Sy) [a, b]) [c, d]) := ⟨_, rfl⟩
    have wT : WS T := by rw [hT]; exact (hS0.new _).new _
    have nT : T.next = S.next + 2 := by rw [hT]; rfl
    have lT : T.low = S.next := by rw [hT]; rfl
    have oT : ∀ k, k < S.next → Go.Sx.look T.obs k = Go.Sx.look S.obs k := fun k hk => by
      rw [hT, new_old _ (show k < (Sto.new (⟨S.next, S.obs, S.next⟩ : Sto Sy) [a, b]).next by show k < S.next + 1; omega)]
      exact new_old (S := (⟨S.next, S.obs, S.next⟩ : Sto Sy)) _ hk
    have t1 : Go.Sx.look T.obs S.next = some [a, b] := by
      rw [hT, new_old _ (show S.next < (Sto.new (⟨S.next, S.obs, S.next⟩ : Sto Sy) [a, b]).next by show S.next < S.next + 1; omega)]
      exact new_two a b
    have t2 : Go.Sx.look T.obs (S.next + 1) = some [c, d] := by rw [hT]; exact new_two c d
    have keep : ∀ k x, Go.Sx.look S.obs k = some x → Go.Sx.look T.obs k = some x := fun k x hk => by rw [oT k (hS.desc.look_lt hk)]; exact hk
    obtain ⟨g1, g2⟩ := (h.keep (S' := T) (fun k _ x hk => keep k x hk)).parts
    obtain ⟨g3, g4⟩ := (h'.keep (S' := T) (fun k _ x hk => keep k x hk)).parts
    have b1 : ((o.map (·.1)).getD []).length ≤ 1048576 := by cases o with
      | none => simp
      | some p => exact (h1 p rfl).1
    have b2 : ((o.map (·.2)).getD []).length ≤ 1048576 := by cases o with
      | none => simp
      | some p => exact (h1 p rfl).2
    have e1 := GV.eq (X := X) wT g1 g3 b1 f
    have e2 := GV.eq (X := X) wT g2 g4 b2 f
    have d1 := loadS (i := 0) t1 rfl (by cases a <;> rfl)
    have d2 := loadS (i := 1) t1 rfl (by cases a <;> rfl)
    have d3 := loadS (i := 0) t2 rfl (by cases c <;> rfl)
    have d4 := loadS (i := 1) t2 rfl (by cases c <;> rfl)
    have hx : (Sto.new (⟨S.next, S.obs, S.next⟩ : Sto Sy) [a, b]).next = S.next + 1 := rfl
    repeat' (first | refine Wp.seq ?_ | refine Wp.block ?_ | (apply Wp.region; focus ((try simp [setArgs, hx, ← hT, d1, d2, d3, d4, e1, e2]) <;> rfl)) | (refine Wp.cond_t ?_ ?_; focus (simp [setArgs, hx, ← hT, d1, d2, d3, d4, e1, e2]; done)) | (refine Wp.cond_f ?_ ?_; focus (simp [setArgs, hx, ← hT, d1, d2, d3, d4, e1, e2]; done)) | refine Wp.skip ?_ | refine Wp.ret ?_ | refine Wp.exit ?_ | refine Blk.here ?_ | (refine Blk.past ?_ ?_; focus (simp; done)))
    refine ⟨rfl, answer_trim1 (v := .bool true) (by simp) ⟨rfl, trim_desc wT.desc, by rw [trim_next]; show S.next ≤ T.next; omega, by rw [trim_lowv]; exact lT, fun k hk => ?_⟩⟩
    rw [trim_old hk]; exact oT k hk
  obtain ⟨⟨r, S1⟩, k1, rfl, k3, k4, k5, k6⟩ := hr
  simp only at k3 k4 k5 k6
  have hlow := hS.low
  refine ⟨⟨S1.next, S1.obs, if Nat.blt S1.low S.low then S1.low else S.low⟩, ?_, ⟨⟨k3, ?_⟩, k4, k6⟩⟩
  · rw [acallV_func (by decide), List.nil_append, List.append_nil, symIn_run (by decide), k1]
  · simp only
    split <;> omega
theorem len_map1 (o : Option (List Int × List Int)) (h1 : ∀ p, o = some p → p.1.length ≤ 1048576 ∧ p.2.length ≤ 1048576) : ((o.map (·.1)).getD []).length ≤ 1048576 ∧ ((o.map (·.2)).getD []).length ≤ 1048576 := by
  cases o with
  | none => simp
  | some p => exact h1 p rfl
/-- How many numbers a pair has. -/
def sizP (o : Option (List Int × List Int)) : Int := (((o.map (·.1)).getD []).length : Nat) + (((o.map (·.2)).getD []).length : Nat)
/-- One of a pair's lists is marked, the next mark told. -/
theorem GV.markAt {S : Sto Sy} {o : Option (List Int)} {q : Nat} {g : V Sy} (hX : NoX X) (hS : WS S) (h : GV S o q g) (x : Int) (hx : 0 ≤ x ∧ x ≤ 100000000) (ho : (o.getD []).length ≤ 1048576) (m : Nat) (hm : 1048576 < m) : ∃ S', acallV (symIn Try.prog (KX X) [] (m + 1)) S (.func 39 [] []) [g, .int .i64 (.c x)] = some (.int .i64 (.c (x + ((o.getD []).length : Nat))), S') ∧ Marked S S' q 1 ∧ (o = none → S' = S) ∧
    ∀ S'', WS S'' → (∀ y, Go.Sx.look S'.obs q = some y → Go.Sx.look S''.obs q = some y) → acallV (symIn Try.prog (KX X) [] (m + 1)) S'' (.func 40 [] []) [g, .int .i64 (.c x)] = some (.int .i64 (.c (x + ((o.getD []).length : Nat))), S'') := by
  rcases h with ⟨rfl, rfl⟩ | ⟨ys, rfl, h⟩
  · refine ⟨S, ?_, ⟨hS, rfl, fun _ _ => rfl⟩, fun _ => rfl, fun S'' h'' _ => ?_⟩
    · have := markNil hX x S hS m (by omega)
      simpa using this
    · have := heldNil hX x S'' h'' m (by omega)
      simpa using this
  · simp only [Option.getD_some] at ho ⊢
    obtain ⟨S', h1, h2, h3⟩ := mark1 hX ys x ⟨by omega, by omega⟩ ho S hS q g h m (by omega)
    refine ⟨S', h1, h2, fun h => (by cases h), fun S'' h'' hk => ?_⟩
    exact held1 hX ys.length x ⟨by omega, by omega⟩ ho S'' h'' q g ⟨h3.val, hk _ h3.obj⟩ m (by omega)
set_option maxRecDepth 10000 in
theorem markPair1 (hX : NoX X) (hP : NoP X) {S : Sto Sy} (hS : WS S) {o : Option (List Int × List Int)} {q : Nat} {a b : V Sy} (h : PV S o q a b) (hq : o.isSome = true → q + 1 < S.next) (h1 : ∀ p, o = some p → p.1.length ≤ 1048576 ∧ p.2.length ≤ 1048576) (m : Nat) (hm : 1048576 < m) :
    ∃ S', acallV (symIn Try.prog (KX X) [] (m + 2)) S (.func 35 [] []) [.agg [a, b], .int .i64 (.c 1)] = some (.int .i64 (.c (1 + sizP o)), S') ∧ WS S' ∧ S.next ≤ S'.next ∧ (∀ k, k < S.next → (o.isSome = true → k ≠ q ∧ k ≠ q + 1) → Go.Sx.look S'.obs k = Go.Sx.look S.obs k) ∧
      ∀ S'', WS S'' → (∀ k, (k = q ∨ k = q + 1) → ∀ y, Go.Sx.look S'.obs k = some y → Go.Sx.look S''.obs k = some y) → acallV (symIn Try.prog (KX X) [] (m + 1)) S'' (.func 40 [] []) [a, .int .i64 (.c 1)] = some (.int .i64 (.c (1 + (((o.map (·.1)).getD []).length : Nat))), S'') ∧
        acallV (symIn Try.prog (KX X) [] (m + 1)) S'' (.func 40 [] []) [b, .int .i64 (.c (1 + (((o.map (·.1)).getD []).length : Nat)))] = some (.int .i64 (.c (1 + sizP o)), S'') := by
  obtain ⟨b1, b2⟩ := len_map1 o h1
  obtain ⟨T, hT⟩ : ∃ T, T = (Sto.new (⟨S.next, S.obs, S.next⟩ : Sto Sy) [a, b]) := ⟨_, rfl⟩
  have hS0 : WS ⟨S.next, S.obs, S.next⟩ := ⟨hS.desc, Nat.le_refl _⟩
  have wT : WS T := by rw [hT]; exact hS0.new _
  have nT : T.next = S.next + 1 := by rw [hT]; rfl
  have oT : ∀ k, k < S.next → Go.Sx.look T.obs k = Go.Sx.look S.obs k := fun k hk => by rw [hT]; exact new_old (S := (⟨S.next, S.obs, S.next⟩ : Sto Sy)) _ hk
  have t1 : Go.Sx.look T.obs S.next = some [a, b] := by rw [hT]; exact new_two a b
  have keep : ∀ k x, Go.Sx.look S.obs k = some x → Go.Sx.look T.obs k = some x := fun k x hk => by rw [oT k (hS.desc.look_lt hk)]; exact hk
  obtain ⟨g1, g2⟩ := (h.keep (S' := T) (fun k _ x hk => keep k x hk)).parts
  obtain ⟨T1, c1, m1, s1, k1⟩ := GV.markAt hX wT g1 1 ⟨by omega, by omega⟩ b1 m hm
  have g2' : GV T1 (o.map (·.2)) (q + 1) b := g2.keep (fun x hx => by rw [m1.other _ (by omega)]; exact hx)
  obtain ⟨T2, c2, m2, s2, k2⟩ := GV.markAt hX m1.ws g2' (1 + (((o.map (·.1)).getD []).length : Nat)) ⟨by omega, by omega⟩ b2 m hm
  have hne : o.isSome = true → q ≠ S.next ∧ q + 1 ≠ S.next := fun ho => by have := hq ho; omega
  have e2 : ((1 : Int) + (((o.map (·.1)).getD []).length : Nat) + (((o.map (·.2)).getD []).length : Nat)) = 1 + sizP o := by unfold sizP; omega
  rw [e2] at c2 k2
  have hcell : ∀ T' : Sto Sy, (T' = T ∨ T' = T1) → Go.Sx.look T'.obs S.next = some [a, b] := by
    rintro T' (rfl | rfl)
    · exact t1
    · cases ho : o with
      | none =>
        subst ho
        rcases g1 with ⟨_, rfl⟩ | ⟨ys, hy, _⟩
        · have := markNil hX 1 T wT m (by omega)
          rw [c1] at this
          have e := (Prod.mk.inj (Option.some.inj this)).2
          rw [e]; exact t1
        · cases hy
      | some p => rw [m1.other _ (by have := hne (by rw [ho]; rfl); omega)]; exact t1
  have d1 := loadS (i := 0) (hcell T (.inl rfl)) rfl (by cases a <;> rfl)
  have d2 := loadS (i := 1) (hcell T1 (.inr rfl)) rfl (by cases a <;> rfl)
  have hr : ∃ r, symRun Try.prog (KX X) [] (m + 2) 35 [.agg [a, b], .int .i64 (.c 1)] ⟨S.next, S.obs, S.next⟩ = some r ∧ r.1 = .int .i64 (.c (1 + sizP o)) ∧ r.2 = Sto.trim S.next (.int .i64 (.c (1 + sizP o))) T2 := by
    refine own_run2 (n := m + 1) (hP.at (by decide)) Try.func35 rfl rfl ?_
    simp only [Try.f35]
    repeat' (first | refine Wp.seq ?_ | refine Wp.block ?_ | (apply Wp.region; focus ((try simp [setArgs, ← hT, d1, d2, c1, c2]) <;> rfl)) | (refine Wp.cond_t ?_ ?_; focus (simp [setArgs, ← hT, d1, d2, c1, c2]; done)) | (refine Wp.cond_f ?_ ?_; focus (simp [setArgs, ← hT, d1, d2, c1, c2]; done)) | refine Wp.skip ?_ | refine Wp.ret ?_ | refine Wp.exit ?_ | refine Blk.here ?_ | (refine Blk.past ?_ ?_; focus (simp; done)))
    exact ⟨rfl, answer_trim1 (v := .int .i64 (.c (1 + sizP o))) (by simp) ⟨rfl, rfl⟩⟩
  obtain ⟨⟨r, S1⟩, k3, rfl, rfl⟩ := hr
  have hlow := hS.low
  have w2 := m2.ws
  have n2 : T2.next = S.next + 1 := by rw [m2.next, m1.next, nT]
  refine ⟨⟨(Sto.trim S.next (.int .i64 (.c (1 + sizP o))) T2).next, (Sto.trim S.next (.int .i64 (.c (1 + sizP o))) T2).obs, if Nat.blt (Sto.trim S.next (.int .i64 (.c (1 + sizP o))) T2).low S.low then (Sto.trim S.next (.int .i64 (.c (1 + sizP o))) T2).low else S.low⟩, ?_, ⟨trim_desc w2.desc, ?_⟩, ?_, fun k hk hk1 => ?_, fun S'' h'' hk => ?_⟩
  · rw [acallV_func (by decide), List.nil_append, List.append_nil, symIn_run (by decide), k3]
  · simp only [trim_next]
    have := w2.low
    split
    · rw [trim_lowv]; exact this
    · omega
  · show S.next ≤ (Sto.trim S.next (.int .i64 (.c (1 + sizP o))) T2).next
    rw [trim_next]; omega
  · show Go.Sx.look (Sto.trim S.next (.int .i64 (.c (1 + sizP o))) T2).obs k = _
    rw [trim_old hk]
    cases ho : o with
    | none => rw [s2 (by rw [ho]; rfl), s1 (by rw [ho]; rfl), oT k hk]
    | some p =>
      have := hk1 (by rw [ho]; rfl)
      rw [m2.other k (by omega), m1.other k (by omega), oT k hk]
  · have lk : ∀ k, (k = q ∨ k = q + 1) → k < S.next → ∀ y, Go.Sx.look T2.obs k = some y → Go.Sx.look S''.obs k = some y := fun k hq' hk' y hy => hk k hq' y (by
      show Go.Sx.look (Sto.trim S.next (.int .i64 (.c (1 + sizP o))) T2).obs k = _
      rw [trim_old hk']; exact hy)
    cases ho : o with
    | none =>
      subst ho
      rcases g1 with ⟨_, rfl⟩ | ⟨ys, hy, _⟩
      · rcases g2 with ⟨_, rfl⟩ | ⟨ys, hy, _⟩
        · have z1 := heldNil hX 1 S'' h'' m (by omega)
          simp only [Option.map_none, Option.getD_none, List.length_nil, sizP]
          exact ⟨by simpa using z1, by simpa using z1⟩
        · cases hy
      · cases hy
    | some p =>
      have hq' := hq (by rw [ho]; rfl)
      subst ho
      exact ⟨k1 S'' h'' (fun y hy => lk q (.inl rfl) (by omega) y (by rw [m2.other q (by omega)]; exact hy)), k2 S'' h'' (fun y hy => lk (q + 1) (.inr rfl) (by omega) y hy)⟩
set_option maxRecDepth 10000 in
theorem heldPair1 (hP : NoP X) {S : Sto Sy} (hS : WS S) {a b : V Sy} {x y : Int} {f : Nat} (hx : 0 ≤ x) (hy : 0 ≤ y) (hc : ∀ S'', WS S'' → (∀ k, k < S.next → Go.Sx.look S''.obs k = Go.Sx.look S.obs k) → acallV (symIn Try.prog (KX X) [] (f + 1)) S'' (.func 40 [] []) [a, .int .i64 (.c 1)] = some (.int .i64 (.c x), S'') ∧
        acallV (symIn Try.prog (KX X) [] (f + 1)) S'' (.func 40 [] []) [b, .int .i64 (.c x)] = some (.int .i64 (.c y), S'')) :
    ∃ S', acallV (symIn Try.prog (KX X) [] (f + 2)) S (.func 36 [] []) [.agg [a, b], .int .i64 (.c 1)] = some (.int .i64 (.c y), S') ∧ Old S S' := by
  obtain ⟨T, hT⟩ : ∃ T, T = (Sto.new (⟨S.next, S.obs, S.next⟩ : Sto Sy) [a, b]) := ⟨_, rfl⟩
  have hS0 : WS ⟨S.next, S.obs, S.next⟩ := ⟨hS.desc, Nat.le_refl _⟩
  have wT : WS T := by rw [hT]; exact hS0.new _
  have nT : T.next = S.next + 1 := by rw [hT]; rfl
  have lT : T.low = S.next := by rw [hT]; rfl
  have oT : ∀ k, k < S.next → Go.Sx.look T.obs k = Go.Sx.look S.obs k := fun k hk => by rw [hT]; exact new_old (S := (⟨S.next, S.obs, S.next⟩ : Sto Sy)) _ hk
  have t1 : Go.Sx.look T.obs S.next = some [a, b] := by rw [hT]; exact new_two a b
  obtain ⟨c1, c2⟩ := hc T wT oT
  have d1 := loadS (i := 0) t1 rfl (by cases a <;> rfl)
  have d2 := loadS (i := 1) t1 rfl (by cases a <;> rfl)
  have hr : ∃ r, symRun Try.prog (KX X) [] (f + 2) 36 [.agg [a, b], .int .i64 (.c 1)] ⟨S.next, S.obs, S.next⟩ = some r ∧ r.1 = .int .i64 (.c y) ∧ Desc r.2.next r.2.obs ∧ S.next ≤ r.2.next ∧ r.2.low = S.next ∧ ∀ k, k < S.next → Go.Sx.look r.2.obs k = Go.Sx.look S.obs k := by
    refine own_run2 (n := f + 1) (hP.at (by decide)) Try.func36 rfl rfl ?_
    simp only [Try.f36]
    have hx' : ¬ x < 0 := by omega
    have hy' : ¬ y < 0 := by omega
    repeat' (first | refine Wp.seq ?_ | refine Wp.block ?_ | (apply Wp.region; focus ((try simp [setArgs, ← hT, d1, d2, c1, c2, hx', hy']) <;> rfl)) | (refine Wp.cond_t ?_ ?_; focus (simp [setArgs, ← hT, d1, d2, c1, c2, hx', hy']; done)) | (refine Wp.cond_f ?_ ?_; focus (simp [setArgs, ← hT, d1, d2, c1, c2, hx', hy']; done)) | refine Wp.skip ?_ | refine Wp.ret ?_ | refine Wp.exit ?_ | refine Blk.here ?_ | (refine Blk.past ?_ ?_; focus (simp; done)))
    refine ⟨rfl, answer_trim1 (v := .int .i64 (.c y)) (by simp) ⟨rfl, trim_desc wT.desc, by rw [trim_next]; show S.next ≤ T.next; omega, by rw [trim_lowv]; exact lT, fun k hk => ?_⟩⟩
    rw [trim_old hk]; exact oT k hk
  obtain ⟨⟨r, S1⟩, k1, rfl, k3, k4, k5, k6⟩ := hr
  simp only at k3 k4 k5 k6
  have hlow := hS.low
  refine ⟨⟨S1.next, S1.obs, if Nat.blt S1.low S.low then S1.low else S.low⟩, ?_, ⟨⟨k3, ?_⟩, k4, k6⟩⟩
  · rw [acallV_func (by decide), List.nil_append, List.append_nil, symIn_run (by decide), k1]
  · simp only
    split <;> omega
end
end
end Go.Proofs.Ytpjenggjcpahaaa.Row

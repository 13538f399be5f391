/-
  What functions that draw from bytes make, pairs, by runs by hand. No condition.
-/
import Derived.Test.YtnaegkpaiahpmaaRows
import Derived.Test.YtnaegkpaiahpmaaSym
import Derived.Test.YtnaegkpaiahpmaaIds
import Derived.Test.YtnaegkpaiahpmaaDraw
import Derived.Test.YtnaegkpaiahpmaaDrawC
import Derived.WalkKit
import Derived.ProofKit
import Derived.OpenShut
namespace Go.Proofs.Ytnaegkpaiahpmaa.Draw
open Go.ChangeShapes Go.WideShapes Go.ChangeAt Go.RowKit Go.Sx Go.Proofs.Ytnaegkpaiahpmaa.Ids
set_option linter.unusedVariables false
set_option linter.unusedSimpArgs false

theorem allocP (S : Sto Sy) : aalloc (symNum []) (tiOf Try.prog) S 25 = some (.ptr S.next 0, S.new [.nil, .nil]) := by kernel_rfl
theorem bldP (q1 q2 l1 l2 : Nat) (c1 c2 : Option Nat) : abuild (symNum []) (tiOf Try.prog) 25 [(0, .rsl q1 0 l1 c1), (1, .rsl q2 0 l2 c2)] = some (.agg [.rsl q1 0 l1 c1, .rsl q2 0 l2 c2]) := by kernel_rfl
theorem fldP0 (o off : Nat) : afieldAddr (I := Sy) (tiOf Try.prog) 25 (.ptr o off) 0 = some (.ptr o off) := by kernel_rfl
theorem fldP1 (o off : Nat) : afieldAddr (I := Sy) (tiOf Try.prog) 25 (.ptr o off) 1 = some (.ptr o (off + 1)) := by kernel_rfl
theorem tiP : ∃ ti, tiOf Try.prog 25 = some ti ∧ aggDesc ti.desc = true ∧ ti.size = 2 := by
  have e : (tiOf Try.prog 25).map (fun ti => (aggDesc ti.desc, ti.size)) = some (true, 2) := by kernel_rfl
  cases h : tiOf Try.prog 25 with
  | none => rw [h] at e; cases e
  | some ti => rw [h] at e; simp at e; exact ⟨ti, rfl, e.1, e.2⟩
theorem loadP {S : Sto Sy} {q : Nat} {a b : V Sy} (h : Go.Sx.look S.obs q = some [a, b]) : aload (tiOf Try.prog) S 25 (.ptr q 0) = some (.agg [a, b]) := by
  obtain ⟨ti, h1, h2, h3⟩ := tiP
  simp [aload, h1, h, h2, h3]
theorem storeP {S : Sto Sy} {q : Nat} {a b v w : V Sy} (h : Go.Sx.look S.obs q = some [a, b]) (hv : v.oneCell = true) (hw : w.oneCell = true) : astore (tiOf Try.prog) S 25 (.ptr q 0) (.agg [v, w]) = some (S.write q [v, w]) := by
  obtain ⟨ti, h1, h2, h3⟩ := tiP
  simp [astore, h1, V.cells, h, h3, setRange, hv, hw]
theorem loadS {S : Sto Sy} {q i : Nat} {b : Ob Sy} {x : V Sy} (h : Go.Sx.look S.obs q = some b) (hi : b[i]? = some x) (hmp : isMp b = false := by rfl) : aload (tiOf Try.prog) S 23 (.ptr q i) = some x := by
  simp [aload, tiS, aggDesc, h, hi, lookC, hmp]
theorem storeS0 {S : Sto Sy} {q l r : Nat} {c : Option Nat} {a b : V Sy} (h : Go.Sx.look S.obs q = some [a, b]) : astore (tiOf Try.prog) S 23 (.ptr q 0) (.rsl r 0 l c) = some (S.write q [.rsl r 0 l c, b]) := by
  simp [astore, tiS, V.cells, h, setRange, V.oneCell]
theorem storeS1 {S : Sto Sy} {q l r : Nat} {c : Option Nat} {a b : V Sy} (h : Go.Sx.look S.obs q = some [a, b]) : astore (tiOf Try.prog) S 23 (.ptr q 1) (.rsl r 0 l c) = some (S.write q [a, .rsl r 0 l c]) := by
  simp [astore, tiS, V.cells, h, setRange, V.oneCell]
theorem lookW {S : Sto Sy} {q : Nat} {x : Ob Sy} {a b : V Sy} (h : Go.Sx.look S.obs q = some x) : Go.Sx.look (S.write q [a, b]).obs q = some [a, b] := by
  show Go.Sx.look (put S.obs q (noBc [a, b])) q = _
  rw [noBc_two]; exact look_put_self h
theorem lookN (S : Sto Sy) (a b : V Sy) : Go.Sx.look (S.new [a, b]).obs S.next = some [a, b] := by
  show Go.Sx.look ((S.next, noBc [a, b]) :: S.obs) S.next = _
  rw [look_cons, if_pos rfl, noBc_two]
theorem islW {S : Sto Sy} {q r : Nat} {zs : List Int} {v : V Sy} {cs : Ob Sy} (h : IsL S.obs q zs v) (hr : q ≠ r) : IsL (S.write r cs).obs q zs v := ⟨h.val, by
  show Go.Sx.look (put S.obs r _) q = _
  rw [look_put_ne hr]; exact h.obj⟩
theorem wrap2 (a : Int) : IntKind.i64.wrap (IntKind.i64.wrap a) = IntKind.i64.wrap a := wrap_cg (cg_wrap a)
theorem tiSs : tiOf Try.prog 80 = some ⟨.slice 9, 1, 24, .slice none 0 0, true⟩ := by kernel_rfl
theorem tiSr : tiOf Try.prog 9 = some ⟨.string, 1, 16, .string ⟨#[]⟩, true⟩ := by kernel_rfl
theorem litS (sto : Sto Sy) (a b c d : ByteArray) : abuildSlice (symNum []) (tiOf Try.prog) sto 80 4 [(0, .str a), (1, .str b), (2, .str c), (3, .str d)] = some (.rsl sto.next 0 4 (some 4), sto.new [.str a, .str b, .str c, .str d]) := by kernel_rfl

attribute [local simp] aops wants aop apure St.eval setTm_some setTm_none Tr.get_set evals pevals apureB alen tiS tiI tiB tiY tiU tiSs tiSr abin aint isCmp sym_lt sym_eqs sym_neqs sym_eq sym_neq sym_gtr sym_leq sym_geq sym_add sym_sub sym_mul aeff aeffB idx? ofV aindexAddr aggDesc aifc_int fldP0 fldP1

/-- One of four strings. -/
theorem ofC (bs : List Int) (hbs : ∀ b, b ∈ bs → 0 ≤ b ∧ b < 256) {o : Nat} {P : Int} {S : Sto Sy} (h : Rdy bs o P S) (hP : P ≤ 900000) (a b c d : ByteArray) (f : Nat) (hf : 2 ≤ f) :
    ∃ v S1, acallV (symIn Try.prog K0 [] f) (S.new [.str a, .str b, .str c, .str d]) (.func 65 [] []) [.ptr o 0, .rsl S.next 0 4 (some 4)] = some (v, S1) ∧ Nw bs o (P + 1) [] S S1 ∧ (v = .str a ∨ v = .str b ∨ v = .str c ∨ v = .str d) := by
  obtain ⟨g, rfl⟩ : ∃ g, f = g + 1 := ⟨f - 1, by omega⟩
  have main := run_call (P := Try.prog) (K := K0) (sto := S.new [.str a, .str b, .str c, .str d]) (bs := bs) (o := o) (Q := P + 1) (ex := []) (n := g + 1) (k := 65) (args := [.ptr o 0, .rsl S.next 0 4 (some 4)]) (Φ := fun v obs => v = .str a ∨ v = .str b ∨ v = .str c ∨ v = .str d) (own_run2 hK0 Try.func65 rfl rfl ?_)
  · obtain ⟨v, S1, k1, k2, k3⟩ := main
    exact ⟨v, S1, k1, k2.ahead h.desc (fun k hk => by cases hk), k3⟩
  simp only [Try.f65]
  have h0 := (h.new [.str a, .str b, .str c, .str d]).lows (S.new [.str a, .str b, .str c, .str d]).next
  have hl0 : Go.Sx.look (⟨(S.new [.str a, .str b, .str c, .str d]).next, (S.new [.str a, .str b, .str c, .str d]).obs, (S.new [.str a, .str b, .str c, .str d]).next⟩ : Sto Sy).obs S.next = some [.str a, .str b, .str c, .str d] := by
    show Go.Sx.look ((S.next, noBc [.str a, .str b, .str c, .str d]) :: S.obs) S.next = _
    rw [look_cons, if_pos rfl]; rfl
  have hq : S.next ≠ o := by have := h.lt; omega
  have hN : (⟨(S.new [.str a, .str b, .str c, .str d]).next, (S.new [.str a, .str b, .str c, .str d]).obs, (S.new [.str a, .str b, .str c, .str d]).next⟩ : Sto Sy).next = S.next + 1 := rfl
  generalize (⟨(S.new [.str a, .str b, .str c, .str d]).next, (S.new [.str a, .str b, .str c, .str d]).obs, (S.new [.str a, .str b, .str c, .str d]).next⟩ : Sto Sy) = S0 at h0 hl0 hN ⊢
  obtain ⟨x, S1, hc, hn, hx1, hx2⟩ := pickC bs hbs h0 (by omega) 4 (by omega) g (by omega)
  have hl1 := hn.keep _ _ hq (by simp) hl0
  have ld : ∀ (i : Nat) (v : V Sy), [V.str a, .str b, .str c, .str d][i]? = some v → aload (tiOf Try.prog) S1 9 (.ptr S.next i) = some v := fun i v hi => by simp [aload, tiSr, aggDesc, hl1, hi]
  have l0 := ld 0 _ rfl
  have l1 := ld 1 _ rfl
  have l2 := ld 2 _ rfl
  have l3 := ld 3 _ rfl
  have hx : x = 0 ∨ x = 1 ∨ x = 2 ∨ x = 3 := by omega
  rcases hx with rfl | rfl | rfl | rfl
  · repeat' (first | refine Wp.seq ?_ | refine Wp.block ?_ | (apply Wp.region; focus ((try simp [setArgs, hc, l0]) <;> rfl)) | (refine Wp.cond_t ?_ ?_; focus (simp [setArgs, hc, l0]; done)) | (refine Wp.cond_f ?_ ?_; focus (simp [setArgs, hc, l0]; done)) | refine Wp.skip ?_ | refine Wp.ret ?_ | refine Wp.exit ?_ | refine Blk.here ?_ | (refine Blk.past ?_ ?_; focus (simp; done)))
    exact ⟨rfl, answer_one (v := .str a) (by simp) (hn.lowlt h0 hN) ⟨hn, .inl rfl⟩⟩
  · repeat' (first | refine Wp.seq ?_ | refine Wp.block ?_ | (apply Wp.region; focus ((try simp [setArgs, hc, l1]) <;> rfl)) | (refine Wp.cond_t ?_ ?_; focus (simp [setArgs, hc, l1]; done)) | (refine Wp.cond_f ?_ ?_; focus (simp [setArgs, hc, l1]; done)) | refine Wp.skip ?_ | refine Wp.ret ?_ | refine Wp.exit ?_ | refine Blk.here ?_ | (refine Blk.past ?_ ?_; focus (simp; done)))
    exact ⟨rfl, answer_one (v := .str b) (by simp) (hn.lowlt h0 hN) ⟨hn, .inr (.inl rfl)⟩⟩
  · repeat' (first | refine Wp.seq ?_ | refine Wp.block ?_ | (apply Wp.region; focus ((try simp [setArgs, hc, l2]) <;> rfl)) | (refine Wp.cond_t ?_ ?_; focus (simp [setArgs, hc, l2]; done)) | (refine Wp.cond_f ?_ ?_; focus (simp [setArgs, hc, l2]; done)) | refine Wp.skip ?_ | refine Wp.ret ?_ | refine Wp.exit ?_ | refine Blk.here ?_ | (refine Blk.past ?_ ?_; focus (simp; done)))
    exact ⟨rfl, answer_one (v := .str c) (by simp) (hn.lowlt h0 hN) ⟨hn, .inr (.inr (.inl rfl))⟩⟩
  · repeat' (first | refine Wp.seq ?_ | refine Wp.block ?_ | (apply Wp.region; focus ((try simp [setArgs, hc, l3]) <;> rfl)) | (refine Wp.cond_t ?_ ?_; focus (simp [setArgs, hc, l3]; done)) | (refine Wp.cond_f ?_ ?_; focus (simp [setArgs, hc, l3]; done)) | refine Wp.skip ?_ | refine Wp.ret ?_ | refine Wp.exit ?_ | refine Blk.here ?_ | (refine Blk.past ?_ ?_; focus (simp; done)))
    exact ⟨rfl, answer_one (v := .str d) (by simp) (hn.lowlt h0 hN) ⟨hn, .inr (.inr (.inr rfl))⟩⟩

theorem named_pascal (bs : List Int) {o : Nat} {P : Int} {S : Sto Sy} (h : Rdy bs o P S) (hl : S.low ≤ o) (n : Nat) (h1 : 2 ≤ n) (h2 : n ≤ 6) (f : Nat) (hf : 1 ≤ f) :
    ∃ v1 v2 S1, acallV (symIn Try.prog K0 [] f) S (.func 64 [] []) [.str (ByteArray.mk #[112, 97, 115, 99, 97, 108]), .int .i64 (.c n)] = some (.tup [.agg [v1, v2], .bool true], S1) ∧ Nw bs o P [] S S1 ∧ Two S.next n v1 v2 S1.obs := by
  have hn : n = 2 ∨ n = 3 ∨ n = 4 ∨ n = 5 ∨ n = 6 := by omega
  rcases hn with rfl | rfl | rfl | rfl | rfl
  · exact np_ok (a := 8) (b := 3) (m := 9) (n := 2) (za := [1, 1]) (zb := [0, 1]) (v1 := .rsl (S.next + 8) 0 2 (none)) (v2 := .rsl (S.next + 3) 0 2 (some 2)) h hl (by kernel_rfl) (by omega) (by omega) (.inl ⟨none, some 2, rfl, rfl, .inl rfl, .inr rfl⟩) rfl rfl (by decide) (by decide) hf
  · exact np_ok (a := 10) (b := 3) (m := 11) (n := 3) (za := [1, 1, 1]) (zb := [0, 1, 0]) (v1 := .rsl (S.next + 10) 0 3 (none)) (v2 := .rsl (S.next + 3) 0 3 (some 3)) h hl (by kernel_rfl) (by omega) (by omega) (.inl ⟨none, some 3, rfl, rfl, .inl rfl, .inr rfl⟩) rfl rfl (by decide) (by decide) hf
  · exact np_ok (a := 12) (b := 3) (m := 13) (n := 4) (za := [1, 1, 1, 1]) (zb := [0, 1, 0, 0]) (v1 := .rsl (S.next + 12) 0 4 (none)) (v2 := .rsl (S.next + 3) 0 4 (some 4)) h hl (by kernel_rfl) (by omega) (by omega) (.inl ⟨none, some 4, rfl, rfl, .inl rfl, .inr rfl⟩) rfl rfl (by decide) (by decide) hf
  · exact np_ok (a := 14) (b := 3) (m := 15) (n := 5) (za := [1, 1, 1, 1, 1]) (zb := [0, 1, 0, 0, 0]) (v1 := .rsl (S.next + 14) 0 5 (none)) (v2 := .rsl (S.next + 3) 0 5 (some 5)) h hl (by kernel_rfl) (by omega) (by omega) (.inl ⟨none, some 5, rfl, rfl, .inl rfl, .inr rfl⟩) rfl rfl (by decide) (by decide) hf
  · exact np_ok (a := 16) (b := 3) (m := 17) (n := 6) (za := [1, 1, 1, 1, 1, 1]) (zb := [0, 1, 0, 0, 0, 0]) (v1 := .rsl (S.next + 16) 0 6 (none)) (v2 := .rsl (S.next + 3) 0 6 (some 6)) h hl (by kernel_rfl) (by omega) (by omega) (.inl ⟨none, some 6, rfl, rfl, .inl rfl, .inr rfl⟩) rfl rfl (by decide) (by decide) hf

theorem named_partitions (bs : List Int) {o : Nat} {P : Int} {S : Sto Sy} (h : Rdy bs o P S) (hl : S.low ≤ o) (n : Nat) (h1 : 2 ≤ n) (h2 : n ≤ 6) (f : Nat) (hf : 1 ≤ f) :
    ∃ v1 v2 S1, acallV (symIn Try.prog K0 [] f) S (.func 64 [] []) [.str (ByteArray.mk #[112, 97, 114, 116, 105, 116, 105, 111, 110, 115]), .int .i64 (.c n)] = some (.tup [.agg [v1, v2], .bool true], S1) ∧ Nw bs o P [] S S1 ∧ Two S.next n v1 v2 S1.obs := by
  have hn : n = 2 ∨ n = 3 ∨ n = 4 ∨ n = 5 ∨ n = 6 := by omega
  rcases hn with rfl | rfl | rfl | rfl | rfl
  · exact np_ok (a := 8) (b := 2) (m := 9) (n := 2) (za := [0, 1]) (zb := [1, 0]) (v1 := .rsl (S.next + 2) 0 2 (some 2)) (v2 := .rsl (S.next + 8) 0 2 (none)) h hl (by kernel_rfl) (by omega) (by omega) (.inr ⟨some 2, none, rfl, rfl, .inr rfl, .inl rfl⟩) rfl rfl (by decide) (by decide) hf
  · exact np_ok (a := 10) (b := 2) (m := 11) (n := 3) (za := [0, 1, 1]) (zb := [1, 0, 0]) (v1 := .rsl (S.next + 2) 0 3 (some 3)) (v2 := .rsl (S.next + 10) 0 3 (none)) h hl (by kernel_rfl) (by omega) (by omega) (.inr ⟨some 3, none, rfl, rfl, .inr rfl, .inl rfl⟩) rfl rfl (by decide) (by decide) hf
  · exact np_ok (a := 12) (b := 2) (m := 13) (n := 4) (za := [0, 1, 1, 1]) (zb := [1, 0, 0, 0]) (v1 := .rsl (S.next + 2) 0 4 (some 4)) (v2 := .rsl (S.next + 12) 0 4 (none)) h hl (by kernel_rfl) (by omega) (by omega) (.inr ⟨some 4, none, rfl, rfl, .inr rfl, .inl rfl⟩) rfl rfl (by decide) (by decide) hf
  · exact np_ok (a := 14) (b := 2) (m := 15) (n := 5) (za := [0, 1, 1, 1, 1]) (zb := [1, 0, 0, 0, 0]) (v1 := .rsl (S.next + 2) 0 5 (some 5)) (v2 := .rsl (S.next + 14) 0 5 (none)) h hl (by kernel_rfl) (by omega) (by omega) (.inr ⟨some 5, none, rfl, rfl, .inr rfl, .inl rfl⟩) rfl rfl (by decide) (by decide) hf
  · exact np_ok (a := 16) (b := 2) (m := 17) (n := 6) (za := [0, 1, 1, 1, 1, 1]) (zb := [1, 0, 0, 0, 0, 0]) (v1 := .rsl (S.next + 2) 0 6 (some 6)) (v2 := .rsl (S.next + 16) 0 6 (none)) h hl (by kernel_rfl) (by omega) (by omega) (.inr ⟨some 6, none, rfl, rfl, .inr rfl, .inl rfl⟩) rfl rfl (by decide) (by decide) hf

theorem named_cycles (bs : List Int) {o : Nat} {P : Int} {S : Sto Sy} (h : Rdy bs o P S) (hl : S.low ≤ o) (n : Nat) (h1 : 2 ≤ n) (h2 : n ≤ 6) (f : Nat) (hf : 1 ≤ f) :
    ∃ v1 v2 S1, acallV (symIn Try.prog K0 [] f) S (.func 64 [] []) [.str (ByteArray.mk #[99, 121, 99, 108, 101, 115]), .int .i64 (.c n)] = some (.tup [.agg [v1, v2], .bool true], S1) ∧ Nw bs o P [] S S1 ∧ Two S.next n v1 v2 S1.obs := by
  have hn : n = 2 ∨ n = 3 ∨ n = 4 ∨ n = 5 ∨ n = 6 := by omega
  rcases hn with rfl | rfl | rfl | rfl | rfl
  · exact np_ok (a := 3) (b := 2) (m := 6) (n := 2) (za := [0, 1]) (zb := [1, 0]) (v1 := .rsl (S.next + 2) 0 2 (some 2)) (v2 := .rsl (S.next + 3) 0 2 (some 2)) h hl (by kernel_rfl) (by omega) (by omega) (.inr ⟨some 2, some 2, rfl, rfl, .inr rfl, .inr rfl⟩) rfl rfl (by decide) (by decide) hf
  · exact np_ok (a := 3) (b := 2) (m := 6) (n := 3) (za := [0, 1, 1]) (zb := [1, 0, 0]) (v1 := .rsl (S.next + 2) 0 3 (some 3)) (v2 := .rsl (S.next + 3) 0 3 (some 3)) h hl (by kernel_rfl) (by omega) (by omega) (.inr ⟨some 3, some 3, rfl, rfl, .inr rfl, .inr rfl⟩) rfl rfl (by decide) (by decide) hf
  · exact np_ok (a := 3) (b := 2) (m := 6) (n := 4) (za := [0, 1, 1, 2]) (zb := [1, 0, 0, 0]) (v1 := .rsl (S.next + 2) 0 4 (some 4)) (v2 := .rsl (S.next + 3) 0 4 (some 4)) h hl (by kernel_rfl) (by omega) (by omega) (.inr ⟨some 4, some 4, rfl, rfl, .inr rfl, .inr rfl⟩) rfl rfl (by decide) (by decide) hf
  · exact np_ok (a := 3) (b := 2) (m := 6) (n := 5) (za := [0, 1, 1, 2, 6]) (zb := [1, 0, 0, 0, 0]) (v1 := .rsl (S.next + 2) 0 5 (some 5)) (v2 := .rsl (S.next + 3) 0 5 (some 5)) h hl (by kernel_rfl) (by omega) (by omega) (.inr ⟨some 5, some 5, rfl, rfl, .inr rfl, .inr rfl⟩) rfl rfl (by decide) (by decide) hf
  · exact np_ok (a := 3) (b := 2) (m := 6) (n := 6) (za := [0, 1, 1, 2, 6, 24]) (zb := [1, 0, 0, 0, 0, 0]) (v1 := .rsl (S.next + 2) 0 6 (some 6)) (v2 := .rsl (S.next + 3) 0 6 (some 6)) h hl (by kernel_rfl) (by omega) (by omega) (.inr ⟨some 6, some 6, rfl, rfl, .inr rfl, .inr rfl⟩) rfl rfl (by decide) (by decide) hf

theorem named_lists (bs : List Int) {o : Nat} {P : Int} {S : Sto Sy} (h : Rdy bs o P S) (hl : S.low ≤ o) (n : Nat) (h1 : 2 ≤ n) (h2 : n ≤ 6) (f : Nat) (hf : 1 ≤ f) :
    ∃ v1 v2 S1, acallV (symIn Try.prog K0 [] f) S (.func 64 [] []) [.str (ByteArray.mk #[108, 105, 115, 116, 115]), .int .i64 (.c n)] = some (.tup [.agg [v1, v2], .bool true], S1) ∧ Nw bs o P [] S S1 ∧ Two S.next n v1 v2 S1.obs := by
  have hn : n = 2 ∨ n = 3 ∨ n = 4 ∨ n = 5 ∨ n = 6 := by omega
  rcases hn with rfl | rfl | rfl | rfl | rfl
  · exact np_ok (a := 3) (b := 2) (m := 6) (n := 2) (za := [0, 1]) (zb := [1, 0]) (v1 := .rsl (S.next + 2) 0 2 (some 2)) (v2 := .rsl (S.next + 3) 0 2 (some 2)) h hl (by kernel_rfl) (by omega) (by omega) (.inr ⟨some 2, some 2, rfl, rfl, .inr rfl, .inr rfl⟩) rfl rfl (by decide) (by decide) hf
  · exact np_ok (a := 3) (b := 2) (m := 6) (n := 3) (za := [0, 1, 2]) (zb := [1, 0, 0]) (v1 := .rsl (S.next + 2) 0 3 (some 3)) (v2 := .rsl (S.next + 3) 0 3 (some 3)) h hl (by kernel_rfl) (by omega) (by omega) (.inr ⟨some 3, some 3, rfl, rfl, .inr rfl, .inr rfl⟩) rfl rfl (by decide) (by decide) hf
  · exact np_ok (a := 3) (b := 2) (m := 6) (n := 4) (za := [0, 1, 2, 6]) (zb := [1, 0, 0, 0]) (v1 := .rsl (S.next + 2) 0 4 (some 4)) (v2 := .rsl (S.next + 3) 0 4 (some 4)) h hl (by kernel_rfl) (by omega) (by omega) (.inr ⟨some 4, some 4, rfl, rfl, .inr rfl, .inr rfl⟩) rfl rfl (by decide) (by decide) hf
  · exact np_ok (a := 3) (b := 2) (m := 6) (n := 5) (za := [0, 1, 2, 6, 24]) (zb := [1, 0, 0, 0, 0]) (v1 := .rsl (S.next + 2) 0 5 (some 5)) (v2 := .rsl (S.next + 3) 0 5 (some 5)) h hl (by kernel_rfl) (by omega) (by omega) (.inr ⟨some 5, some 5, rfl, rfl, .inr rfl, .inr rfl⟩) rfl rfl (by decide) (by decide) hf
  · exact np_ok (a := 3) (b := 2) (m := 6) (n := 6) (za := [0, 1, 2, 6, 24, 120]) (zb := [1, 0, 0, 0, 0, 0]) (v1 := .rsl (S.next + 2) 0 6 (some 6)) (v2 := .rsl (S.next + 3) 0 6 (some 6)) h hl (by kernel_rfl) (by omega) (by omega) (.inr ⟨some 6, some 6, rfl, rfl, .inr rfl, .inr rfl⟩) rfl rfl (by decide) (by decide) hf

section
attribute [local simp] aload
set_option maxRecDepth 10000 in
theorem alternateC (bs : List Int) {o : Nat} {P : Int} {S : Sto Sy} (h : Rdy bs o P S) {q : Nat} {zs : List Int} {v0 : V Sy} (hz : IsL S.obs q zs v0) (hqo : q ≠ o) (hl : zs.length ≤ 25) (f : Nat) (hf : 30 ≤ f) :
    ∃ v S1, acallV (symIn Try.prog K0 [] f) S (.func 66 [] []) [v0] = some (v, S1) ∧ Pre bs o P [] S S1 ∧ S1.low ≤ S.low ∧ ∃ q2 zs2, S.next ≤ q2 ∧ IsL S1.obs q2 zs2 v ∧ zs2.length = zs.length ∧ ∀ z, z ∈ zs2 → IntKind.i64.wrap z = z := by
  obtain ⟨g, rfl⟩ : ∃ g, f = g + 1 := ⟨f - 1, by omega⟩
  refine run_callP (Φ := fun v obs => ∃ q2 zs2, S.next ≤ q2 ∧ IsL obs q2 zs2 v ∧ zs2.length = zs.length ∧ ∀ z, z ∈ zs2 → IntKind.i64.wrap z = z) (own_run2 hK0 Try.func66 rfl rfl ?_)
  simp only [Try.f66]
  have h0 := h.lows S.next
  have hz0 : IsL (⟨S.next, S.obs, S.next⟩ : Sto Sy).obs q zs v0 := hz
  have hN : (⟨S.next, S.obs, S.next⟩ : Sto Sy).next = S.next := rfl
  generalize (⟨S.next, S.obs, S.next⟩ : Sto Sy) = S0 at h0 hz0 hN ⊢
  obtain ⟨cp, rfl, hcp⟩ := hz0.val
  repeat' (first | refine Wp.seq ?_ | refine Wp.block ?_ | (apply Wp.region; focus ((try simp [setArgs, lit1]) <;> rfl)) | (refine Wp.cond_t ?_ ?_; focus (simp [setArgs, lit1]; done)) | (refine Wp.cond_f ?_ ?_; focus (simp [setArgs, lit1]; done)) | refine Wp.skip ?_ | refine Wp.ret ?_ | refine Wp.exit ?_ | refine Blk.here ?_ | (refine Blk.past ?_ ?_; focus (simp; done)))
  refine Wp.loop rfl rfl (fun i st => st.tm.get .any 0 = .rsl q 0 zs.length cp ∧ st.tm.get .any 4 = .int .i64 (.c i) ∧ ∃ q2 zs2, S0.next ≤ q2 ∧ IsL st.sto.obs q2 zs2 (st.tm.get .any 3) ∧ zs2.length = i ∧
    (∀ z, z ∈ zs2 → IntKind.i64.wrap z = z) ∧ Pre bs o P [] S0 st.sto) zs.length (by omega) ?_ ?_ ?_
  · exact ⟨by simp, by simp, S0.next, [], Nat.le_refl _, ⟨⟨some 0, by simp, .inr rfl⟩, look_new _ _⟩, rfl, by simp, Pre.made h0 _⟩
  · rintro k i ⟨tm, T⟩ hi ⟨e0, e4, q2, zs2, hq2, hz2, hl2, hw2, hT⟩
    simp only at e0 e4 hz2 hT
    have hilt : (i : Int) < zs.length := by omega
    have hla := hT.keep q _ hqo (by simp) hz0.obj
    have hge : zs[i]? = some zs[i] := List.getElem?_eq_getElem hi
    have hwi := wrap_in (a := (i : Int) + 1) (by omega) (by omega)
    have er := sym_rem [] (i : Int) 2 (by decide)
    obtain ⟨c2, hv2, hc2⟩ := hz2.val
    generalize hy : IntKind.i64.wrap (zs[i] * IntKind.i64.wrap (1 - IntKind.i64.wrap (2 * (i : Int).tmod 2))) = y
    have hyw : IntKind.i64.wrap y = y := by rw [← hy, wrap2]
    obtain ⟨v', S', k1, k2, q', k3, k4⟩ := append_okP tiS tiI hz2 (by have := h0.lt; omega) (ex := []) (.inr hq2) h0.desc hT (w := y) (ws := []) (by simp; omega)
    replace k1 : aappend (symNum []) (tiOf Try.prog) (T.new (ints (nums [y]))) 23 23 (tm.get .any 3) (.rsl T.next 0 1 (some 1)) = some (v', S') := k1
    rw [hv2] at k1
    repeat' (first | refine Wp.seq ?_ | refine Wp.block ?_ | (apply Wp.region; focus ((try simp [e0, e4, hv2, hilt, hla, hge, hi, er, hy, litx, k1, hwi]) <;> rfl)) | (refine Wp.cond_t ?_ ?_; focus (simp [e0, e4, hv2, hilt, hla, hge, hi, er, hy, litx, k1, hwi]; done)) | (refine Wp.cond_f ?_ ?_; focus (simp [e0, e4, hv2, hilt, hla, hge, hi, er, hy, litx, k1, hwi]; done)) | refine Wp.skip ?_ | refine Wp.ret ?_ | refine Wp.exit ?_ | refine Blk.here ?_ | (refine Blk.past ?_ ?_; focus (simp; done)))
    exact ⟨by simp [e0], by simp, q', _, by have := hT.next; omega, by simpa using k4, by simp [hl2], fun z hz => (List.mem_append.1 hz).elim (hw2 z) (fun h => by simp at h; subst h; exact hyw), k2⟩
  · rintro k ⟨tm, T⟩ ⟨e0, e4, q2, zs2, hq2, hz2, hl2, hw2, hT⟩
    simp only at e0 e4 hz2 hT
    obtain ⟨c2, hv2, hc2⟩ := hz2.val
    repeat' (first | refine Wp.seq ?_ | refine Wp.block ?_ | (apply Wp.region; focus ((try simp [e0, e4, hv2]) <;> rfl)) | (refine Wp.cond_t ?_ ?_; focus (simp [e0, e4, hv2]; done)) | (refine Wp.cond_f ?_ ?_; focus (simp [e0, e4, hv2]; done)) | refine Wp.skip ?_ | refine Wp.ret ?_ | refine Wp.exit ?_ | refine Blk.here ?_ | (refine Blk.past ?_ ?_; focus (simp; done)))
    refine ⟨rfl, answer_trim1 (by simp; rfl) ⟨?_, q2, zs2, by omega, ?_, hl2, hw2⟩⟩
    · rw [← hN]
      exact hT.trim h0.desc h0.lt (.rsl q2 0 zs2.length c2)
    · have := hz2.trim1 (n0 := S.next)
      rw [hv2] at this
      exact this
end

theorem litL (sto : Sto Sy) : abuildSlice (symNum []) (tiOf Try.prog) sto 23 5 [(0, .int .i64 (.c 4)), (1, .int .i64 (.c 5)), (2, .int .i64 (.c 3)), (3, .int .i64 (.c 6)), (4, .int .i64 (.c 2))] = some (.rsl sto.next 0 5 (some 5), sto.new (ints (nums [4, 5, 3, 6, 2]))) := by kernel_rfl
set_option maxRecDepth 10000 in
theorem lengthOf (bs : List Int) (hbs : ∀ b, b ∈ bs → 0 ≤ b ∧ b < 256) {o : Nat} {P : Int} {S : Sto Sy} (h : Rdy bs o P S) (hP : P ≤ 900000) (f : Nat) (hf : 3 ≤ f) :
    ∃ v S1, acallV (symIn Try.prog K0 [] f) S (.func 31 [] []) [.ptr o 0] = some (v, S1) ∧ Nw bs o (P + 1) [] S S1 ∧ ∃ x : Nat, v = .int .i64 (.c x) ∧ 2 ≤ x ∧ x ≤ 6 := by
  obtain ⟨g, rfl⟩ : ∃ g, f = g + 1 := ⟨f - 1, by omega⟩
  refine run_call (Φ := fun v obs => ∃ x : Nat, v = .int .i64 (.c x) ∧ 2 ≤ x ∧ x ≤ 6) (own_run2 hK0 Try.func31 rfl rfl ?_)
  simp only [Try.f31]
  have h0 := h.lows S.next
  have hlt := h.lt
  have hN : (⟨S.next, S.obs, S.next⟩ : Sto Sy).next = S.next := rfl
  generalize (⟨S.next, S.obs, S.next⟩ : Sto Sy) = S0 at h0 hN ⊢
  obtain ⟨x, S1, hc, hn, hx⟩ := oneC bs hbs h0 (by omega) [4, 5, 3, 6, 2] 5 rfl (by omega) (by omega) g (by omega)
  repeat' (first | refine Wp.seq ?_ | refine Wp.block ?_ | (apply Wp.region; focus ((try simp [setArgs, litL, hc]) <;> rfl)) | (refine Wp.cond_t ?_ ?_; focus (simp [setArgs, litL, hc]; done)) | (refine Wp.cond_f ?_ ?_; focus (simp [setArgs, litL, hc]; done)) | refine Wp.skip ?_ | refine Wp.ret ?_ | refine Wp.exit ?_ | refine Blk.here ?_ | (refine Blk.past ?_ ?_; focus (simp; done)))
  refine ⟨rfl, answer_one (v := .int .i64 (.c x)) (by simp) (hn.lowlt h0 hN) ⟨hn, x.toNat, ?_⟩⟩
  simp at hx
  have : 2 ≤ x ∧ x ≤ 6 := by omega
  exact ⟨by rw [Int.toNat_of_nonneg (by omega)], by omega, by omega⟩

set_option maxRecDepth 10000 in
theorem pairOf (bs : List Int) (hbs : ∀ b, b ∈ bs → 0 ≤ b ∧ b < 256) {o : Nat} {P : Int} {S : Sto Sy} (h : Rdy bs o P S) (hP : P ≤ 500000) (n : Nat) (hn0 : 1 ≤ n) (hn : n ≤ 6) (f : Nat) (hf : 60 ≤ f) :
    ∃ v S1, acallV (symIn Try.prog K0 [] f) S (.func 40 [] []) [.ptr o 0, .int .i64 (.c n)] = some (v, S1) ∧ Nw bs o (P + 1000) [] S S1 ∧ ∃ v1 v2, v = .agg [v1, v2] ∧ Two S.next n v1 v2 S1.obs := by
  obtain ⟨g, rfl⟩ : ∃ g, f = g + 1 := ⟨f - 1, by omega⟩
  refine run_call (Φ := fun v obs => ∃ v1 v2, v = .agg [v1, v2] ∧ Two S.next n v1 v2 obs) (own_run2 hK0 Try.func40 rfl rfl ?_)
  simp only [Try.f40]
  have h0 := h.lows S.next
  have hlt := h.lt
  have hN : (⟨S.next, S.obs, S.next⟩ : Sto Sy).next = S.next := rfl
  generalize (⟨S.next, S.obs, S.next⟩ : Sto Sy) = S0 at h0 hN ⊢
  have hno : S0.next ≠ o := by have := h0.lt; omega
  have p0 := Pre.made h0 [V.nil, V.nil]
  have k0 := lookN S0 V.nil V.nil
  -- what is made of a pair in a variable: the result
  have fin : ∀ (T : Sto Sy) (v1 v2 : V Sy) (x : Ob Sy), Nw bs o (P + 900) [] S0 T → Go.Sx.look T.obs S0.next = some x → Two (S0.next + 1) n v1 v2 T.obs →
      Nw bs o (P + 1000) [] S0 (T.write S0.next [v1, v2]) ∧ Go.Sx.look (T.write S0.next [v1, v2]).obs S0.next = some [v1, v2] ∧ Two S.next n v1 v2 (T.write S0.next [v1, v2]).obs := by
    intro T v1 v2 x hT hx htw
    obtain ⟨q1, q2, z1, z2, a1, a2, a3, a4, a5, a6, a7, a8, a9⟩ := htw
    exact ⟨(hT.wrote h0.desc hno (.inr (Nat.le_refl _)) _).more (by omega), lookW hx, q1, q2, z1, z2, by omega, by omega, a3, islW a4 (by omega), islW a5 (by omega), a6, a7, a8, a9⟩
  have ans : ∀ (T : Sto Sy) (tm : Tr (V Sy)) (v1 v2 : V Sy), tm.get .any 4 = .ptr S0.next 0 → Nw bs o (P + 1000) [] S0 T → Go.Sx.look T.obs S0.next = some [v1, v2] → Two S.next n v1 v2 T.obs →
      ∃ r, answer (tiOf Try.prog) ⟨tm, T⟩ S.next [.cell 4 25] = some r ∧ Nw bs o (P + 1000) [] S0 r.2 ∧ ∃ v1 v2, r.1 = .agg [v1, v2] ∧ Two S.next n v1 v2 r.2.obs := by
    intro T tm v1 v2 h4 hT hk htw
    refine ⟨(.agg [v1, v2], T), ?_, hT, v1, v2, rfl, htw⟩
    simp [answer, aresults, aresult, h4, loadP hk]
    exact trim_low (hT.lowlt h0 hN)
  have other : ∀ (T : Sto Sy), Pre bs o (P + 1) [] S0 T → Go.Sx.look T.obs S0.next = some [V.nil, V.nil] → S0.next < T.next → ∃ q1 q2 l1 l2 c1 c2 T2 T3, acallV (symIn Try.prog K0 [] g) T (.func 67 [] []) [.ptr o 0, .int .i64 (.c n)] = some (.rsl q1 0 l1 c1, T2) ∧
      acallV (symIn Try.prog K0 [] g) T2 (.func 68 [] []) [.ptr o 0, .int .i64 (.c n)] = some (.rsl q2 0 l2 c2, T3) ∧ Nw bs o (P + 900) [] S0 T3 ∧ Go.Sx.look T3.obs S0.next = some [V.nil, V.nil] ∧ Two (S0.next + 1) n (.rsl q1 0 l1 c1) (.rsl q2 0 l2 c2) T3.obs := by
    intro T hT hk hlt2
    obtain ⟨v, T2, hc1, hn1, q1, z1, a1, a2, a3, a4, a5⟩ := unitSeries bs hbs hT.rd (by omega) n (by omega) (by omega) g (by omega)
    obtain ⟨w, T3, hc2, hn2, q2, z2, b1, b2, b3, b4, b5⟩ := deltaSeries bs hbs hn1.rd (by omega) n (by omega) (by omega) g (by omega)
    have e1 := hn1.next
    have hq1 := hn1.rd.desc.look_lt a2.obj
    obtain ⟨c1, rfl, hc1'⟩ := a2.val
    obtain ⟨c2, rfl, hc2'⟩ := b2.val
    have t1 := hT.trans h0.desc hn1 (by simp)
    exact ⟨q1, q2, _, _, c1, c2, T2, T3, hc1, hc2, (t1.trans h0.desc hn2 (by simp)).more (by omega), hn2.keep _ _ hno (by simp) (hn1.keep _ _ hno (by simp) hk),
      q1, q2, z1, z2, by omega, by omega, by omega, a2.keep hn2 (by have := h0.lt; omega) (by simp), b2, by omega, by omega, wrap_bounded (by omega) a5, wrap_bounded (by omega) b5⟩
  by_cases hn1 : n = 1
  · have h1i : ¬ (1 : Int) < n := by omega
    have h1j : ¬ 1 < n := by omega
    obtain ⟨q1, q2, l1, l2, c1, c2, T2, T3, hc1, hc2, hT3, hk3, htw⟩ := other (S0.new [V.nil, V.nil]) (p0.more (by omega)) k0 (Nat.lt_succ_self _)
    obtain ⟨f1, f2, f3⟩ := fin T3 _ _ _ hT3 hk3 htw
    repeat' (first | refine Wp.seq ?_ | refine Wp.block ?_ | (apply Wp.region; focus ((try simp [setArgs, allocP, h1i, h1j, hc1, hc2, bldP, storeP (v := .rsl q1 0 l1 c1) (w := .rsl q2 0 l2 c2) hk3 rfl rfl]) <;> rfl)) | (refine Wp.cond_t ?_ ?_; focus (simp [setArgs, allocP, h1i, h1j, hc1, hc2, bldP, storeP (v := .rsl q1 0 l1 c1) (w := .rsl q2 0 l2 c2) hk3 rfl rfl]; done)) | (refine Wp.cond_f ?_ ?_; focus (simp [setArgs, allocP, h1i, h1j, hc1, hc2, bldP, storeP (v := .rsl q1 0 l1 c1) (w := .rsl q2 0 l2 c2) hk3 rfl rfl]; done)) | refine Wp.skip ?_ | refine Wp.ret ?_ | refine Wp.exit ?_ | refine Blk.here ?_ | (refine Blk.past ?_ ?_; focus (simp; done)))
    exact ⟨rfl, ans _ _ _ _ (by simp) f1 f2 f3⟩
  have h1n : (1 : Int) < n := by omega
  have h1m : 1 < n := by omega
  obtain ⟨x, T1, hcx, hnx, hx1, hx2⟩ := pickC bs hbs p0.rd (by omega) 4 (by omega) g (by omega)
  have t1 := p0.trans h0.desc hnx (by simp)
  have k1 := hnx.keep _ _ hno (by simp) k0
  have e1 := hnx.next
  have hS1 : (S0.new [V.nil, V.nil]).next = S0.next + 1 := rfl
  by_cases hx0 : x = 0
  rotate_left
  · have hxb : (x == 0) = false := by simp [hx0]
    obtain ⟨q1, q2, l1, l2, c1, c2, T2, T3, hc1, hc2, hT3, hk3, htw⟩ := other T1 t1.pre k1 (by omega)
    obtain ⟨f1, f2, f3⟩ := fin T3 _ _ _ hT3 hk3 htw
    repeat' (first | refine Wp.seq ?_ | refine Wp.block ?_ | (apply Wp.region; focus ((try simp [setArgs, allocP, h1n, h1m, hcx, hxb, hc1, hc2, bldP, storeP (v := .rsl q1 0 l1 c1) (w := .rsl q2 0 l2 c2) hk3 rfl rfl]) <;> rfl)) | (refine Wp.cond_t ?_ ?_; focus (simp [setArgs, allocP, h1n, h1m, hcx, hxb, hc1, hc2, bldP, storeP (v := .rsl q1 0 l1 c1) (w := .rsl q2 0 l2 c2) hk3 rfl rfl]; done)) | (refine Wp.cond_f ?_ ?_; focus (simp [setArgs, allocP, h1n, h1m, hcx, hxb, hc1, hc2, bldP, storeP (v := .rsl q1 0 l1 c1) (w := .rsl q2 0 l2 c2) hk3 rfl rfl]; done)) | refine Wp.skip ?_ | refine Wp.ret ?_ | refine Wp.exit ?_ | refine Blk.here ?_ | (refine Blk.past ?_ ?_; focus (simp; done)))
    exact ⟨rfl, ans _ _ _ _ (by simp) f1 f2 f3⟩
  subst hx0
  obtain ⟨nm, T2, hc2, hn2, hnm⟩ := ofC bs hbs t1.rd (by omega) (ByteArray.mk #[112, 97, 115, 99, 97, 108]) (ByteArray.mk #[112, 97, 114, 116, 105, 116, 105, 111, 110, 115]) (ByteArray.mk #[99, 121, 99, 108, 101, 115]) (ByteArray.mk #[108, 105, 115, 116, 115]) g (by omega)
  have t2 := t1.trans h0.desc hn2 (by simp)
  have k2 := hn2.keep _ _ hno (by simp) k1
  have e2 := hn2.next
  obtain ⟨v1, v2, T3, hc3, hn3, htw⟩ : ∃ v1 v2 T3, acallV (symIn Try.prog K0 [] g) T2 (.func 64 [] []) [nm, .int .i64 (.c n)] = some (.tup [.agg [v1, v2], .bool true], T3) ∧ Nw bs o (P + 1 + 1) [] T2 T3 ∧ Two T2.next n v1 v2 T3.obs := by
    rcases hnm with rfl | rfl | rfl | rfl
    · exact named_pascal bs t2.rd t2.low n (by omega) (by omega) g (by omega)
    · exact named_partitions bs t2.rd t2.low n (by omega) (by omega) g (by omega)
    · exact named_cycles bs t2.rd t2.low n (by omega) (by omega) g (by omega)
    · exact named_lists bs t2.rd t2.low n (by omega) (by omega) g (by omega)
  have t3 := t2.trans h0.desc hn3 (by simp)
  have k3 := hn3.keep _ _ hno (by simp) k2
  obtain ⟨q1, q2, z1, z2, a1, a2, a3, a4, a5, a6, a7, a8, a9⟩ := htw
  obtain ⟨c1, rfl, hcp1⟩ := a4.val
  obtain ⟨c2, rfl, hcp2⟩ := a5.val
  have e3 := hn3.next
  have b1 := hn3.rd.desc.look_lt a4.obj
  have b2 := hn3.rd.desc.look_lt a5.obj
  -- the variable
  have t4 := (t3.behind [V.nil, V.nil]).wrote h0.desc (q := T3.next) (by have := h0.lt; omega) (.inr (by omega)) [.rsl q1 0 z1.length c1, .rsl q2 0 z2.length c2]
  have k4 : Go.Sx.look (T3.new [V.nil, V.nil]).obs S0.next = some [V.nil, V.nil] := by
    show Go.Sx.look ((T3.next, noBc [V.nil, V.nil]) :: T3.obs) S0.next = _
    rw [look_cons, if_neg (by omega)]; exact k3
  have k4' : Go.Sx.look ((T3.new [V.nil, V.nil]).write T3.next [.rsl q1 0 z1.length c1, .rsl q2 0 z2.length c2]).obs S0.next = some [V.nil, V.nil] := by
    show Go.Sx.look (put (T3.new [V.nil, V.nil]).obs T3.next _) S0.next = _
    rw [look_put_ne (by omega)]; exact k4
  have m4 := lookW (a := V.rsl q1 0 z1.length c1) (b := V.rsl q2 0 z2.length c2) (lookN T3 V.nil V.nil)
  have st4 := storeP (v := V.rsl q1 0 z1.length c1) (w := V.rsl q2 0 z2.length c2) (lookN T3 V.nil V.nil) rfl rfl
  have i1 := islW (cs := [.rsl q1 0 z1.length c1, .rsl q2 0 z2.length c2]) (r := T3.next) (a4.new (n := 0) hn3.rd.desc [V.nil, V.nil]) (by omega)
  have i2 := islW (cs := [.rsl q1 0 z1.length c1, .rsl q2 0 z2.length c2]) (r := T3.next) (a5.new (n := 0) hn3.rd.desc [V.nil, V.nil]) (by omega)
  have e4 : ((T3.new [V.nil, V.nil]).write T3.next [V.rsl q1 0 z1.length c1, .rsl q2 0 z2.length c2]).next = T3.next + 1 := rfl
  generalize (T3.new [V.nil, V.nil]).write T3.next [V.rsl q1 0 z1.length c1, .rsl q2 0 z2.length c2] = T4 at t4 k4' m4 st4 i1 i2 e4
  obtain ⟨y, T5, hc5, hn5, hy1, hy2⟩ := pickC bs hbs t4.rd (by omega) 3 (by omega) g (by omega)
  have t5 := t4.trans h0.desc hn5 (by simp)
  have k5 := hn5.keep _ _ hno (by simp) k4'
  have hvo : T3.next ≠ o := by have := h0.lt; omega
  have m5 := hn5.keep _ _ hvo (by simp) m4
  have j1 := i1.keep hn5 (by have := h0.lt; omega) (by simp)
  have j2 := i2.keep hn5 (by have := h0.lt; omega) (by simp)
  have e5 := hn5.next
  by_cases hy0 : y = 0
  rotate_left
  · obtain ⟨f1, f2, f3⟩ := fin T5 _ _ _ (t5.more (by omega)) k5 ⟨q1, q2, z1, z2, by omega, by omega, a3, j1, j2, a6, a7, a8, a9⟩
    repeat' (first | refine Wp.seq ?_ | refine Wp.block ?_ | (apply Wp.region; focus ((try simp [setArgs, allocP, h1n, h1m, hcx, litS, hc2, hc3, st4, hc5, hy0, loadP m5, storeP (v := .rsl q1 0 z1.length c1) (w := .rsl q2 0 z2.length c2) k5 rfl rfl]) <;> rfl)) | (refine Wp.cond_t ?_ ?_; focus (simp [setArgs, allocP, h1n, h1m, hcx, litS, hc2, hc3, st4, hc5, hy0, loadP m5, storeP (v := .rsl q1 0 z1.length c1) (w := .rsl q2 0 z2.length c2) k5 rfl rfl]; done)) | (refine Wp.cond_f ?_ ?_; focus (simp [setArgs, allocP, h1n, h1m, hcx, litS, hc2, hc3, st4, hc5, hy0, loadP m5, storeP (v := .rsl q1 0 z1.length c1) (w := .rsl q2 0 z2.length c2) k5 rfl rfl]; done)) | refine Wp.skip ?_ | refine Wp.ret ?_ | refine Wp.exit ?_ | refine Blk.here ?_ | (refine Blk.past ?_ ?_; focus (simp; done)))
    exact ⟨rfl, ans _ _ _ _ (by simp) f1 f2 f3⟩
  subst hy0
  have o1 : q1 ≠ o := by have := h0.lt; omega
  have o2 : q2 ≠ o := by have := h0.lt; omega
  obtain ⟨w1, T6, hc6, hp6, hl6, r1, y1, d1, d2, d3, d4⟩ := alternateC bs t5.rd j1 o1 (by omega) g (by omega)
  have t6 := (t5.pre.after h0.desc hp6 (by simp)).nw (Nat.le_trans hl6 t5.low)
  have k6 := hp6.keep _ _ hno (by simp) k5
  have m6 := hp6.keep _ _ hvo (by simp) m5
  have j2' := j2.keepP hp6 o2 (by simp)
  have e6 := hp6.next
  obtain ⟨g1, rfl, hg1⟩ := d2.val
  have hr1 := hp6.rd.desc.look_lt d2.obj
  have l6 : aload (tiOf Try.prog) T5 23 (.ptr T3.next 0) = some (.rsl q1 0 z1.length c1) := loadS m5 rfl
  have s6 := storeS0 (l := y1.length) (r := r1) (c := g1) m6
  have t7 := t6.wrote h0.desc hvo (.inr (by omega)) [.rsl r1 0 y1.length g1, .rsl q2 0 z2.length c2]
  have k7 : Go.Sx.look (T6.write T3.next [V.rsl r1 0 y1.length g1, .rsl q2 0 z2.length c2]).obs S0.next = some [V.nil, V.nil] := by
    show Go.Sx.look (put T6.obs T3.next _) S0.next = _
    rw [look_put_ne (by omega)]; exact k6
  have m7 := lookW (a := V.rsl r1 0 y1.length g1) (b := V.rsl q2 0 z2.length c2) m6
  have j2'' := islW (cs := [.rsl r1 0 y1.length g1, .rsl q2 0 z2.length c2]) (r := T3.next) j2' (by omega)
  have d2' := islW (cs := [.rsl r1 0 y1.length g1, .rsl q2 0 z2.length c2]) (r := T3.next) d2 (by omega)
  have e7 : (T6.write T3.next [V.rsl r1 0 y1.length g1, .rsl q2 0 z2.length c2]).next = T6.next := rfl
  generalize T6.write T3.next [V.rsl r1 0 y1.length g1, .rsl q2 0 z2.length c2] = T7 at t7 k7 m7 s6 j2'' d2' e7
  obtain ⟨w2, T8, hc8, hp8, hl8, r2, y2, x1, x2, x3, x4⟩ := alternateC bs t7.rd j2'' o2 (by omega) g (by omega)
  have t8 := (t7.pre.after h0.desc hp8 (by simp)).nw (Nat.le_trans hl8 t7.low)
  have k8 := hp8.keep _ _ hno (by simp) k7
  have m8 := hp8.keep _ _ hvo (by simp) m7
  have d8 := d2'.keepP hp8 (by have := h0.lt; omega) (by simp)
  obtain ⟨g2, rfl, hg2⟩ := x2.val
  have e8 := hp8.next
  have hr2 := hp8.rd.desc.look_lt x2.obj
  have l8 : aload (tiOf Try.prog) T7 23 (.ptr T3.next 1) = some (.rsl q2 0 z2.length c2) := loadS m7 rfl
  have s8 := storeS1 (l := y2.length) (r := r2) (c := g2) m8
  have t9 := t8.wrote h0.desc hvo (.inr (by omega)) [.rsl r1 0 y1.length g1, .rsl r2 0 y2.length g2]
  have k9 : Go.Sx.look (T8.write T3.next [V.rsl r1 0 y1.length g1, .rsl r2 0 y2.length g2]).obs S0.next = some [V.nil, V.nil] := by
    show Go.Sx.look (put T8.obs T3.next _) S0.next = _
    rw [look_put_ne (by omega)]; exact k8
  have m9 := lookW (a := V.rsl r1 0 y1.length g1) (b := V.rsl r2 0 y2.length g2) m8
  have d9 := islW (cs := [.rsl r1 0 y1.length g1, .rsl r2 0 y2.length g2]) (r := T3.next) d8 (by omega)
  have x9 := islW (cs := [.rsl r1 0 y1.length g1, .rsl r2 0 y2.length g2]) (r := T3.next) x2 (by omega)
  generalize T8.write T3.next [V.rsl r1 0 y1.length g1, .rsl r2 0 y2.length g2] = T9 at t9 k9 m9 s8 d9 x9
  obtain ⟨f1, f2, f3⟩ := fin T9 _ _ _ (t9.more (by omega)) k9 ⟨r1, r2, y1, y2, by omega, by omega, by omega, d9, x9, by omega, by omega, d4, x4⟩
  repeat' (first | refine Wp.seq ?_ | refine Wp.block ?_ | (apply Wp.region; focus ((try simp [setArgs, allocP, h1n, h1m, hcx, litS, hc2, hc3, st4, hc5, l6, hc6, s6, l8, hc8, s8, loadP m9, storeP (v := .rsl r1 0 y1.length g1) (w := .rsl r2 0 y2.length g2) k9 rfl rfl]) <;> rfl)) | (refine Wp.cond_t ?_ ?_; focus (simp [setArgs, allocP, h1n, h1m, hcx, litS, hc2, hc3, st4, hc5, l6, hc6, s6, l8, hc8, s8, loadP m9, storeP (v := .rsl r1 0 y1.length g1) (w := .rsl r2 0 y2.length g2) k9 rfl rfl]; done)) | (refine Wp.cond_f ?_ ?_; focus (simp [setArgs, allocP, h1n, h1m, hcx, litS, hc2, hc3, st4, hc5, l6, hc6, s6, l8, hc8, s8, loadP m9, storeP (v := .rsl r1 0 y1.length g1) (w := .rsl r2 0 y2.length g2) k9 rfl rfl]; done)) | refine Wp.skip ?_ | refine Wp.ret ?_ | refine Wp.exit ?_ | refine Blk.here ?_ | (refine Blk.past ?_ ?_; focus (simp; done)))
  exact ⟨rfl, ans _ _ _ _ (by simp) f1 f2 f3⟩

/-- Two lists, new. -/
def Prs (n0 : Nat) (v1 v2 : V Sy) (obs : List (Nat × Ob Sy)) : Prop := ∃ q1 q2 z1 z2, n0 ≤ q1 ∧ n0 ≤ q2 ∧ q1 ≠ q2 ∧ IsL obs q1 z1 v1 ∧ IsL obs q2 z2 v2 ∧ Fit z1 ∧ Fit z2

set_option maxRecDepth 10000 in
theorem somePair (bs : List Int) (hbs : ∀ b, b ∈ bs → 0 ≤ b ∧ b < 256) {o : Nat} {P : Int} {S : Sto Sy} (h : Rdy bs o P S) (hP : P ≤ 400000) (f : Nat) (hf : 70 ≤ f) :
    ∃ v S1, acallV (symIn Try.prog K0 [] f) S (.func 17 [] []) [.ptr o 0] = some (v, S1) ∧ Nw bs o (P + 2000) [] S S1 ∧ ∃ v1 v2, v = .agg [v1, v2] ∧ Prs S.next v1 v2 S1.obs := by
  obtain ⟨g, rfl⟩ : ∃ g, f = g + 1 := ⟨f - 1, by omega⟩
  refine run_call (Φ := fun v obs => ∃ v1 v2, v = .agg [v1, v2] ∧ Prs S.next v1 v2 obs) (own_run2 hK0 Try.func17 rfl rfl ?_)
  simp only [Try.f17]
  have h0 := h.lows S.next
  have hlt := h.lt
  have hN : (⟨S.next, S.obs, S.next⟩ : Sto Sy).next = S.next := rfl
  generalize (⟨S.next, S.obs, S.next⟩ : Sto Sy) = S0 at h0 hN ⊢
  have hno : S0.next ≠ o := by have := h0.lt; omega
  have p0 := Pre.made h0 [V.nil, V.nil]
  have k0 := lookN S0 V.nil V.nil
  have fin : ∀ (T : Sto Sy) (v1 v2 : V Sy) (x : Ob Sy), Nw bs o (P + 1900) [] S0 T → Go.Sx.look T.obs S0.next = some x → Prs (S0.next + 1) v1 v2 T.obs →
      Nw bs o (P + 2000) [] S0 (T.write S0.next [v1, v2]) ∧ Go.Sx.look (T.write S0.next [v1, v2]).obs S0.next = some [v1, v2] ∧ Prs S.next v1 v2 (T.write S0.next [v1, v2]).obs := by
    intro T v1 v2 x hT hx htw
    obtain ⟨q1, q2, z1, z2, a1, a2, a3, a4, a5, a6, a7⟩ := htw
    exact ⟨(hT.wrote h0.desc hno (.inr (Nat.le_refl _)) _).more (by omega), lookW hx, q1, q2, z1, z2, by omega, by omega, a3, islW a4 (by omega), islW a5 (by omega), a6, a7⟩
  have ans : ∀ (T : Sto Sy) (tm : Tr (V Sy)) (v1 v2 : V Sy), tm.get .any 2 = .ptr S0.next 0 → Nw bs o (P + 2000) [] S0 T → Go.Sx.look T.obs S0.next = some [v1, v2] → Prs S.next v1 v2 T.obs →
      ∃ r, answer (tiOf Try.prog) ⟨tm, T⟩ S.next [.cell 2 25] = some r ∧ Nw bs o (P + 2000) [] S0 r.2 ∧ ∃ v1 v2, r.1 = .agg [v1, v2] ∧ Prs S.next v1 v2 r.2.obs := by
    intro T tm v1 v2 h4 hT hk htw
    refine ⟨(.agg [v1, v2], T), ?_, hT, v1, v2, rfl, htw⟩
    simp [answer, aresults, aresult, h4, loadP hk]
    exact trim_low (hT.lowlt h0 hN)
  obtain ⟨_, T1, hc1, hn1, x, rfl, hx1, hx2⟩ := lengthOf bs hbs p0.rd (by omega) g (by omega)
  have t1 := p0.trans h0.desc hn1 (by simp)
  have k1 := hn1.keep _ _ hno (by simp) k0
  have e1 := hn1.next
  have hS1 : (S0.new [V.nil, V.nil]).next = S0.next + 1 := rfl
  obtain ⟨_, T2, hc2, hn2, v1, v2, rfl, htw⟩ := pairOf bs hbs t1.rd (by omega) x (by omega) (by omega) g (by omega)
  have t2 := t1.trans h0.desc hn2 (by simp)
  have k2 := hn2.keep _ _ hno (by simp) k1
  have e2 := hn2.next
  obtain ⟨q1, q2, z1, z2, a1, a2, a3, a4, a5, a6, a7, a8, a9⟩ := htw
  obtain ⟨c1, rfl, hcp1⟩ := a4.val
  obtain ⟨c2, rfl, hcp2⟩ := a5.val
  have fz1 : Fit z1 := ⟨by omega, a8⟩
  have fz2 : Fit z2 := ⟨by omega, a9⟩
  have b1 := hn2.rd.desc.look_lt a4.obj
  have b2 := hn2.rd.desc.look_lt a5.obj
  have t3 := (t2.behind [V.nil, V.nil]).wrote h0.desc (q := T2.next) (by have := h0.lt; omega) (.inr (by omega)) [.rsl q1 0 z1.length c1, .rsl q2 0 z2.length c2]
  have k3' : Go.Sx.look (T2.new [V.nil, V.nil]).obs S0.next = some [V.nil, V.nil] := by
    show Go.Sx.look ((T2.next, noBc [V.nil, V.nil]) :: T2.obs) S0.next = _
    rw [look_cons, if_neg (by omega)]; exact k2
  have k3 : Go.Sx.look ((T2.new [V.nil, V.nil]).write T2.next [.rsl q1 0 z1.length c1, .rsl q2 0 z2.length c2]).obs S0.next = some [V.nil, V.nil] := by
    show Go.Sx.look (put (T2.new [V.nil, V.nil]).obs T2.next _) S0.next = _
    rw [look_put_ne (by omega)]; exact k3'
  have m3 := lookW (a := V.rsl q1 0 z1.length c1) (b := V.rsl q2 0 z2.length c2) (lookN T2 V.nil V.nil)
  have st3 := storeP (v := V.rsl q1 0 z1.length c1) (w := V.rsl q2 0 z2.length c2) (lookN T2 V.nil V.nil) rfl rfl
  have i1 := islW (cs := [.rsl q1 0 z1.length c1, .rsl q2 0 z2.length c2]) (r := T2.next) (a4.new (n := 0) hn2.rd.desc [V.nil, V.nil]) (by omega)
  have i2 := islW (cs := [.rsl q1 0 z1.length c1, .rsl q2 0 z2.length c2]) (r := T2.next) (a5.new (n := 0) hn2.rd.desc [V.nil, V.nil]) (by omega)
  have e3 : ((T2.new [V.nil, V.nil]).write T2.next [V.rsl q1 0 z1.length c1, .rsl q2 0 z2.length c2]).next = T2.next + 1 := rfl
  generalize (T2.new [V.nil, V.nil]).write T2.next [V.rsl q1 0 z1.length c1, .rsl q2 0 z2.length c2] = T3 at t3 k3 m3 st3 i1 i2 e3
  obtain ⟨y, T4, hc4, hn4, hy1, hy2⟩ := pickC bs hbs t3.rd (by omega) 40 (by omega) g (by omega)
  have t4 := t3.trans h0.desc hn4 (by simp)
  have k4 := hn4.keep _ _ hno (by simp) k3
  have hvo : T2.next ≠ o := by have := h0.lt; omega
  have m4 := hn4.keep _ _ hvo (by simp) m3
  have j1 := i1.keep hn4 (by have := h0.lt; omega) (by simp)
  have j2 := i2.keep hn4 (by have := h0.lt; omega) (by simp)
  have e4 := hn4.next
  by_cases hy0 : y = 0
  · subst hy0
    obtain ⟨v5, T5, hc5, hn5, q5, z5, a51, a52, a53, a54, a55⟩ := goodSeries bs hbs t4.rd (by omega) g (by omega)
    have e5 := hn5.next
    obtain ⟨v7, T6, hc6, hn6, q7, z7, a71, a72, f7, g7⟩ := bent bs hbs hn5.rd (by omega) a52 (by have := h0.lt; omega) (by omega) (by omega) a55 g (by omega)
    have e6 := hn6.next
    have t6 := (t4.trans h0.desc hn5 (by simp)).trans h0.desc hn6 (by simp; omega)
    have n6 : Nw bs o (P + 1900) [] T4 T6 := (hn5.trans t4.rd.desc hn6 (by simp; omega)).more (by omega)
    have k6 := n6.keep _ _ hno (by simp) k4
    have m6 := n6.keep _ _ hvo (by simp) m4
    have j6 := j2.keep n6 (by have := h0.lt; omega) (by simp)
    obtain ⟨c7, rfl, hc7⟩ := a72.val
    have hq7 := hn6.rd.desc.look_lt a72.obj
    have s6 := storeS0 (l := z7.length) (r := q7) (c := c7) m6
    have t8 := t6.wrote h0.desc hvo (.inr (by omega)) [.rsl q7 0 z7.length c7, .rsl q2 0 z2.length c2]
    have k8 : Go.Sx.look (T6.write T2.next [V.rsl q7 0 z7.length c7, .rsl q2 0 z2.length c2]).obs S0.next = some [V.nil, V.nil] := by
      show Go.Sx.look (put T6.obs T2.next _) S0.next = _
      rw [look_put_ne (by omega)]; exact k6
    have m8 := lookW (a := V.rsl q7 0 z7.length c7) (b := V.rsl q2 0 z2.length c2) m6
    have j8 := islW (cs := [.rsl q7 0 z7.length c7, .rsl q2 0 z2.length c2]) (r := T2.next) j6 (by omega)
    have d8 := islW (cs := [.rsl q7 0 z7.length c7, .rsl q2 0 z2.length c2]) (r := T2.next) a72 (by omega)
    generalize T6.write T2.next [V.rsl q7 0 z7.length c7, .rsl q2 0 z2.length c2] = T8 at t8 k8 m8 s6 j8 d8
    obtain ⟨f1, f2, f3⟩ := fin T8 _ _ _ (t8.more (by omega)) k8 ⟨q7, q2, z7, z2, by omega, by omega, by omega, d8, j8, Fit.of f7 g7, fz2⟩
    repeat' (first | refine Wp.seq ?_ | refine Wp.block ?_ | (apply Wp.region; focus ((try simp [setArgs, allocP, hc1, hc2, st3, hc4, hc5, hc6, s6, loadP m8, storeP (v := .rsl q7 0 z7.length c7) (w := .rsl q2 0 z2.length c2) k8 rfl rfl]) <;> rfl)) | (refine Wp.cond_t ?_ ?_; focus (simp [setArgs, allocP, hc1, hc2, st3, hc4, hc5, hc6, s6, loadP m8, storeP (v := .rsl q7 0 z7.length c7) (w := .rsl q2 0 z2.length c2) k8 rfl rfl]; done)) | (refine Wp.cond_f ?_ ?_; focus (simp [setArgs, allocP, hc1, hc2, st3, hc4, hc5, hc6, s6, loadP m8, storeP (v := .rsl q7 0 z7.length c7) (w := .rsl q2 0 z2.length c2) k8 rfl rfl]; done)) | refine Wp.skip ?_ | refine Wp.ret ?_ | refine Wp.exit ?_ | refine Blk.here ?_ | (refine Blk.past ?_ ?_; focus (simp; done)))
    exact ⟨rfl, ans _ _ _ _ (by simp) f1 f2 f3⟩
  by_cases hy0 : y = 1
  · subst hy0
    obtain ⟨v5, T5, hc5, hn5, q5, z5, a51, a52, a53, a54, a55⟩ := goodSeries bs hbs t4.rd (by omega) g (by omega)
    have e5 := hn5.next
    obtain ⟨v7, T6, hc6, hn6, q7, z7, a71, a72, f7, g7⟩ := bent bs hbs hn5.rd (by omega) a52 (by have := h0.lt; omega) (by omega) (by omega) a55 g (by omega)
    have e6 := hn6.next
    have t6 := (t4.trans h0.desc hn5 (by simp)).trans h0.desc hn6 (by simp; omega)
    have n6 : Nw bs o (P + 1900) [] T4 T6 := (hn5.trans t4.rd.desc hn6 (by simp; omega)).more (by omega)
    have k6 := n6.keep _ _ hno (by simp) k4
    have m6 := n6.keep _ _ hvo (by simp) m4
    have j6 := j1.keep n6 (by have := h0.lt; omega) (by simp)
    obtain ⟨c7, rfl, hc7⟩ := a72.val
    have hq7 := hn6.rd.desc.look_lt a72.obj
    have s6 := storeS1 (l := z7.length) (r := q7) (c := c7) m6
    have t8 := t6.wrote h0.desc hvo (.inr (by omega)) [.rsl q1 0 z1.length c1, .rsl q7 0 z7.length c7]
    have k8 : Go.Sx.look (T6.write T2.next [V.rsl q1 0 z1.length c1, .rsl q7 0 z7.length c7]).obs S0.next = some [V.nil, V.nil] := by
      show Go.Sx.look (put T6.obs T2.next _) S0.next = _
      rw [look_put_ne (by omega)]; exact k6
    have m8 := lookW (a := V.rsl q1 0 z1.length c1) (b := V.rsl q7 0 z7.length c7) m6
    have j8 := islW (cs := [.rsl q1 0 z1.length c1, .rsl q7 0 z7.length c7]) (r := T2.next) j6 (by omega)
    have d8 := islW (cs := [.rsl q1 0 z1.length c1, .rsl q7 0 z7.length c7]) (r := T2.next) a72 (by omega)
    generalize T6.write T2.next [V.rsl q1 0 z1.length c1, .rsl q7 0 z7.length c7] = T8 at t8 k8 m8 s6 j8 d8
    obtain ⟨f1, f2, f3⟩ := fin T8 _ _ _ (t8.more (by omega)) k8 ⟨q1, q7, z1, z7, by omega, by omega, by omega, j8, d8, fz1, Fit.of f7 g7⟩
    repeat' (first | refine Wp.seq ?_ | refine Wp.block ?_ | (apply Wp.region; focus ((try simp [setArgs, allocP, hc1, hc2, st3, hc4, hc5, hc6, s6, loadP m8, storeP (v := .rsl q1 0 z1.length c1) (w := .rsl q7 0 z7.length c7) k8 rfl rfl]) <;> rfl)) | (refine Wp.cond_t ?_ ?_; focus (simp [setArgs, allocP, hc1, hc2, st3, hc4, hc5, hc6, s6, loadP m8, storeP (v := .rsl q1 0 z1.length c1) (w := .rsl q7 0 z7.length c7) k8 rfl rfl]; done)) | (refine Wp.cond_f ?_ ?_; focus (simp [setArgs, allocP, hc1, hc2, st3, hc4, hc5, hc6, s6, loadP m8, storeP (v := .rsl q1 0 z1.length c1) (w := .rsl q7 0 z7.length c7) k8 rfl rfl]; done)) | refine Wp.skip ?_ | refine Wp.ret ?_ | refine Wp.exit ?_ | refine Blk.here ?_ | (refine Blk.past ?_ ?_; focus (simp; done)))
    exact ⟨rfl, ans _ _ _ _ (by simp) f1 f2 f3⟩
  rename_i hy9
  obtain ⟨f1, f2, f3⟩ := fin T4 _ _ _ (t4.more (by omega)) k4 ⟨q1, q2, z1, z2, by omega, by omega, a3, j1, j2, fz1, fz2⟩
  repeat' (first | refine Wp.seq ?_ | refine Wp.block ?_ | (apply Wp.region; focus ((try simp [setArgs, allocP, hc1, hc2, st3, hc4, hy0, hy9, loadP m4, storeP (v := .rsl q1 0 z1.length c1) (w := .rsl q2 0 z2.length c2) k4 rfl rfl]) <;> rfl)) | (refine Wp.cond_t ?_ ?_; focus (simp [setArgs, allocP, hc1, hc2, st3, hc4, hy0, hy9, loadP m4, storeP (v := .rsl q1 0 z1.length c1) (w := .rsl q2 0 z2.length c2) k4 rfl rfl]; done)) | (refine Wp.cond_f ?_ ?_; focus (simp [setArgs, allocP, hc1, hc2, st3, hc4, hy0, hy9, loadP m4, storeP (v := .rsl q1 0 z1.length c1) (w := .rsl q2 0 z2.length c2) k4 rfl rfl]; done)) | refine Wp.skip ?_ | refine Wp.ret ?_ | refine Wp.exit ?_ | refine Blk.here ?_ | (refine Blk.past ?_ ?_; focus (simp; done)))
  exact ⟨rfl, ans _ _ _ _ (by simp) f1 f2 f3⟩

section
attribute [local simp] aload astore look_cons Sto.write u8s_length acallV_func symIn_run
theorem newReaderP (bs : List Int) (m : Nat) :
    symRun Try.prog K0 [] (m + 1) 18 [.slice (u8s bs)] ⟨1, [(0, [.nil, .nil])], 1⟩ = some (.ptr 1 0, ⟨2, [(1, [.slice (u8s (bs.take 2000)), .int .i64 (.c 0)]), (0, [.nil, .nil])], 1⟩) := by
  refine own_run hK0 Try.func18 rfl rfl ?_
  simp only [Try.f18]
  have h3 := True.intro
  by_cases h : 2000 < bs.length
  · have h1 : (2000 : Int) < bs.length := by omega
    repeat' (first | refine Wp.seq ?_ | refine Wp.block ?_ | (apply Wp.region; focus ((try simp [setArgs, h1, oeval, sl2 bs h, pevals, bldR, abox, V.cells]) <;> rfl)) | (refine Wp.cond_t ?_ ?_; focus (simp [setArgs, h1, oeval, sl2 bs h, pevals, bldR, abox, V.cells]; done)) | (refine Wp.cond_f ?_ ?_; focus (simp [setArgs, h1, oeval, sl2 bs h, pevals, bldR, abox, V.cells]; done)) | refine Wp.skip ?_ | refine Wp.ret ?_ | refine Wp.exit ?_ | refine Blk.here ?_ | (refine Blk.past ?_ ?_; focus (simp; done)))
    refine ⟨rfl, ?_⟩
    simp [answer, aresults, aresult, Sto.trim, Sto.new, V.refs, Nat.blt, deeper, refsL, refs_u8s, keepNew, h3]
  · have h1 : ¬ (2000 : Int) < bs.length := by omega
    have h2 : bs.take 2000 = bs := List.take_of_length_le (by omega)
    have h3 := h2
    repeat' (first | refine Wp.seq ?_ | refine Wp.block ?_ | (apply Wp.region; focus ((try simp [setArgs, h1, h2, pevals, bldR, abox, V.cells]) <;> rfl)) | (refine Wp.cond_t ?_ ?_; focus (simp [setArgs, h1, h2, pevals, bldR, abox, V.cells]; done)) | (refine Wp.cond_f ?_ ?_; focus (simp [setArgs, h1, h2, pevals, bldR, abox, V.cells]; done)) | refine Wp.skip ?_ | refine Wp.ret ?_ | refine Wp.exit ?_ | refine Blk.here ?_ | (refine Blk.past ?_ ?_; focus (simp; done)))
    refine ⟨rfl, ?_⟩
    simp [answer, aresults, aresult, Sto.trim, Sto.new, V.refs, Nat.blt, deeper, refsL, refs_u8s, keepNew, h3]
end
theorem readerP (bs : List Int) (f : Nat) (hf : 1 ≤ f) : ∃ S, acallV (symIn Try.prog K0 [] f) (Sto.new ⟨0, [], 0⟩ [V.nil, V.nil]) (.func 18 [] []) [.slice (u8s bs)] = some (.ptr 1 0, S) ∧ Rdy (bs.take 2000) 1 0 S ∧ Go.Sx.look S.obs 0 = some [V.nil, V.nil] ∧ S.next = 2 := by
  obtain ⟨m, rfl⟩ : ∃ m, f = m + 1 := ⟨f - 1, by omega⟩
  refine ⟨⟨2, [(1, [.slice (u8s (bs.take 2000)), .int .i64 (.c 0)]), (0, [.nil, .nil])], 0⟩, ?_, ⟨0, Int.le_refl 0, rfl, ⟨Nat.lt_succ_self 1, Nat.lt_succ_self 0, trivial⟩, Int.le_refl 0⟩, rfl, rfl⟩
  have e : (⟨(Sto.new ⟨0, [], 0⟩ [V.nil, V.nil] : Sto Sy).next, (Sto.new ⟨0, [], 0⟩ [V.nil, V.nil] : Sto Sy).obs, (Sto.new ⟨0, [], 0⟩ [V.nil, V.nil] : Sto Sy).next⟩ : Sto Sy) = ⟨1, [(0, [.nil, .nil])], 1⟩ := rfl
  rw [acallV_func (by decide), List.nil_append, List.append_nil, symIn_run (by decide), e, newReaderP bs m]
  rfl

set_option maxRecDepth 10000 in
theorem drawInversePair (bs : List Int) (hbs0 : ∀ b, b ∈ bs → 0 ≤ b ∧ b < 256) (m : Nat) : ∃ r, symRun Try.prog K0 [] (m + 100) 5 [.slice (u8s bs)] ⟨0, [], 0⟩ = some r ∧ ∃ v1 v2 q1 q2 z1 z2, r.1 = .agg [v1, v2] ∧ q1 ≠ q2 ∧ IsL r.2.obs q1 z1 v1 ∧ IsL r.2.obs q2 z2 v2 ∧ Fit z1 ∧ Fit z2 := by
  refine own_run2 (n := m + 99) hK0 Try.func5 rfl rfl ?_
  simp only [Try.f5]
  obtain ⟨S1, hr, h1, k1, e1⟩ := readerP bs (m + 99) (by omega)
  have hbs := take2000 hbs0
  obtain ⟨_, T, hc, hn, v1, v2, rfl, q1, q2, z1, z2, a1, a2, a3, a4, a5, a6, a7⟩ := somePair (bs.take 2000) hbs h1 (by omega) (m + 99) (by omega)
  have k2 := hn.keep _ _ (by omega) (by simp) k1
  obtain ⟨c1, rfl, hc1⟩ := a4.val
  obtain ⟨c2, rfl, hc2⟩ := a5.val
  have st := storeP (v := .rsl q1 0 z1.length c1) (w := .rsl q2 0 z2.length c2) k2 rfl rfl
  have m2 := lookW (a := V.rsl q1 0 z1.length c1) (b := V.rsl q2 0 z2.length c2) k2
  have i1 := islW (cs := [.rsl q1 0 z1.length c1, .rsl q2 0 z2.length c2]) (r := 0) a4 (by omega)
  have i2 := islW (cs := [.rsl q1 0 z1.length c1, .rsl q2 0 z2.length c2]) (r := 0) a5 (by omega)
  generalize T.write 0 [V.rsl q1 0 z1.length c1, .rsl q2 0 z2.length c2] = T2 at st m2 i1 i2
  repeat' (first | refine Wp.seq ?_ | refine Wp.block ?_ | (apply Wp.region; focus ((try simp [setArgs, allocP, hr, hc, st]) <;> rfl)) | (refine Wp.cond_t ?_ ?_; focus (simp [setArgs, allocP, hr, hc, st]; done)) | (refine Wp.cond_f ?_ ?_; focus (simp [setArgs, allocP, hr, hc, st]; done)) | refine Wp.skip ?_ | refine Wp.ret ?_ | refine Wp.exit ?_ | refine Blk.here ?_ | (refine Blk.past ?_ ?_; focus (simp; done)))
  refine ⟨rfl, (.agg [.rsl q1 0 z1.length c1, .rsl q2 0 z2.length c2], T2.trim 0 (.agg [.rsl q1 0 z1.length c1, .rsl q2 0 z2.length c2])), ?_, _, _, q1, q2, z1, z2, rfl, a3, i1.trimIn (by simp [V.refs, refsL]), i2.trimIn (by simp [V.refs, refsL]), a6, a7⟩
  simp [answer, aresults, aresult, loadP m2]

end Go.Proofs.Ytnaegkpaiahpmaa.Draw

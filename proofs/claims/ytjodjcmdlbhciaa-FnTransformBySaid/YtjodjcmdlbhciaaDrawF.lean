/-
  Draws of a pair and a list, by way of another function that draws them, by hand. No condition.
-/
import Derived.Test.YtjodjcmdlbhciaaRows
import Derived.Test.YtjodjcmdlbhciaaSym
import Derived.Test.YtjodjcmdlbhciaaIds
import Derived.Test.YtjodjcmdlbhciaaDraw
import Derived.Test.YtjodjcmdlbhciaaDrawC
import Derived.Test.YtjodjcmdlbhciaaDrawD
import Derived.Test.YtjodjcmdlbhciaaDrawE
import Derived.WalkKit
import Derived.ProofKit
import Derived.OpenShut
namespace Go.Proofs.Ytjodjcmdlbhciaa.Draw
open Go.ChangeShapes Go.WideShapes Go.ChangeAt Go.RowKit Go.Sx Go.Proofs.Ytjodjcmdlbhciaa.Ids
set_option linter.unusedVariables false
set_option linter.unusedSimpArgs false

section
attribute [local simp] aops wants aop apure St.eval setTm_some setTm_none Tr.get_set evals pevals apureB alen tiS tiI tiB tiY tiU tiSs tiSr abin aint isCmp sym_lt sym_eqs sym_neqs sym_eq sym_neq sym_gtr sym_leq sym_geq sym_add sym_sub sym_mul aeff aeffB idx? ofV aindexAddr aggDesc aifc_int fldP0 fldP1 aload astore look_cons Sto.write u8s_length acallV_func symIn_run
set_option maxRecDepth 10000 in
theorem newReaderP2 (bs : List Int) (m : Nat) :
    symRun Try.prog K0 [] (m + 1) 60 [.slice (u8s bs)] ⟨2, [(1, [.nil, .nil]), (0, [.nil, .nil])], 2⟩ = some (.ptr 2 0, ⟨3, [(2, [.slice (u8s (bs.take 2000)), .int .i64 (.c 0)]), (1, [.nil, .nil]), (0, [.nil, .nil])], 2⟩) := by
  refine own_run hK0 Try.func60 rfl rfl ?_
  simp only [Try.f60]
  have h3 := True.intro
  by_cases h : 2000 < bs.length
  · have h1 : (2000 : Int) < bs.length := by omega
    repeat' (first | refine Wp.seq ?_ | refine Wp.block ?_ | (apply Wp.region; focus ((try simp [setArgs, h1, oeval, sl2 bs h, pevals, bldR, abox, V.cells]) <;> rfl)) | (refine Wp.cond_t ?_ ?_; focus (simp [setArgs, h1, oeval, sl2 bs h, pevals, bldR, abox, V.cells]; done)) | (refine Wp.cond_f ?_ ?_; focus (simp [setArgs, h1, oeval, sl2 bs h, pevals, bldR, abox, V.cells]; done)) | refine Wp.skip ?_ | refine Wp.ret ?_ | refine Wp.exit ?_ | refine Blk.here ?_ | (refine Blk.past ?_ ?_; focus (simp; done)))
    refine ⟨rfl, ?_⟩
    simp [answer, aresults, aresult, Sto.trim, Sto.new, V.refs, Nat.blt, deeper, refsL, refs_u8s, keepNew, h3]
  · have h1 : ¬ (2000 : Int) < bs.length := by omega
    have h2 : bs.take 2000 = bs := List.take_of_length_le (by omega)
    have h3 := h2
    repeat' (first | refine Wp.seq ?_ | refine Wp.block ?_ | (apply Wp.region; focus ((try simp [setArgs, h1, h2, pevals, bldR, abox, V.cells]) <;> rfl)) | (refine Wp.cond_t ?_ ?_; focus (simp [setArgs, h1, h2, pevals, bldR, abox, V.cells]; done)) | (refine Wp.cond_f ?_ ?_; focus (simp [setArgs, h1, h2, pevals, bldR, abox, V.cells]; done)) | refine Wp.skip ?_ | refine Wp.ret ?_ | refine Wp.exit ?_ | refine Blk.here ?_ | (refine Blk.past ?_ ?_; focus (simp; done)))
    refine ⟨rfl, ?_⟩
    simp [answer, aresults, aresult, Sto.trim, Sto.new, V.refs, Nat.blt, deeper, refsL, refs_u8s, keepNew, h3]
end
theorem readerP2 (bs : List Int) (f : Nat) (hf : 1 ≤ f) : ∃ S, acallV (symIn Try.prog K0 [] f) (Sto.new ⟨1, [(0, [V.nil, V.nil])], 1⟩ [V.nil, V.nil]) (.func 60 [] []) [.slice (u8s bs)] = some (.ptr 2 0, S) ∧ Rdy (bs.take 2000) 2 0 S ∧ Go.Sx.look S.obs 1 = some [V.nil, V.nil] ∧ Go.Sx.look S.obs 0 = some [V.nil, V.nil] ∧ S.next = 3 := by
  obtain ⟨m, rfl⟩ : ∃ m, f = m + 1 := ⟨f - 1, by omega⟩
  refine ⟨⟨3, [(2, [.slice (u8s (bs.take 2000)), .int .i64 (.c 0)]), (1, [.nil, .nil]), (0, [.nil, .nil])], 1⟩, ?_, ⟨0, Int.le_refl 0, rfl, ⟨Nat.lt_succ_self 2, Nat.lt_succ_self 1, Nat.lt_succ_self 0, trivial⟩, Int.le_refl 0⟩, rfl, rfl, rfl⟩
  have e : (⟨(Sto.new ⟨1, [(0, [V.nil, V.nil])], 1⟩ [V.nil, V.nil] : Sto Sy).next, (Sto.new ⟨1, [(0, [V.nil, V.nil])], 1⟩ [V.nil, V.nil] : Sto Sy).obs, (Sto.new ⟨1, [(0, [V.nil, V.nil])], 1⟩ [V.nil, V.nil] : Sto Sy).next⟩ : Sto Sy) = ⟨2, [(1, [.nil, .nil]), (0, [.nil, .nil])], 2⟩ := rfl
  rw [acallV_func (by decide), List.nil_append, List.append_nil, symIn_run (by decide), e, newReaderP2 bs m]
  rfl

section
attribute [local simp] aops wants aop apure St.eval setTm_some setTm_none Tr.get_set evals pevals apureB alen tiS tiI tiB tiY tiU tiSs tiSr abin aint isCmp sym_lt sym_eqs sym_neqs sym_eq sym_neq sym_gtr sym_leq sym_geq sym_add sym_sub sym_mul aeff aeffB idx? ofV aindexAddr aggDesc aifc_int fldP0 fldP1
set_option maxRecDepth 10000 in
theorem drawActOnB (bs : List Int) (hbs0 : ∀ b, b ∈ bs → 0 ≤ b ∧ b < 256) (m : Nat) : ∃ r, symRun Try.prog K0 [] (m + 100) 23 [.slice (u8s bs)] ⟨1, [(0, [.nil, .nil])], 1⟩ = some r ∧ Go.Sx.look r.2.obs 0 = some [V.nil, V.nil] ∧ ∃ v1 v2 v3 q1 q2 q3 z1 z2 z3, r.1 = .tup [.agg [v1, v2], v3] ∧ q1 ≠ q2 ∧ q1 ≠ q3 ∧ q2 ≠ q3 ∧ (1 ≤ q1 ∧ 1 ≤ q2 ∧ 1 ≤ q3) ∧ IsL r.2.obs q1 z1 v1 ∧ IsL r.2.obs q2 z2 v2 ∧ IsL r.2.obs q3 z3 v3 ∧ Fit z1 ∧ Fit z2 ∧ Fit z3 := by
  refine own_run2 (n := m + 99) hK0 Try.func23 rfl rfl ?_
  simp only [Try.f23]
  obtain ⟨S1, hr, h1, k1, k10, e1⟩ := readerP2 bs (m + 99) (by omega)
  have hbs := take2000 hbs0
  generalize bs.take 2000 = bs1 at hbs h1
  obtain ⟨_, T, hc, hn, v1, v2, rfl, q1, q2, z1, z2, a1, a2, a3, a4, a5, a6, a7⟩ := somePair bs1 hbs h1 (by omega) (m + 99) (by omega)
  obtain ⟨c1, rfl, hc1⟩ := a4.val
  obtain ⟨c2, rfl, hc2⟩ := a5.val
  have kA := lookN T V.nil V.nil
  have st := storeP (v := .rsl q1 0 z1.length c1) (w := .rsl q2 0 z2.length c2) kA rfl rfl
  have m2 := lookW (a := V.rsl q1 0 z1.length c1) (b := V.rsl q2 0 z2.length c2) kA
  have l1 := hn.rd.desc.look_lt a4.obj
  have l2 := hn.rd.desc.look_lt a5.obj
  have eN := hn.next
  have i1 := islW (cs := [.rsl q1 0 z1.length c1, .rsl q2 0 z2.length c2]) (r := T.next) (IsL.new (n := 0) a4 hn.rd.desc [V.nil, V.nil]) (by omega)
  have i2 := islW (cs := [.rsl q1 0 z1.length c1, .rsl q2 0 z2.length c2]) (r := T.next) (IsL.new (n := 0) a5 hn.rd.desc [V.nil, V.nil]) (by omega)
  have t2 := (hn.behind [V.nil, V.nil]).wrote h1.desc (q := T.next) (by omega) (.inr hn.next) [.rsl q1 0 z1.length c1, .rsl q2 0 z2.length c2]
  have k2 := t2.keep 1 _ (by omega) (by simp) k1
  have k20 := t2.keep 0 _ (by omega) (by simp) k10
  have eT : ((T.new [V.nil, V.nil]).write T.next [.rsl q1 0 z1.length c1, .rsl q2 0 z2.length c2]).next = T.next + 1 := rfl
  generalize (T.new [V.nil, V.nil]).write T.next [.rsl q1 0 z1.length c1, .rsl q2 0 z2.length c2] = T2 at st m2 i1 i2 t2 k2 k20 eT
  have big : ∀ {U : Sto Sy} {P : Int}, Nw bs1 2 P [] S1 U → T.next < U.next → Go.Sx.look U.obs T.next = some [.rsl q1 0 z1.length c1, .rsl q2 0 z2.length c2] → Desc U.next U.obs ∧ U.low ≤ U.next ∧ 2 < U.next ∧ (∃ p, Go.Sx.look U.obs 2 = some [.slice (u8s bs1), .int .i64 (.c p)]) ∧
      obsIn (fun o => [T.next, q1, q2].contains o) (onlyObs [T.next] U.obs) = true ∧ obsIn (fun o => [2].contains o) (onlyObs [2] U.obs) = true ∧ Go.Sx.look (onlyObs [T.next] U.obs) T.next = some [.rsl q1 0 z1.length c1, .rsl q2 0 z2.length c2] := by
    intro U P tU hUn mU
    have dU := tU.rd.desc
    have := tU.low
    have := tU.rd.lt
    obtain ⟨p, _, hp⟩ := tU.rd
    refine ⟨dU, by omega, by omega, ⟨p, hp.obj⟩, obsIn_of dU (fun k hk b hb => ?_), obsIn_of dU (fun k hk b hb => ?_), ?_⟩
    · have hk : k = T.next := by simpa using hk
      subst hk
      rw [mU] at hb
      cases hb
      simp [inNs, V.inN]
    · have hk : k = 2 := by simpa using hk
      subst hk
      rw [hp.obj] at hb
      cases hb
      simp [inNs, V.inN, inNs_u8s]
    · rw [onlyObs_look, if_pos (by simp)]; exact mU
  have fin : ∀ {U s2 : Sto Sy} {P Q : Int} {q3 : Nat} {z3 : List Int} {c3 : Option Nat}, Nw bs1 2 P [] S1 U → Nw bs1 2 Q [] U s2 → T.next < U.next → IsL U.obs q1 z1 (.rsl q1 0 z1.length c1) → IsL U.obs q2 z2 (.rsl q2 0 z2.length c2) → U.next ≤ q3 → IsL s2.obs q3 z3 (.rsl q3 0 z3.length c3) → Fit z3 → Go.Sx.look s2.obs 1 = some [V.nil, V.nil] → Go.Sx.look s2.obs 0 = some [V.nil, V.nil] →
      ∀ tm : Tr (V Sy), tm.get .any 2 = .ptr 1 0 → tm.get .any 3 = .rsl q3 0 z3.length c3 → ∃ r, answer (tiOf Try.prog) ⟨tm, s2.write 1 [.rsl q1 0 z1.length c1, .rsl q2 0 z2.length c2]⟩ 1 [.cell 2 25, .tmp 3] = some r ∧ Go.Sx.look r.2.obs 0 = some [V.nil, V.nil] ∧
      ∃ v1 v2 v3 q1 q2 q3 z1 z2 z3, r.1 = .tup [.agg [v1, v2], v3] ∧ q1 ≠ q2 ∧ q1 ≠ q3 ∧ q2 ≠ q3 ∧ (1 ≤ q1 ∧ 1 ≤ q2 ∧ 1 ≤ q3) ∧ IsL r.2.obs q1 z1 v1 ∧ IsL r.2.obs q2 z2 v2 ∧ IsL r.2.obs q3 z3 v3 ∧ Fit z1 ∧ Fit z2 ∧ Fit z3 := by
    intro U s2 P Q q3 z3 c3 tU ts hUn i1 i2 hq3 i3 f3 k0 k00 tm g2 g3
    have mF := lookW (a := V.rsl q1 0 z1.length c1) (b := V.rsl q2 0 z2.length c2) k0
    have y1 := islW (cs := [.rsl q1 0 z1.length c1, .rsl q2 0 z2.length c2]) (r := 1) (i1.keep ts (by omega) (by simp)) (by omega)
    have y2 := islW (cs := [.rsl q1 0 z1.length c1, .rsl q2 0 z2.length c2]) (r := 1) (i2.keep ts (by omega) (by simp)) (by omega)
    have y3 := islW (cs := [.rsl q1 0 z1.length c1, .rsl q2 0 z2.length c2]) (r := 1) i3 (by omega)
    have y0 : Go.Sx.look (s2.write 1 [V.rsl q1 0 z1.length c1, .rsl q2 0 z2.length c2]).obs 0 = some [V.nil, V.nil] := by
      show Go.Sx.look (put s2.obs 1 _) 0 = _
      rw [look_put_ne (by omega)]; exact k00
    generalize s2.write 1 [V.rsl q1 0 z1.length c1, .rsl q2 0 z2.length c2] = s3 at mF y1 y2 y3 y0
    refine ⟨(.tup [.agg [.rsl q1 0 z1.length c1, .rsl q2 0 z2.length c2], .rsl q3 0 z3.length c3], s3.trim 1 (.tup [.agg [.rsl q1 0 z1.length c1, .rsl q2 0 z2.length c2], .rsl q3 0 z3.length c3])), ?_, by rw [trim_old (by omega)]; exact y0, _, _, _, q1, q2, q3, z1, z2, z3, rfl, a3, by omega, by omega, ⟨by omega, by omega, by omega⟩, y1.trimIn (by simp [V.refs, refsL]), y2.trimIn (by simp [V.refs, refsL]), y3.trimIn (by simp [V.refs, refsL]), a6, a7, f3⟩
    simp [answer, aresults, aresult, g2, g3, loadP mF]
  have lS := loadS (S := T2) (i := 0) m2 rfl
  by_cases c0 : z1 = []
  · have c0a : ((z1.length : Int) == 0) = true := by simp [c0]
    repeat' (first | refine Wp.seq ?_ | refine Wp.block ?_ | (apply Wp.region; focus ((try simp [setArgs, allocP, hr, hc, st, lS, c0a]) <;> rfl)) | (refine Wp.cond_t ?_ ?_; focus (simp [setArgs, allocP, hr, hc, st, lS, c0a]; done)) | (refine Wp.cond_f ?_ ?_; focus (simp [setArgs, allocP, hr, hc, st, lS, c0a]; done)) | refine Wp.skip ?_ | refine Wp.ret ?_ | refine Wp.exit ?_ | refine Blk.here ?_ | (refine Blk.past ?_ ?_; focus (simp; done)))
    have mU := m2
    have hUn : T.next < T2.next := by omega
    obtain ⟨dU, lU, lt1, ⟨pU, oU⟩, ob5, ob1, mO⟩ := big t2 hUn mU
    have l1U : q1 < T2.next := by omega
    have l2U : q2 < T2.next := by omega
    obtain ⟨v3, S9, hc9, hn9, q3, z3, hq3, hz3, _, hl3, hb3⟩ := someSeries bs1 hbs (rdyOnly t2.rd) (by omega) (m + 99) (by omega)
    obtain ⟨w3, W9, hd9, hm9, _⟩ := someSeries bs1 hbs (t2.rd.lows T2.next) (by omega) (m + 99) (by omega)
    have hble : Nat.ble T2.next W9.low = false := by have := hm9.low; rw [Bool.eq_false_iff, ne_eq, Nat.ble_eq]; omega
    obtain ⟨c3, rfl, hc3⟩ := hz3.val
    obtain ⟨j1, j2⟩ := joined t2.rd hn9
    obtain ⟨s2, hs2⟩ : ∃ s2 : Sto Sy, s2 = ⟨S9.next, takeNew T2.next S9.obs ++ over [2] S9.obs T2.obs, if Nat.blt S9.low T2.low then S9.low else T2.low⟩ := ⟨_, rfl⟩
    rw [← hs2] at j1
    have i3 : IsL s2.obs q3 z3 (.rsl q3 0 z3.length c3) := ⟨⟨c3, rfl, hc3⟩, by rw [hs2]; exact j2 _ _ hq3 hz3.obj⟩
    have k0 := j1.keep 1 _ (by omega) (by simp) k2
    have k00 := j1.keep 0 _ (by omega) (by simp) k20
    have loadF := loadP (S := ⟨T2.next, T2.obs, T2.next⟩) mU
    have loadFS := loadS (S := ⟨T2.next, T2.obs, T2.next⟩) (i := 0) mU rfl
    have loadO := loadP (S := ⟨T2.next, onlyObs [T.next] T2.obs, T2.next⟩) mO
    have loadOS := loadS (S := ⟨T2.next, onlyObs [T.next] T2.obs, T2.next⟩) (i := 0) mO rfl
    have tk := takeNew_id dU
    have obN : obsIn (fun o => [2].contains o) (onlyObs [] T2.obs) = true := by rw [onlyObs_nil]; rfl
    have obT : obsIn (fun o => [T.next].contains o) (onlyObs [] T2.obs) = true := by rw [onlyObs_nil]; rfl
    refine drawX (tm2 := ?tmx1) (st' := ?stnx1) (s2 := s2) 3 (by kernel_rfl) (by kernel_rfl) (by kernel_rfl) (fun F => ?g1x1) (fun F => ?g2x1) ?g3x1 ?g4x1
    case g1x1 =>
      simp [dhead, seenBy, keepOnly, looks, joinN, addN, bite_eq, Op.operands, Call.operands, loadF, loadFS, tk, hd9, hble]
    case g2x1 =>
      refine (xpure (v := .agg [.rsl q1 0 z1.length c1, .rsl q2 0 z2.length c2]) [T.next] [T.next, q1, q2] (by simp [shown, sightOf, rootsOf, looks, Op.operands, Call.operands, V.refs, deeper, reach, mU, refsL, refs_nums]) (by simp only [fitX, ob5]; simp [temsIn, looks, Op.operands, Call.operands, V.inN, hUn, l1U, l2U, lt1]) (by simp [wants]) (by simp [seenX, keepOnly, looks, Op.operands, Call.operands, loadO, loadOS]) dU lU (fun q hq => by simp at hq; omega) (by simp [apart, hUn, l1U, l2U])).trans ?_
      refine (xpure (v := .ptr 2 0) [] [2] (by simp [shown, sightOf, rootsOf, looks, Op.operands, Call.operands, V.refs, deeper, reach, mU, refsL, refs_nums]) (by simp only [fitX, obN]; simp [temsIn, looks, Op.operands, Call.operands, V.inN, hUn, l1U, l2U, lt1]) (by simp [wants]) (by simp [seenX, keepOnly, looks, Op.operands, Call.operands, loadO, loadOS]) dU lU (fun q hq => by simp at hq; omega) (by simp [apart, hUn, l1U, l2U])).trans ?_
      refine (xcall (p := 2) (s := S9) (v := .rsl q3 0 z3.length c3) (by simp [shown, sightOf, rootsOf, looks, Op.operands, Call.operands, V.refs, deeper, reach, oU, refsL, refs_u8s]) (by simp only [fitX, ob1]; simp [temsIn, looks, Op.operands, Call.operands, V.inN, hUn, l1U, l2U, lt1]) (by simp [wants]) (by simp [seenX, keepOnly, looks, Op.operands, Call.operands, hc9]) dU hn9.rd.desc hn9.next hn9.low (by rw [oU]; rfl) (by simp [apart, hUn, l1U, l2U, lt1]; omega)).trans ?_
      rw [hs2]
    case g3x1 =>
      simp [storeP (v := .rsl q1 0 z1.length c1) (w := .rsl q2 0 z2.length c2) k0 rfl rfl]; rfl
    case g4x1 =>
      repeat' (first | refine Wp.seq ?_ | refine Wp.block ?_ | (apply Wp.region; focus ((try simp []) <;> rfl)) | (refine Wp.cond_t ?_ ?_; focus (simp []; done)) | (refine Wp.cond_f ?_ ?_; focus (simp []; done)) | refine Wp.skip ?_ | refine Wp.ret ?_ | refine Wp.exit ?_ | refine Blk.here ?_ | (refine Blk.past ?_ ?_; focus (simp; done)))
      exact ⟨rfl, fin t2 j1 hUn (i1) (i2) hq3 i3 (Fit.of hl3 hb3) k0 k00 _ (by simp) (by simp)⟩
  have c0b : ((z1.length : Int) == 0) = false := by simp [c0]
  obtain ⟨x, T3, hx, hn3, hx1, hx2⟩ := pickC bs1 hbs t2.rd (by omega) 24 (by omega) (m + 99) (by omega)
  have t3 := t2.trans h1.desc hn3 (by simp)
  have e3 := hn3.next
  have m3 := hn3.keep _ _ (by omega) (by simp) m2
  have k3 := hn3.keep 1 _ (by omega) (by simp) k2
  have k30 := hn3.keep 0 _ (by omega) (by simp) k20
  have i13 := i1.keep hn3 (by omega) (by simp)
  have i23 := i2.keep hn3 (by omega) (by simp)
  by_cases c1x : x = 0
  · subst c1x
    repeat' (first | refine Wp.seq ?_ | refine Wp.block ?_ | (apply Wp.region; focus ((try simp [setArgs, allocP, hr, hc, st, lS, c0b, hx]) <;> rfl)) | (refine Wp.cond_t ?_ ?_; focus (simp [setArgs, allocP, hr, hc, st, lS, c0b, hx]; done)) | (refine Wp.cond_f ?_ ?_; focus (simp [setArgs, allocP, hr, hc, st, lS, c0b, hx]; done)) | refine Wp.skip ?_ | refine Wp.ret ?_ | refine Wp.exit ?_ | refine Blk.here ?_ | (refine Blk.past ?_ ?_; focus (simp; done)))
    have mU := m3
    have hUn : T.next < T3.next := by omega
    obtain ⟨dU, lU, lt1, ⟨pU, oU⟩, ob5, ob1, mO⟩ := big t3 hUn mU
    have l1U : q1 < T3.next := by omega
    have l2U : q2 < T3.next := by omega
    obtain ⟨v3, S9, hc9, hn9, q3, z3, hq3, hz3, _, hl3, hb3⟩ := someSeries bs1 hbs (rdyOnly t3.rd) (by omega) (m + 99) (by omega)
    obtain ⟨w3, W9, hd9, hm9, _⟩ := someSeries bs1 hbs (t3.rd.lows T3.next) (by omega) (m + 99) (by omega)
    have hble : Nat.ble T3.next W9.low = false := by have := hm9.low; rw [Bool.eq_false_iff, ne_eq, Nat.ble_eq]; omega
    obtain ⟨c3, rfl, hc3⟩ := hz3.val
    obtain ⟨j1, j2⟩ := joined t3.rd hn9
    obtain ⟨s2, hs2⟩ : ∃ s2 : Sto Sy, s2 = ⟨S9.next, takeNew T3.next S9.obs ++ over [2] S9.obs T3.obs, if Nat.blt S9.low T3.low then S9.low else T3.low⟩ := ⟨_, rfl⟩
    rw [← hs2] at j1
    have i3 : IsL s2.obs q3 z3 (.rsl q3 0 z3.length c3) := ⟨⟨c3, rfl, hc3⟩, by rw [hs2]; exact j2 _ _ hq3 hz3.obj⟩
    have k0 := j1.keep 1 _ (by omega) (by simp) k3
    have k00 := j1.keep 0 _ (by omega) (by simp) k30
    have loadF := loadP (S := ⟨T3.next, T3.obs, T3.next⟩) mU
    have loadFS := loadS (S := ⟨T3.next, T3.obs, T3.next⟩) (i := 0) mU rfl
    have loadO := loadP (S := ⟨T3.next, onlyObs [T.next] T3.obs, T3.next⟩) mO
    have loadOS := loadS (S := ⟨T3.next, onlyObs [T.next] T3.obs, T3.next⟩) (i := 0) mO rfl
    have tk := takeNew_id dU
    have obN : obsIn (fun o => [2].contains o) (onlyObs [] T3.obs) = true := by rw [onlyObs_nil]; rfl
    have obT : obsIn (fun o => [T.next].contains o) (onlyObs [] T3.obs) = true := by rw [onlyObs_nil]; rfl
    refine drawX (tm2 := ?tmx2) (st' := ?stnx2) (s2 := s2) 3 (by kernel_rfl) (by kernel_rfl) (by kernel_rfl) (fun F => ?g1x2) (fun F => ?g2x2) ?g3x2 ?g4x2
    case g1x2 =>
      simp [dhead, seenBy, keepOnly, looks, joinN, addN, bite_eq, Op.operands, Call.operands, loadF, loadFS, tk, hd9, hble]
    case g2x2 =>
      refine (xpure (v := .agg [.rsl q1 0 z1.length c1, .rsl q2 0 z2.length c2]) [T.next] [T.next, q1, q2] (by simp [shown, sightOf, rootsOf, looks, Op.operands, Call.operands, V.refs, deeper, reach, mU, refsL, refs_nums]) (by simp only [fitX, ob5]; simp [temsIn, looks, Op.operands, Call.operands, V.inN, hUn, l1U, l2U, lt1]) (by simp [wants]) (by simp [seenX, keepOnly, looks, Op.operands, Call.operands, loadO, loadOS]) dU lU (fun q hq => by simp at hq; omega) (by simp [apart, hUn, l1U, l2U])).trans ?_
      refine (xpure (v := .ptr 2 0) [] [2] (by simp [shown, sightOf, rootsOf, looks, Op.operands, Call.operands, V.refs, deeper, reach, mU, refsL, refs_nums]) (by simp only [fitX, obN]; simp [temsIn, looks, Op.operands, Call.operands, V.inN, hUn, l1U, l2U, lt1]) (by simp [wants]) (by simp [seenX, keepOnly, looks, Op.operands, Call.operands, loadO, loadOS]) dU lU (fun q hq => by simp at hq; omega) (by simp [apart, hUn, l1U, l2U])).trans ?_
      refine (xcall (p := 2) (s := S9) (v := .rsl q3 0 z3.length c3) (by simp [shown, sightOf, rootsOf, looks, Op.operands, Call.operands, V.refs, deeper, reach, oU, refsL, refs_u8s]) (by simp only [fitX, ob1]; simp [temsIn, looks, Op.operands, Call.operands, V.inN, hUn, l1U, l2U, lt1]) (by simp [wants]) (by simp [seenX, keepOnly, looks, Op.operands, Call.operands, hc9]) dU hn9.rd.desc hn9.next hn9.low (by rw [oU]; rfl) (by simp [apart, hUn, l1U, l2U, lt1]; omega)).trans ?_
      rw [hs2]
    case g3x2 =>
      simp [storeP (v := .rsl q1 0 z1.length c1) (w := .rsl q2 0 z2.length c2) k0 rfl rfl]; rfl
    case g4x2 =>
      repeat' (first | refine Wp.seq ?_ | refine Wp.block ?_ | (apply Wp.region; focus ((try simp []) <;> rfl)) | (refine Wp.cond_t ?_ ?_; focus (simp []; done)) | (refine Wp.cond_f ?_ ?_; focus (simp []; done)) | refine Wp.skip ?_ | refine Wp.ret ?_ | refine Wp.exit ?_ | refine Blk.here ?_ | (refine Blk.past ?_ ?_; focus (simp; done)))
      exact ⟨rfl, fin t3 j1 hUn (i13) (i23) hq3 i3 (Fit.of hl3 hb3) k0 k00 _ (by simp) (by simp)⟩
  have c1b : (x == 0) = false := by simp [c1x]
  repeat' (first | refine Wp.seq ?_ | refine Wp.block ?_ | (apply Wp.region; focus ((try simp [setArgs, allocP, hr, hc, st, lS, c0b, hx, c1b, c1x]) <;> rfl)) | (refine Wp.cond_t ?_ ?_; focus (simp [setArgs, allocP, hr, hc, st, lS, c0b, hx, c1b, c1x]; done)) | (refine Wp.cond_f ?_ ?_; focus (simp [setArgs, allocP, hr, hc, st, lS, c0b, hx, c1b, c1x]; done)) | refine Wp.skip ?_ | refine Wp.ret ?_ | refine Wp.exit ?_ | refine Blk.here ?_ | (refine Blk.past ?_ ?_; focus (simp; done)))
  have mU := m3
  have hUn : T.next < T3.next := by omega
  obtain ⟨dU, lU, lt1, ⟨pU, oU⟩, ob5, ob1, mO⟩ := big t3 hUn mU
  have l1U : q1 < T3.next := by omega
  have l2U : q2 < T3.next := by omega
  obtain ⟨v3, S9, hc9, hn9, q3, z3, hq3, hz3, hl3, hb3⟩ := seriesOf bs1 hbs (rdyOnly t3.rd) (by omega) z1.length a6.1 (m + 99) (by omega)
  obtain ⟨w3, W9, hd9, hm9, _⟩ := seriesOf bs1 hbs (t3.rd.lows T3.next) (by omega) z1.length a6.1 (m + 99) (by omega)
  have hble : Nat.ble T3.next W9.low = false := by have := hm9.low; rw [Bool.eq_false_iff, ne_eq, Nat.ble_eq]; omega
  obtain ⟨c3, rfl, hc3⟩ := hz3.val
  obtain ⟨j1, j2⟩ := joined t3.rd hn9
  obtain ⟨s2, hs2⟩ : ∃ s2 : Sto Sy, s2 = ⟨S9.next, takeNew T3.next S9.obs ++ over [2] S9.obs T3.obs, if Nat.blt S9.low T3.low then S9.low else T3.low⟩ := ⟨_, rfl⟩
  rw [← hs2] at j1
  have i3 : IsL s2.obs q3 z3 (.rsl q3 0 z3.length c3) := ⟨⟨c3, rfl, hc3⟩, by rw [hs2]; exact j2 _ _ hq3 hz3.obj⟩
  have k0 := j1.keep 1 _ (by omega) (by simp) k3
  have k00 := j1.keep 0 _ (by omega) (by simp) k30
  have loadF := loadP (S := ⟨T3.next, T3.obs, T3.next⟩) mU
  have loadFS := loadS (S := ⟨T3.next, T3.obs, T3.next⟩) (i := 0) mU rfl
  have loadO := loadP (S := ⟨T3.next, onlyObs [T.next] T3.obs, T3.next⟩) mO
  have loadOS := loadS (S := ⟨T3.next, onlyObs [T.next] T3.obs, T3.next⟩) (i := 0) mO rfl
  have tk := takeNew_id dU
  have obN : obsIn (fun o => [2].contains o) (onlyObs [] T3.obs) = true := by rw [onlyObs_nil]; rfl
  have obT : obsIn (fun o => [T.next].contains o) (onlyObs [] T3.obs) = true := by rw [onlyObs_nil]; rfl
  have iU := i13
  have obQ : obsIn (fun o => [q1].contains o) (onlyObs [q1] T3.obs) = true := obsIn_of dU (fun k hk b hb => by
    have hk : k = q1 := by simpa using hk
    subst hk
    rw [iU.obj] at hb
    cases hb
    exact inNs_nums _)
  refine drawX (tm2 := ?tmx3) (st' := ?stnx3) (s2 := s2) 6 (by kernel_rfl) (by kernel_rfl) (by kernel_rfl) (fun F => ?g1x3) (fun F => ?g2x3) ?g3x3 ?g4x3
  case g1x3 =>
    simp [dhead, seenBy, keepOnly, looks, joinN, addN, bite_eq, Op.operands, Call.operands, loadF, loadFS, tk, hd9, hble]
  case g2x3 =>
    refine (xpure (v := .agg [.rsl q1 0 z1.length c1, .rsl q2 0 z2.length c2]) [T.next] [T.next, q1, q2] (by simp [shown, sightOf, rootsOf, looks, Op.operands, Call.operands, V.refs, deeper, reach, mU, refsL, refs_nums]) (by simp only [fitX, ob5]; simp [temsIn, looks, Op.operands, Call.operands, V.inN, hUn, l1U, l2U, lt1]) (by simp [wants]) (by simp [seenX, keepOnly, looks, Op.operands, Call.operands, loadO, loadOS]) dU lU (fun q hq => by simp at hq; omega) (by simp [apart, hUn, l1U, l2U])).trans ?_
    refine (xpure (v := .ptr 2 0) [] [2] (by simp [shown, sightOf, rootsOf, looks, Op.operands, Call.operands, V.refs, deeper, reach, mU, refsL, refs_nums]) (by simp only [fitX, obN]; simp [temsIn, looks, Op.operands, Call.operands, V.inN, hUn, l1U, l2U, lt1]) (by simp [wants]) (by simp [seenX, keepOnly, looks, Op.operands, Call.operands, loadO, loadOS]) dU lU (fun q hq => by simp at hq; omega) (by simp [apart, hUn, l1U, l2U])).trans ?_
    refine (xpure (v := .ptr T.next 0) [] [T.next] (by simp [shown, sightOf, rootsOf, looks, Op.operands, Call.operands, V.refs, deeper, reach, mU, refsL, refs_nums]) (by simp only [fitX, obT]; simp [temsIn, looks, Op.operands, Call.operands, V.inN, hUn, l1U, l2U, lt1]) (by simp [wants]) (by simp [seenX, keepOnly, looks, Op.operands, Call.operands, loadO, loadOS]) dU lU (fun q hq => by simp at hq; omega) (by simp [apart, hUn, l1U, l2U])).trans ?_
    refine (xpure (v := .rsl q1 0 z1.length c1) [T.next] [T.next, q1, q2] (by simp [shown, sightOf, rootsOf, looks, Op.operands, Call.operands, V.refs, deeper, reach, mU, refsL, refs_nums]) (by simp only [fitX, ob5]; simp [temsIn, looks, Op.operands, Call.operands, V.inN, hUn, l1U, l2U, lt1]) (by simp [wants]) (by simp [seenX, keepOnly, looks, Op.operands, Call.operands, loadO, loadOS]) dU lU (fun q hq => by simp at hq; omega) (by simp [apart, hUn, l1U, l2U])).trans ?_
    refine (xpure (v := .int .i64 (.c z1.length)) [q1] [q1] (by simp [shown, sightOf, rootsOf, looks, Op.operands, Call.operands, V.refs, deeper, reach, mU, refsL, refs_nums, iU.obj]) (by simp only [fitX, obQ]; simp [temsIn, looks, Op.operands, Call.operands, V.inN, hUn, l1U, l2U, lt1]) (by simp [wants]) (by simp [seenX, keepOnly, looks, Op.operands, Call.operands, loadO, loadOS]) dU lU (fun q hq => by simp at hq; omega) (by simp [apart, hUn, l1U, l2U])).trans ?_
    refine (xcall (p := 2) (s := S9) (v := .rsl q3 0 z3.length c3) (by simp [shown, sightOf, rootsOf, looks, Op.operands, Call.operands, V.refs, deeper, reach, oU, refsL, refs_u8s]) (by simp only [fitX, ob1]; simp [temsIn, looks, Op.operands, Call.operands, V.inN, hUn, l1U, l2U, lt1]) (by simp [wants]) (by simp [seenX, keepOnly, looks, Op.operands, Call.operands, hc9]) dU hn9.rd.desc hn9.next hn9.low (by rw [oU]; rfl) (by simp [apart, hUn, l1U, l2U, lt1]; omega)).trans ?_
    rw [hs2]
  case g3x3 =>
    simp [storeP (v := .rsl q1 0 z1.length c1) (w := .rsl q2 0 z2.length c2) k0 rfl rfl]; rfl
  case g4x3 =>
    repeat' (first | refine Wp.seq ?_ | refine Wp.block ?_ | (apply Wp.region; focus ((try simp []) <;> rfl)) | (refine Wp.cond_t ?_ ?_; focus (simp []; done)) | (refine Wp.cond_f ?_ ?_; focus (simp []; done)) | refine Wp.skip ?_ | refine Wp.ret ?_ | refine Wp.exit ?_ | refine Blk.here ?_ | (refine Blk.past ?_ ?_; focus (simp; done)))
    exact ⟨rfl, fin t3 j1 hUn (i13) (i23) hq3 i3 (Fit.of (by have := a6.1; omega) (fun z hz => by have := hb3 z hz; omega)) k0 k00 _ (by simp) (by simp)⟩

set_option maxRecDepth 10000 in
theorem drawTransformBy (bs : List Int) (hbs0 : ∀ b, b ∈ bs → 0 ≤ b ∧ b < 256) (m : Nat) : ∃ r, symRun Try.prog K0 [] (m + 101) 28 [.slice (u8s bs)] ⟨0, [], 0⟩ = some r ∧ ∃ v1 v2 v3 q1 q2 q3 z1 z2 z3, r.1 = .tup [.agg [v1, v2], v3] ∧ q1 ≠ q2 ∧ q1 ≠ q3 ∧ q2 ≠ q3 ∧ IsL r.2.obs q1 z1 v1 ∧ IsL r.2.obs q2 z2 v2 ∧ IsL r.2.obs q3 z3 v3 ∧ Fit z1 ∧ Fit z2 ∧ Fit z3 := by
  refine own_run2 (n := m + 100) hK0 Try.func28 rfl rfl ?_
  simp only [Try.f28]
  obtain ⟨⟨w, S⟩, hr, k0, v1, v2, v3, q1, q2, q3, z1, z2, z3, hw, e12, e13, e23, ⟨g1, g2, g3⟩, i1, i2, i3, f1, f2, f3⟩ := drawActOnB bs hbs0 m
  simp only at hw
  subst hw
  have e : (⟨(Sto.new ⟨0, [], 0⟩ [V.nil, V.nil] : Sto Sy).next, (Sto.new ⟨0, [], 0⟩ [V.nil, V.nil] : Sto Sy).obs, (Sto.new ⟨0, [], 0⟩ [V.nil, V.nil] : Sto Sy).next⟩ : Sto Sy) = ⟨1, [(0, [.nil, .nil])], 1⟩ := rfl
  obtain ⟨S2, hc, hS⟩ : ∃ S2 : Sto Sy, acallV (symIn Try.prog K0 [] (m + 100)) (Sto.new ⟨0, [], 0⟩ [V.nil, V.nil]) (.func 23 [] []) [.slice (u8s bs)] = some (.tup [.agg [v1, v2], v3], S2) ∧ S2.obs = S.obs := by
    refine ⟨⟨S.next, S.obs, if Nat.blt S.low (Sto.new ⟨0, [], 0⟩ [V.nil, V.nil] : Sto Sy).low = true then S.low else (Sto.new ⟨0, [], 0⟩ [V.nil, V.nil] : Sto Sy).low⟩, ?_, rfl⟩
    rw [acallV_func (by decide), List.nil_append, List.append_nil, symIn_run (by decide), e, hr]
  obtain ⟨c1, rfl, hc1⟩ := i1.val
  obtain ⟨c2, rfl, hc2⟩ := i2.val
  obtain ⟨c3, rfl, hc3⟩ := i3.val
  simp only at k0 i1 i2 i3
  rw [← hS] at k0 i1 i2 i3
  have st := storeP (v := .rsl q1 0 z1.length c1) (w := .rsl q2 0 z2.length c2) k0 rfl rfl
  have mF := lookW (a := V.rsl q1 0 z1.length c1) (b := V.rsl q2 0 z2.length c2) k0
  have y1 := islW (cs := [.rsl q1 0 z1.length c1, .rsl q2 0 z2.length c2]) (r := 0) i1 (by omega)
  have y2 := islW (cs := [.rsl q1 0 z1.length c1, .rsl q2 0 z2.length c2]) (r := 0) i2 (by omega)
  have y3 := islW (cs := [.rsl q1 0 z1.length c1, .rsl q2 0 z2.length c2]) (r := 0) i3 (by omega)
  generalize S2.write 0 [V.rsl q1 0 z1.length c1, .rsl q2 0 z2.length c2] = s3 at st mF y1 y2 y3
  repeat' (first | refine Wp.seq ?_ | refine Wp.block ?_ | (apply Wp.region; focus ((try simp [setArgs, allocP, hc, st]) <;> rfl)) | (refine Wp.cond_t ?_ ?_; focus (simp [setArgs, allocP, hc, st]; done)) | (refine Wp.cond_f ?_ ?_; focus (simp [setArgs, allocP, hc, st]; done)) | refine Wp.skip ?_ | refine Wp.ret ?_ | refine Wp.exit ?_ | refine Blk.here ?_ | (refine Blk.past ?_ ?_; focus (simp; done)))
  refine ⟨rfl, (.tup [.agg [.rsl q1 0 z1.length c1, .rsl q2 0 z2.length c2], .rsl q3 0 z3.length c3], s3.trim 0 (.tup [.agg [.rsl q1 0 z1.length c1, .rsl q2 0 z2.length c2], .rsl q3 0 z3.length c3])), ?_, _, _, _, q1, q2, q3, z1, z2, z3, rfl, e12, e13, e23, y1.trimIn (by simp [V.refs, refsL]), y2.trimIn (by simp [V.refs, refsL]), y3.trimIn (by simp [V.refs, refsL]), f1, f2, f3⟩
  simp [answer, aresults, aresult, loadP mF]
end
end Go.Proofs.Ytjodjcmdlbhciaa.Draw

/-
  The functions of this seat that copy, compare, mark and test lists, each by a run over lists of any length. No condition.
-/
import Derived.Test.YtbjjlimncodmkaaRows
import Derived.Test.YtbjjlimncodmkaaSym
import Derived.WalkKit
import Derived.ProofKit
import Derived.OpenShut
namespace Go.Proofs.Ytbjjlimncodmkaa.Ids
open Go.ChangeShapes Go.WideShapes Go.ChangeAt Go.RowKit Go.Sx
set_option linter.unusedVariables false
set_option linter.unusedSimpArgs false

theorem tiS : tiOf Try.prog 22 = some ⟨.slice 3, 1, 24, .slice none 0 0⟩ := by kernel_rfl
theorem tiI : tiOf Try.prog 3 = some ⟨.int .i64, 1, 8, .int .i64 0⟩ := by kernel_rfl
theorem tiB : tiOf Try.prog 4 = some ⟨.bool, 1, 1, .bool false⟩ := by kernel_rfl
theorem noCount : NoCount Try.prog := noCount_of (by kernel_rfl)
theorem mixed : Try.prog.follows .mixedOrders = true := by kernel_rfl

attribute [local simp] aops wants aop apure St.eval setTm_some Tr.get_set aload evals apureB alen tiS tiI tiB abin aint isCmp sym_lt sym_eqs sym_neqs sym_eq sym_neq sym_gtr sym_leq sym_geq sym_add aeff amakeSlice idx? ofV aindexAddr astore look_cons aggDesc Sto.new setTm_none acallV aun Go.Sx.ints_set Go.Sx.ints_replicate noBc_ints

set_option maxRecDepth 10000 in
theorem toIntS (ns : List Sy) (hl : ns.length ≤ 1048576) (m : Nat) (hm : ns.length < m)  :
    symRun Try.prog noK [] (m + 1) 27 [.slice (ints ns)] ⟨0, [], 0⟩ = some (.rsl 0 0 ns.length (some ns.length), ⟨1, [(0, ints ns)], 0⟩) := by
  have hb : (24 : Int) * (ns.length : Int) ≤ 140737488355328 ∧ (8 : Int) * (ns.length : Int) ≤ 140737488355328 ∧ (ns.length : Int) ≤ 9223372036854775807 := by omega
  have hlen : ns.length = (List.replicate ns.length (Sy.c 0)).length := by simp
  refine own_run rfl Try.func27 rfl rfl ?_
  simp only [Try.f27]
  repeat' (first | refine Wp.seq ?_ | refine Wp.block ?_ | (apply Wp.region; focus ((try simp [setArgs, hb.2.1, hb.2.2]); rfl)) | (refine Wp.cond_t ?_ ?_; focus (simp [setArgs, hb.2.1, hb.2.2]; done)) | (refine Wp.cond_f ?_ ?_; focus (simp [setArgs, hb.2.1, hb.2.2]; done)) | refine Wp.skip ?_ | refine Wp.ret ?_ | refine Wp.exit ?_ | refine Blk.here ?_ | (refine Blk.past ?_ ?_; focus (simp; done)))
  refine Wp.loop rfl rfl (fun i st => st.tm.get .any 0 = .slice (ints ns) ∧ st.tm.get .any 3 = .rsl 0 0 ns.length (some ns.length) ∧ st.tm.get .any 4 = .int .i64 (.c i) ∧
    st.sto = ⟨1, [(0, ints (half i ns (List.replicate ns.length (.c 0))))], 0⟩) ns.length hm ?_ ?_ ?_
  · simp [setArgs, half_zero]
  · rintro f i ⟨tm, S⟩ hi ⟨h0, h3, h4, rfl⟩
    simp only at h0 h3 h4
    have hlt : (i : Int) < ns.length := by omega
    have hxi : ns[i]? = some ns[i] := List.getElem?_eq_getElem hi
    have hw := wrap_in (a := (i : Int) + 1) (by omega) (by omega)
    repeat' (first | refine Wp.seq ?_ | refine Wp.block ?_ | (apply Wp.region; focus ((try simp [h0, h3, h4, hlt, hxi, hi, Nat.succ_le_of_lt hi, half_set, ← hlen, hw]); rfl)) | (refine Wp.cond_t ?_ ?_; focus (simp [h0, h3, h4, hlt, hxi, hi, Nat.succ_le_of_lt hi, half_set, ← hlen, hw]; done)) | (refine Wp.cond_f ?_ ?_; focus (simp [h0, h3, h4, hlt, hxi, hi, Nat.succ_le_of_lt hi, half_set, ← hlen, hw]; done)) | refine Wp.skip ?_ | refine Wp.ret ?_ | refine Wp.exit ?_ | refine Blk.here ?_ | (refine Blk.past ?_ ?_; focus (simp; done)))
    simp [h0, h3, Sto.write, put]
  · rintro f ⟨tm, S⟩ ⟨h0, h3, h4, rfl⟩
    simp only at h0 h3 h4
    repeat' (first | refine Wp.seq ?_ | refine Wp.block ?_ | (apply Wp.region; focus ((try simp [h0, h3, h4]); rfl)) | (refine Wp.cond_t ?_ ?_; focus (simp [h0, h3, h4]; done)) | (refine Wp.cond_f ?_ ?_; focus (simp [h0, h3, h4]; done)) | refine Wp.skip ?_ | refine Wp.ret ?_ | refine Wp.exit ?_ | refine Blk.here ?_ | (refine Blk.past ?_ ?_; focus (simp; done)))
    refine ⟨rfl, ?_⟩
    have := trim_ints (ns := ns) (len := ns.length) (cap := some ns.length) (sto := ⟨0, [], 0⟩) trivial (Nat.le_refl _)
    simp only at this
    simp [answer, aresults, aresult, half_all]
    exact this

set_option maxRecDepth 10000 in
theorem eqIntS (ns : List Sy) (hl : ns.length ≤ 1048576) (m : Nat) (hm : ns.length < m)  :
    symRun Try.prog noK [] (m + 1) 29 [.slice (ints ns), .slice (ints ns)] ⟨0, [], 0⟩ = some (.bool true, ⟨0, [], 0⟩) := by
  refine own_run rfl Try.func29 rfl rfl ?_
  simp only [Try.f29]
  repeat' (first | refine Wp.seq ?_ | refine Wp.block ?_ | (apply Wp.region; focus ((try simp [setArgs]); rfl)) | (refine Wp.cond_t ?_ ?_; focus (simp [setArgs]; done)) | (refine Wp.cond_f ?_ ?_; focus (simp [setArgs]; done)) | refine Wp.skip ?_ | refine Wp.ret ?_ | refine Wp.exit ?_ | refine Blk.here ?_ | (refine Blk.past ?_ ?_; focus (simp; done)))
  refine Wp.loop rfl rfl (fun i st => st.tm.get .any 0 = .slice (ints ns) ∧ st.tm.get .any 1 = .slice (ints ns) ∧ st.tm.get .any 5 = .int .i64 (.c i) ∧ st.sto = ⟨0, [], 0⟩) ns.length hm ?_ ?_ ?_
  · simp [setArgs]
  · rintro f i ⟨tm, S⟩ hi ⟨h0, h1, h5, rfl⟩
    simp only at h0 h1 h5
    have hlt : (i : Int) < ns.length := by omega
    have hxi : ns[i]? = some ns[i] := List.getElem?_eq_getElem hi
    have hw := wrap_in (a := (i : Int) + 1) (by omega) (by omega)
    repeat' (first | refine Wp.seq ?_ | refine Wp.block ?_ | (apply Wp.region; focus ((try simp [h0, h1, h5, hlt, hxi, hi, hw]); rfl)) | (refine Wp.cond_t ?_ ?_; focus (simp [h0, h1, h5, hlt, hxi, hi, hw]; done)) | (refine Wp.cond_f ?_ ?_; focus (simp [h0, h1, h5, hlt, hxi, hi, hw]; done)) | refine Wp.skip ?_ | refine Wp.ret ?_ | refine Wp.exit ?_ | refine Blk.here ?_ | (refine Blk.past ?_ ?_; focus (simp; done)))
    (apply Wp.drawn2 8; (focus kernel_rfl); (focus kernel_rfl); (focus intro F; simp [dhead, seenBy, keepOnly, looks, joinN, addN, bite_eq, Op.operands, takeNew, h0, h1, h5, hlt, hxi, hi]; exact ⟨rfl, rfl, rfl⟩); (focus (try simp [allN, takeNew, h0, h1, h5, hlt, hxi, hi]); rfl))
    repeat' (first | refine Wp.seq ?_ | refine Wp.block ?_ | (apply Wp.region; focus ((try simp [h0, h1, h5, hw]); rfl)) | (refine Wp.cond_t ?_ ?_; focus (simp [h0, h1, h5, hw]; done)) | (refine Wp.cond_f ?_ ?_; focus (simp [h0, h1, h5, hw]; done)) | refine Wp.skip ?_ | refine Wp.ret ?_ | refine Wp.exit ?_ | refine Blk.here ?_ | (refine Blk.past ?_ ?_; focus (simp; done)))
    simp [h0, h1]
  · rintro f ⟨tm, S⟩ ⟨h0, h1, h5, rfl⟩
    simp only at h0 h1 h5
    repeat' (first | refine Wp.seq ?_ | refine Wp.block ?_ | (apply Wp.region; focus ((try simp [h0, h1, h5]); rfl)) | (refine Wp.cond_t ?_ ?_; focus (simp [h0, h1, h5]; done)) | (refine Wp.cond_f ?_ ?_; focus (simp [h0, h1, h5]; done)) | refine Wp.skip ?_ | refine Wp.ret ?_ | refine Wp.exit ?_ | refine Blk.here ?_ | (refine Blk.past ?_ ?_; focus (simp; done)))
    refine ⟨rfl, ?_⟩
    simp [answer, aresults, aresult, Sto.trim, V.refs, dropNew]

set_option maxRecDepth 10000 in
theorem markIntS (zs : List Int) (x : Int) (h1 : 1 ≤ zs.length) (hl : zs.length ≤ 1048576) (sto : Sto Sy) (hd : Desc sto.next sto.obs) (o : Nat) (hlk : Go.Sx.look sto.obs o = some (ints (nums zs))) (m : Nat) (hm : zs.length < m) :
    ∃ ys, symRun Try.prog noK [] (m + 1) 30 [.rsl o 0 zs.length (some zs.length), .int .i64 (.c x)] sto = some (.int .i64 (.c (IntKind.i64.wrap (x + zs.length))), ⟨sto.next, put sto.obs o ys, if Nat.blt o sto.low then o else sto.low⟩) := by
  have main : ∃ r, symRun Try.prog noK [] (m + 1) 30 [.rsl o 0 zs.length (some zs.length), .int .i64 (.c x)] sto = some r ∧ ∃ ys, r = (.int .i64 (.c (IntKind.i64.wrap (x + zs.length))), ⟨sto.next, put sto.obs o ys, if Nat.blt o sto.low then o else sto.low⟩) := by
    refine own_run2 rfl Try.func30 rfl rfl ?_
    simp only [Try.f30]
    repeat' (first | refine Wp.seq ?_ | refine Wp.block ?_ | (apply Wp.region; focus ((try simp [setArgs]); rfl)) | (refine Wp.cond_t ?_ ?_; focus (simp [setArgs]; done)) | (refine Wp.cond_f ?_ ?_; focus (simp [setArgs]; done)) | refine Wp.skip ?_ | refine Wp.ret ?_ | refine Wp.exit ?_ | refine Blk.here ?_ | (refine Blk.past ?_ ?_; focus (simp; done)))
    refine Wp.loop rfl rfl (fun i st => st.tm.get .any 0 = .rsl o 0 zs.length (some zs.length) ∧ st.tm.get .any 5 = .int .i64 (.c i) ∧ st.tm.get .any 1 = .int .i64 (.c (kk x i)) ∧
      ∃ ys : List (V Sy), ys.length = zs.length ∧ Go.Sx.look st.sto.obs o = some ys ∧ st.sto = ⟨sto.next, put sto.obs o ys, if i = 0 then sto.low else if Nat.blt o sto.low then o else sto.low⟩) zs.length hm ?_ ?_ ?_
    · refine ⟨by simp [setArgs], by simp [setArgs], by simp [setArgs, kk], ints (nums zs), by simp, hlk, ?_⟩
      simp [put_self hlk]
    · rintro f i ⟨tm, S⟩ hi ⟨h0, h5, hk, ys, hy1, hy2, hS⟩
      simp only at h0 h5 hk hy2 hS
      have hlt : (i : Int) < zs.length := by omega
      have hw := wrap_in (a := (i : Int) + 1) (by omega) (by omega)
      have hi' : i + 1 ≤ ys.length := by omega
      repeat' (first | refine Wp.seq ?_ | refine Wp.block ?_ | (apply Wp.region; focus ((try simp [h0, h5, hk, hlt, hy2, hi', hw, V.cells, V.oneCell]); rfl)) | (refine Wp.cond_t ?_ ?_; focus (simp [h0, h5, hk, hlt, hy2, hi', hw, V.cells, V.oneCell]; done)) | (refine Wp.cond_f ?_ ?_; focus (simp [h0, h5, hk, hlt, hy2, hi', hw, V.cells, V.oneCell]; done)) | refine Wp.skip ?_ | refine Wp.ret ?_ | refine Wp.exit ?_ | refine Blk.here ?_ | (refine Blk.past ?_ ?_; focus (simp; done)))
      refine ⟨by simp [h0], by simp, by simp [kk], noBc (ys.set i (.int .i64 (.c (kk x i)))), by rw [noBc_len, List.length_set]; exact hy1, ?_, ?_⟩
      · simp only [Sto.write]; exact look_put_self hy2
      · subst hS
        simp only [Sto.write, put_put]
        simp
        by_cases hi0 : i = 0
        · simp [hi0]
        · have := low_low o sto.low
          simp only [Nat.blt_eq] at this
          simp only [hi0, if_false]; exact this
    · rintro f ⟨tm, S⟩ ⟨h0, h5, hk, ys, hy1, hy2, hS⟩
      simp only at h0 h5 hk hy2 hS
      subst hS
      repeat' (first | refine Wp.seq ?_ | refine Wp.block ?_ | (apply Wp.region; focus ((try simp [h0, h5, hk]); rfl)) | (refine Wp.cond_t ?_ ?_; focus (simp [h0, h5, hk]; done)) | (refine Wp.cond_f ?_ ?_; focus (simp [h0, h5, hk]; done)) | refine Wp.skip ?_ | refine Wp.ret ?_ | refine Wp.exit ?_ | refine Blk.here ?_ | (refine Blk.past ?_ ?_; focus (simp; done)))
      have hn : zs ≠ [] := fun e => by rw [e] at h1; exact absurd h1 (by decide)
      refine ⟨rfl, (.int .i64 (.c (IntKind.i64.wrap (x + zs.length))), ⟨sto.next, put sto.obs o ys, if Nat.blt o sto.low then o else sto.low⟩), ?_, ys, rfl⟩
      have ht := trim_plain (sto := ⟨sto.next, put sto.obs o ys, if Nat.blt o sto.low then o else sto.low⟩) (r := .int .i64 (.c (IntKind.i64.wrap (x + zs.length)))) (hd.put o ys) rfl

      simp [answer, aresults, aresult, kk_succ x _ h1, hn]
      simpa using ht
  obtain ⟨r, hr, ys, rfl⟩ := main
  exact ⟨ys, hr⟩

theorem inRange (x lo hi : Int) (sto : Sto Sy) (hd : Desc sto.next sto.obs) (m : Nat) :
    symRun Try.prog noK [] (m + 1) 64 [.int .i64 (.c x), .int .i64 (.c lo), .int .i64 (.c hi)] sto = some (.bool (decide (lo ≤ x ∧ x ≤ hi)), sto) := by
  refine own_run rfl Try.func64 rfl rfl ?_
  simp only [Try.f64]
  by_cases h1 : lo ≤ x
  · by_cases h2 : x ≤ hi
    · repeat' (first | refine Wp.seq ?_ | refine Wp.block ?_ | (apply Wp.region; focus ((try simp [setArgs, Int.not_lt.2 h1, Int.not_lt.2 h2]); rfl)) | (refine Wp.cond_t ?_ ?_; focus (simp [setArgs, Int.not_lt.2 h1, Int.not_lt.2 h2]; done)) | (refine Wp.cond_f ?_ ?_; focus (simp [setArgs, Int.not_lt.2 h1, Int.not_lt.2 h2]; done)) | refine Wp.skip ?_ | refine Wp.ret ?_ | refine Wp.exit ?_ | refine Blk.here ?_ | (refine Blk.past ?_ ?_; focus (simp; done)))
      refine ⟨rfl, ?_⟩
      simp [answer, aresults, aresult, h1, h2]
      exact trim_plain hd rfl
    · repeat' (first | refine Wp.seq ?_ | refine Wp.block ?_ | (apply Wp.region; focus ((try simp [setArgs, Int.not_lt.2 h1, Int.not_le.1 h2]); rfl)) | (refine Wp.cond_t ?_ ?_; focus (simp [setArgs, Int.not_lt.2 h1, Int.not_le.1 h2]; done)) | (refine Wp.cond_f ?_ ?_; focus (simp [setArgs, Int.not_lt.2 h1, Int.not_le.1 h2]; done)) | refine Wp.skip ?_ | refine Wp.ret ?_ | refine Wp.exit ?_ | refine Blk.here ?_ | (refine Blk.past ?_ ?_; focus (simp; done)))
      refine ⟨rfl, ?_⟩
      simp [answer, aresults, aresult, h1, h2]
      exact trim_plain hd rfl
  · repeat' (first | refine Wp.seq ?_ | refine Wp.block ?_ | (apply Wp.region; focus ((try simp [setArgs, Int.not_le.1 h1]); rfl)) | (refine Wp.cond_t ?_ ?_; focus (simp [setArgs, Int.not_le.1 h1]; done)) | (refine Wp.cond_f ?_ ?_; focus (simp [setArgs, Int.not_le.1 h1]; done)) | refine Wp.skip ?_ | refine Wp.ret ?_ | refine Wp.exit ?_ | refine Blk.here ?_ | (refine Blk.past ?_ ?_; focus (simp; done)))
    refine ⟨rfl, ?_⟩
    simp [answer, aresults, aresult, h1]
    exact trim_plain hd rfl

set_option maxRecDepth 10000 in
theorem specValidSeries (zs : List Int) (hl : zs.length ≤ 1048576) (m : Nat) (hm : zs.length < m) :
    symRun Try.prog noK [] (m + 2) 59 [.slice (ints (nums zs))] ⟨0, [], 0⟩ = some (.bool (decide (validP 600 zs)), ⟨0, [], 0⟩) := by
  refine own_run rfl Try.func59 rfl rfl ?_
  simp only [Try.f59]
  have hr := fun x lo hi => inRange x lo hi ⟨0, [], 0⟩ trivial m
  repeat' (first | refine Wp.seq ?_ | refine Wp.block ?_ | (apply Wp.region; focus ((try simp [setArgs]); rfl)) | (refine Wp.cond_t ?_ ?_; focus (simp [setArgs]; done)) | (refine Wp.cond_f ?_ ?_; focus (simp [setArgs]; done)) | refine Wp.skip ?_ | refine Wp.ret ?_ | refine Wp.exit ?_ | refine Blk.here ?_ | (refine Blk.past ?_ ?_; focus (simp; done)))
  refine Wp.loop rfl rfl (fun i st => st.tm.get .any 0 = .slice (ints (nums zs)) ∧ st.tm.get .any 3 = .int .i64 (.c i) ∧ st.sto = ⟨0, [], 0⟩ ∧ ∀ j (h : j < zs.length), j < i → -600 ≤ zs[j] ∧ zs[j] ≤ 600) zs.length (by omega) ?_ ?_ ?_
  · simp [setArgs]
  · rintro f i ⟨tm, S⟩ hi ⟨h0, h3, rfl, hall⟩
    simp only at h0 h3
    have hlt : (i : Int) < zs.length := by omega
    have hxi : zs[i]? = some zs[i] := List.getElem?_eq_getElem hi
    have hw := wrap_in (a := (i : Int) + 1) (by omega) (by omega)
    by_cases hok : -600 ≤ zs[i] ∧ zs[i] ≤ 600
    · repeat' (first | refine Wp.seq ?_ | refine Wp.block ?_ | (apply Wp.region; focus ((try simp [h0, h3, hlt, hxi, hi, hw, hr, hok, Nat.blt]); rfl)) | (refine Wp.cond_t ?_ ?_; focus (simp [h0, h3, hlt, hxi, hi, hw, hr, hok, Nat.blt]; done)) | (refine Wp.cond_f ?_ ?_; focus (simp [h0, h3, hlt, hxi, hi, hw, hr, hok, Nat.blt]; done)) | refine Wp.skip ?_ | refine Wp.ret ?_ | refine Wp.exit ?_ | refine Blk.here ?_ | (refine Blk.past ?_ ?_; focus (simp; done)))
      refine ⟨by simp [h0], by simp, rfl, fun j h hj => ?_⟩
      rcases Nat.lt_succ_iff_lt_or_eq.1 hj with h1 | rfl
      · exact hall j h h1
      · exact hok
    · repeat' (first | refine Wp.seq ?_ | refine Wp.block ?_ | (apply Wp.region; focus ((try simp [h0, h3, hlt, hxi, hi, hw, hr, hok, Nat.blt]); rfl)) | (refine Wp.cond_t ?_ ?_; focus (simp [h0, h3, hlt, hxi, hi, hw, hr, hok, Nat.blt]; done)) | (refine Wp.cond_f ?_ ?_; focus (simp [h0, h3, hlt, hxi, hi, hw, hr, hok, Nat.blt]; done)) | refine Wp.skip ?_ | refine Wp.ret ?_ | refine Wp.exit ?_ | refine Blk.here ?_ | (refine Blk.past ?_ ?_; focus (simp; done)))
      refine ⟨rfl, ?_⟩
      have hno : ¬ validP 600 zs := fun h => hok (h.1 _ (List.getElem_mem hi))
      simp [answer, aresults, aresult, hno, Sto.trim, V.refs, dropNew]
  · rintro f ⟨tm, S⟩ ⟨h0, h3, rfl, hall⟩
    simp only at h0 h3
    repeat' (first | refine Wp.seq ?_ | refine Wp.block ?_ | (apply Wp.region; focus ((try simp [h0, h3, hr, Nat.blt]); rfl)) | (refine Wp.cond_t ?_ ?_; focus (simp [h0, h3, hr, Nat.blt]; done)) | (refine Wp.cond_f ?_ ?_; focus (simp [h0, h3, hr, Nat.blt]; done)) | refine Wp.skip ?_ | refine Wp.ret ?_ | refine Wp.exit ?_ | refine Blk.here ?_ | (refine Blk.past ?_ ?_; focus (simp; done)))
    refine ⟨rfl, ?_⟩
    have hv : (decide ((1 : Int) ≤ zs.length ∧ (zs.length : Int) ≤ 6)) = decide (validP 600 zs) := by
      have : ((1 : Int) ≤ zs.length ∧ (zs.length : Int) ≤ 6) ↔ validP 600 zs := ⟨fun h => ⟨fun z hz => by obtain ⟨j, hj, rfl⟩ := List.mem_iff_getElem.1 hz; exact hall j hj hj, by omega, by omega⟩, fun h => ⟨by have := h.2.1; omega, by have := h.2.2; omega⟩⟩
      simp only [this]
    simp [answer, aresults, aresult, ← hv, Sto.trim, V.refs, dropNew]

set_option maxRecDepth 100000 in
theorem implValidSeries_runs : allTo (fun i => validRuns Try.prog 600 60 91 (i + 1)) 6 = true := by kernel_rfl
set_option maxRecDepth 100000 in
theorem implValidSeries_none : isB false (symRun Try.prog noK [] 60 91 [.slice (ints (nums []))] ⟨0, [], 0⟩) = true := by kernel_rfl
set_option maxRecDepth 100000 in
theorem implValidSeries_more (a b c d e f g : Int) (r : List Int) : isB false (symRun Try.prog noK [] 60 91 [.slice (ints (nums (a :: b :: c :: d :: e :: f :: g :: r)))] ⟨0, [], 0⟩) = true := by kernel_rfl

set_option maxRecDepth 10000 in
theorem specValidPoly (zs : List Int) (hl : zs.length ≤ 1048576) (m : Nat) (hm : zs.length < m) :
    symRun Try.prog noK [] (m + 2) 87 [.slice (ints (nums zs))] ⟨0, [], 0⟩ = some (.bool (decide (validP 1000000 zs)), ⟨0, [], 0⟩) := by
  refine own_run rfl Try.func87 rfl rfl ?_
  simp only [Try.f87]
  have hr := fun x lo hi => inRange x lo hi ⟨0, [], 0⟩ trivial m
  repeat' (first | refine Wp.seq ?_ | refine Wp.block ?_ | (apply Wp.region; focus ((try simp [setArgs]); rfl)) | (refine Wp.cond_t ?_ ?_; focus (simp [setArgs]; done)) | (refine Wp.cond_f ?_ ?_; focus (simp [setArgs]; done)) | refine Wp.skip ?_ | refine Wp.ret ?_ | refine Wp.exit ?_ | refine Blk.here ?_ | (refine Blk.past ?_ ?_; focus (simp; done)))
  refine Wp.loop rfl rfl (fun i st => st.tm.get .any 0 = .slice (ints (nums zs)) ∧ st.tm.get .any 3 = .int .i64 (.c i) ∧ st.sto = ⟨0, [], 0⟩ ∧ ∀ j (h : j < zs.length), j < i → -1000000 ≤ zs[j] ∧ zs[j] ≤ 1000000) zs.length (by omega) ?_ ?_ ?_
  · simp [setArgs]
  · rintro f i ⟨tm, S⟩ hi ⟨h0, h3, rfl, hall⟩
    simp only at h0 h3
    have hlt : (i : Int) < zs.length := by omega
    have hxi : zs[i]? = some zs[i] := List.getElem?_eq_getElem hi
    have hw := wrap_in (a := (i : Int) + 1) (by omega) (by omega)
    by_cases hok : -1000000 ≤ zs[i] ∧ zs[i] ≤ 1000000
    · repeat' (first | refine Wp.seq ?_ | refine Wp.block ?_ | (apply Wp.region; focus ((try simp [h0, h3, hlt, hxi, hi, hw, hr, hok, Nat.blt]); rfl)) | (refine Wp.cond_t ?_ ?_; focus (simp [h0, h3, hlt, hxi, hi, hw, hr, hok, Nat.blt]; done)) | (refine Wp.cond_f ?_ ?_; focus (simp [h0, h3, hlt, hxi, hi, hw, hr, hok, Nat.blt]; done)) | refine Wp.skip ?_ | refine Wp.ret ?_ | refine Wp.exit ?_ | refine Blk.here ?_ | (refine Blk.past ?_ ?_; focus (simp; done)))
      refine ⟨by simp [h0], by simp, rfl, fun j h hj => ?_⟩
      rcases Nat.lt_succ_iff_lt_or_eq.1 hj with h1 | rfl
      · exact hall j h h1
      · exact hok
    · repeat' (first | refine Wp.seq ?_ | refine Wp.block ?_ | (apply Wp.region; focus ((try simp [h0, h3, hlt, hxi, hi, hw, hr, hok, Nat.blt]); rfl)) | (refine Wp.cond_t ?_ ?_; focus (simp [h0, h3, hlt, hxi, hi, hw, hr, hok, Nat.blt]; done)) | (refine Wp.cond_f ?_ ?_; focus (simp [h0, h3, hlt, hxi, hi, hw, hr, hok, Nat.blt]; done)) | refine Wp.skip ?_ | refine Wp.ret ?_ | refine Wp.exit ?_ | refine Blk.here ?_ | (refine Blk.past ?_ ?_; focus (simp; done)))
      refine ⟨rfl, ?_⟩
      have hno : ¬ validP 1000000 zs := fun h => hok (h.1 _ (List.getElem_mem hi))
      simp [answer, aresults, aresult, hno, Sto.trim, V.refs, dropNew]
  · rintro f ⟨tm, S⟩ ⟨h0, h3, rfl, hall⟩
    simp only at h0 h3
    repeat' (first | refine Wp.seq ?_ | refine Wp.block ?_ | (apply Wp.region; focus ((try simp [h0, h3, hr, Nat.blt]); rfl)) | (refine Wp.cond_t ?_ ?_; focus (simp [h0, h3, hr, Nat.blt]; done)) | (refine Wp.cond_f ?_ ?_; focus (simp [h0, h3, hr, Nat.blt]; done)) | refine Wp.skip ?_ | refine Wp.ret ?_ | refine Wp.exit ?_ | refine Blk.here ?_ | (refine Blk.past ?_ ?_; focus (simp; done)))
    refine ⟨rfl, ?_⟩
    have hv : (decide ((1 : Int) ≤ zs.length ∧ (zs.length : Int) ≤ 6)) = decide (validP 1000000 zs) := by
      have : ((1 : Int) ≤ zs.length ∧ (zs.length : Int) ≤ 6) ↔ validP 1000000 zs := ⟨fun h => ⟨fun z hz => by obtain ⟨j, hj, rfl⟩ := List.mem_iff_getElem.1 hz; exact hall j hj hj, by omega, by omega⟩, fun h => ⟨by have := h.2.1; omega, by have := h.2.2; omega⟩⟩
      simp only [this]
    simp [answer, aresults, aresult, ← hv, Sto.trim, V.refs, dropNew]

/-- The Min of the first numbers of a list. -/
def MinTo (zs : List Int) : Nat → Int
  | 0 => zs.getD 0 0
  | i + 1 => if zs.getD (i + 1) 0 < MinTo zs i then zs.getD (i + 1) 0 else MinTo zs i

set_option maxRecDepth 10000 in
theorem slicesMin (zs : List Int) (h1 : 1 ≤ zs.length) (hl : zs.length ≤ 1048576) (sto : Sto Sy) (hd : Desc sto.next sto.obs)
    (m : Nat) (hm : zs.length < m) :
    symRun Try.prog noK [] (m + 1) 88 [.slice (ints (nums zs))] sto = some (.int .i64 (.c (MinTo zs (zs.length - 1))), sto) := by
  refine own_run rfl Try.func88 rfl rfl ?_
  simp only [Try.f88]
  have h10 : ¬ (zs.length : Int) < 1 := by omega
  have h11 : (0 : Int) < zs.length := by omega
  have hx0 : zs[0]? = some zs[0] := List.getElem?_eq_getElem h1
  have h12 : 0 < zs.length := h1
  have hne : zs ≠ [] := fun e => by rw [e] at h12; cases h12
  repeat' (first | refine Wp.seq ?_ | refine Wp.block ?_ | (apply Wp.region; focus ((try simp [setArgs, h10, h11, hx0, h1, h12, hne]); rfl)) | (refine Wp.cond_t ?_ ?_; focus (simp [setArgs, h10, h11, hx0, h1, h12, hne]; done)) | (refine Wp.cond_f ?_ ?_; focus (simp [setArgs, h10, h11, hx0, h1, h12, hne]; done)) | refine Wp.skip ?_ | refine Wp.ret ?_ | refine Wp.exit ?_ | refine Blk.here ?_ | (refine Blk.past ?_ ?_; focus (simp; done)))
  refine Wp.loop rfl rfl (fun i st => st.tm.get .any 0 = .slice (ints (nums zs)) ∧ st.tm.get .any 4 = .int .i64 (.c ((i : Int) + 1)) ∧ st.tm.get .any 3 = .int .i64 (.c (MinTo zs i)) ∧ st.sto = sto) (zs.length - 1) (by omega) ?_ ?_ ?_
  · simp [setArgs, MinTo, hx0]
  · rintro f i ⟨tm, S⟩ hi ⟨h0, h4, h3, hS⟩
    obtain rfl : S = sto := hS
    simp only at h0 h3 h4
    have hi' : i + 1 < zs.length := by omega
    have hlt : (i : Int) + 1 < zs.length := by omega
    have hge : (0 : Int) ≤ (i : Int) + 1 := by omega
    have hto : ((i : Int) + 1).toNat = i + 1 := by omega
    have hxi : zs[i + 1]? = some zs[i + 1] := List.getElem?_eq_getElem hi'
    have hw := wrap_in (a := (i : Int) + 1 + 1) (by omega) (by omega)
    by_cases hc : zs[i + 1] < MinTo zs i
    · repeat' (first | refine Wp.seq ?_ | refine Wp.block ?_ | (apply Wp.region; focus ((try simp [h0, h3, h4, hlt, hge, hto, hxi, hi', hw, evals, aminmaxL, aminmax, hc]); rfl)) | (refine Wp.cond_t ?_ ?_; focus (simp [h0, h3, h4, hlt, hge, hto, hxi, hi', hw, evals, aminmaxL, aminmax, hc]; done)) | (refine Wp.cond_f ?_ ?_; focus (simp [h0, h3, h4, hlt, hge, hto, hxi, hi', hw, evals, aminmaxL, aminmax, hc]; done)) | refine Wp.skip ?_ | refine Wp.ret ?_ | refine Wp.exit ?_ | refine Blk.here ?_ | (refine Blk.past ?_ ?_; focus (simp; done)))
      simp [h0, MinTo, hxi, hc]
    · repeat' (first | refine Wp.seq ?_ | refine Wp.block ?_ | (apply Wp.region; focus ((try simp [h0, h3, h4, hlt, hge, hto, hxi, hi', hw, evals, aminmaxL, aminmax, hc]); rfl)) | (refine Wp.cond_t ?_ ?_; focus (simp [h0, h3, h4, hlt, hge, hto, hxi, hi', hw, evals, aminmaxL, aminmax, hc]; done)) | (refine Wp.cond_f ?_ ?_; focus (simp [h0, h3, h4, hlt, hge, hto, hxi, hi', hw, evals, aminmaxL, aminmax, hc]; done)) | refine Wp.skip ?_ | refine Wp.ret ?_ | refine Wp.exit ?_ | refine Blk.here ?_ | (refine Blk.past ?_ ?_; focus (simp; done)))
      simp [h0, h3, MinTo, hxi, hc]
  · rintro f ⟨tm, S⟩ ⟨h0, h4, h3, hS⟩
    obtain rfl : S = sto := hS
    simp only at h0 h3 h4
    have hlt : ¬ ((zs.length - 1 : Nat) : Int) + 1 < zs.length := by omega
    repeat' (first | refine Wp.seq ?_ | refine Wp.block ?_ | (apply Wp.region; focus ((try simp [h0, h3, h4, hlt]); rfl)) | (refine Wp.cond_t ?_ ?_; focus (simp [h0, h3, h4, hlt]; done)) | (refine Wp.cond_f ?_ ?_; focus (simp [h0, h3, h4, hlt]; done)) | refine Wp.skip ?_ | refine Wp.ret ?_ | refine Wp.exit ?_ | refine Blk.here ?_ | (refine Blk.past ?_ ?_; focus (simp; done)))
    refine ⟨rfl, ?_⟩
    simp [answer, aresults, aresult]
    exact trim_plain hd rfl

/-- The Max of the first numbers of a list. -/
def MaxTo (zs : List Int) : Nat → Int
  | 0 => zs.getD 0 0
  | i + 1 => if MaxTo zs i < zs.getD (i + 1) 0 then zs.getD (i + 1) 0 else MaxTo zs i

set_option maxRecDepth 10000 in
theorem slicesMax (zs : List Int) (h1 : 1 ≤ zs.length) (hl : zs.length ≤ 1048576) (sto : Sto Sy) (hd : Desc sto.next sto.obs)
    (m : Nat) (hm : zs.length < m) :
    symRun Try.prog noK [] (m + 1) 89 [.slice (ints (nums zs))] sto = some (.int .i64 (.c (MaxTo zs (zs.length - 1))), sto) := by
  refine own_run rfl Try.func89 rfl rfl ?_
  simp only [Try.f89]
  have h10 : ¬ (zs.length : Int) < 1 := by omega
  have h11 : (0 : Int) < zs.length := by omega
  have hx0 : zs[0]? = some zs[0] := List.getElem?_eq_getElem h1
  have h12 : 0 < zs.length := h1
  have hne : zs ≠ [] := fun e => by rw [e] at h12; cases h12
  repeat' (first | refine Wp.seq ?_ | refine Wp.block ?_ | (apply Wp.region; focus ((try simp [setArgs, h10, h11, hx0, h1, h12, hne]); rfl)) | (refine Wp.cond_t ?_ ?_; focus (simp [setArgs, h10, h11, hx0, h1, h12, hne]; done)) | (refine Wp.cond_f ?_ ?_; focus (simp [setArgs, h10, h11, hx0, h1, h12, hne]; done)) | refine Wp.skip ?_ | refine Wp.ret ?_ | refine Wp.exit ?_ | refine Blk.here ?_ | (refine Blk.past ?_ ?_; focus (simp; done)))
  refine Wp.loop rfl rfl (fun i st => st.tm.get .any 0 = .slice (ints (nums zs)) ∧ st.tm.get .any 4 = .int .i64 (.c ((i : Int) + 1)) ∧ st.tm.get .any 3 = .int .i64 (.c (MaxTo zs i)) ∧ st.sto = sto) (zs.length - 1) (by omega) ?_ ?_ ?_
  · simp [setArgs, MaxTo, hx0]
  · rintro f i ⟨tm, S⟩ hi ⟨h0, h4, h3, hS⟩
    obtain rfl : S = sto := hS
    simp only at h0 h3 h4
    have hi' : i + 1 < zs.length := by omega
    have hlt : (i : Int) + 1 < zs.length := by omega
    have hge : (0 : Int) ≤ (i : Int) + 1 := by omega
    have hto : ((i : Int) + 1).toNat = i + 1 := by omega
    have hxi : zs[i + 1]? = some zs[i + 1] := List.getElem?_eq_getElem hi'
    have hw := wrap_in (a := (i : Int) + 1 + 1) (by omega) (by omega)
    by_cases hc : MaxTo zs i < zs[i + 1]
    · repeat' (first | refine Wp.seq ?_ | refine Wp.block ?_ | (apply Wp.region; focus ((try simp [h0, h3, h4, hlt, hge, hto, hxi, hi', hw, evals, aminmaxL, aminmax, hc]); rfl)) | (refine Wp.cond_t ?_ ?_; focus (simp [h0, h3, h4, hlt, hge, hto, hxi, hi', hw, evals, aminmaxL, aminmax, hc]; done)) | (refine Wp.cond_f ?_ ?_; focus (simp [h0, h3, h4, hlt, hge, hto, hxi, hi', hw, evals, aminmaxL, aminmax, hc]; done)) | refine Wp.skip ?_ | refine Wp.ret ?_ | refine Wp.exit ?_ | refine Blk.here ?_ | (refine Blk.past ?_ ?_; focus (simp; done)))
      simp [h0, MaxTo, hxi, hc]
    · repeat' (first | refine Wp.seq ?_ | refine Wp.block ?_ | (apply Wp.region; focus ((try simp [h0, h3, h4, hlt, hge, hto, hxi, hi', hw, evals, aminmaxL, aminmax, hc]); rfl)) | (refine Wp.cond_t ?_ ?_; focus (simp [h0, h3, h4, hlt, hge, hto, hxi, hi', hw, evals, aminmaxL, aminmax, hc]; done)) | (refine Wp.cond_f ?_ ?_; focus (simp [h0, h3, h4, hlt, hge, hto, hxi, hi', hw, evals, aminmaxL, aminmax, hc]; done)) | refine Wp.skip ?_ | refine Wp.ret ?_ | refine Wp.exit ?_ | refine Blk.here ?_ | (refine Blk.past ?_ ?_; focus (simp; done)))
      simp [h0, h3, MaxTo, hxi, hc]
  · rintro f ⟨tm, S⟩ ⟨h0, h4, h3, hS⟩
    obtain rfl : S = sto := hS
    simp only at h0 h3 h4
    have hlt : ¬ ((zs.length - 1 : Nat) : Int) + 1 < zs.length := by omega
    repeat' (first | refine Wp.seq ?_ | refine Wp.block ?_ | (apply Wp.region; focus ((try simp [h0, h3, h4, hlt]); rfl)) | (refine Wp.cond_t ?_ ?_; focus (simp [h0, h3, h4, hlt]; done)) | (refine Wp.cond_f ?_ ?_; focus (simp [h0, h3, h4, hlt]; done)) | refine Wp.skip ?_ | refine Wp.ret ?_ | refine Wp.exit ?_ | refine Blk.here ?_ | (refine Blk.past ?_ ?_; focus (simp; done)))
    refine ⟨rfl, ?_⟩
    simp [answer, aresults, aresult]
    exact trim_plain hd rfl

theorem le_MinTo (zs : List Int) (lo : Int) : ∀ k, lo ≤ MinTo zs k ↔ ∀ j, j ≤ k → lo ≤ zs.getD j 0 := by
  intro k
  induction k with
  | zero => exact ⟨fun h j hj => by obtain rfl : j = 0 := by omega
                                    exact h, fun h => h 0 (by omega)⟩
  | succ k ih =>
    simp only [MinTo]
    constructor
    · intro h j hj
      have hk : lo ≤ MinTo zs k := by split at h <;> omega
      rcases Nat.lt_or_ge j (k + 1) with h1 | h1
      · exact ih.1 hk j (by omega)
      · obtain rfl : j = k + 1 := by omega
        split at h <;> omega
    · intro h
      have h1 := ih.2 (fun j hj => h j (by omega))
      have h2 := h (k + 1) (by omega)
      split <;> assumption
theorem MaxTo_le (zs : List Int) (hi : Int) : ∀ k, MaxTo zs k ≤ hi ↔ ∀ j, j ≤ k → zs.getD j 0 ≤ hi := by
  intro k
  induction k with
  | zero => exact ⟨fun h j hj => by obtain rfl : j = 0 := by omega
                                    exact h, fun h => h 0 (by omega)⟩
  | succ k ih =>
    simp only [MaxTo]
    constructor
    · intro h j hj
      have hk : MaxTo zs k ≤ hi := by split at h <;> omega
      rcases Nat.lt_or_ge j (k + 1) with h1 | h1
      · exact ih.1 hk j (by omega)
      · obtain rfl : j = k + 1 := by omega
        split at h <;> omega
    · intro h
      have h1 := ih.2 (fun j hj => h j (by omega))
      have h2 := h (k + 1) (by omega)
      split <;> assumption
theorem all_getD (zs : List Int) (h1 : 1 ≤ zs.length) (p : Int → Prop) : (∀ j, j ≤ zs.length - 1 → p (zs.getD j 0)) ↔ ∀ z, z ∈ zs → p z := by
  constructor
  · intro h z hz
    obtain ⟨j, hj, rfl⟩ := List.mem_iff_getElem.1 hz
    have := h j (by omega)
    simpa [List.getD, List.getElem?_eq_getElem hj] using this
  · intro h j hj
    have hj' : j < zs.length := by omega
    have := h zs[j] (List.getElem_mem hj')
    simpa [List.getD, List.getElem?_eq_getElem hj'] using this
theorem validP_iff (zs : List Int) (h1 : 1 ≤ zs.length) (h6 : zs.length ≤ 6) : validP 1000000 zs ↔ -1000000 ≤ MinTo zs (zs.length - 1) ∧ MaxTo zs (zs.length - 1) ≤ 1000000 := by
  rw [le_MinTo, MaxTo_le, all_getD zs h1 (fun z => -1000000 ≤ z), all_getD zs h1 (fun z => z ≤ 1000000)]
  exact ⟨fun h => ⟨fun z hz => (h.1 z hz).1, fun z hz => (h.1 z hz).2⟩, fun h => ⟨fun z hz => ⟨h.1 z hz, h.2 z hz⟩, h1, h6⟩⟩

set_option maxRecDepth 10000 in
theorem implValidPoly (zs : List Int) (hl : zs.length ≤ 1048576) (sto : Sto Sy) (hd : Desc sto.next sto.obs) (hlo : sto.low ≤ sto.next)
    (m : Nat) (hm : zs.length < m) :
    symRun Try.prog noK [] (m + 2) 52 [.slice (ints (nums zs))] sto = some (.bool (decide (validP 1000000 zs)), sto) := by
  refine own_run rfl Try.func52 rfl rfl ?_
  simp only [Try.f52]
  have hbl : Nat.blt sto.next sto.low = false := by cases h : Nat.blt sto.next sto.low with
    | false => rfl
    | true => rw [Nat.blt_eq] at h; omega
  by_cases h1 : 1 ≤ zs.length
  · have h1i : ¬ (zs.length : Int) < 1 := by omega
    have hne : zs ≠ [] := fun e => by rw [e] at h1; exact absurd h1 (by decide)
    by_cases h6 : zs.length ≤ 6
    · have h6i : ¬ (6 : Int) < zs.length := by omega
      have r1 := slicesMin zs h1 hl ⟨sto.next, sto.obs, sto.next⟩ hd m hm
      have r2 := slicesMax zs h1 hl ⟨sto.next, sto.obs, sto.next⟩ hd m hm
      have hv := validP_iff zs h1 h6
      by_cases h2 : -1000000 ≤ MinTo zs (zs.length - 1)
      · by_cases h3 : MaxTo zs (zs.length - 1) ≤ 1000000
        · repeat' (first | refine Wp.seq ?_ | refine Wp.block ?_ | (apply Wp.region; focus ((try simp [setArgs, h1i, h6i, r1, r2, hbl, Int.not_lt.2 h2, Int.not_lt.2 h3, hne]); rfl)) | (refine Wp.cond_t ?_ ?_; focus (simp [setArgs, h1i, h6i, r1, r2, hbl, Int.not_lt.2 h2, Int.not_lt.2 h3, hne]; done)) | (refine Wp.cond_f ?_ ?_; focus (simp [setArgs, h1i, h6i, r1, r2, hbl, Int.not_lt.2 h2, Int.not_lt.2 h3, hne]; done)) | refine Wp.skip ?_ | refine Wp.ret ?_ | refine Wp.exit ?_ | refine Blk.here ?_ | (refine Blk.past ?_ ?_; focus (simp; done)))
          refine ⟨rfl, ?_⟩
          simp [answer, aresults, aresult, hv.2 ⟨h2, h3⟩]
          exact trim_plain hd rfl
        · repeat' (first | refine Wp.seq ?_ | refine Wp.block ?_ | (apply Wp.region; focus ((try simp [setArgs, h1i, h6i, r1, r2, hbl, Int.not_lt.2 h2, Int.not_le.1 h3, hne]); rfl)) | (refine Wp.cond_t ?_ ?_; focus (simp [setArgs, h1i, h6i, r1, r2, hbl, Int.not_lt.2 h2, Int.not_le.1 h3, hne]; done)) | (refine Wp.cond_f ?_ ?_; focus (simp [setArgs, h1i, h6i, r1, r2, hbl, Int.not_lt.2 h2, Int.not_le.1 h3, hne]; done)) | refine Wp.skip ?_ | refine Wp.ret ?_ | refine Wp.exit ?_ | refine Blk.here ?_ | (refine Blk.past ?_ ?_; focus (simp; done)))
          refine ⟨rfl, ?_⟩
          simp [answer, aresults, aresult, show ¬ validP 1000000 zs from fun h => h3 (hv.1 h).2]
          exact trim_plain hd rfl
      · repeat' (first | refine Wp.seq ?_ | refine Wp.block ?_ | (apply Wp.region; focus ((try simp [setArgs, h1i, h6i, r1, r2, hbl, Int.not_le.1 h2, hne]); rfl)) | (refine Wp.cond_t ?_ ?_; focus (simp [setArgs, h1i, h6i, r1, r2, hbl, Int.not_le.1 h2, hne]; done)) | (refine Wp.cond_f ?_ ?_; focus (simp [setArgs, h1i, h6i, r1, r2, hbl, Int.not_le.1 h2, hne]; done)) | refine Wp.skip ?_ | refine Wp.ret ?_ | refine Wp.exit ?_ | refine Blk.here ?_ | (refine Blk.past ?_ ?_; focus (simp; done)))
        refine ⟨rfl, ?_⟩
        simp [answer, aresults, aresult, show ¬ validP 1000000 zs from fun h => h2 (hv.1 h).1]
        exact trim_plain hd rfl
    · have h6i : (6 : Int) < zs.length := by omega
      repeat' (first | refine Wp.seq ?_ | refine Wp.block ?_ | (apply Wp.region; focus ((try simp [setArgs, h1i, h6i, hbl, hne]); rfl)) | (refine Wp.cond_t ?_ ?_; focus (simp [setArgs, h1i, h6i, hbl, hne]; done)) | (refine Wp.cond_f ?_ ?_; focus (simp [setArgs, h1i, h6i, hbl, hne]; done)) | refine Wp.skip ?_ | refine Wp.ret ?_ | refine Wp.exit ?_ | refine Blk.here ?_ | (refine Blk.past ?_ ?_; focus (simp; done)))
      refine ⟨rfl, ?_⟩
      simp [answer, aresults, aresult, show ¬ validP 1000000 zs from fun h => h6 h.2.2]
      exact trim_plain hd rfl
  · have h1i : (zs.length : Int) < 1 := by omega
    have he : zs = [] := by cases zs with
      | nil => rfl
      | cons x r => exact absurd (by simp) h1
    subst he
    repeat' (first | refine Wp.seq ?_ | refine Wp.block ?_ | (apply Wp.region; focus ((try simp [setArgs, hbl]); rfl)) | (refine Wp.cond_t ?_ ?_; focus (simp [setArgs, hbl]; done)) | (refine Wp.cond_f ?_ ?_; focus (simp [setArgs, hbl]; done)) | refine Wp.skip ?_ | refine Wp.ret ?_ | refine Wp.exit ?_ | refine Blk.here ?_ | (refine Blk.past ?_ ?_; focus (simp; done)))
    refine ⟨rfl, ?_⟩
    simp [answer, aresults, aresult, show ¬ validP 1000000 [] from fun h => h1 h.2.1]
    exact trim_plain hd rfl

noncomputable def ids0 : Ids := ⟨27, 29, 30, [(59, 600), (91, 600), (87, 1000000), (52, 1000000)], none⟩

theorem body_of {k : FuncId} {fn : Func} (h : Try.prog.funcs[k]? = some fn) (hb : fn.body.isSome = true) : ∃ fn, Try.prog.funcs[k]? = some fn ∧ fn.body.isSome = true := ⟨fn, h, hb⟩

theorem ids0_ok : ids0.Ok Try.prog where
  body := by
    intro k hk
    simp only [ids0, List.map_cons, List.map_nil, List.mem_cons, List.not_mem_nil, or_false] at hk
    rcases hk with rfl | rfl | rfl | rfl | rfl | rfl | rfl
    · exact body_of Try.func27 rfl
    · exact body_of Try.func29 rfl
    · exact body_of Try.func30 rfl
    · exact body_of Try.func59 rfl
    · exact body_of Try.func91 rfl
    · exact body_of Try.func87 rfl
    · exact body_of Try.func52 rfl
  small := by
    intro e he
    simp only [ids0, List.mem_cons, List.not_mem_nil, or_false] at he
    rcases he with rfl | rfl | rfl | rfl <;> decide
  uok := by intro U h; cases h
  toInt := fun zs hl => ⟨1048577 + 1, by have := toIntS (nums zs) (by simpa using hl) 1048577 (by simp; omega); simp only [nums_length] at this; exact this⟩
  eqInt := fun zs hl => ⟨1048577 + 1, _, by have := eqIntS (nums zs) (by simpa using hl) 1048577 (by simp; omega); exact this⟩
  valid := by
    intro e he zs hl hw
    simp only [ids0, List.mem_cons, List.not_mem_nil, or_false] at he
    rcases he with rfl | rfl | rfl | rfl
    · exact valid_of_hand noCount mixed (specValidSeries zs hl 1048577 (by omega))
    · exact valid_of_runs noCount mixed (by decide) implValidSeries_runs implValidSeries_none implValidSeries_more zs hw
    · exact valid_of_hand noCount mixed (specValidPoly zs hl 1048577 (by omega))
    · exact valid_of_hand noCount mixed (implValidPoly zs hl ⟨0, [], 0⟩ trivial (Nat.le_refl _) 1048577 (by omega))
  validE := by
    intro e he
    simp only [ids0, List.mem_cons, List.not_mem_nil, or_false] at he
    rcases he with rfl | rfl | rfl | rfl
    · exact ⟨60, _, (by kernel_rfl : symRun Try.prog noK [] 60 59 [.emp] ⟨0, [], 0⟩ = some (.bool false, ⟨0, [], 0⟩))⟩
    · exact ⟨60, _, (by kernel_rfl : symRun Try.prog noK [] 60 91 [.emp] ⟨0, [], 0⟩ = some (.bool false, ⟨0, [], 0⟩))⟩
    · exact ⟨60, _, (by kernel_rfl : symRun Try.prog noK [] 60 87 [.emp] ⟨0, [], 0⟩ = some (.bool false, ⟨0, [], 0⟩))⟩
    · exact ⟨60, _, (by kernel_rfl : symRun Try.prog noK [] 60 52 [.emp] ⟨0, [], 0⟩ = some (.bool false, ⟨0, [], 0⟩))⟩
  mark := fun zs x sto o h1 hl hd hlk => by
    obtain ⟨ys, h⟩ := markIntS zs x h1 hl sto hd o hlk 1048577 (by omega)
    exact ⟨_, ys, h⟩

set_option maxRecDepth 100000 in
theorem unit1 : isB true (symRun Try.prog noK [] 60 74 [.int .i64 (.c 1)] ⟨0, [], 0⟩) = true := by kernel_rfl
set_option maxRecDepth 100000 in
theorem unit2 : isB true (symRun Try.prog noK [] 60 74 [.int .i64 (.c (-1))] ⟨0, [], 0⟩) = true := by kernel_rfl
set_option maxRecDepth 100000 in
theorem unit3 : isB false (symRun Try.prog noK [⟨false, vx 0, .c 1, false⟩, ⟨false, vx 0, .c (-1), false⟩] 60 74 [.int .i64 (vx 0)] ⟨0, [], 0⟩) = true := by kernel_rfl
set_option maxRecDepth 100000 in
theorem begins_runs : allTo (fun i => beginsRuns Try.prog ids0 60 55 (i + 1)) 6 = true := by kernel_rfl
noncomputable def ids : Ids := ⟨27, 29, 30, [(59, 600), (91, 600), (87, 1000000), (52, 1000000)], some ⟨74, 55⟩⟩
theorem ids_ok : ids.Ok Try.prog :=
  ⟨ids0_ok.body, ids0_ok.small, fun U h => by
    cases h
    exact ⟨fun k hk => by
      rcases hk with rfl | rfl
      · exact body_of Try.func74 rfl
      · exact body_of Try.func55 rfl, unit_of_runs noCount mixed unit1 unit2 unit3, begins_of_runs noCount mixed ids0_ok begins_runs⟩,
    ids0_ok.toInt, ids0_ok.eqInt, ids0_ok.valid, ids0_ok.validE, ids0_ok.mark⟩
end Go.Proofs.Ytbjjlimncodmkaa.Ids

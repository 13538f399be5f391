/-
  The functions of this seat that copy, compare, mark and test lists, each by a run over lists of any length. No condition.
-/
import Derived.Test.YtgaodlhdilhliaaDoorRows
import Derived.Test.YtgaodlhdilhliaaDoorSym
import Derived.Test.YtgaodlhdilhliaaDoorSymE
import Derived.WalkKit
import Derived.ProofKit
import Derived.OpenShut
namespace Go.Proofs.YtgaodlhdilhliaaDoor.Ids
open Go.ChangeShapes Go.WideShapes Go.ChangeAt Go.RowKit Go.Sx
set_option linter.unusedVariables false
set_option linter.unusedSimpArgs false

theorem tiS : tiOf Tryd.prog 23 = some ⟨.slice 3, 1, 24, .slice none 0 0, true⟩ := by kernel_rfl
theorem tiI : tiOf Tryd.prog 3 = some ⟨.int .i64, 1, 8, .int .i64 0, true⟩ := by kernel_rfl
theorem tiB : tiOf Tryd.prog 4 = some ⟨.bool, 1, 1, .bool false, true⟩ := by kernel_rfl
theorem noCount : NoCount Tryd.prog := noCount_of (by kernel_rfl)
theorem mixed : Tryd.prog.follows .mixedOrders = true := by kernel_rfl

attribute [local simp] aops wants aop apure St.eval setTm_some Tr.get_set aload evals apureB alen tiS tiI tiB abin aint isCmp sym_lt sym_eqs sym_neqs sym_eq sym_neq sym_gtr sym_leq sym_geq sym_add aeff amakeSlice idx? ofV aindexAddr astore look_cons aggDesc Sto.new setTm_none acallV_func symIn_run aifc_int aun Go.Sx.ints_set Go.Sx.ints_replicate noBc_ints

set_option maxRecDepth 10000 in
theorem toIntS (ns : List Sy) (hl : ns.length ≤ 1048576) (m : Nat) (hm : ns.length < m)  :
    symRun Tryd.prog noK [] (m + 1) 15 [.slice (ints ns)] ⟨0, [], 0⟩ = some (.rsl 0 0 ns.length (some ns.length), ⟨1, [(0, ints ns)], 0⟩) := by
  have hb : (24 : Int) * (ns.length : Int) ≤ 140737488355328 ∧ (8 : Int) * (ns.length : Int) ≤ 140737488355328 ∧ (ns.length : Int) ≤ 9223372036854775807 := by omega
  have hlen : ns.length = (List.replicate ns.length (Sy.c 0)).length := by simp
  refine own_run rfl Tryd.func15 rfl rfl ?_
  simp only [Tryd.f15]
  repeat' (first | refine Wp.seq ?_ | refine Wp.block ?_ | (apply Wp.region; focus ((try simp [setArgs, hb.2.1, hb.2.2]) <;> rfl)) | (refine Wp.cond_t ?_ ?_; focus (simp [setArgs, hb.2.1, hb.2.2]; done)) | (refine Wp.cond_f ?_ ?_; focus (simp [setArgs, hb.2.1, hb.2.2]; done)) | refine Wp.skip ?_ | refine Wp.ret ?_ | refine Wp.exit ?_ | refine Blk.here ?_ | (refine Blk.past ?_ ?_; focus (simp; done)))
  refine Wp.loop rfl rfl (fun i st => st.tm.get .any 0 = .slice (ints ns) ∧ st.tm.get .any 3 = .rsl 0 0 ns.length (some ns.length) ∧ st.tm.get .any 4 = .int .i64 (.c i) ∧
    st.sto = ⟨1, [(0, ints (half i ns (List.replicate ns.length (.c 0))))], 0⟩) ns.length hm ?_ ?_ ?_
  · simp [setArgs, half_zero]
  · rintro f i ⟨tm, S⟩ hi ⟨h0, h3, h4, rfl⟩
    simp only at h0 h3 h4
    have hlt : (i : Int) < ns.length := by omega
    have hxi : ns[i]? = some ns[i] := List.getElem?_eq_getElem hi
    have hw := wrap_in (a := (i : Int) + 1) (by omega) (by omega)
    repeat' (first | refine Wp.seq ?_ | refine Wp.block ?_ | (apply Wp.region; focus ((try simp [h0, h3, h4, hlt, hxi, hi, Nat.succ_le_of_lt hi, half_set, ← hlen, hw]) <;> rfl)) | (refine Wp.cond_t ?_ ?_; focus (simp [h0, h3, h4, hlt, hxi, hi, Nat.succ_le_of_lt hi, half_set, ← hlen, hw]; done)) | (refine Wp.cond_f ?_ ?_; focus (simp [h0, h3, h4, hlt, hxi, hi, Nat.succ_le_of_lt hi, half_set, ← hlen, hw]; done)) | refine Wp.skip ?_ | refine Wp.ret ?_ | refine Wp.exit ?_ | refine Blk.here ?_ | (refine Blk.past ?_ ?_; focus (simp; done)))
    simp [h0, h3, Sto.write, put]
  · rintro f ⟨tm, S⟩ ⟨h0, h3, h4, rfl⟩
    simp only at h0 h3 h4
    repeat' (first | refine Wp.seq ?_ | refine Wp.block ?_ | (apply Wp.region; focus ((try simp [h0, h3, h4]) <;> rfl)) | (refine Wp.cond_t ?_ ?_; focus (simp [h0, h3, h4]; done)) | (refine Wp.cond_f ?_ ?_; focus (simp [h0, h3, h4]; done)) | refine Wp.skip ?_ | refine Wp.ret ?_ | refine Wp.exit ?_ | refine Blk.here ?_ | (refine Blk.past ?_ ?_; focus (simp; done)))
    refine ⟨rfl, ?_⟩
    have := trim_ints (ns := ns) (len := ns.length) (cap := some ns.length) (sto := ⟨0, [], 0⟩) trivial (Nat.le_refl _)
    simp only at this
    simp [answer, aresults, aresult, half_all]
    exact this

set_option maxRecDepth 10000 in
theorem eqIntS (ns : List Sy) (hl : ns.length ≤ 1048576) (m : Nat) (hm : ns.length < m)  :
    symRun Tryd.prog noK [] (m + 1) 16 [.slice (ints ns), .slice (ints ns)] ⟨0, [], 0⟩ = some (.bool true, ⟨0, [], 0⟩) := by
  refine own_run rfl Tryd.func16 rfl rfl ?_
  simp only [Tryd.f16]
  repeat' (first | refine Wp.seq ?_ | refine Wp.block ?_ | (apply Wp.region; focus ((try simp [setArgs]) <;> rfl)) | (refine Wp.cond_t ?_ ?_; focus (simp [setArgs]; done)) | (refine Wp.cond_f ?_ ?_; focus (simp [setArgs]; done)) | refine Wp.skip ?_ | refine Wp.ret ?_ | refine Wp.exit ?_ | refine Blk.here ?_ | (refine Blk.past ?_ ?_; focus (simp; done)))
  refine Wp.loop rfl rfl (fun i st => st.tm.get .any 0 = .slice (ints ns) ∧ st.tm.get .any 1 = .slice (ints ns) ∧ st.tm.get .any 5 = .int .i64 (.c i) ∧ st.sto = ⟨0, [], 0⟩) ns.length hm ?_ ?_ ?_
  · simp [setArgs]
  · rintro f i ⟨tm, S⟩ hi ⟨h0, h1, h5, rfl⟩
    simp only at h0 h1 h5
    have hlt : (i : Int) < ns.length := by omega
    have hxi : ns[i]? = some ns[i] := List.getElem?_eq_getElem hi
    have hw := wrap_in (a := (i : Int) + 1) (by omega) (by omega)
    repeat' (first | refine Wp.seq ?_ | refine Wp.block ?_ | (apply Wp.region; focus ((try simp [h0, h1, h5, hlt, hxi, hi, hw]) <;> rfl)) | (refine Wp.cond_t ?_ ?_; focus (simp [h0, h1, h5, hlt, hxi, hi, hw]; done)) | (refine Wp.cond_f ?_ ?_; focus (simp [h0, h1, h5, hlt, hxi, hi, hw]; done)) | refine Wp.skip ?_ | refine Wp.ret ?_ | refine Wp.exit ?_ | refine Blk.here ?_ | (refine Blk.past ?_ ?_; focus (simp; done)))
    (apply Wp.drawn2 8; (focus kernel_rfl); (focus kernel_rfl); (focus intro F; simp [dhead, seenBy, keepOnly, looks, joinN, addN, bite_eq, Op.operands, takeNew, h0, h1, h5, hlt, hxi, hi]; exact ⟨rfl, rfl, rfl⟩); (focus (try simp [allN, takeNew, h0, h1, h5, hlt, hxi, hi]) <;> rfl))
    repeat' (first | refine Wp.seq ?_ | refine Wp.block ?_ | (apply Wp.region; focus ((try simp [h0, h1, h5, hw]) <;> rfl)) | (refine Wp.cond_t ?_ ?_; focus (simp [h0, h1, h5, hw]; done)) | (refine Wp.cond_f ?_ ?_; focus (simp [h0, h1, h5, hw]; done)) | refine Wp.skip ?_ | refine Wp.ret ?_ | refine Wp.exit ?_ | refine Blk.here ?_ | (refine Blk.past ?_ ?_; focus (simp; done)))
    simp [h0, h1]
  · rintro f ⟨tm, S⟩ ⟨h0, h1, h5, rfl⟩
    simp only at h0 h1 h5
    repeat' (first | refine Wp.seq ?_ | refine Wp.block ?_ | (apply Wp.region; focus ((try simp [h0, h1, h5]) <;> rfl)) | (refine Wp.cond_t ?_ ?_; focus (simp [h0, h1, h5]; done)) | (refine Wp.cond_f ?_ ?_; focus (simp [h0, h1, h5]; done)) | refine Wp.skip ?_ | refine Wp.ret ?_ | refine Wp.exit ?_ | refine Blk.here ?_ | (refine Blk.past ?_ ?_; focus (simp; done)))
    refine ⟨rfl, ?_⟩
    simp [answer, aresults, aresult, Sto.trim, V.refs, dropNew]

set_option maxRecDepth 10000 in
theorem equalInts (ns : List Sy) (hl : ns.length ≤ 1048576) (m : Nat) (hm : ns.length < m)  :
    symRun Tryd.prog noK [] (m + 1) 11 [.slice (ints ns), .slice (ints ns)] ⟨0, [], 0⟩ = some (.bool true, ⟨0, [], 0⟩) := by
  refine own_run rfl Tryd.func11 rfl rfl ?_
  simp only [Tryd.f11]
  repeat' (first | refine Wp.seq ?_ | refine Wp.block ?_ | (apply Wp.region; focus ((try simp [setArgs]) <;> rfl)) | (refine Wp.cond_t ?_ ?_; focus (simp [setArgs]; done)) | (refine Wp.cond_f ?_ ?_; focus (simp [setArgs]; done)) | refine Wp.skip ?_ | refine Wp.ret ?_ | refine Wp.exit ?_ | refine Blk.here ?_ | (refine Blk.past ?_ ?_; focus (simp; done)))
  refine Wp.loop rfl rfl (fun i st => st.tm.get .any 0 = .slice (ints ns) ∧ st.tm.get .any 1 = .slice (ints ns) ∧ st.tm.get .any 5 = .int .i64 (.c i) ∧ st.sto = ⟨0, [], 0⟩) ns.length hm ?_ ?_ ?_
  · simp [setArgs]
  · rintro f i ⟨tm, S⟩ hi ⟨h0, h1, h5, rfl⟩
    simp only at h0 h1 h5
    have hlt : (i : Int) < ns.length := by omega
    have hxi : ns[i]? = some ns[i] := List.getElem?_eq_getElem hi
    have hw := wrap_in (a := (i : Int) + 1) (by omega) (by omega)
    repeat' (first | refine Wp.seq ?_ | refine Wp.block ?_ | (apply Wp.region; focus ((try simp [h0, h1, h5, hlt, hxi, hi, hw]) <;> rfl)) | (refine Wp.cond_t ?_ ?_; focus (simp [h0, h1, h5, hlt, hxi, hi, hw]; done)) | (refine Wp.cond_f ?_ ?_; focus (simp [h0, h1, h5, hlt, hxi, hi, hw]; done)) | refine Wp.skip ?_ | refine Wp.ret ?_ | refine Wp.exit ?_ | refine Blk.here ?_ | (refine Blk.past ?_ ?_; focus (simp; done)))
    (apply Wp.drawn2 8; (focus kernel_rfl); (focus kernel_rfl); (focus intro F; simp [dhead, seenBy, keepOnly, looks, joinN, addN, bite_eq, Op.operands, takeNew, h0, h1, h5, hlt, hxi, hi]; exact ⟨rfl, rfl, rfl⟩); (focus (try simp [allN, takeNew, h0, h1, h5, hlt, hxi, hi]) <;> rfl))
    repeat' (first | refine Wp.seq ?_ | refine Wp.block ?_ | (apply Wp.region; focus ((try simp [h0, h1, h5, hw]) <;> rfl)) | (refine Wp.cond_t ?_ ?_; focus (simp [h0, h1, h5, hw]; done)) | (refine Wp.cond_f ?_ ?_; focus (simp [h0, h1, h5, hw]; done)) | refine Wp.skip ?_ | refine Wp.ret ?_ | refine Wp.exit ?_ | refine Blk.here ?_ | (refine Blk.past ?_ ?_; focus (simp; done)))
    simp [h0, h1]
  · rintro f ⟨tm, S⟩ ⟨h0, h1, h5, rfl⟩
    simp only at h0 h1 h5
    repeat' (first | refine Wp.seq ?_ | refine Wp.block ?_ | (apply Wp.region; focus ((try simp [h0, h1, h5]) <;> rfl)) | (refine Wp.cond_t ?_ ?_; focus (simp [h0, h1, h5]; done)) | (refine Wp.cond_f ?_ ?_; focus (simp [h0, h1, h5]; done)) | refine Wp.skip ?_ | refine Wp.ret ?_ | refine Wp.exit ?_ | refine Blk.here ?_ | (refine Blk.past ?_ ?_; focus (simp; done)))
    refine ⟨rfl, ?_⟩
    simp [answer, aresults, aresult, Sto.trim, V.refs, dropNew]

set_option maxRecDepth 10000 in
theorem markIntS (zs : List Int) (x : Int) (h1 : 1 ≤ zs.length) (hl : zs.length ≤ 1048576) (sto : Sto Sy) (cap : Nat) (hd : Desc sto.next sto.obs) (o : Nat) (hlk : Go.Sx.look sto.obs o = some (ints (nums zs))) (m : Nat) (hm : zs.length < m) :
    ∃ ys, symRun Tryd.prog noK [] (m + 1) 17 [.rsl o 0 zs.length (some cap), .int .i64 (.c x)] sto = some (.int .i64 (.c (IntKind.i64.wrap (x + zs.length))), ⟨sto.next, put sto.obs o ys, if Nat.blt o sto.low then o else sto.low⟩) := by
  have main : ∃ r, symRun Tryd.prog noK [] (m + 1) 17 [.rsl o 0 zs.length (some cap), .int .i64 (.c x)] sto = some r ∧ ∃ ys, r = (.int .i64 (.c (IntKind.i64.wrap (x + zs.length))), ⟨sto.next, put sto.obs o ys, if Nat.blt o sto.low then o else sto.low⟩) := by
    refine own_run2 rfl Tryd.func17 rfl rfl ?_
    simp only [Tryd.f17]
    repeat' (first | refine Wp.seq ?_ | refine Wp.block ?_ | (apply Wp.region; focus ((try simp [setArgs]) <;> rfl)) | (refine Wp.cond_t ?_ ?_; focus (simp [setArgs]; done)) | (refine Wp.cond_f ?_ ?_; focus (simp [setArgs]; done)) | refine Wp.skip ?_ | refine Wp.ret ?_ | refine Wp.exit ?_ | refine Blk.here ?_ | (refine Blk.past ?_ ?_; focus (simp; done)))
    refine Wp.loop rfl rfl (fun i st => st.tm.get .any 0 = .rsl o 0 zs.length (some cap) ∧ st.tm.get .any 5 = .int .i64 (.c i) ∧ st.tm.get .any 1 = .int .i64 (.c (kk x i)) ∧
      ∃ ys : List (V Sy), ys.length = zs.length ∧ Go.Sx.look st.sto.obs o = some ys ∧ isMp ys = false ∧ st.sto = ⟨sto.next, put sto.obs o ys, if i = 0 then sto.low else if Nat.blt o sto.low then o else sto.low⟩) zs.length hm ?_ ?_ ?_
    · refine ⟨by simp [setArgs], by simp [setArgs], by simp [setArgs, kk], ints (nums zs), by simp, hlk, isMp_ints _, ?_⟩
      simp [put_self hlk]
    · rintro f i ⟨tm, S⟩ hi ⟨h0, h5, hk, ys, hy1, hy2, hym, hS⟩
      simp only at h0 h5 hk hy2 hS
      have hlt : (i : Int) < zs.length := by omega
      have hw := wrap_in (a := (i : Int) + 1) (by omega) (by omega)
      have hi' : i + 1 ≤ ys.length := by omega
      repeat' (first | refine Wp.seq ?_ | refine Wp.block ?_ | (apply Wp.region; focus ((try simp [h0, h5, hk, hlt, hy2, hym, hi', hw, V.cells, V.oneCell]) <;> rfl)) | (refine Wp.cond_t ?_ ?_; focus (simp [h0, h5, hk, hlt, hy2, hym, hi', hw, V.cells, V.oneCell]; done)) | (refine Wp.cond_f ?_ ?_; focus (simp [h0, h5, hk, hlt, hy2, hym, hi', hw, V.cells, V.oneCell]; done)) | refine Wp.skip ?_ | refine Wp.ret ?_ | refine Wp.exit ?_ | refine Blk.here ?_ | (refine Blk.past ?_ ?_; focus (simp; done)))
      refine ⟨by simp [h0], by simp, by simp [kk], noBc (ys.set i (.int .i64 (.c (kk x i)))), by rw [noBc_len, List.length_set]; exact hy1, ?_, noBc_isMp _, ?_⟩
      · simp only [Sto.write]; exact look_put_self hy2
      · subst hS
        simp only [Sto.write, put_put]
        simp
        by_cases hi0 : i = 0
        · simp [hi0]
        · have := low_low o sto.low
          simp only [Nat.blt_eq] at this
          simp only [hi0, if_false]; exact this
    · rintro f ⟨tm, S⟩ ⟨h0, h5, hk, ys, hy1, hy2, hym, hS⟩
      simp only at h0 h5 hk hy2 hS
      subst hS
      repeat' (first | refine Wp.seq ?_ | refine Wp.block ?_ | (apply Wp.region; focus ((try simp [h0, h5, hk]) <;> rfl)) | (refine Wp.cond_t ?_ ?_; focus (simp [h0, h5, hk]; done)) | (refine Wp.cond_f ?_ ?_; focus (simp [h0, h5, hk]; done)) | refine Wp.skip ?_ | refine Wp.ret ?_ | refine Wp.exit ?_ | refine Blk.here ?_ | (refine Blk.past ?_ ?_; focus (simp; done)))
      have hn : zs ≠ [] := fun e => by rw [e] at h1; exact absurd h1 (by decide)
      refine ⟨rfl, (.int .i64 (.c (IntKind.i64.wrap (x + zs.length))), ⟨sto.next, put sto.obs o ys, if Nat.blt o sto.low then o else sto.low⟩), ?_, ys, rfl⟩
      have ht := trim_plain (sto := ⟨sto.next, put sto.obs o ys, if Nat.blt o sto.low then o else sto.low⟩) (r := .int .i64 (.c (IntKind.i64.wrap (x + zs.length)))) (hd.put o ys) rfl

      simp [answer, aresults, aresult, kk_succ x _ h1, hn]
      simpa using ht
  obtain ⟨r, hr, ys, rfl⟩ := main
  exact ⟨ys, hr⟩

theorem inRange (x lo hi : Int) (sto : Sto Sy) (hd : Desc sto.next sto.obs) (m : Nat) :
    symRun Tryd.prog noK [] (m + 1) 35 [.int .i64 (.c x), .int .i64 (.c lo), .int .i64 (.c hi)] sto = some (.bool (decide (lo ≤ x ∧ x ≤ hi)), sto) := by
  refine own_run rfl Tryd.func35 rfl rfl ?_
  simp only [Tryd.f35]
  by_cases h1 : lo ≤ x
  · by_cases h2 : x ≤ hi
    · repeat' (first | refine Wp.seq ?_ | refine Wp.block ?_ | (apply Wp.region; focus ((try simp [setArgs, Int.not_lt.2 h1, Int.not_lt.2 h2]) <;> rfl)) | (refine Wp.cond_t ?_ ?_; focus (simp [setArgs, Int.not_lt.2 h1, Int.not_lt.2 h2]; done)) | (refine Wp.cond_f ?_ ?_; focus (simp [setArgs, Int.not_lt.2 h1, Int.not_lt.2 h2]; done)) | refine Wp.skip ?_ | refine Wp.ret ?_ | refine Wp.exit ?_ | refine Blk.here ?_ | (refine Blk.past ?_ ?_; focus (simp; done)))
      refine ⟨rfl, ?_⟩
      simp [answer, aresults, aresult, h1, h2]
      exact trim_plain hd rfl
    · repeat' (first | refine Wp.seq ?_ | refine Wp.block ?_ | (apply Wp.region; focus ((try simp [setArgs, Int.not_lt.2 h1, Int.not_le.1 h2]) <;> rfl)) | (refine Wp.cond_t ?_ ?_; focus (simp [setArgs, Int.not_lt.2 h1, Int.not_le.1 h2]; done)) | (refine Wp.cond_f ?_ ?_; focus (simp [setArgs, Int.not_lt.2 h1, Int.not_le.1 h2]; done)) | refine Wp.skip ?_ | refine Wp.ret ?_ | refine Wp.exit ?_ | refine Blk.here ?_ | (refine Blk.past ?_ ?_; focus (simp; done)))
      refine ⟨rfl, ?_⟩
      simp [answer, aresults, aresult, h1, h2]
      exact trim_plain hd rfl
  · repeat' (first | refine Wp.seq ?_ | refine Wp.block ?_ | (apply Wp.region; focus ((try simp [setArgs, Int.not_le.1 h1]) <;> rfl)) | (refine Wp.cond_t ?_ ?_; focus (simp [setArgs, Int.not_le.1 h1]; done)) | (refine Wp.cond_f ?_ ?_; focus (simp [setArgs, Int.not_le.1 h1]; done)) | refine Wp.skip ?_ | refine Wp.ret ?_ | refine Wp.exit ?_ | refine Blk.here ?_ | (refine Blk.past ?_ ?_; focus (simp; done)))
    refine ⟨rfl, ?_⟩
    simp [answer, aresults, aresult, h1]
    exact trim_plain hd rfl

set_option maxRecDepth 10000 in
theorem specValidSeries (zs : List Int) (hl : zs.length ≤ 1048576) (m : Nat) (hm : zs.length < m) :
    symRun Tryd.prog noK [] (m + 2) 22 [.slice (ints (nums zs))] ⟨0, [], 0⟩ = some (.bool (decide (validP 600 zs)), ⟨0, [], 0⟩) := by
  refine own_run rfl Tryd.func22 rfl rfl ?_
  simp only [Tryd.f22]
  have hr := fun x lo hi => inRange x lo hi ⟨0, [], 0⟩ trivial m
  repeat' (first | refine Wp.seq ?_ | refine Wp.block ?_ | (apply Wp.region; focus ((try simp [setArgs]) <;> rfl)) | (refine Wp.cond_t ?_ ?_; focus (simp [setArgs]; done)) | (refine Wp.cond_f ?_ ?_; focus (simp [setArgs]; done)) | refine Wp.skip ?_ | refine Wp.ret ?_ | refine Wp.exit ?_ | refine Blk.here ?_ | (refine Blk.past ?_ ?_; focus (simp; done)))
  refine Wp.loop rfl rfl (fun i st => st.tm.get .any 0 = .slice (ints (nums zs)) ∧ st.tm.get .any 3 = .int .i64 (.c i) ∧ st.sto = ⟨0, [], 0⟩ ∧ ∀ j (h : j < zs.length), j < i → -600 ≤ zs[j] ∧ zs[j] ≤ 600) zs.length (by omega) ?_ ?_ ?_
  · simp [setArgs]
  · rintro f i ⟨tm, S⟩ hi ⟨h0, h3, rfl, hall⟩
    simp only at h0 h3
    have hlt : (i : Int) < zs.length := by omega
    have hxi : zs[i]? = some zs[i] := List.getElem?_eq_getElem hi
    have hw := wrap_in (a := (i : Int) + 1) (by omega) (by omega)
    by_cases hok : -600 ≤ zs[i] ∧ zs[i] ≤ 600
    · repeat' (first | refine Wp.seq ?_ | refine Wp.block ?_ | (apply Wp.region; focus ((try simp [h0, h3, hlt, hxi, hi, hw, hr, hok, Nat.blt]) <;> rfl)) | (refine Wp.cond_t ?_ ?_; focus (simp [h0, h3, hlt, hxi, hi, hw, hr, hok, Nat.blt]; done)) | (refine Wp.cond_f ?_ ?_; focus (simp [h0, h3, hlt, hxi, hi, hw, hr, hok, Nat.blt]; done)) | refine Wp.skip ?_ | refine Wp.ret ?_ | refine Wp.exit ?_ | refine Blk.here ?_ | (refine Blk.past ?_ ?_; focus (simp; done)))
      refine ⟨by simp [h0], by simp, rfl, fun j h hj => ?_⟩
      rcases Nat.lt_succ_iff_lt_or_eq.1 hj with h1 | rfl
      · exact hall j h h1
      · exact hok
    · repeat' (first | refine Wp.seq ?_ | refine Wp.block ?_ | (apply Wp.region; focus ((try simp [h0, h3, hlt, hxi, hi, hw, hr, hok, Nat.blt]) <;> rfl)) | (refine Wp.cond_t ?_ ?_; focus (simp [h0, h3, hlt, hxi, hi, hw, hr, hok, Nat.blt]; done)) | (refine Wp.cond_f ?_ ?_; focus (simp [h0, h3, hlt, hxi, hi, hw, hr, hok, Nat.blt]; done)) | refine Wp.skip ?_ | refine Wp.ret ?_ | refine Wp.exit ?_ | refine Blk.here ?_ | (refine Blk.past ?_ ?_; focus (simp; done)))
      refine ⟨rfl, ?_⟩
      have hno : ¬ validP 600 zs := fun h => hok (h.1 _ (List.getElem_mem hi))
      simp [answer, aresults, aresult, hno, Sto.trim, V.refs, dropNew]
  · rintro f ⟨tm, S⟩ ⟨h0, h3, rfl, hall⟩
    simp only at h0 h3
    repeat' (first | refine Wp.seq ?_ | refine Wp.block ?_ | (apply Wp.region; focus ((try simp [h0, h3, hr, Nat.blt]) <;> rfl)) | (refine Wp.cond_t ?_ ?_; focus (simp [h0, h3, hr, Nat.blt]; done)) | (refine Wp.cond_f ?_ ?_; focus (simp [h0, h3, hr, Nat.blt]; done)) | refine Wp.skip ?_ | refine Wp.ret ?_ | refine Wp.exit ?_ | refine Blk.here ?_ | (refine Blk.past ?_ ?_; focus (simp; done)))
    refine ⟨rfl, ?_⟩
    have hv : (decide ((1 : Int) ≤ zs.length ∧ (zs.length : Int) ≤ 6)) = decide (validP 600 zs) := by
      have : ((1 : Int) ≤ zs.length ∧ (zs.length : Int) ≤ 6) ↔ validP 600 zs := ⟨fun h => ⟨fun z hz => by obtain ⟨j, hj, rfl⟩ := List.mem_iff_getElem.1 hz; exact hall j hj hj, by omega, by omega⟩, fun h => ⟨by have := h.2.1; omega, by have := h.2.2; omega⟩⟩
      simp only [this]
    simp [answer, aresults, aresult, ← hv, Sto.trim, V.refs, dropNew]

set_option maxRecDepth 100000 in
theorem implValidSeries_runs : allTo (fun i => validRuns Tryd.prog 600 60 14 (i + 1)) 6 = true := by kernel_rfl
set_option maxRecDepth 100000 in
theorem implValidSeries_none : isB false (symRun Tryd.prog noK [] 60 14 [.slice (ints (nums []))] ⟨0, [], 0⟩) = true := by kernel_rfl
set_option maxRecDepth 100000 in
theorem implValidSeries_more (a b c d e f g : Int) (r : List Int) : isB false (symRun Tryd.prog noK [] 60 14 [.slice (ints (nums (a :: b :: c :: d :: e :: f :: g :: r)))] ⟨0, [], 0⟩) = true := by kernel_rfl

set_option maxRecDepth 10000 in

theorem body_of {k : FuncId} {fn : Func} (h : Tryd.prog.funcs[k]? = some fn) (hb : fn.body.isSome = true) : ∃ fn, Tryd.prog.funcs[k]? = some fn ∧ fn.body.isSome = true := ⟨fn, h, hb⟩
theorem toIntS_nil : symRun Tryd.prog noK [] 60 15 [.emp] ⟨0, [], 0⟩ = some (.rsl 0 0 0 (some 0), ⟨1, [(0, [])], 0⟩) := by kernel_rfl
theorem eqIntS_nil : symRun Tryd.prog noK [] 60 16 [.emp, .emp] ⟨0, [], 0⟩ = some (.bool true, ⟨0, [], 0⟩) := by kernel_rfl
theorem specValidSeries_nil : symRun Tryd.prog noK [] 60 22 [.emp] ⟨0, [], 0⟩ = some (.bool false, ⟨0, [], 0⟩) := by kernel_rfl
theorem implValidSeries_nil : symRun Tryd.prog noK [] 60 14 [.emp] ⟨0, [], 0⟩ = some (.bool false, ⟨0, [], 0⟩) := by kernel_rfl
theorem copy_ok (zs : List Int) (hl : zs.length ≤ 1048576) : OneOk Tryd.prog 15 [patL zs] zs := by
  cases zs with
  | nil => exact oneOk_run (q := 0) toIntS_nil ⟨⟨some 0, rfl, .inr rfl⟩, rfl⟩
  | cons z r =>
    have h := toIntS (nums (z :: r)) (by simpa using hl) ((z :: r).length + 1) (by simp)
    have e : (nums (z :: r)).length = (z :: r).length := by simp
    rw [e] at h
    exact oneOk_run (q := 0) h ⟨⟨_, rfl, .inr rfl⟩, rfl⟩
theorem same_ok (zs : List Int) (hl : zs.length ≤ 1048576) : ∃ n S, symRun Tryd.prog noK [] n 16 [patL zs, patL zs] ⟨0, [], 0⟩ = some (.bool true, S) := by
  cases zs with
  | nil => exact ⟨_, _, eqIntS_nil⟩
  | cons z r => exact ⟨_, _, eqIntS (nums (z :: r)) (by simpa using hl) ((z :: r).length + 1) (by simp)⟩
theorem equalInts_nil : symRun Tryd.prog noK [] 60 11 [.emp, .emp] ⟨0, [], 0⟩ = some (.bool true, ⟨0, [], 0⟩) := by kernel_rfl
theorem equal_ok (zs : List Int) (hl : zs.length ≤ 1048576) : ∃ n S, symRun Tryd.prog noK [] n 11 [patL zs, patL zs] ⟨0, [], 0⟩ = some (.bool true, S) := by
  cases zs with
  | nil => exact ⟨_, _, equalInts_nil⟩
  | cons z r => exact ⟨_, _, equalInts (nums (z :: r)) (by simpa using hl) ((z :: r).length + 1) (by simp)⟩
theorem sv_ok (zs : List Int) (hl : zs.length ≤ 1048576) : ∃ (K : Ctr) (n : Nat) (S : Sto Sy), (∀ (ρ : Nat → Int) (s : Sms) (B : Nat), COk Tryd.prog ⟨Sy.den ρ, s⟩ B K) ∧ symRun Tryd.prog K [] n 22 [patL zs] ⟨0, [], 0⟩ = some (.bool (decide (validP 600 zs)), S) := by
  cases zs with
  | nil => exact ⟨noK, _, _, fun _ _ _ => noK_ok, specValidSeries_nil⟩
  | cons z r => exact ⟨noK, _, _, fun _ _ _ => noK_ok, specValidSeries (z :: r) hl ((z :: r).length + 1) (by simp)⟩
end Go.Proofs.YtgaodlhdilhliaaDoor.Ids

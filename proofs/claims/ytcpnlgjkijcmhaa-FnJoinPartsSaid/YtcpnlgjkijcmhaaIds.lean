/-
  The functions of this seat that copy, compare, mark and test lists, each by a run over lists of any length. No condition.
-/
import Derived.Test.YtcpnlgjkijcmhaaRows
import Derived.Test.YtcpnlgjkijcmhaaSym
import Derived.WalkKit
import Derived.ProofKit
import Derived.OpenShut
namespace Go.Proofs.Ytcpnlgjkijcmhaa.Ids
open Go.ChangeShapes Go.WideShapes Go.ChangeAt Go.RowKit Go.Sx
set_option linter.unusedVariables false
set_option linter.unusedSimpArgs false

theorem tiS : tiOf Try.prog 23 = some ⟨.slice 3, 1, 24, .slice none 0 0, true⟩ := by kernel_rfl
theorem tiI : tiOf Try.prog 3 = some ⟨.int .i64, 1, 8, .int .i64 0, true⟩ := by kernel_rfl
theorem tiB : tiOf Try.prog 4 = some ⟨.bool, 1, 1, .bool false, true⟩ := by kernel_rfl
theorem noCount : NoCount Try.prog := noCount_of (by kernel_rfl)
theorem mixed : Try.prog.follows .mixedOrders = true := by kernel_rfl

attribute [local simp] aops wants aop apure St.eval setTm_some Tr.get_set aload evals apureB alen tiS tiI tiB abin aint isCmp sym_lt sym_eqs sym_neqs sym_eq sym_neq sym_gtr sym_leq sym_geq sym_add aeff amakeSlice idx? ofV aindexAddr astore look_cons aggDesc Sto.new setTm_none acallV_func symIn_run aifc_int aun Go.Sx.ints_set Go.Sx.ints_replicate noBc_ints

set_option maxRecDepth 10000 in
theorem toIntS (ns : List Sy) (hl : ns.length ≤ 1048576) (m : Nat) (hm : ns.length < m)  :
    symRun Try.prog noK [] (m + 1) 25 [.slice (ints ns)] ⟨0, [], 0⟩ = some (.rsl 0 0 ns.length (some ns.length), ⟨1, [(0, ints ns)], 0⟩) := by
  have hb : (24 : Int) * (ns.length : Int) ≤ 140737488355328 ∧ (8 : Int) * (ns.length : Int) ≤ 140737488355328 ∧ (ns.length : Int) ≤ 9223372036854775807 := by omega
  have hlen : ns.length = (List.replicate ns.length (Sy.c 0)).length := by simp
  refine own_run rfl Try.func25 rfl rfl ?_
  simp only [Try.f25]
  repeat' (first | refine Wp.seq ?_ | refine Wp.block ?_ | (apply Wp.region; focus ((try simp [setArgs, hb.2.1, hb.2.2]) <;> rfl)) | (refine Wp.cond_t ?_ ?_; focus (simp [setArgs, hb.2.1, hb.2.2]; done)) | (refine Wp.cond_f ?_ ?_; focus (simp [setArgs, hb.2.1, hb.2.2]; done)) | refine Wp.skip ?_ | refine Wp.ret ?_ | refine Wp.exit ?_ | refine Blk.here ?_ | (refine Blk.past ?_ ?_; focus (simp; done)))
  refine Wp.loop rfl rfl (fun i st => st.tm.get .any 0 = .slice (ints ns) ∧ st.tm.get .any 3 = .rsl 0 0 ns.length (some ns.length) ∧ st.tm.get .any 4 = .int .i64 (.c i) ∧
    st.sto = ⟨1, [(0, ints (half i ns (List.replicate ns.length (.c 0))))], 0⟩) ns.length hm ?_ ?_ ?_
  · simp [setArgs, half_zero]
  · rintro f i ⟨tm, S⟩ hi ⟨h0, h3, h4, rfl⟩
    simp only at h0 h3 h4
    have hlt : (i : Int) < ns.length := by omega
    have hxi : ns[i]? = some ns[i] := List.getElem?_eq_getElem hi
    have hw := wrap_in (a := (i : Int) + 1) (by omega) (by omega)
    repeat' (first | refine Wp.seq ?_ | refine Wp.block ?_ | (apply Wp.region; focus ((try simp [h0, h3, h4, hlt, hxi, hi, Nat.succ_le_of_lt hi, half_set, ← hlen, hw]) <;> rfl)) | (refine Wp.cond_t ?_ ?_; focus (simp [h0, h3, h4, hlt, hxi, hi, Nat.succ_le_of_lt hi, half_set, ← hlen, hw]; done)) | (refine Wp.cond_f ?_ ?_; focus (simp [h0, h3, h4, hlt, hxi, hi, Nat.succ_le_of_lt hi, half_set, ← hlen, hw]; done)) | refine Wp.skip ?_ | refine Wp.ret ?_ | refine Wp.exit ?_ | refine Blk.here ?_ | (refine Blk.past ?_ ?_; focus (simp; done)))
    simp [h0, h3, Sto.write, put]
  · rintro f ⟨tm, S⟩ ⟨h0, h3, h4, rfl⟩
    simp only at h0 h3 h4
    repeat' (first | refine Wp.seq ?_ | refine Wp.block ?_ | (apply Wp.region; focus ((try simp [h0, h3, h4]) <;> rfl)) | (refine Wp.cond_t ?_ ?_; focus (simp [h0, h3, h4]; done)) | (refine Wp.cond_f ?_ ?_; focus (simp [h0, h3, h4]; done)) | refine Wp.skip ?_ | refine Wp.ret ?_ | refine Wp.exit ?_ | refine Blk.here ?_ | (refine Blk.past ?_ ?_; focus (simp; done)))
    refine ⟨rfl, ?_⟩
    have := trim_ints (ns := ns) (len := ns.length) (cap := some ns.length) (sto := ⟨0, [], 0⟩) trivial (Nat.le_refl _)
    simp only at this
    simp [answer, aresults, aresult, half_all]
    exact this

set_option maxRecDepth 10000 in
theorem eqIntS (ns : List Sy) (hl : ns.length ≤ 1048576) (m : Nat) (hm : ns.length < m)  :
    symRun Try.prog noK [] (m + 1) 26 [.slice (ints ns), .slice (ints ns)] ⟨0, [], 0⟩ = some (.bool true, ⟨0, [], 0⟩) := by
  refine own_run rfl Try.func26 rfl rfl ?_
  simp only [Try.f26]
  repeat' (first | refine Wp.seq ?_ | refine Wp.block ?_ | (apply Wp.region; focus ((try simp [setArgs]) <;> rfl)) | (refine Wp.cond_t ?_ ?_; focus (simp [setArgs]; done)) | (refine Wp.cond_f ?_ ?_; focus (simp [setArgs]; done)) | refine Wp.skip ?_ | refine Wp.ret ?_ | refine Wp.exit ?_ | refine Blk.here ?_ | (refine Blk.past ?_ ?_; focus (simp; done)))
  refine Wp.loop rfl rfl (fun i st => st.tm.get .any 0 = .slice (ints ns) ∧ st.tm.get .any 1 = .slice (ints ns) ∧ st.tm.get .any 5 = .int .i64 (.c i) ∧ st.sto = ⟨0, [], 0⟩) ns.length hm ?_ ?_ ?_
  · simp [setArgs]
  · rintro f i ⟨tm, S⟩ hi ⟨h0, h1, h5, rfl⟩
    simp only at h0 h1 h5
    have hlt : (i : Int) < ns.length := by omega
    have hxi : ns[i]? = some ns[i] := List.getElem?_eq_getElem hi
    have hw := wrap_in (a := (i : Int) + 1) (by omega) (by omega)
    repeat' (first | refine Wp.seq ?_ | refine Wp.block ?_ | (apply Wp.region; focus ((try simp [h0, h1, h5, hlt, hxi, hi, hw]) <;> rfl)) | (refine Wp.cond_t ?_ ?_; focus (simp [h0, h1, h5, hlt, hxi, hi, hw]; done)) | (refine Wp.cond_f ?_ ?_; focus (simp [h0, h1, h5, hlt, hxi, hi, hw]; done)) | refine Wp.skip ?_ | refine Wp.ret ?_ | refine Wp.exit ?_ | refine Blk.here ?_ | (refine Blk.past ?_ ?_; focus (simp; done)))
    (apply Wp.drawn2 8; (focus kernel_rfl); (focus kernel_rfl); (focus intro F; simp [dhead, seenBy, keepOnly, looks, joinN, addN, bite_eq, Op.operands, takeNew, h0, h1, h5, hlt, hxi, hi]; exact ⟨rfl, rfl, rfl⟩); (focus (try simp [allN, takeNew, h0, h1, h5, hlt, hxi, hi]) <;> rfl))
    repeat' (first | refine Wp.seq ?_ | refine Wp.block ?_ | (apply Wp.region; focus ((try simp [h0, h1, h5, hw]) <;> rfl)) | (refine Wp.cond_t ?_ ?_; focus (simp [h0, h1, h5, hw]; done)) | (refine Wp.cond_f ?_ ?_; focus (simp [h0, h1, h5, hw]; done)) | refine Wp.skip ?_ | refine Wp.ret ?_ | refine Wp.exit ?_ | refine Blk.here ?_ | (refine Blk.past ?_ ?_; focus (simp; done)))
    simp [h0, h1]
  · rintro f ⟨tm, S⟩ ⟨h0, h1, h5, rfl⟩
    simp only at h0 h1 h5
    repeat' (first | refine Wp.seq ?_ | refine Wp.block ?_ | (apply Wp.region; focus ((try simp [h0, h1, h5]) <;> rfl)) | (refine Wp.cond_t ?_ ?_; focus (simp [h0, h1, h5]; done)) | (refine Wp.cond_f ?_ ?_; focus (simp [h0, h1, h5]; done)) | refine Wp.skip ?_ | refine Wp.ret ?_ | refine Wp.exit ?_ | refine Blk.here ?_ | (refine Blk.past ?_ ?_; focus (simp; done)))
    refine ⟨rfl, ?_⟩
    simp [answer, aresults, aresult, Sto.trim, V.refs, dropNew]

set_option maxRecDepth 10000 in
theorem markIntS (zs : List Int) (x : Int) (h1 : 1 ≤ zs.length) (hl : zs.length ≤ 1048576) (sto : Sto Sy) (cap : Nat) (hd : Desc sto.next sto.obs) (o : Nat) (hlk : Go.Sx.look sto.obs o = some (ints (nums zs))) (m : Nat) (hm : zs.length < m) :
    ∃ ys, symRun Try.prog noK [] (m + 1) 27 [.rsl o 0 zs.length (some cap), .int .i64 (.c x)] sto = some (.int .i64 (.c (IntKind.i64.wrap (x + zs.length))), ⟨sto.next, put sto.obs o ys, if Nat.blt o sto.low then o else sto.low⟩) := by
  have main : ∃ r, symRun Try.prog noK [] (m + 1) 27 [.rsl o 0 zs.length (some cap), .int .i64 (.c x)] sto = some r ∧ ∃ ys, r = (.int .i64 (.c (IntKind.i64.wrap (x + zs.length))), ⟨sto.next, put sto.obs o ys, if Nat.blt o sto.low then o else sto.low⟩) := by
    refine own_run2 rfl Try.func27 rfl rfl ?_
    simp only [Try.f27]
    repeat' (first | refine Wp.seq ?_ | refine Wp.block ?_ | (apply Wp.region; focus ((try simp [setArgs]) <;> rfl)) | (refine Wp.cond_t ?_ ?_; focus (simp [setArgs]; done)) | (refine Wp.cond_f ?_ ?_; focus (simp [setArgs]; done)) | refine Wp.skip ?_ | refine Wp.ret ?_ | refine Wp.exit ?_ | refine Blk.here ?_ | (refine Blk.past ?_ ?_; focus (simp; done)))
    refine Wp.loop rfl rfl (fun i st => st.tm.get .any 0 = .rsl o 0 zs.length (some cap) ∧ st.tm.get .any 5 = .int .i64 (.c i) ∧ st.tm.get .any 1 = .int .i64 (.c (kk x i)) ∧
      ∃ ys : List (V Sy), ys.length = zs.length ∧ Go.Sx.look st.sto.obs o = some ys ∧ isMp ys = false ∧ st.sto = ⟨sto.next, put sto.obs o ys, if i = 0 then sto.low else if Nat.blt o sto.low then o else sto.low⟩) zs.length hm ?_ ?_ ?_
    · refine ⟨by simp [setArgs], by simp [setArgs], by simp [setArgs, kk], ints (nums zs), by simp, hlk, isMp_ints _, ?_⟩
      simp [put_self hlk]
    · rintro f i ⟨tm, S⟩ hi ⟨h0, h5, hk, ys, hy1, hy2, hym, hS⟩
      simp only at h0 h5 hk hy2 hS
      have hlt : (i : Int) < zs.length := by omega
      have hw := wrap_in (a := (i : Int) + 1) (by omega) (by omega)
      have hi' : i + 1 ≤ ys.length := by omega
      repeat' (first | refine Wp.seq ?_ | refine Wp.block ?_ | (apply Wp.region; focus ((try simp [h0, h5, hk, hlt, hy2, hym, hi', hw, V.cells, V.oneCell]) <;> rfl)) | (refine Wp.cond_t ?_ ?_; focus (simp [h0, h5, hk, hlt, hy2, hym, hi', hw, V.cells, V.oneCell]; done)) | (refine Wp.cond_f ?_ ?_; focus (simp [h0, h5, hk, hlt, hy2, hym, hi', hw, V.cells, V.oneCell]; done)) | refine Wp.skip ?_ | refine Wp.ret ?_ | refine Wp.exit ?_ | refine Blk.here ?_ | (refine Blk.past ?_ ?_; focus (simp; done)))
      refine ⟨by simp [h0], by simp, by simp [kk], noBc (ys.set i (.int .i64 (.c (kk x i)))), by rw [noBc_len, List.length_set]; exact hy1, ?_, noBc_isMp _, ?_⟩
      · simp only [Sto.write]; exact look_put_self hy2
      · subst hS
        simp only [Sto.write, put_put]
        simp
        by_cases hi0 : i = 0
        · simp [hi0]
        · have := low_low o sto.low
          simp only [Nat.blt_eq] at this
          simp only [hi0, if_false]; exact this
    · rintro f ⟨tm, S⟩ ⟨h0, h5, hk, ys, hy1, hy2, hym, hS⟩
      simp only at h0 h5 hk hy2 hS
      subst hS
      repeat' (first | refine Wp.seq ?_ | refine Wp.block ?_ | (apply Wp.region; focus ((try simp [h0, h5, hk]) <;> rfl)) | (refine Wp.cond_t ?_ ?_; focus (simp [h0, h5, hk]; done)) | (refine Wp.cond_f ?_ ?_; focus (simp [h0, h5, hk]; done)) | refine Wp.skip ?_ | refine Wp.ret ?_ | refine Wp.exit ?_ | refine Blk.here ?_ | (refine Blk.past ?_ ?_; focus (simp; done)))
      have hn : zs ≠ [] := fun e => by rw [e] at h1; exact absurd h1 (by decide)
      refine ⟨rfl, (.int .i64 (.c (IntKind.i64.wrap (x + zs.length))), ⟨sto.next, put sto.obs o ys, if Nat.blt o sto.low then o else sto.low⟩), ?_, ys, rfl⟩
      have ht := trim_plain (sto := ⟨sto.next, put sto.obs o ys, if Nat.blt o sto.low then o else sto.low⟩) (r := .int .i64 (.c (IntKind.i64.wrap (x + zs.length)))) (hd.put o ys) rfl

      simp [answer, aresults, aresult, kk_succ x _ h1, hn]
      simpa using ht
  obtain ⟨r, hr, ys, rfl⟩ := main
  exact ⟨ys, hr⟩

theorem inRange (x lo hi : Int) (sto : Sto Sy) (hd : Desc sto.next sto.obs) (m : Nat) :
    symRun Try.prog noK [] (m + 1) 49 [.int .i64 (.c x), .int .i64 (.c lo), .int .i64 (.c hi)] sto = some (.bool (decide (lo ≤ x ∧ x ≤ hi)), sto) := by
  refine own_run rfl Try.func49 rfl rfl ?_
  simp only [Try.f49]
  by_cases h1 : lo ≤ x
  · by_cases h2 : x ≤ hi
    · repeat' (first | refine Wp.seq ?_ | refine Wp.block ?_ | (apply Wp.region; focus ((try simp [setArgs, Int.not_lt.2 h1, Int.not_lt.2 h2]) <;> rfl)) | (refine Wp.cond_t ?_ ?_; focus (simp [setArgs, Int.not_lt.2 h1, Int.not_lt.2 h2]; done)) | (refine Wp.cond_f ?_ ?_; focus (simp [setArgs, Int.not_lt.2 h1, Int.not_lt.2 h2]; done)) | refine Wp.skip ?_ | refine Wp.ret ?_ | refine Wp.exit ?_ | refine Blk.here ?_ | (refine Blk.past ?_ ?_; focus (simp; done)))
      refine ⟨rfl, ?_⟩
      simp [answer, aresults, aresult, h1, h2]
      exact trim_plain hd rfl
    · repeat' (first | refine Wp.seq ?_ | refine Wp.block ?_ | (apply Wp.region; focus ((try simp [setArgs, Int.not_lt.2 h1, Int.not_le.1 h2]) <;> rfl)) | (refine Wp.cond_t ?_ ?_; focus (simp [setArgs, Int.not_lt.2 h1, Int.not_le.1 h2]; done)) | (refine Wp.cond_f ?_ ?_; focus (simp [setArgs, Int.not_lt.2 h1, Int.not_le.1 h2]; done)) | refine Wp.skip ?_ | refine Wp.ret ?_ | refine Wp.exit ?_ | refine Blk.here ?_ | (refine Blk.past ?_ ?_; focus (simp; done)))
      refine ⟨rfl, ?_⟩
      simp [answer, aresults, aresult, h1, h2]
      exact trim_plain hd rfl
  · repeat' (first | refine Wp.seq ?_ | refine Wp.block ?_ | (apply Wp.region; focus ((try simp [setArgs, Int.not_le.1 h1]) <;> rfl)) | (refine Wp.cond_t ?_ ?_; focus (simp [setArgs, Int.not_le.1 h1]; done)) | (refine Wp.cond_f ?_ ?_; focus (simp [setArgs, Int.not_le.1 h1]; done)) | refine Wp.skip ?_ | refine Wp.ret ?_ | refine Wp.exit ?_ | refine Blk.here ?_ | (refine Blk.past ?_ ?_; focus (simp; done)))
    refine ⟨rfl, ?_⟩
    simp [answer, aresults, aresult, h1]
    exact trim_plain hd rfl

noncomputable def ids0 : Ids := ⟨25, 26, 27, [], none, none⟩

theorem body_of {k : FuncId} {fn : Func} (h : Try.prog.funcs[k]? = some fn) (hb : fn.body.isSome = true) : ∃ fn, Try.prog.funcs[k]? = some fn ∧ fn.body.isSome = true := ⟨fn, h, hb⟩

theorem ids0_ok : ids0.Ok Try.prog where
  body := by
    intro k hk9 hk
    simp only [ids0, List.map_cons, List.map_nil, List.mem_cons, List.not_mem_nil, or_false] at hk
    rcases hk with rfl | rfl | rfl
    · exact body_of Try.func25 rfl
    · exact body_of Try.func26 rfl
    · exact body_of Try.func27 rfl
  small := fun e he => absurd he (by simp [ids0])
  uok := by intro U h; cases h
  pok := by intro U h; cases h
  toInt := fun _ zs hl => ⟨1048577 + 1, by have := toIntS (nums zs) (by simpa using hl) 1048577 (by simp; omega); simp only [nums_length] at this; exact this⟩
  eqInt := fun _ zs hl => ⟨1048577 + 1, _, by have := eqIntS (nums zs) (by simpa using hl) 1048577 (by simp; omega); exact this⟩
  valid := fun e he => absurd he (by simp [ids0])
  validE := fun e he => absurd he (by simp [ids0])
  mark := fun _ zs x sto o cap h1 hl hd hlk => by
    obtain ⟨ys, h⟩ := markIntS zs x h1 hl sto cap hd o hlk 1048577 (by omega)
    exact ⟨_, ys, h⟩

set_option maxRecDepth 10000 in
theorem specValidPart (zs : List Int) (hl : zs.length ≤ 1048576) (m : Nat) (hm : zs.length < m) :
    symRun Try.prog noK [] (m + 2) 34 [.slice (ints (nums zs))] ⟨0, [], 0⟩ = some (.bool (isPart zs), ⟨0, [], 0⟩) := by
  refine own_run rfl Try.func34 rfl rfl ?_
  simp only [Try.f34]
  have hr := fun x lo hi => inRange x lo hi ⟨0, [], 0⟩ trivial m
  repeat' (first | refine Wp.seq ?_ | refine Wp.block ?_ | (apply Wp.region; focus ((try simp [setArgs]) <;> rfl)) | (refine Wp.cond_t ?_ ?_; focus (simp [setArgs]; done)) | (refine Wp.cond_f ?_ ?_; focus (simp [setArgs]; done)) | refine Wp.skip ?_ | refine Wp.ret ?_ | refine Wp.exit ?_ | refine Blk.here ?_ | (refine Blk.past ?_ ?_; focus (simp; done)))
  refine Wp.loop rfl rfl (fun i st => st.tm.get .any 0 = .slice (ints (nums zs)) ∧ st.tm.get .any 4 = .int .i64 (.c i) ∧ st.sto = ⟨0, [], 0⟩ ∧ ∃ most : Int, st.tm.get .any 3 = .int .i64 (.c most) ∧ 0 ≤ most ∧ most ≤ i ∧ partFrom 0 zs = partFrom most (zs.drop i)) zs.length (by omega) ?_ ?_ ?_
  · exact ⟨by simp [setArgs], by simp, rfl, 0, by simp, Int.le_refl _, Int.le_refl _, rfl⟩
  · rintro f i ⟨tm, S⟩ hi ⟨h0, h4, rfl, most, h3, hm0, hmi, hp⟩
    simp only at h0 h3 h4
    have hlt : (i : Int) < zs.length := by omega
    have hxi : zs[i]? = some zs[i] := List.getElem?_eq_getElem hi
    have hw := wrap_in (a := (i : Int) + 1) (by omega) (by omega)
    have hw2 := wrap_in (a := most + 1) (by omega) (by omega)
    rw [List.drop_eq_getElem_cons hi] at hp
    simp only [partFrom] at hp
    by_cases hok : 0 ≤ zs[i] ∧ zs[i] ≤ most
    · simp only [hok.1, hok.2, decide_true, Bool.true_and] at hp
      by_cases he : zs[i] = most
      · have hok' : 0 ≤ most ∧ most ≤ most := ⟨hm0, Int.le_refl _⟩
        rw [if_pos he] at hp
        repeat' (first | refine Wp.seq ?_ | refine Wp.block ?_ | (apply Wp.region; focus ((try simp [h0, h3, h4, hlt, hxi, hi, hw, hw2, hr, he, hok', hm0, Nat.blt]) <;> rfl)) | (refine Wp.cond_t ?_ ?_; focus (simp [h0, h3, h4, hlt, hxi, hi, hw, hw2, hr, he, hok', hm0, Nat.blt]; done)) | (refine Wp.cond_f ?_ ?_; focus (simp [h0, h3, h4, hlt, hxi, hi, hw, hw2, hr, he, hok', hm0, Nat.blt]; done)) | refine Wp.skip ?_ | refine Wp.ret ?_ | refine Wp.exit ?_ | refine Blk.here ?_ | (refine Blk.past ?_ ?_; focus (simp; done)))
        exact ⟨by simp [h0], by simp, rfl, most + 1, by simp, by omega, by omega, hp⟩
      · rw [if_neg he] at hp
        have he' : (zs[i] == most) = false := by simpa using he
        repeat' (first | refine Wp.seq ?_ | refine Wp.block ?_ | (apply Wp.region; focus ((try simp [h0, h3, h4, hlt, hxi, hi, hw, hr, he, he', hok, Nat.blt]) <;> rfl)) | (refine Wp.cond_t ?_ ?_; focus (simp [h0, h3, h4, hlt, hxi, hi, hw, hr, he, he', hok, Nat.blt]; done)) | (refine Wp.cond_f ?_ ?_; focus (simp [h0, h3, h4, hlt, hxi, hi, hw, hr, he, he', hok, Nat.blt]; done)) | refine Wp.skip ?_ | refine Wp.ret ?_ | refine Wp.exit ?_ | refine Blk.here ?_ | (refine Blk.past ?_ ?_; focus (simp; done)))
        exact ⟨by simp [h0], by simp, rfl, most, by simp [h3], by omega, by omega, hp⟩
    · have hno : isPart zs = false := by
        have : (decide (0 ≤ zs[i]) && decide (zs[i] ≤ most)) = false := by
          rw [← Bool.decide_and]; exact decide_eq_false hok
        rw [this, Bool.false_and] at hp
        unfold isPart
        rw [hp, Bool.and_false]
      repeat' (first | refine Wp.seq ?_ | refine Wp.block ?_ | (apply Wp.region; focus ((try simp [h0, h3, h4, hlt, hxi, hi, hw, hr, hok, Nat.blt]) <;> rfl)) | (refine Wp.cond_t ?_ ?_; focus (simp [h0, h3, h4, hlt, hxi, hi, hw, hr, hok, Nat.blt]; done)) | (refine Wp.cond_f ?_ ?_; focus (simp [h0, h3, h4, hlt, hxi, hi, hw, hr, hok, Nat.blt]; done)) | refine Wp.skip ?_ | refine Wp.ret ?_ | refine Wp.exit ?_ | refine Blk.here ?_ | (refine Blk.past ?_ ?_; focus (simp; done)))
      refine ⟨rfl, ?_⟩
      simp [answer, aresults, aresult, hno, Sto.trim, V.refs, dropNew]
  · rintro f ⟨tm, S⟩ ⟨h0, h4, rfl, most, h3, hm0, hmi, hp⟩
    simp only at h0 h3 h4
    rw [List.drop_length] at hp
    repeat' (first | refine Wp.seq ?_ | refine Wp.block ?_ | (apply Wp.region; focus ((try simp [h0, h3, h4, hr, Nat.blt]) <;> rfl)) | (refine Wp.cond_t ?_ ?_; focus (simp [h0, h3, h4, hr, Nat.blt]; done)) | (refine Wp.cond_f ?_ ?_; focus (simp [h0, h3, h4, hr, Nat.blt]; done)) | refine Wp.skip ?_ | refine Wp.ret ?_ | refine Wp.exit ?_ | refine Blk.here ?_ | (refine Blk.past ?_ ?_; focus (simp; done)))
    refine ⟨rfl, ?_⟩
    have hv : decide ((zs.length : Int) ≤ 5) = isPart zs := by
      unfold isPart
      rw [hp]
      have : ((zs.length : Int) ≤ 5) ↔ zs.length ≤ 5 := by omega
      simp [partFrom, this]
    simp [answer, aresults, aresult, ← hv, Sto.trim, V.refs, dropNew]
    rw [Bool.eq_iff_iff]
    simp

set_option maxRecDepth 100000 in
theorem isWay_run0 : partRuns Try.prog 60 38 0 = true := by kernel_rfl
set_option maxRecDepth 100000 in
theorem isWay_run1 : partRuns Try.prog 60 38 1 = true := by kernel_rfl
set_option maxRecDepth 100000 in
theorem isWay_run2 : partRuns Try.prog 60 38 2 = true := by kernel_rfl
set_option maxRecDepth 100000 in
theorem isWay_run3 : partRuns Try.prog 60 38 3 = true := by kernel_rfl
set_option maxRecDepth 100000 in
theorem isWay_run4 : partRuns Try.prog 60 38 4 = true := by kernel_rfl
set_option maxRecDepth 100000 in
theorem isWay_run5 : partRuns Try.prog 60 38 5 = true := by kernel_rfl
theorem isWay_runs (n : Nat) (h : n ≤ 5) : partRuns Try.prog 60 38 n = true := by
  have hn : n = 0 ∨ n = 1 ∨ n = 2 ∨ n = 3 ∨ n = 4 ∨ n = 5 := by omega
  rcases hn with rfl | rfl | rfl | rfl | rfl | rfl
  · exact isWay_run0
  · exact isWay_run1
  · exact isWay_run2
  · exact isWay_run3
  · exact isWay_run4
  · exact isWay_run5
set_option maxRecDepth 100000 in
theorem isWay_more (a b c d e f : Int) (r : List Int) : isB false (symRun Try.prog noK [] 60 38 [.slice (ints (nums (a :: b :: c :: d :: e :: f :: r)))] ⟨0, [], 0⟩) = true := by kernel_rfl
theorem isWay_ok (zs : List Int) (hw : ∀ z, z ∈ zs → IntKind.i64.wrap z = z) : ∃ S : Sto Sy, ∀ (ρ : Nat → Int) (s : Sms) (B : Nat), Go.Sx.Good Try.prog ⟨Sy.den ρ, s⟩ B 38 [.slice (ints (nums zs))] ⟨0, [], 0⟩ (.bool (isPart zs)) S := by
  by_cases hl : zs.length ≤ 5
  · exact part_of_runs noCount mixed (isWay_runs zs.length hl) hl hw
  · match zs, hl with
    | a :: b :: c :: d :: e :: f :: r, _ =>
      obtain ⟨S, hS⟩ := isB_iff (isWay_more a b c d e f r)
      have hp : isPart (a :: b :: c :: d :: e :: f :: r) = false := by
        have : ¬ (a :: b :: c :: d :: e :: f :: r).length ≤ 5 := by simp
        simp only [isPart, this, decide_false, Bool.false_and]
      rw [hp]
      exact ⟨S, fun ρ s B => run_good noCount mixed ρ hS B⟩
    | [], h => exact absurd (by simp) h
    | [_], h => exact absurd (by simp) h
    | [_, _], h => exact absurd (by simp) h
    | [_, _, _], h => exact absurd (by simp) h
    | [_, _, _, _], h => exact absurd (by simp) h
    | [_, _, _, _, _], h => exact absurd (by simp) h
noncomputable def pids : PIds := ⟨38, 34⟩
theorem pids_ok : pids.Ok Try.prog where
  body := by
    intro k hk
    rcases hk with rfl | rfl
    · exact body_of Try.func38 rfl
    · exact body_of Try.func34 rfl
  part := by
    intro k hk zs hl hw
    rcases hk with rfl | rfl
    · exact isWay_ok zs hw
    · exact ⟨⟨0, [], 0⟩, fun ρ s B => run_good noCount mixed ρ (specValidPart zs hl 1048577 (by omega)) B⟩
  partE := by
    intro k hk
    rcases hk with rfl | rfl
    · exact ⟨60, _, (by kernel_rfl : symRun Try.prog noK [] 60 38 [.emp] ⟨0, [], 0⟩ = some (.bool true, ⟨2, [], 0⟩))⟩
    · exact ⟨60, _, (by kernel_rfl : symRun Try.prog noK [] 60 34 [.emp] ⟨0, [], 0⟩ = some (.bool true, ⟨0, [], 0⟩))⟩


noncomputable def ids : Ids := ⟨ids0.toInt, ids0.eqInt, ids0.mark, ids0.valid, none, some pids⟩
theorem ids_ok : ids.Ok Try.prog := ⟨ids0_ok.body, ids0_ok.small, (by intro U h; cases h), (by intro U h; cases h; exact pids_ok), ids0_ok.toInt, ids0_ok.eqInt, ids0_ok.valid, ids0_ok.validE, ids0_ok.mark⟩
end Go.Proofs.Ytcpnlgjkijcmhaa.Ids

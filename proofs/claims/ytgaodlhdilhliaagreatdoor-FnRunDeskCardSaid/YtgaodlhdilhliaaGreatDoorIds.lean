/-
  The functions of this seat that copy, compare, mark and test lists, each by a run over lists of any length. No condition.
-/
import Derived.Test.YtgaodlhdilhliaaGreatDoorRows
import Derived.Test.YtgaodlhdilhliaaGreatDoorSym
import Derived.WalkKit
import Derived.ProofKit
import Derived.OpenShut
namespace Go.Proofs.YtgaodlhdilhliaaGreatDoor.Ids
open Go.ChangeShapes Go.WideShapes Go.ChangeAt Go.RowKit Go.Sx
set_option linter.unusedVariables false
set_option linter.unusedSimpArgs false

theorem tiS : tiOf Tryz.prog 35 = some ⟨.slice 3, 1, 24, .slice none 0 0, true⟩ := by kernel_rfl
theorem tiI : tiOf Tryz.prog 3 = some ⟨.int .i64, 1, 8, .int .i64 0, true⟩ := by kernel_rfl
theorem tiB : tiOf Tryz.prog 4 = some ⟨.bool, 1, 1, .bool false, true⟩ := by kernel_rfl
theorem noCount : NoCount Tryz.prog := noCount_of (by kernel_rfl)
theorem mixed : Tryz.prog.follows .mixedOrders = true := by kernel_rfl

attribute [local simp] aops wants aop apure St.eval setTm_some Tr.get_set aload evals apureB alen tiS tiI tiB abin aint isCmp sym_lt sym_eqs sym_neqs sym_eq sym_neq sym_gtr sym_leq sym_geq sym_add aeff amakeSlice idx? ofV aindexAddr astore look_cons aggDesc Sto.new setTm_none acallV_func symIn_run aifc_int aun Go.Sx.ints_set Go.Sx.ints_replicate noBc_ints


theorem inRange (x lo hi : Int) (sto : Sto Sy) (hd : Desc sto.next sto.obs) (m : Nat) :
    symRun Tryz.prog noK [] (m + 1) 69 [.int .i64 (.c x), .int .i64 (.c lo), .int .i64 (.c hi)] sto = some (.bool (decide (lo ≤ x ∧ x ≤ hi)), sto) := by
  refine own_run rfl Tryz.func69 rfl rfl ?_
  simp only [Tryz.f69]
  by_cases h1 : lo ≤ x
  · by_cases h2 : x ≤ hi
    · repeat' (first | refine Wp.seq ?_ | refine Wp.block ?_ | (apply Wp.region; focus ((try simp [setArgs, Int.not_lt.2 h1, Int.not_lt.2 h2]) <;> rfl)) | (refine Wp.cond_t ?_ ?_; focus (simp [setArgs, Int.not_lt.2 h1, Int.not_lt.2 h2]; done)) | (refine Wp.cond_f ?_ ?_; focus (simp [setArgs, Int.not_lt.2 h1, Int.not_lt.2 h2]; done)) | refine Wp.skip ?_ | refine Wp.ret ?_ | refine Wp.exit ?_ | refine Blk.here ?_ | (refine Blk.past ?_ ?_; focus (simp; done)))
      refine ⟨rfl, ?_⟩
      simp [answer, aresults, aresult, h1, h2]
      exact trim_plain hd rfl
    · repeat' (first | refine Wp.seq ?_ | refine Wp.block ?_ | (apply Wp.region; focus ((try simp [setArgs, Int.not_lt.2 h1, Int.not_le.1 h2]) <;> rfl)) | (refine Wp.cond_t ?_ ?_; focus (simp [setArgs, Int.not_lt.2 h1, Int.not_le.1 h2]; done)) | (refine Wp.cond_f ?_ ?_; focus (simp [setArgs, Int.not_lt.2 h1, Int.not_le.1 h2]; done)) | refine Wp.skip ?_ | refine Wp.ret ?_ | refine Wp.exit ?_ | refine Blk.here ?_ | (refine Blk.past ?_ ?_; focus (simp; done)))
      refine ⟨rfl, ?_⟩
      simp [answer, aresults, aresult, h1, h2]
      exact trim_plain hd rfl
  · repeat' (first | refine Wp.seq ?_ | refine Wp.block ?_ | (apply Wp.region; focus ((try simp [setArgs, Int.not_le.1 h1]) <;> rfl)) | (refine Wp.cond_t ?_ ?_; focus (simp [setArgs, Int.not_le.1 h1]; done)) | (refine Wp.cond_f ?_ ?_; focus (simp [setArgs, Int.not_le.1 h1]; done)) | refine Wp.skip ?_ | refine Wp.ret ?_ | refine Wp.exit ?_ | refine Blk.here ?_ | (refine Blk.past ?_ ?_; focus (simp; done)))
    refine ⟨rfl, ?_⟩
    simp [answer, aresults, aresult, h1]
    exact trim_plain hd rfl

set_option maxRecDepth 10000 in
theorem specValidSeries (zs : List Int) (hl : zs.length ≤ 1048576) (m : Nat) (hm : zs.length < m) :
    symRun Tryz.prog noK [] (m + 2) 63 [.slice (ints (nums zs))] ⟨0, [], 0⟩ = some (.bool (decide (validP 600 zs)), ⟨0, [], 0⟩) := by
  refine own_run rfl Tryz.func63 rfl rfl ?_
  simp only [Tryz.f63]
  have hr := fun x lo hi => inRange x lo hi ⟨0, [], 0⟩ trivial m
  repeat' (first | refine Wp.seq ?_ | refine Wp.block ?_ | (apply Wp.region; focus ((try simp [setArgs]) <;> rfl)) | (refine Wp.cond_t ?_ ?_; focus (simp [setArgs]; done)) | (refine Wp.cond_f ?_ ?_; focus (simp [setArgs]; done)) | refine Wp.skip ?_ | refine Wp.ret ?_ | refine Wp.exit ?_ | refine Blk.here ?_ | (refine Blk.past ?_ ?_; focus (simp; done)))
  refine Wp.loop rfl rfl (fun i st => st.tm.get .any 0 = .slice (ints (nums zs)) ∧ st.tm.get .any 3 = .int .i64 (.c i) ∧ st.sto = ⟨0, [], 0⟩ ∧ ∀ j (h : j < zs.length), j < i → -600 ≤ zs[j] ∧ zs[j] ≤ 600) zs.length (by omega) ?_ ?_ ?_
  · simp [setArgs]
  · rintro f i ⟨tm, S⟩ hi ⟨h0, h3, rfl, hall⟩
    simp only at h0 h3
    have hlt : (i : Int) < zs.length := by omega
    have hxi : zs[i]? = some zs[i] := List.getElem?_eq_getElem hi
    have hw := wrap_in (a := (i : Int) + 1) (by omega) (by omega)
    by_cases hok : -600 ≤ zs[i] ∧ zs[i] ≤ 600
    · repeat' (first | refine Wp.seq ?_ | refine Wp.block ?_ | (apply Wp.region; focus ((try simp [h0, h3, hlt, hxi, hi, hw, hr, hok, Nat.blt]) <;> rfl)) | (refine Wp.cond_t ?_ ?_; focus (simp [h0, h3, hlt, hxi, hi, hw, hr, hok, Nat.blt]; done)) | (refine Wp.cond_f ?_ ?_; focus (simp [h0, h3, hlt, hxi, hi, hw, hr, hok, Nat.blt]; done)) | refine Wp.skip ?_ | refine Wp.ret ?_ | refine Wp.exit ?_ | refine Blk.here ?_ | (refine Blk.past ?_ ?_; focus (simp; done)))
      refine ⟨by simp [h0], by simp, rfl, fun j h hj => ?_⟩
      rcases Nat.lt_succ_iff_lt_or_eq.1 hj with h1 | rfl
      · exact hall j h h1
      · exact hok
    · repeat' (first | refine Wp.seq ?_ | refine Wp.block ?_ | (apply Wp.region; focus ((try simp [h0, h3, hlt, hxi, hi, hw, hr, hok, Nat.blt]) <;> rfl)) | (refine Wp.cond_t ?_ ?_; focus (simp [h0, h3, hlt, hxi, hi, hw, hr, hok, Nat.blt]; done)) | (refine Wp.cond_f ?_ ?_; focus (simp [h0, h3, hlt, hxi, hi, hw, hr, hok, Nat.blt]; done)) | refine Wp.skip ?_ | refine Wp.ret ?_ | refine Wp.exit ?_ | refine Blk.here ?_ | (refine Blk.past ?_ ?_; focus (simp; done)))
      refine ⟨rfl, ?_⟩
      have hno : ¬ validP 600 zs := fun h => hok (h.1 _ (List.getElem_mem hi))
      simp [answer, aresults, aresult, hno, Sto.trim, V.refs, dropNew]
  · rintro f ⟨tm, S⟩ ⟨h0, h3, rfl, hall⟩
    simp only at h0 h3
    repeat' (first | refine Wp.seq ?_ | refine Wp.block ?_ | (apply Wp.region; focus ((try simp [h0, h3, hr, Nat.blt]) <;> rfl)) | (refine Wp.cond_t ?_ ?_; focus (simp [h0, h3, hr, Nat.blt]; done)) | (refine Wp.cond_f ?_ ?_; focus (simp [h0, h3, hr, Nat.blt]; done)) | refine Wp.skip ?_ | refine Wp.ret ?_ | refine Wp.exit ?_ | refine Blk.here ?_ | (refine Blk.past ?_ ?_; focus (simp; done)))
    refine ⟨rfl, ?_⟩
    have hv : (decide ((1 : Int) ≤ zs.length ∧ (zs.length : Int) ≤ 6)) = decide (validP 600 zs) := by
      have : ((1 : Int) ≤ zs.length ∧ (zs.length : Int) ≤ 6) ↔ validP 600 zs := ⟨fun h => ⟨fun z hz => by obtain ⟨j, hj, rfl⟩ := List.mem_iff_getElem.1 hz; exact hall j hj hj, by omega, by omega⟩, fun h => ⟨by have := h.2.1; omega, by have := h.2.2; omega⟩⟩
      simp only [this]
    simp [answer, aresults, aresult, ← hv, Sto.trim, V.refs, dropNew]

set_option maxRecDepth 100000 in
theorem implValidSeries_runs : allTo (fun i => validRuns Tryz.prog 600 60 57 (i + 1)) 6 = true := by kernel_rfl
set_option maxRecDepth 100000 in
theorem implValidSeries_none : isB false (symRun Tryz.prog noK [] 60 57 [.slice (ints (nums []))] ⟨0, [], 0⟩) = true := by kernel_rfl
set_option maxRecDepth 100000 in
theorem implValidSeries_more (a b c d e f g : Int) (r : List Int) : isB false (symRun Tryz.prog noK [] 60 57 [.slice (ints (nums (a :: b :: c :: d :: e :: f :: g :: r)))] ⟨0, [], 0⟩) = true := by kernel_rfl

noncomputable def ids0 : Ids := ⟨100001, 100001, 100001, [(63, 600), (57, 600)], none, none⟩

theorem body_of {k : FuncId} {fn : Func} (h : Tryz.prog.funcs[k]? = some fn) (hb : fn.body.isSome = true) : ∃ fn, Tryz.prog.funcs[k]? = some fn ∧ fn.body.isSome = true := ⟨fn, h, hb⟩

theorem ids0_ok : ids0.Ok Tryz.prog where
  body := by
    intro k hk9 hk
    simp only [ids0, List.map_cons, List.map_nil, List.mem_cons, List.not_mem_nil, or_false] at hk
    rcases hk with rfl | rfl | rfl | rfl | rfl
    · exact absurd hk9 (by decide)
    · exact absurd hk9 (by decide)
    · exact absurd hk9 (by decide)
    · exact body_of Tryz.func63 rfl
    · exact body_of Tryz.func57 rfl
  small := by
    intro e he
    simp only [ids0, List.mem_cons, List.not_mem_nil, or_false] at he
    rcases he with rfl | rfl <;> decide
  uok := by intro U h; cases h
  pok := by intro U h; cases h
  toInt := fun h => absurd h (by decide)
  eqInt := fun h => absurd h (by decide)
  valid := by
    intro e he zs hl hw
    simp only [ids0, List.mem_cons, List.not_mem_nil, or_false] at he
    rcases he with rfl | rfl
    · exact valid_of_hand noCount mixed (specValidSeries zs hl 1048577 (by omega))
    · exact valid_of_runs noCount mixed (by decide) implValidSeries_runs implValidSeries_none implValidSeries_more zs hw
  validE := by
    intro e he
    simp only [ids0, List.mem_cons, List.not_mem_nil, or_false] at he
    rcases he with rfl | rfl
    · exact ⟨60, _, (by kernel_rfl : symRun Tryz.prog noK [] 60 63 [.emp] ⟨0, [], 0⟩ = some (.bool false, ⟨0, [], 0⟩))⟩
    · exact ⟨60, _, (by kernel_rfl : symRun Tryz.prog noK [] 60 57 [.emp] ⟨0, [], 0⟩ = some (.bool false, ⟨0, [], 0⟩))⟩
  mark := fun h => absurd h (by decide)

set_option maxRecDepth 100000 in
theorem unit1 : isB true (symRun Tryz.prog noK [] 60 66 [.int .i64 (.c 1)] ⟨0, [], 0⟩) = true := by kernel_rfl
set_option maxRecDepth 100000 in
theorem unit2 : isB true (symRun Tryz.prog noK [] 60 66 [.int .i64 (.c (-1))] ⟨0, [], 0⟩) = true := by kernel_rfl
set_option maxRecDepth 100000 in
theorem unit3 : isB false (symRun Tryz.prog noK [⟨false, vx 0, .c 1, false⟩, ⟨false, vx 0, .c (-1), false⟩] 60 66 [.int .i64 (vx 0)] ⟨0, [], 0⟩) = true := by kernel_rfl
set_option maxRecDepth 100000 in
theorem begins_runs : allTo (fun i => beginsRuns Tryz.prog ids0 60 74 (i + 1)) 6 = true := by kernel_rfl
noncomputable def ids : Ids := ⟨100001, 100001, 100001, [(63, 600), (57, 600)], some ⟨66, 74⟩, none⟩
theorem ids_ok : ids.Ok Tryz.prog :=
  ⟨ids0_ok.body, ids0_ok.small, fun U h => by
    cases h
    exact ⟨fun k hk => by
      rcases hk with rfl | rfl
      · exact body_of Tryz.func66 rfl
      · exact body_of Tryz.func74 rfl, unit_of_runs noCount mixed unit1 unit2 unit3, begins_of_runs noCount mixed ids0_ok begins_runs⟩, (by intro U h; cases h),
    ids0_ok.toInt, ids0_ok.eqInt, ids0_ok.valid, ids0_ok.validE, ids0_ok.mark⟩
end Go.Proofs.YtgaodlhdilhliaaGreatDoor.Ids

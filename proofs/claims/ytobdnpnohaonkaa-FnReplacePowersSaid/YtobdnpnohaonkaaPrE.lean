import Derived.Test.YtobdnpnohaonkaaRows
import Derived.Test.YtobdnpnohaonkaaSym
import Derived.Test.YtobdnpnohaonkaaSymD
import Derived.Test.YtobdnpnohaonkaaSymE
import Derived.Test.YtobdnpnohaonkaaIds
import Derived.WalkKit
import Derived.ProofKit
import Derived.OpenShut
namespace Go.Proofs.Ytobdnpnohaonkaa.Pr
open Go.ChangeShapes Go.WideShapes Go.ChangeAt Go.RowKit Go.Sx Go.Proofs.Ytobdnpnohaonkaa.Ids
set_option linter.unusedVariables false
set_option linter.unusedSimpArgs false

theorem ans1 {T : TypeId → Option Ti} {st : St Sy} {n0 t : Nat} {v : V Sy} (h : st.tm.get .any t = v) {Q : V Sy × Sto Sy → Prop} (hq : ∀ S, Q (v, S)) : ∃ r, answer T st n0 [.tmp t] = some r ∧ Q r :=
  ⟨(v, st.sto.trim n0 v), by simp [answer, aresults, aresult, h], hq _⟩
section
attribute [local simp] aops wants aop apure St.eval setTm_some setTm_none Tr.get_set aload evals pevals apureB alen tiS tiI tiB abin aint isCmp sym_lt sym_eqs sym_neqs sym_eq sym_neq sym_gtr sym_leq sym_geq sym_add aeff aeffB idx? ofV aindexAddr aggDesc aifc_int aun
set_option maxRecDepth 10000 in
theorem slicesEqual (zs us : List Int) (hz : zs.length ≤ 1000) (hu : us.length ≤ 1000) :
    ∃ r, symRun Try.prog noK [] (2999 + 1) 47 [.slice (ints (nums zs)), .slice (ints (nums us))] ⟨0, [], 0⟩ = some r ∧ r.1 = .bool (decide (zs = us)) := by
  refine own_run2 rfl Try.func47 rfl rfl ?_
  simp only [Try.f47]
  by_cases hl : zs.length = us.length
  case neg =>
    have hlI : ((zs.length : Int) == us.length) = false := by simpa using (show ¬ (zs.length : Int) = us.length by omega)
    have hne : decide (zs = us) = false := decide_eq_false (fun e => hl (by rw [e]))
    repeat' (first | refine Wp.seq ?_ | refine Wp.block ?_ | (apply Wp.region; focus ((try simp [setArgs, hlI]) <;> rfl)) | (refine Wp.cond_t ?_ ?_; focus (simp [setArgs, hlI]; done)) | (refine Wp.cond_f ?_ ?_; focus (simp [setArgs, hlI]; done)) | refine Wp.skip ?_ | refine Wp.ret ?_ | refine Wp.exit ?_ | refine Blk.here ?_ | (refine Blk.past ?_ ?_; focus (simp; done)))
    exact ⟨rfl, ans1 (v := .bool false) (by simp) (by simp [hne])⟩
  have hlI : ((zs.length : Int) == us.length) = true := by simpa using (show (zs.length : Int) = us.length by omega)
  repeat' (first | refine Wp.seq ?_ | refine Wp.block ?_ | (apply Wp.region; focus ((try simp [setArgs, hlI]) <;> rfl)) | (refine Wp.cond_t ?_ ?_; focus (simp [setArgs, hlI]; done)) | (refine Wp.cond_f ?_ ?_; focus (simp [setArgs, hlI]; done)) | refine Wp.skip ?_ | refine Wp.ret ?_ | refine Wp.exit ?_ | refine Blk.here ?_ | (refine Blk.past ?_ ?_; focus (simp; done)))
  refine Wp.loop rfl rfl (fun i st => st.tm.get .any 0 = .slice (ints (nums zs)) ∧ st.tm.get .any 1 = .slice (ints (nums us)) ∧ st.tm.get .any 12 = .int .i64 (.c zs.length) ∧ st.tm.get .any 13 = .int .i64 (.c i) ∧ st.sto = ⟨0, [], 0⟩ ∧ zs.take i = us.take i) zs.length (by omega) ?_ ?_ ?_
  · exact ⟨by simp [setArgs], by simp [setArgs], by simp, by simp, rfl, by simp⟩
  · rintro f i ⟨tm, S⟩ hi ⟨h0, h1, h12, h5, rfl, htk⟩
    simp only at h0 h1 h5 h12
    have hlt : (i : Int) < zs.length := by omega
    have hiu : i < us.length := by omega
    have hltu : (i : Int) < us.length := by omega
    have hxi : zs[i]? = some zs[i] := List.getElem?_eq_getElem hi
    have hyi : us[i]? = some us[i] := List.getElem?_eq_getElem hiu
    have hw := wrap_in (a := (i : Int) + 1) (by omega) (by omega)
    have hs : zs.take (i + 1) = us.take (i + 1) ↔ zs[i] = us[i] := by
      rw [List.take_add_one, List.take_add_one, hxi, hyi, htk]
      simp only [Option.toList_some, List.append_cancel_left_eq, List.cons.injEq, and_true]
    generalize hx : zs[i] = x at hxi hs
    generalize hy : us[i] = y at hyi hs
    repeat' (first | refine Wp.seq ?_ | refine Wp.block ?_ | (apply Wp.region; focus ((try simp [h0, h1, h5, h12, hlt]) <;> rfl)) | (refine Wp.cond_t ?_ ?_; focus (simp [h0, h1, h5, h12, hlt]; done)) | (refine Wp.cond_f ?_ ?_; focus (simp [h0, h1, h5, h12, hlt]; done)) | refine Wp.skip ?_ | refine Wp.ret ?_ | refine Wp.exit ?_ | refine Blk.here ?_ | (refine Blk.past ?_ ?_; focus (simp; done)))
    (apply Wp.drawn2 8; (focus kernel_rfl); (focus kernel_rfl); (focus intro F; simp [dhead, seenBy, keepOnly, looks, joinN, addN, bite_eq, Op.operands, takeNew, Call.operands, h0, h1, h5, hlt, hltu, hi, hiu, hxi, hyi, hx, hy]; exact ⟨rfl, rfl, rfl⟩); (focus (try simp [allN, takeNew, Call.operands, h0, h1, h5, hlt, hltu, hi, hiu, hxi, hyi, hx, hy]) <;> rfl))
    by_cases hxy : x = y
    · subst hxy
      repeat' (first | refine Wp.seq ?_ | refine Wp.block ?_ | (apply Wp.region; focus ((try simp [h0, h1, h5, h12, hw]) <;> rfl)) | (refine Wp.cond_t ?_ ?_; focus (simp [h0, h1, h5, h12, hw]; done)) | (refine Wp.cond_f ?_ ?_; focus (simp [h0, h1, h5, h12, hw]; done)) | refine Wp.skip ?_ | refine Wp.ret ?_ | refine Wp.exit ?_ | refine Blk.here ?_ | (refine Blk.past ?_ ?_; focus (simp; done)))
      exact ⟨by simp [h0], by simp [h1], by simp [h12], by simp [hw], rfl, hs.2 rfl⟩
    · have hxy' : (x == y) = false := by simpa using hxy
      have hne : decide (zs = us) = false := decide_eq_false (fun e => hxy (hs.1 (by rw [e])))
      repeat' (first | refine Wp.seq ?_ | refine Wp.block ?_ | (apply Wp.region; focus ((try simp [h0, h1, h5, h12, hxy, hxy']) <;> rfl)) | (refine Wp.cond_t ?_ ?_; focus (simp [h0, h1, h5, h12, hxy, hxy']; done)) | (refine Wp.cond_f ?_ ?_; focus (simp [h0, h1, h5, h12, hxy, hxy']; done)) | refine Wp.skip ?_ | refine Wp.ret ?_ | refine Wp.exit ?_ | refine Blk.here ?_ | (refine Blk.past ?_ ?_; focus (simp; done)))
      exact ⟨rfl, ans1 (v := .bool false) (by simp) (by simp [hne])⟩
  · rintro f ⟨tm, S⟩ ⟨h0, h1, h12, h5, rfl, htk⟩
    simp only at h0 h1 h5 h12
    have hnl : ¬ (zs.length : Int) < zs.length := by omega
    rw [List.take_of_length_le (Nat.le_refl _), List.take_of_length_le (by omega)] at htk
    subst htk
    repeat' (first | refine Wp.seq ?_ | refine Wp.block ?_ | (apply Wp.region; focus ((try simp [h0, h1, h5, h12, hnl]) <;> rfl)) | (refine Wp.cond_t ?_ ?_; focus (simp [h0, h1, h5, h12, hnl]; done)) | (refine Wp.cond_f ?_ ?_; focus (simp [h0, h1, h5, h12, hnl]; done)) | refine Wp.skip ?_ | refine Wp.ret ?_ | refine Wp.exit ?_ | refine Blk.here ?_ | (refine Blk.past ?_ ?_; focus (simp; done)))
    exact ⟨rfl, ans1 (v := .bool true) (by simp) (by simp)⟩
end
end Go.Proofs.Ytobdnpnohaonkaa.Pr

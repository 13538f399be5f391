import Derived.Test.YtobdnpnohaonkaaRows
import Derived.Test.YtobdnpnohaonkaaSym
import Derived.Test.YtobdnpnohaonkaaSymD
import Derived.Test.YtobdnpnohaonkaaSymE
import Derived.Test.YtobdnpnohaonkaaIds
import Derived.Test.YtobdnpnohaonkaaSeq
import Derived.Test.YtobdnpnohaonkaaSeqB
import Derived.WalkKit
import Derived.ProofKit
import Derived.OpenShut
namespace Go.Proofs.Ytobdnpnohaonkaa.Seq
open Go.ChangeShapes Go.WideShapes Go.ChangeAt Go.RowKit Go.Sx Go.Proofs.Ytobdnpnohaonkaa.Ids
set_option linter.unusedVariables false
set_option linter.unusedSimpArgs false

theorem implSeq_nil : (symRun Try.prog KI [] 20 17 [.emp] ⟨0, [], 0⟩).map (·.1) = some (.bool false) := by kernel_rfl
theorem inR (L : Nat) (h1 : 1 ≤ L) (h6 : L ≤ 6) (f : Nat) : acallV (symIn Try.prog KSp [] (f + 9)) ⟨0, [], 0⟩ (.func 41 [] []) [.int .i64 (.c L), .int .i64 (.c 1), .int .i64 (.c 6)] = some (.bool true, ⟨0, [], 0⟩) := by
  have h : L = 1 ∨ L = 2 ∨ L = 3 ∨ L = 4 ∨ L = 5 ∨ L = 6 := by omega
  rcases h with rfl | rfl | rfl | rfl | rfl | rfl <;> (show _ = _; kernel_rfl)
section
variable {I : Type} {N : Num I} {T : TypeId → Option Ti} {C : FuncId → List (V I) → Sto I → Option (V I × Sto I)} {nt : Nat}
theorem aops_cutE {all : List Oper} {F Q : St I → Prop} : ∀ (q : Nat) (l : List Oper) (st : St I), (∃ mid, aops N T C nt all (l.take q) st = some mid ∧ F mid) → (∀ mid, F mid → ∃ st', aops N T C nt all (l.drop q) mid = some st' ∧ Q st') → ∃ st', aops N T C nt all l st = some st' ∧ Q st'
  | 0, l, st, h1, h2 => by
    obtain ⟨mid, h, hf⟩ := h1
    simp only [List.take_zero, aops] at h
    cases h
    exact h2 _ hf
  | q + 1, [], st, h1, h2 => by
    obtain ⟨mid, h, hf⟩ := h1
    simp only [List.take_nil, aops] at h
    cases h
    exact h2 _ hf
  | q + 1, o :: r, st, h1, h2 => by
    obtain ⟨mid, h, hf⟩ := h1
    simp only [List.take_succ_cons, aops] at h
    simp only [aops]
    cases hw : wants all st o with
    | none => rw [hw] at h; cases h
    | some w =>
      rw [hw] at h
      cases w with
      | true =>
        simp only at h ⊢
        cases ha : aop N T C st o with
        | none => rw [ha] at h; cases h
        | some vs =>
          rw [ha] at h
          simp only at h ⊢
          exact aops_cutE q r _ ⟨mid, h, hf⟩ h2
      | false =>
        simp only at h ⊢
        exact aops_cutE q r _ ⟨mid, h, hf⟩ h2
variable {D : List Oper → St I → Option (St I)} {L : Code → St I → Option (AExit × St I)} {Qn : St I → Prop} {Qx : AExit → St I → Prop}
theorem _root_.Go.Sx.Wp.regionG {id : Nat} {ops : Array Oper} {st : St I} {G : St I → Prop} (h : ∃ st', aops N T C nt ops.toList ops.toList st = some st' ∧ G st') (hn : ∀ st', G st' → Qn st') : Wp N T C nt D L (.region id ops false) st Qn Qx := by
  obtain ⟨st', h1, h2⟩ := h
  exact Wp.region h1 (hn _ h2)
end
section
attribute [local simp] aops wants aop apure St.eval setTm_some setTm_none Tr.get_set aload evals pevals apureB tiS tiI tiB abin aint isCmp sym_lt sym_eqs sym_neqs sym_eq sym_neq sym_gtr sym_leq sym_geq sym_add sym_sub sym_mul aeff aeffB idx? ofV aindexAddr aggDesc aifc_int aun
set_option maxRecDepth 10000 in
theorem specList_run (z0 : List Int) (zr : List (List Int)) (hl0 : (z0 :: zr).length ≤ 1048576) (hl : ∀ zs, zs ∈ z0 :: zr → zs.length ≤ 1048576) (E m : Nat) (hE : (z0 :: zr).length < E) (hm : (z0 :: zr).length + E + 9 < m) :
    ∃ r, symRun Try.prog KSp [] (m + 2) 22 [patS (z0 :: zr)] ⟨0, [], 0⟩ = some r ∧ r.1 = .bool (seqB (z0 :: zr)) := by
  refine own_run2 (n := m + 1) (by rfl) Try.func22 rfl rfl ?_
  simp only [Try.f22]
  rw [show patS (z0 :: zr) = .slice ((z0 :: zr).map patL) from rfl]
  have hpos : 1 ≤ (z0 :: zr).length := by simp
  generalize z0 :: zr = zss at hl0 hl hpos hE hm ⊢
  have hlen : (zss.map patL).length = zss.length := List.length_map ..
  have alS : alen (symNum []) (tiOf Try.prog) 24 (.slice (zss.map patL)) = some (.int .i64 (.c zss.length)) := by simp [alen, tiSS, symNum]
  have no : ∀ (st : St Sy) (t : Nat), st.tm.get .any t = .bool false → st.sto = ⟨0, [], 0⟩ → ¬ SeqP zss → ∃ r, answer (tiOf Try.prog) st 0 [.tmp t] = some r ∧ r.1 = .bool (seqB zss) := fun st t h1 h2 h3 => by
    rw [seqB_false h3]
    exact answer_trim1 h1 rfl
  repeat' (first | refine Wp.seq ?_ | refine Wp.block ?_ | (apply Wp.region; focus ((try simp [setArgs, alS]) <;> rfl)) | (refine Wp.cond_t ?_ ?_; focus (simp [setArgs, alS]; done)) | (refine Wp.cond_f ?_ ?_; focus (simp [setArgs, alS]; done)) | refine Wp.skip ?_ | refine Wp.ret ?_ | refine Wp.exit ?_ | refine Blk.here ?_ | (refine Blk.past ?_ ?_; focus (simp; done)))
  refine Wp.loopF rfl rfl (fun i st => st.tm.get .any 0 = .slice (zss.map patL) ∧ st.tm.get .any 3 = .int .i64 (.c i) ∧ st.sto = ⟨0, [], 0⟩ ∧
    ∀ n, n < i → n < zss.length → (zss.getD n []).length = zss.length ∧ validP 1000000 (zss.getD n []) ∧ ends (zss.getD n []) n = true) zss.length E (by omega) ?_ ?_ ?_
  · exact ⟨by simp, by simp, rfl, fun n h => by omega⟩
  · rintro f i ⟨tm, S⟩ hf hi ⟨h0, h3, rfl, hall⟩
    simp only at h0 h3
    have hlt : (i : Int) < zss.length := by omega
    have hxi : (zss.map patL)[i]? = some (patL (zss.getD i [])) := by simp [List.getD, hi]
    have hxs : zss[i]? = some (zss.getD i []) := by simp [List.getD, hi]
    have hw := wrap_in (a := (i : Int) + 1) (by omega) (by omega)
    have hzl : (zss.getD i []).length ≤ 1048576 := hl _ (List.mem_of_getElem? hxs)
    generalize hz : zss.getD i [] = zs at hxi hxs hzl
    have hzi : zss[i] = zs := by rw [← hz]; simp [List.getD, hi]
    have al := alen_patL zs
    have cv := callSP zs hzl m
    have hii : i < (zss.map patL).length := by omega
    have hp : zs.length = zss.length → patL zs = .slice (ints (nums zs)) := fun h => by
      cases zs with
      | nil => simp at h; omega
      | cons a r => rfl
    have hyi : zs[i]? = if i < zs.length then some (zs.getD i 0) else none := by
      split
      · rename_i h; simp [List.getD, h]
      · rename_i h; simp; omega
    refine Wp.seq ?_
    refine Wp.seq ?_
    (apply Wp.region; focus ((try simp [h0, h3, alS]) <;> rfl))
    refine Wp.cond_t ?_ ?_
    focus (simp [hlt, hi]; done)
    refine Wp.skip ?_
    refine Wp.seq ?_
    refine Wp.block ?_
    refine Wp.seq ?_
    refine Wp.seq ?_
    by_cases h1 : zs.length = zss.length
    · have hiz : i < zs.length := by omega
      have hp := hp h1
      rw [hp] at al cv hxi
      rw [if_pos hiz] at hyi
      generalize hy : zs.getD i 0 = y at hyi
      have hyi2 : zs[i] = y := by rw [← hy]; simp [List.getD, hiz]
      by_cases h2 : validP 1000000 zs
      · by_cases h4 : y = 0
        · have hno : ¬ SeqP zss := fun h => by have := ((ends_iff zs i).1 (by have := (h.2.2 i hi).2.2; rwa [hz] at this)).2.1; rw [hy] at this; exact this h4
          refine Wp.regionG (G := (fun st : St Sy => st.tm.get .any 0 = .slice (zss.map patL) ∧ st.tm.get .any 3 = .int .i64 (.c i) ∧ st.tm.get .any 36 = .bool true ∧ st.sto = ⟨0, [], 0⟩)) (aops_cutE (F := (fun st : St Sy => st.tm.get .any 0 = .slice (zss.map patL) ∧ st.tm.get .any 3 = .int .i64 (.c i) ∧ st.tm.get .any 19 = .bool false ∧ st.sto = ⟨0, [], 0⟩)) 9 _ _ ⟨_, by simp [h0, h3, hzi, hxi, hi, hii, al, alS, hlen, tiSS, hp, h1]; rfl, by simp [h0], by simp [h3], by simp, rfl⟩ (fun st1 hf1 => aops_cutE (F := (fun st : St Sy => st.tm.get .any 0 = .slice (zss.map patL) ∧ st.tm.get .any 3 = .int .i64 (.c i) ∧ st.tm.get .any 27 = .bool false ∧ st.sto = ⟨0, [], 0⟩)) 8 _ _ ?p2A ?p3A)) (fun st4 hf4 => ?p4A)
          case p2A =>
            obtain ⟨tm1, S1⟩ := st1
            obtain ⟨f0, f3, f19, rfl⟩ := hf1
            simp only at f0 f3 f19
            exact ⟨_, by simp [f0, f3, f19, hp, cv, h2, hzi, hxi, hi, hii, al, alS, hlen, tiSS]; rfl, by simp [f0], by simp [f3], by simp, rfl⟩
          case p3A =>
            rintro ⟨tm2, S2⟩ ⟨f0, f3, f27, rfl⟩
            simp only at f0 f3 f27
            exact ⟨_, by simp [f0, f3, f27, hp, hyi, hyi2, hiz, h4, hzi, hxi, hi, hii, al, alS, hlen, tiSS]; rfl, by simp [f0], by simp [f3], by simp, rfl⟩
          case p4A =>
            obtain ⟨tm4, S4⟩ := st4
            obtain ⟨f0, f3, f36, rfl⟩ := hf4
            simp only at f0 f3 f36
            repeat' (first | refine Wp.seq ?_ | refine Wp.block ?_ | (apply Wp.region; focus ((try simp [f0, f3, f36]) <;> rfl)) | (refine Wp.cond_t ?_ ?_; focus (simp [f0, f3, f36]; done)) | (refine Wp.cond_f ?_ ?_; focus (simp [f0, f3, f36]; done)) | refine Wp.skip ?_ | refine Wp.ret ?_ | refine Wp.exit ?_ | refine Blk.here ?_ | (refine Blk.past ?_ ?_; focus (simp; done)))
            exact ⟨rfl, no _ _ (by simp) rfl hno⟩
        · have h4b : (y == 0) = false := by simp [h4]
          refine Wp.regionG (G := (fun st : St Sy => st.tm.get .any 0 = .slice (zss.map patL) ∧ st.tm.get .any 3 = .int .i64 (.c i) ∧ st.tm.get .any 36 = .bool false ∧ st.sto = ⟨0, [], 0⟩)) (aops_cutE (F := (fun st : St Sy => st.tm.get .any 0 = .slice (zss.map patL) ∧ st.tm.get .any 3 = .int .i64 (.c i) ∧ st.tm.get .any 19 = .bool false ∧ st.sto = ⟨0, [], 0⟩)) 9 _ _ ⟨_, by simp [h0, h3, hzi, hxi, hi, hii, al, alS, hlen, tiSS, hp, h1]; rfl, by simp [h0], by simp [h3], by simp, rfl⟩ (fun st1 hf1 => aops_cutE (F := (fun st : St Sy => st.tm.get .any 0 = .slice (zss.map patL) ∧ st.tm.get .any 3 = .int .i64 (.c i) ∧ st.tm.get .any 27 = .bool false ∧ st.sto = ⟨0, [], 0⟩)) 8 _ _ ?p2B ?p3B)) (fun st4 hf4 => ?p4B)
          case p2B =>
            obtain ⟨tm1, S1⟩ := st1
            obtain ⟨f0, f3, f19, rfl⟩ := hf1
            simp only at f0 f3 f19
            exact ⟨_, by simp [f0, f3, f19, hp, cv, h2, hzi, hxi, hi, hii, al, alS, hlen, tiSS]; rfl, by simp [f0], by simp [f3], by simp, rfl⟩
          case p3B =>
            rintro ⟨tm2, S2⟩ ⟨f0, f3, f27, rfl⟩
            simp only at f0 f3 f27
            exact ⟨_, by simp [f0, f3, f27, hp, hyi, hyi2, hiz, h4, h4b, hzi, hxi, hi, hii, al, alS, hlen, tiSS]; rfl, by simp [f0], by simp [f3], by simp, rfl⟩
          case p4B =>
            obtain ⟨tm4, S4⟩ := st4
            obtain ⟨f0, f3, f36, rfl⟩ := hf4
            simp only at f0 f3 f36
            have hzl2 : zs.length ≤ 6 := h2.2.2
            repeat' (first | refine Wp.seq ?_ | refine Wp.block ?_ | (apply Wp.region; focus ((try simp [f0, f3, f36, hw]) <;> rfl)) | (refine Wp.cond_t ?_ ?_; focus (simp [f0, f3, f36, hw]; done)) | (refine Wp.cond_f ?_ ?_; focus (simp [f0, f3, f36, hw]; done)) | refine Wp.skip ?_ | refine Wp.ret ?_ | refine Wp.exit ?_ | refine Blk.here ?_ | (refine Blk.past ?_ ?_; focus (simp; done)))
            refine Wp.loop rfl rfl (fun k st => st.tm.get .any 0 = .slice (zss.map patL) ∧ st.tm.get .any 3 = .int .i64 (.c i) ∧ st.tm.get .any 4 = .int .i64 (.c ((i + 1 + k : Nat) : Int)) ∧ st.sto = ⟨0, [], 0⟩ ∧ ∀ j, i < j → j < i + 1 + k → zs.getD j 0 = 0) (zs.length - (i + 1)) (by omega) ?_ ?_ ?_
            · exact ⟨by simp [f0], by simp [f3], by simp, rfl, fun j h1 h2 => by omega⟩
            · rintro f' k ⟨tm5, S5⟩ hk ⟨g0, g3, g4, rfl, gall⟩
              simp only at g0 g3 g4
              have hkl : i + 1 + k < zs.length := by omega
              have hki : (((i + 1 + k : Nat) : Int)) < zs.length := by omega
              have hw2 := wrap_in (a := ((i + 1 + k : Nat) : Int) + 1) (by omega) (by omega)
              have hxk : zs[i + 1 + k]? = some (zs.getD (i + 1 + k) 0) := by simp [List.getD, hkl]
              generalize hu : zs.getD (i + 1 + k) 0 = u at hxk
              have hxk2 : zs[i + 1 + k] = u := by rw [← hu]; simp [List.getD, hkl]
              generalize hK : i + 1 + k = K at g4 hkl hki hw2 hxk hu hxk2 gall
              by_cases hu0 : u = 0
              · repeat' (first | refine Wp.seq ?_ | refine Wp.block ?_ | (apply Wp.region; focus ((try simp [g0, g3, g4, hzi, hp, hxi, hi, hii, al, alS, hlen, tiSS, hki, hkl, hxk, hxk2, hu0, hw2]) <;> rfl)) | (refine Wp.cond_t ?_ ?_; focus (simp [g0, g3, g4, hzi, hp, hxi, hi, hii, al, alS, hlen, tiSS, hki, hkl, hxk, hxk2, hu0, hw2]; done)) | (refine Wp.cond_f ?_ ?_; focus (simp [g0, g3, g4, hzi, hp, hxi, hi, hii, al, alS, hlen, tiSS, hki, hkl, hxk, hxk2, hu0, hw2]; done)) | refine Wp.skip ?_ | refine Wp.ret ?_ | refine Wp.exit ?_ | refine Blk.here ?_ | (refine Blk.past ?_ ?_; focus (simp; done)))
                exact ⟨by simp [g0], by simp [g3], by simp; omega, rfl, fun j q1 q2 => by
                  rcases Nat.lt_succ_iff_lt_or_eq.1 (show j < K + 1 by omega) with q | rfl
                  · exact gall j q1 q
                  · rw [hu]; exact hu0⟩
              · have hub : (u == 0) = false := by simp [hu0]
                repeat' (first | refine Wp.seq ?_ | refine Wp.block ?_ | (apply Wp.region; focus ((try simp [g0, g3, g4, hzi, hp, hxi, hi, hii, al, alS, hlen, tiSS, hki, hkl, hxk, hxk2, hu0, hub, hw2]) <;> rfl)) | (refine Wp.cond_t ?_ ?_; focus (simp [g0, g3, g4, hzi, hp, hxi, hi, hii, al, alS, hlen, tiSS, hki, hkl, hxk, hxk2, hu0, hub, hw2]; done)) | (refine Wp.cond_f ?_ ?_; focus (simp [g0, g3, g4, hzi, hp, hxi, hi, hii, al, alS, hlen, tiSS, hki, hkl, hxk, hxk2, hu0, hub, hw2]; done)) | refine Wp.skip ?_ | refine Wp.ret ?_ | refine Wp.exit ?_ | refine Blk.here ?_ | (refine Blk.past ?_ ?_; focus (simp; done)))
                exact ⟨rfl, no _ _ (by simp) rfl (fun h => by have := ((ends_iff zs i).1 (by have := (h.2.2 i hi).2.2; rwa [hz] at this)).2.2 K (by omega); rw [hu] at this; exact hu0 this)⟩
            · rintro f' ⟨tm5, S5⟩ ⟨g0, g3, g4, rfl, gall⟩
              simp only at g0 g3 g4
              have hkn : ¬ (((i + 1 + (zs.length - (i + 1)) : Nat) : Int)) < zs.length := by omega
              generalize i + 1 + (zs.length - (i + 1)) = K at g4 hkn gall
              repeat' (first | refine Wp.seq ?_ | refine Wp.block ?_ | (apply Wp.region; focus ((try simp [g0, g3, g4, hzi, hp, hxi, hi, hii, al, alS, hlen, tiSS, hkn, hw]) <;> rfl)) | (refine Wp.cond_t ?_ ?_; focus (simp [g0, g3, g4, hzi, hp, hxi, hi, hii, al, alS, hlen, tiSS, hkn, hw]; done)) | (refine Wp.cond_f ?_ ?_; focus (simp [g0, g3, g4, hzi, hp, hxi, hi, hii, al, alS, hlen, tiSS, hkn, hw]; done)) | refine Wp.skip ?_ | refine Wp.ret ?_ | refine Wp.exit ?_ | refine Blk.here ?_ | (refine Blk.past ?_ ?_; focus (simp; done)))
              have hen : ends zs i = true := (ends_iff zs i).2 ⟨hiz, by rw [hy]; exact h4, fun j hj => by
                rcases Nat.lt_or_ge j K with q | q
                · exact gall j hj q
                · simp [List.getD, List.getElem?_eq_none (show zs.length ≤ j by omega)]⟩
              exact ⟨by simp [g0], by simp, rfl, fun n hn hn2 => by
                rcases Nat.lt_succ_iff_lt_or_eq.1 hn with h | rfl
                · exact hall n h hn2
                · rw [hz]; exact ⟨h1, h2, hen⟩⟩
      · have hno : ¬ SeqP zss := fun h => h2 (by have := (h.2.2 i hi).2.1; rwa [hz] at this)
        refine Wp.regionG (G := (fun st : St Sy => st.tm.get .any 0 = .slice (zss.map patL) ∧ st.tm.get .any 3 = .int .i64 (.c i) ∧ st.tm.get .any 36 = .bool true ∧ st.sto = ⟨0, [], 0⟩)) (aops_cutE (F := (fun st : St Sy => st.tm.get .any 0 = .slice (zss.map patL) ∧ st.tm.get .any 3 = .int .i64 (.c i) ∧ st.tm.get .any 19 = .bool false ∧ st.sto = ⟨0, [], 0⟩)) 9 _ _ ⟨_, by simp [h0, h3, hzi, hxi, hi, hii, al, alS, hlen, tiSS, hp, h1]; rfl, by simp [h0], by simp [h3], by simp, rfl⟩ (fun st1 hf1 => aops_cutE (F := (fun st : St Sy => st.tm.get .any 0 = .slice (zss.map patL) ∧ st.tm.get .any 3 = .int .i64 (.c i) ∧ st.tm.get .any 27 = .bool true ∧ st.sto = ⟨0, [], 0⟩)) 8 _ _ ?p2C ?p3C)) (fun st4 hf4 => ?p4C)
        case p2C =>
          obtain ⟨tm1, S1⟩ := st1
          obtain ⟨f0, f3, f19, rfl⟩ := hf1
          simp only at f0 f3 f19
          exact ⟨_, by simp [f0, f3, f19, hp, cv, h2, hzi, hxi, hi, hii, al, alS, hlen, tiSS]; rfl, by simp [f0], by simp [f3], by simp, rfl⟩
        case p3C =>
          rintro ⟨tm2, S2⟩ ⟨f0, f3, f27, rfl⟩
          simp only at f0 f3 f27
          exact ⟨_, by simp [f0, f3, f27, hzi, hxi, hi, hii, al, alS, hlen, tiSS]; rfl, by simp [f0], by simp [f3], by simp, rfl⟩
        case p4C =>
          obtain ⟨tm4, S4⟩ := st4
          obtain ⟨f0, f3, f36, rfl⟩ := hf4
          simp only at f0 f3 f36
          repeat' (first | refine Wp.seq ?_ | refine Wp.block ?_ | (apply Wp.region; focus ((try simp [f0, f3, f36]) <;> rfl)) | (refine Wp.cond_t ?_ ?_; focus (simp [f0, f3, f36]; done)) | (refine Wp.cond_f ?_ ?_; focus (simp [f0, f3, f36]; done)) | refine Wp.skip ?_ | refine Wp.ret ?_ | refine Wp.exit ?_ | refine Blk.here ?_ | (refine Blk.past ?_ ?_; focus (simp; done)))
          exact ⟨rfl, no _ _ (by simp) rfl hno⟩
    · have hno : ¬ SeqP zss := fun h => h1 (by have := (h.2.2 i hi).1; rwa [hz] at this)
      have h1i : ¬ (zs.length : Int) = (zss.length : Int) := by omega
      have h1b : ((zs.length : Int) == (zss.length : Int)) = false := by simp; omega
      have h1n : (zs.length == zss.length) = false := by simp; omega
      refine Wp.regionG (G := (fun st : St Sy => st.tm.get .any 0 = .slice (zss.map patL) ∧ st.tm.get .any 3 = .int .i64 (.c i) ∧ st.tm.get .any 36 = .bool true ∧ st.sto = ⟨0, [], 0⟩)) (aops_cutE (F := (fun st : St Sy => st.tm.get .any 0 = .slice (zss.map patL) ∧ st.tm.get .any 3 = .int .i64 (.c i) ∧ st.tm.get .any 19 = .bool true ∧ st.sto = ⟨0, [], 0⟩)) 9 _ _ ⟨_, by simp [h0, h3, hzi, hxi, hi, hii, al, alS, hlen, tiSS, h1, h1i, h1b, h1n]; rfl, by simp [h0], by simp [h3], by simp, rfl⟩ (fun st1 hf1 => aops_cutE (F := (fun st : St Sy => st.tm.get .any 0 = .slice (zss.map patL) ∧ st.tm.get .any 3 = .int .i64 (.c i) ∧ st.tm.get .any 27 = .bool true ∧ st.sto = ⟨0, [], 0⟩)) 8 _ _ ?p2D ?p3D)) (fun st4 hf4 => ?p4D)
      case p2D =>
        obtain ⟨tm1, S1⟩ := st1
        obtain ⟨f0, f3, f19, rfl⟩ := hf1
        simp only at f0 f3 f19
        exact ⟨_, by simp [f0, f3, f19, hzi, hxi, hi, hii, al, alS, hlen, tiSS]; rfl, by simp [f0], by simp [f3], by simp, rfl⟩
      case p3D =>
        rintro ⟨tm2, S2⟩ ⟨f0, f3, f27, rfl⟩
        simp only at f0 f3 f27
        exact ⟨_, by simp [f0, f3, f27, hzi, hxi, hi, hii, al, alS, hlen, tiSS]; rfl, by simp [f0], by simp [f3], by simp, rfl⟩
      case p4D =>
        obtain ⟨tm4, S4⟩ := st4
        obtain ⟨f0, f3, f36, rfl⟩ := hf4
        simp only at f0 f3 f36
        repeat' (first | refine Wp.seq ?_ | refine Wp.block ?_ | (apply Wp.region; focus ((try simp [f0, f3, f36]) <;> rfl)) | (refine Wp.cond_t ?_ ?_; focus (simp [f0, f3, f36]; done)) | (refine Wp.cond_f ?_ ?_; focus (simp [f0, f3, f36]; done)) | refine Wp.skip ?_ | refine Wp.ret ?_ | refine Wp.exit ?_ | refine Blk.here ?_ | (refine Blk.past ?_ ?_; focus (simp; done)))
        exact ⟨rfl, no _ _ (by simp) rfl hno⟩
  · rintro f ⟨tm, S⟩ hf ⟨h0, h3, rfl, hall⟩
    simp only at h0 h3
    have h6 : zss.length ≤ 6 := by have := (hall 0 (by omega) (by omega)).2.1.2.2; rw [(hall 0 (by omega) (by omega)).1] at this; exact this
    obtain ⟨m', rfl⟩ : ∃ m', m = m' + 9 := ⟨m - 9, by omega⟩
    have hr := inR zss.length hpos h6 (m' + 1)
    rw [show m' + 1 + 9 = m' + 9 + 1 by omega] at hr
    repeat' (first | refine Wp.seq ?_ | refine Wp.block ?_ | (apply Wp.region; focus ((try simp [h0, h3, alS, hr]) <;> rfl)) | (refine Wp.cond_t ?_ ?_; focus (simp [h0, h3, alS, hr]; done)) | (refine Wp.cond_f ?_ ?_; focus (simp [h0, h3, alS, hr]; done)) | refine Wp.skip ?_ | refine Wp.ret ?_ | refine Wp.exit ?_ | refine Blk.here ?_ | (refine Blk.past ?_ ?_; focus (simp; done)))
    have hs : SeqP zss := ⟨hpos, h6, fun n hn => hall n hn hn⟩
    refine ⟨rfl, answer_trim1 (v := .bool true) (by simp) (by rw [seqB_true hs])⟩
end
end Go.Proofs.Ytobdnpnohaonkaa.Seq

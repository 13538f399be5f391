/-
  Polynomials in the place of powers: what both sides answer at any lists. No condition.
-/
import Derived.Test.YtobdnpnohaonkaaRows
import Derived.Test.YtobdnpnohaonkaaSym
import Derived.Test.YtobdnpnohaonkaaSymD
import Derived.Test.YtobdnpnohaonkaaSymE
import Derived.Test.YtobdnpnohaonkaaSymF
import Derived.Test.YtobdnpnohaonkaaIds
import Derived.Test.YtobdnpnohaonkaaSumm
import Derived.Test.YtobdnpnohaonkaaSeq
import Derived.Test.YtobdnpnohaonkaaSeqB
import Derived.Test.YtobdnpnohaonkaaSeqC
import Derived.Test.YtobdnpnohaonkaaSeqE
import Derived.Test.YtobdnpnohaonkaaRep
import Derived.WalkKit
import Derived.ProofKit
import Derived.OpenShut
namespace Go.Proofs.Ytobdnpnohaonkaa.Rep
open Go.ChangeShapes Go.WideShapes Go.ChangeAt Go.RowKit Go.Sx Go.Proofs.Ytobdnpnohaonkaa.Ids Go.Proofs.Ytobdnpnohaonkaa.Seq
set_option linter.unusedVariables false
set_option linter.unusedSimpArgs false

theorem specVL_nil : (symRun Try.prog KSp [] 20 22 [.emp] ⟨0, [], 0⟩).map (·.1) = some (.bool false) := by kernel_rfl
theorem specVL_ok (zss : List (List Int)) (hl0 : zss.length ≤ 1048576) (hl : ∀ zs, zs ∈ zss → zs.length ≤ 1048576) : ∃ (K : Ctr) (n : Nat) (S : Sto Sy), (∀ (ρ : Nat → Int) (s : Sms) (B : Nat), COk Try.prog ⟨Sy.den ρ, s⟩ B K) ∧ symRun Try.prog K [] n 22 [patS zss] ⟨0, [], 0⟩ = some (.bool (seqB zss), S) := by
  cases zss with
  | nil =>
    obtain ⟨⟨v, S⟩, h1, h2⟩ := Option.map_eq_some_iff.1 specVL_nil
    cases h2
    exact ⟨KSp, 20, S, KSp_ok, by rw [seqB_nil]; exact h1⟩
  | cons z0 zr =>
    obtain ⟨⟨v, S⟩, h1, h2⟩ := specList_run z0 zr hl0 hl ((z0 :: zr).length + 1) ((z0 :: zr).length + ((z0 :: zr).length + 1) + 10) (by omega) (by omega)
    subst h2
    exact ⟨KSp, _, S, KSp_ok, h1⟩
noncomputable def KRI : Ctr := orK (askK 16 fun zs => decide (validP 1000000 zs)) (askSK 17 seqB)
noncomputable def KRS : Ctr := orK (askK 21 fun zs => decide (validP 1000000 zs)) (askSK 22 seqB)
theorem KRI_ok (ρ : Nat → Int) (s : Sms) (B : Nat) : COk Try.prog ⟨Sy.den ρ, s⟩ B KRI :=
  orK_ok (askK_ok noCount mixed (body_of Try.func16 rfl) (fun zs hl => iv_ok zs hl)) (askSK_ok noCount mixed (body_of Try.func17 rfl) implSeq_ok)
theorem KRS_ok (ρ : Nat → Int) (s : Sms) (B : Nat) : COk Try.prog ⟨Sy.den ρ, s⟩ B KRS :=
  orK_ok (askK_ok noCount mixed (body_of Try.func21 rfl) (fun zs hl => sv_ok zs hl)) (askSK_ok noCount mixed (body_of Try.func22 rfl) specVL_ok)

theorem rowsFrom_patL (S : Sto Sy) : ∀ l : List (List Int), rowsFrom S (l.map patL) = some l
  | [] => rfl
  | z :: r => by simp only [List.map_cons, rowsFrom, constsOf_patL, rowsFrom_patL S r]
theorem rowsOf_patS (S : Sto Sy) (zss : List (List Int)) : rowsOf S (patS zss) = some zss := by
  cases zss with
  | nil => rfl
  | cons z r => simp only [rowsOf, patS, Sto.elems, capOk, bite_true, rowsFrom_patL]
theorem all_le {zss : List (List Int)} (hl : ∀ zs, zs ∈ zss → zs.length ≤ 1048576) : (zss.all fun zs => Nat.ble zs.length 1048576) = true := by
  rw [List.all_eq_true]; intro zs hzs; rw [Nat.ble_eq]; exact hl zs hzs
theorem callK2 {K1 K2 : Ctr} {k : FuncId} {zs : List Int} {F1 : List Int → Bool} (hK1 : K1 = askK k F1) (hk9 : (k : Nat) < 1000000) (hl : zs.length ≤ 1048576) (f : Nat) : acallV (symIn Try.prog (orK K1 K2) [] (f + 1)) ⟨0, [], 0⟩ (.func k [] []) [patL zs] = some (.bool (F1 zs), ⟨0, [], 0⟩) := by
  refine call_K (s1 := ⟨0, [], 0⟩) ?_ (hk := hk9)
  have hb : Nat.ble zs.length 1048576 = true := by rw [Nat.ble_eq]; exact hl
  have hk : Nat.beq k k = true := Nat.beq_refl k
  have e : askK k F1 k [patL zs] ⟨0, [], 0⟩ = some (.bool (F1 zs), ⟨0, [], 0⟩) := by
    unfold askK
    simp only [hk, constsOf_patL, hb, bite_true]
  subst hK1
  unfold orK
  rw [e]
theorem callSK2 {K1 K2 : Ctr} {k : FuncId} {zss : List (List Int)} {F2 : List (List Int) → Bool} (h1 : K1 k [patS zss] ⟨0, [], 0⟩ = none) (hK2 : K2 = askSK k F2) (hk9 : (k : Nat) < 1000000) (hl0 : zss.length ≤ 1048576) (hl : ∀ zs, zs ∈ zss → zs.length ≤ 1048576) (f : Nat) : acallV (symIn Try.prog (orK K1 K2) [] (f + 1)) ⟨0, [], 0⟩ (.func k [] []) [patS zss] = some (.bool (F2 zss), ⟨0, [], 0⟩) := by
  refine call_K (s1 := ⟨0, [], 0⟩) ?_ (hk := hk9)
  have hb : Nat.ble zss.length 1048576 = true := by rw [Nat.ble_eq]; exact hl0
  have hk : Nat.beq k k = true := Nat.beq_refl k
  have e : askSK k F2 k [patS zss] ⟨0, [], 0⟩ = some (.bool (F2 zss), ⟨0, [], 0⟩) := by
    unfold askSK
    simp only [hk, rowsOf_patS, hb, all_le hl, bite_true]
  subst hK2
  unfold orK
  rw [h1]
  exact e
/-- What the code asks first. -/
def RepP (zs : List Int) (zss : List (List Int)) : Prop := validP 1000000 zs ∧ SeqP zss ∧ zs.length = zss.length
theorem alen_patS (zss : List (List Int)) : alen (symNum []) (tiOf Try.prog) 24 (patS zss) = some (.int .i64 (.c zss.length)) := by
  cases zss with
  | nil => simp [alen, patS, tiSS, symNum]
  | cons z r => simp [alen, patS, tiSS, symNum]
section
attribute [local simp] aops wants aop apure St.eval setTm_some setTm_none Tr.get_set aload evals pevals apureB tiS tiI tiB abin aint isCmp sym_lt sym_eqs sym_neqs sym_eq sym_neq sym_gtr sym_leq sym_geq sym_add sym_sub sym_mul aeff aeffB idx? ofV aindexAddr aggDesc aifc_int aun
set_option maxRecDepth 10000 in
theorem implBad (zs : List Int) (zss : List (List Int)) (hl : zs.length ≤ 1048576) (hl0 : zss.length ≤ 1048576) (hls : ∀ zs, zs ∈ zss → zs.length ≤ 1048576) (hno : ¬ RepP zs zss) :
    ∃ r, symRun Try.prog KRI [] 22 5 [patL zs, patS zss] ⟨0, [], 0⟩ = some r ∧ r.1 = .tup [.nil, .bool false] := by
  refine own_run2 (n := 21) (by rfl) Try.func5 rfl rfl ?_
  simp only [Try.f5]
  have c1 : acallV (symIn Try.prog KRI [] 21) ⟨0, [], 0⟩ (.func 16 [] []) [patL zs] = some (.bool (decide (validP 1000000 zs)), ⟨0, [], 0⟩) := callK2 rfl (by decide) hl 20
  have c2 : acallV (symIn Try.prog KRI [] 21) ⟨0, [], 0⟩ (.func 17 [] []) [patS zss] = some (.bool (seqB zss), ⟨0, [], 0⟩) := callSK2 rfl rfl (by decide) hl0 hls 20
  have al := alen_patL zs
  have alS := alen_patS zss
  generalize hx : patL zs = x at c1 al ⊢
  generalize hy : patS zss = y at c2 alS ⊢
  by_cases h1 : validP 1000000 zs
  · by_cases h2 : SeqP zss
    · have h3 : ¬ zs.length = zss.length := fun h => hno ⟨h1, h2, h⟩
      have h3i : ¬ (zs.length : Int) = (zss.length : Int) := by omega
      have h3b : ((zs.length : Int) == (zss.length : Int)) = false := by simp; omega
      rw [seqB_true h2] at c2
      repeat' (first | refine Wp.seq ?_ | refine Wp.block ?_ | (apply Wp.region; focus ((try simp [setArgs, c1, c2, h1, al, alS, h3, h3i, h3b]) <;> rfl)) | (refine Wp.cond_t ?_ ?_; focus (simp [setArgs, c1, c2, h1, al, alS, h3, h3i, h3b]; done)) | (refine Wp.cond_f ?_ ?_; focus (simp [setArgs, c1, c2, h1, al, alS, h3, h3i, h3b]; done)) | refine Wp.skip ?_ | refine Wp.ret ?_ | refine Wp.exit ?_ | refine Blk.here ?_ | (refine Blk.past ?_ ?_; focus (simp; done)))
      exact ⟨rfl, ⟨_, by simp [answer, aresults, aresult]; rfl, rfl⟩⟩
    · rw [seqB_false h2] at c2
      repeat' (first | refine Wp.seq ?_ | refine Wp.block ?_ | (apply Wp.region; focus ((try simp [setArgs, c1, c2, h1, al, alS]) <;> rfl)) | (refine Wp.cond_t ?_ ?_; focus (simp [setArgs, c1, c2, h1, al, alS]; done)) | (refine Wp.cond_f ?_ ?_; focus (simp [setArgs, c1, c2, h1, al, alS]; done)) | refine Wp.skip ?_ | refine Wp.ret ?_ | refine Wp.exit ?_ | refine Blk.here ?_ | (refine Blk.past ?_ ?_; focus (simp; done)))
      exact ⟨rfl, ⟨_, by simp [answer, aresults, aresult]; rfl, rfl⟩⟩
  · repeat' (first | refine Wp.seq ?_ | refine Wp.block ?_ | (apply Wp.region; focus ((try simp [setArgs, c1, c2, h1, al, alS]) <;> rfl)) | (refine Wp.cond_t ?_ ?_; focus (simp [setArgs, c1, c2, h1, al, alS]; done)) | (refine Wp.cond_f ?_ ?_; focus (simp [setArgs, c1, c2, h1, al, alS]; done)) | refine Wp.skip ?_ | refine Wp.ret ?_ | refine Wp.exit ?_ | refine Blk.here ?_ | (refine Blk.past ?_ ?_; focus (simp; done)))
    exact ⟨rfl, ⟨_, by simp [answer, aresults, aresult]; rfl, rfl⟩⟩
set_option maxRecDepth 10000 in
theorem specBad (zs : List Int) (zss : List (List Int)) (hl : zs.length ≤ 1048576) (hl0 : zss.length ≤ 1048576) (hls : ∀ zs, zs ∈ zss → zs.length ≤ 1048576) (hno : ¬ RepP zs zss) :
    ∃ r, symRun Try.prog KRS [] 22 6 [patL zs, patS zss] ⟨0, [], 0⟩ = some r ∧ r.1 = .tup [.nil, .bool false] := by
  refine own_run2 (n := 21) (by rfl) Try.func6 rfl rfl ?_
  simp only [Try.f6]
  have c1 : acallV (symIn Try.prog KRS [] 21) ⟨0, [], 0⟩ (.func 21 [] []) [patL zs] = some (.bool (decide (validP 1000000 zs)), ⟨0, [], 0⟩) := callK2 rfl (by decide) hl 20
  have c2 : acallV (symIn Try.prog KRS [] 21) ⟨0, [], 0⟩ (.func 22 [] []) [patS zss] = some (.bool (seqB zss), ⟨0, [], 0⟩) := callSK2 rfl rfl (by decide) hl0 hls 20
  have al := alen_patL zs
  have alS := alen_patS zss
  generalize hx : patL zs = x at c1 al ⊢
  generalize hy : patS zss = y at c2 alS ⊢
  by_cases h1 : validP 1000000 zs
  · by_cases h2 : SeqP zss
    · have h3 : ¬ zss.length = zs.length := fun h => hno ⟨h1, h2, h.symm⟩
      have h3i : ¬ (zss.length : Int) = (zs.length : Int) := by omega
      have h3b : ((zss.length : Int) == (zs.length : Int)) = false := by simp; omega
      rw [seqB_true h2] at c2
      repeat' (first | refine Wp.seq ?_ | refine Wp.block ?_ | (apply Wp.region; focus ((try simp [setArgs, c1, c2, h1, al, alS, h3, h3i, h3b]) <;> rfl)) | (refine Wp.cond_t ?_ ?_; focus (simp [setArgs, c1, c2, h1, al, alS, h3, h3i, h3b]; done)) | (refine Wp.cond_f ?_ ?_; focus (simp [setArgs, c1, c2, h1, al, alS, h3, h3i, h3b]; done)) | refine Wp.skip ?_ | refine Wp.ret ?_ | refine Wp.exit ?_ | refine Blk.here ?_ | (refine Blk.past ?_ ?_; focus (simp; done)))
      exact ⟨rfl, ⟨_, by simp [answer, aresults, aresult]; rfl, rfl⟩⟩
    · rw [seqB_false h2] at c2
      repeat' (first | refine Wp.seq ?_ | refine Wp.block ?_ | (apply Wp.region; focus ((try simp [setArgs, c1, c2, h1, al, alS]) <;> rfl)) | (refine Wp.cond_t ?_ ?_; focus (simp [setArgs, c1, c2, h1, al, alS]; done)) | (refine Wp.cond_f ?_ ?_; focus (simp [setArgs, c1, c2, h1, al, alS]; done)) | refine Wp.skip ?_ | refine Wp.ret ?_ | refine Wp.exit ?_ | refine Blk.here ?_ | (refine Blk.past ?_ ?_; focus (simp; done)))
      exact ⟨rfl, ⟨_, by simp [answer, aresults, aresult]; rfl, rfl⟩⟩
  · repeat' (first | refine Wp.seq ?_ | refine Wp.block ?_ | (apply Wp.region; focus ((try simp [setArgs, c1, c2, h1, al, alS]) <;> rfl)) | (refine Wp.cond_t ?_ ?_; focus (simp [setArgs, c1, c2, h1, al, alS]; done)) | (refine Wp.cond_f ?_ ?_; focus (simp [setArgs, c1, c2, h1, al, alS]; done)) | refine Wp.skip ?_ | refine Wp.ret ?_ | refine Wp.exit ?_ | refine Blk.here ?_ | (refine Blk.past ?_ ?_; focus (simp; done)))
    exact ⟨rfl, ⟨_, by simp [answer, aresults, aresult]; rfl, rfl⟩⟩
end

/-! ## Where a number of a sequence stands -/
def unT : List (Nat × Nat) := [(0,0),(1,0),(1,1),(2,0),(2,1),(2,2),(3,0),(3,1),(3,2),(3,3),(4,0),(4,1),(4,2),(4,3),(4,4),(5,0),(5,1),(5,2),(5,3),(5,4),(5,5)]
theorem unT_at : ∀ n, n < 6 → ∀ i, i < n + 1 → unT.getD (n * (n + 1) / 2 + i) (0, 0) = (n, i) ∧ n * (n + 1) / 2 + i < 21 := by decide
def rhoR (zs : List Int) (zss : List (List Int)) (k : Nat) : Int := if k < zs.length then zs.getD k 0 else (zss.getD (unT.getD (k - zs.length) (0, 0)).1 []).getD (unT.getD (k - zs.length) (0, 0)).2 0
theorem wrap1e6 {a : Int} (h : -1000000 ≤ a ∧ a ≤ 1000000) : IntKind.i64.wrap a = a := wrap_in (by omega) (by omega)
theorem rowS_den {zs : List Int} {zss : List (List Int)} (hz : zs.length ≤ 6) (h : SeqP zss) {n : Nat} (hn : n < zss.length) : (rowS zss.length zs.length n).map (Sy.den (rhoR zs zss)) = zss.getD n [] := by
  obtain ⟨h1, h6, hall⟩ := h
  obtain ⟨a1, a2, a3⟩ := hall n hn
  rw [ends_iff] at a3
  obtain ⟨b1, b2, b3⟩ := a3
  apply List.ext_getElem?
  intro i
  unfold rowS
  rw [List.map_map, List.getElem?_map]
  by_cases hi : i < zss.length
  · rw [List.getElem?_range hi]
    have e : (zss.getD n [])[i]? = some ((zss.getD n []).getD i 0) := by
      generalize zss.getD n [] = w at a1
      simp [List.getD, show i < w.length by omega]
    rw [e]
    simp only [Option.map_some, Function.comp]
    congr 1
    by_cases hin : i ≤ n
    · rw [show Nat.ble i n = true by rw [Nat.ble_eq]; exact hin, bite_true]
      obtain ⟨c1, c2⟩ := unT_at n (by omega) i (by omega)
      have er : rhoR zs zss (Nat.add (Nat.add zs.length (Nat.div (Nat.mul n (Nat.add n 1)) 2)) i) = (zss.getD n []).getD i 0 := by
        show rhoR zs zss (zs.length + n * (n + 1) / 2 + i) = _
        unfold rhoR
        rw [if_neg (by omega), show zs.length + n * (n + 1) / 2 + i - zs.length = n * (n + 1) / 2 + i by omega, c1]
      have hm : (zss.getD n []).getD i 0 ∈ zss.getD n [] := List.mem_of_getElem? e
      rw [vx_den _ _ (by show zs.length + n * (n + 1) / 2 + i < 40; omega) (by rw [er]; exact wrap1e6 (a2.1 _ hm)), er]
    · rw [show Nat.ble i n = false by cases hb : Nat.ble i n with
        | false => rfl
        | true => rw [Nat.ble_eq] at hb; omega, bite_false]
      exact (b3 i (by omega)).symm
  · rw [List.getElem?_eq_none (by simp; omega), List.getElem?_eq_none (by omega)]; rfl
theorem rowsS_den {zs : List Int} {zss : List (List Int)} (hz : zs.length ≤ 6) (h : SeqP zss) : (rowsS zss.length zs.length).map (fun ps => ps.map (Sy.den (rhoR zs zss))) = zss := by
  apply List.ext_getElem?
  intro n
  unfold rowsS
  rw [List.map_map, List.getElem?_map]
  by_cases hn : n < zss.length
  · rw [List.getElem?_range hn]
    simp only [Option.map_some, Function.comp]
    rw [rowS_den hz h hn]
    simp [List.getD, hn]
  · rw [List.getElem?_eq_none (by simp; omega), List.getElem?_eq_none (by omega)]; rfl
theorem vxsR_den {zs : List Int} {zss : List (List Int)} (h : validP 1000000 zs) : (vxs zs.length).map (Sy.den (rhoR zs zss)) = zs := by
  apply List.ext_getElem?
  intro i
  unfold vxs
  rw [List.map_map, List.getElem?_map]
  by_cases hi : i < zs.length
  · rw [List.getElem?_range hi]
    have e : zs[i]? = some (zs.getD i 0) := by simp [List.getD, hi]
    rw [e]
    have er : rhoR zs zss i = zs.getD i 0 := by unfold rhoR; rw [if_pos hi]
    simp only [Option.map_some, Function.comp]
    rw [vx_den _ _ (by have := h.2.2; omega) (by rw [er]; exact wrap1e6 (h.1 _ (List.mem_of_getElem? e))), er]
  · rw [List.getElem?_eq_none (by simp; omega), List.getElem?_eq_none (by omega)]; rfl

/-! ## The contract -/
open Classical in
noncomputable def repF (zs : List Int) (zss : List (List Int)) : Option (List Int) :=
  if RepP zs zss then (match repS zs.length with
    | some ps => if validP 1000000 (ps.map (Sy.den (rhoR zs zss))) then some (ps.map (Sy.den (rhoR zs zss))) else none
    | none => none) else none
theorem rep_good {k : FuncId} (hk : ∀ L, 1 ≤ L → L ≤ 6 → repAt k L = true) {zs : List Int} {zss : List (List Int)} (h : RepP zs zss) : Tells Try.prog k [patL zs, patS zss] (ansR (repF zs zss)) (ansO (repF zs zss)) := by
  obtain ⟨h1, h2, h3⟩ := h
  have hL := hk zs.length h1.2.1 h1.2.2
  unfold repAt at hL
  cases hp : repS zs.length with
  | none => rw [hp] at hL; cases hL
  | some ps =>
    rw [hp] at hL
    simp only [bite_eq] at hL
    split at hL
    case isFalse => cases hL
    rename_i hyes
    have hd := rowsS_den (zs := zs) h1.2.2 h2
    rw [← h3] at hd
    have hv := vxsR_den (zss := zss) h1
    have hΓ : ∀ f, f ∈ diagF zs.length zs.length → f.Ok (rhoR zs zss) := by
      intro f hf
      obtain ⟨n, hn, rfl⟩ := List.mem_map.1 hf
      rw [List.mem_range] at hn
      refine Fact.eq_no ?_
      obtain ⟨_, h6, hall⟩ := h2
      obtain ⟨a1, a2, a3⟩ := hall n (by omega)
      rw [ends_iff] at a3
      obtain ⟨b1, b2, b3⟩ := a3
      obtain ⟨c1, c2⟩ := unT_at n (by omega) n (by omega)
      have er : rhoR zs zss (zs.length + n * (n + 1) / 2 + n) = (zss.getD n []).getD n 0 := by
        unfold rhoR
        rw [if_neg (by omega), show zs.length + n * (n + 1) / 2 + n - zs.length = n * (n + 1) / 2 + n by omega, c1]
      have hm : (zss.getD n []).getD n 0 ∈ zss.getD n [] := by
        generalize zss.getD n [] = w at b1
        simp [List.getD, b1]
      have hz6 := h1.2.2
      show ¬ (vx (zs.length + n * (n + 1) / 2 + n)).den (rhoR zs zss) = (Sy.c 0).den (rhoR zs zss)
      rw [vx_den _ _ (by omega) (by rw [er]; exact wrap1e6 (a2.1 _ hm)), er]
      exact b2
    have hV0 : ∀ e, e ∈ (⟨1000000, vxs zs.length, true⟩ : VEnt) :: seqV zs.length zs.length → e.Ok (rhoR zs zss) := by
      intro e he
      rcases List.mem_cons.1 he with rfl | he
      · unfold VEnt.Ok
        simp only [hv]
        exact decide_eq_true h1
      · obtain ⟨ps', hps, rfl⟩ := List.mem_map.1 he
        obtain ⟨n, hn, rfl⟩ := List.mem_map.1 hps
        rw [List.mem_range] at hn
        have := rowS_den (zs := zs) h1.2.2 h2 (n := n) (by omega)
        rw [← h3] at this
        unfold VEnt.Ok
        simp only [this]
        exact decide_eq_true (h2.2.2 n (by omega)).2.1
    have hpat : ∀ (s : Sms) (B : Nat) (c : Cx) (vs : List Value), VRs ⟨Sy.den (rhoR zs zss), s⟩ B c [patL zs, patS zss] vs → VRs ⟨Sy.den (rhoR zs zss), s⟩ B c [.slice (ints (vxs zs.length)), rowsP zs.length zs.length] vs := by
      intro s B c vs hvs
      obtain ⟨v, u, rfl, hv1, hu⟩ := hvs.two
      refine .cons (ints_sym hv (by intro e; rw [e] at h1; have := h1.2.1; simp at this) hv1) (.cons ?_ .nil)
      exact patS_sym hd (by intro e; rw [e] at h2; have := h2.1; simp at this) (fun z hz e => by
        obtain ⟨n, hn, rfl⟩ := List.mem_iff_getElem.1 hz
        have := (h2.2.2 n hn).1
        simp [List.getD, hn, e] at this
        omega) hu
    have main : ∀ q : Bool, decide (validP 1000000 (ps.map (Sy.den (rhoR zs zss)))) = q → ∀ (o : Option (List Sy)), ansIs o (repR k zs.length ps q) = true → Tells Try.prog k [patL zs, patS zss] (ansR (o.map fun ps => ps.map (Sy.den (rhoR zs zss)))) (ansO (o.map fun ps => ps.map (Sy.den (rhoR zs zss)))) := by
      intro q hq o ho
      refine tells_ans ho (fun R S hRS s B' => ?_) hpat
      unfold repR at hRS
      refine (symRun_ok noCount mixed hΓ (symK_ok noCount mixed ids_ok (t := Summs.tab) Summs.tab_ok hΓ (fun e he => ?_)) 60 _ _ _ _ _ hRS).1
      rcases List.mem_cons.1 he with rfl | he
      · exact hq
      · exact hV0 e he
    unfold repF
    rw [if_pos (show RepP zs zss from ⟨h1, h2, h3⟩), hp]
    simp only
    by_cases hval : validP 1000000 (ps.map (Sy.den (rhoR zs zss)))
    · rw [if_pos hval]
      exact main true (decide_eq_true hval) (some ps) hyes
    · rw [if_neg hval]
      exact main false (decide_eq_false hval) none hL
theorem tells_none {k : FuncId} {pats : List (V Sy)} {K : Ctr} (hK : ∀ (ρ : Nat → Int) (s : Sms) (B : Nat), COk Try.prog ⟨Sy.den ρ, s⟩ B K) {n : Nat} {r : V Sy × Sto Sy} (h : symRun Try.prog K [] n k pats ⟨0, [], 0⟩ = some r) (h1 : r.1 = .tup [.nil, .bool false]) : Tells Try.prog k pats (ansR none) (ansO none) :=
  tells_ans (ρ' := fun _ => 0) (o := none) (r := some r) (by obtain ⟨v, S⟩ := r; simp only at h1; subst h1; rfl) (fun R S hr s B' => by cases hr; exact run_goodK noCount mixed hK _ h B') (fun _ _ _ _ h => h)
theorem specRep_tells (zs : List Int) (zss : List (List Int)) (hl : zs.length ≤ 1048576) (hls : ∀ zs, zs ∈ zss → zs.length ≤ 1048576) (hl0 : zss.length ≤ 1048576) : Tells Try.prog 6 [patL zs, patS zss] (ansR (repF zs zss)) (ansO (repF zs zss)) := by
  by_cases h : RepP zs zss
  · refine rep_good (fun L h1 h6 => ?_) h
    have h : L = 1 ∨ L = 2 ∨ L = 3 ∨ L = 4 ∨ L = 5 ∨ L = 6 := by omega
    rcases h with rfl | rfl | rfl | rfl | rfl | rfl
    · exact spec_1
    · exact spec_2
    · exact spec_3
    · exact spec_4
    · exact spec_5
    · exact spec_6
  · obtain ⟨r, h1, h2⟩ := specBad zs zss hl hl0 hls h
    have e : repF zs zss = none := by unfold repF; rw [if_neg h]
    rw [e]
    exact tells_none KRS_ok h1 h2
theorem implRep_tells (zs : List Int) (zss : List (List Int)) (hl : zs.length ≤ 1048576) (hls : ∀ zs, zs ∈ zss → zs.length ≤ 1048576) (hl0 : zss.length ≤ 1048576) : Tells Try.prog 5 [patL zs, patS zss] (ansR (repF zs zss)) (ansO (repF zs zss)) := by
  by_cases h : RepP zs zss
  · refine rep_good (fun L h1 h6 => ?_) h
    have h : L = 1 ∨ L = 2 ∨ L = 3 ∨ L = 4 ∨ L = 5 ∨ L = 6 := by omega
    rcases h with rfl | rfl | rfl | rfl | rfl | rfl
    · exact impl_1
    · exact impl_2
    · exact impl_3
    · exact impl_4
    · exact impl_5
    · exact impl_6
  · obtain ⟨r, h1, h2⟩ := implBad zs zss hl hl0 hls h
    have e : repF zs zss = none := by unfold repF; rw [if_neg h]
    rw [e]
    exact tells_none KRI_ok h1 h2
end Go.Proofs.Ytobdnpnohaonkaa.Rep

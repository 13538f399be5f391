/-
  Inverses of pairs: the contracts of the law. No condition.
-/
import Derived.Test.YtnaegkpaiahpmaaRows
import Derived.Test.YtnaegkpaiahpmaaSym
import Derived.Test.YtnaegkpaiahpmaaSymD
import Derived.Test.YtnaegkpaiahpmaaSymE
import Derived.Test.YtnaegkpaiahpmaaSymF
import Derived.Test.YtnaegkpaiahpmaaSymG
import Derived.Test.YtnaegkpaiahpmaaIds
import Derived.Test.YtnaegkpaiahpmaaSumm
import Derived.Test.YtnaegkpaiahpmaaNp
import Derived.Test.YtnaegkpaiahpmaaTel
import Derived.Test.YtnaegkpaiahpmaaIv
import Derived.Test.YtnaegkpaiahpmaaIvA
import Derived.Test.YtnaegkpaiahpmaaIvR
import Derived.Test.YtnaegkpaiahpmaaDraw
import Derived.Test.YtnaegkpaiahpmaaDrawC
import Derived.Test.YtnaegkpaiahpmaaDrawD
import Derived.Test.YtnaegkpaiahpmaaIvB
import Derived.Test.YtnaegkpaiahpmaaIvC
import Derived.Test.YtnaegkpaiahpmaaIvD
import Derived.Test.YtnaegkpaiahpmaaIvE
import Derived.WalkKit
import Derived.ProofKit
import Derived.OpenShut
namespace Go.Proofs.Ytnaegkpaiahpmaa.Iv
open Go.ChangeShapes Go.WideShapes Go.ChangeAt Go.RowKit Go.Sx Go.Proofs.Ytnaegkpaiahpmaa.Ids
open Go.Proofs.Ytnaegkpaiahpmaa.Tel (telK telK_ok vr_agg2 rowsR rowsO objsO lstR lstO lstIs tells_lst)
open Go.Proofs.Ytnaegkpaiahpmaa.Draw (K0 K0_ok hK0 readerP somePair take2000 fldP0 fldP1 loadS lookN loadP storeP lookW islW allocP)
set_option linter.unusedVariables false
set_option linter.unusedSimpArgs false

/-! ## The draw -/
attribute [local simp] aops wants aop apure St.eval setTm_some setTm_none Tr.get_set evals pevals apureB alen tiS tiI tiB Draw.tiY Draw.tiU abin aint isCmp sym_lt sym_eqs sym_neqs sym_eq sym_neq sym_gtr sym_leq sym_geq sym_add sym_sub sym_mul aeff aeffB idx? ofV aindexAddr aggDesc aifc_int fldP0 fldP1 aun
set_option maxRecDepth 10000 in
theorem drawIP (bs : List Int) (hbs0 : ∀ b, b ∈ bs → 0 ≤ b ∧ b < 256) (m : Nat) : ∃ r, symRun Try.prog K0 [] (m + 100) 5 [.slice (u8s bs)] ⟨0, [], 0⟩ = some r ∧ Desc r.2.next r.2.obs ∧ ∃ v1 v2 q1 q2 z1 z2, r.1 = .agg [v1, v2] ∧ q1 ≠ q2 ∧ IsL r.2.obs q1 z1 v1 ∧ IsL r.2.obs q2 z2 v2 ∧ Fit z1 ∧ Fit z2 := by
  refine own_run2 (n := m + 99) hK0 Try.func5 rfl rfl ?_
  simp only [Try.f5]
  obtain ⟨S1, hr, h1, k1, e1⟩ := readerP bs (m + 99) (by omega)
  have hbs := take2000 hbs0
  obtain ⟨_, T, hc, hn, v1, v2, rfl, q1, q2, z1, z2, a1, a2, a3, a4, a5, a6, a7⟩ := somePair (bs.take 2000) hbs h1 (by omega) (m + 99) (by omega)
  have k2 := hn.keep _ _ (by omega) (by simp) k1
  obtain ⟨c1, rfl, hc1⟩ := a4.val
  obtain ⟨c2, rfl, hc2⟩ := a5.val
  have st := storeP (v := .rsl q1 0 z1.length c1) (w := .rsl q2 0 z2.length c2) k2 rfl rfl
  have m2 := lookW (a := V.rsl q1 0 z1.length c1) (b := V.rsl q2 0 z2.length c2) k2
  have i1 := islW (cs := [.rsl q1 0 z1.length c1, .rsl q2 0 z2.length c2]) (r := 0) a4 (by omega)
  have i2 := islW (cs := [.rsl q1 0 z1.length c1, .rsl q2 0 z2.length c2]) (r := 0) a5 (by omega)
  have hd : Desc (T.write 0 [V.rsl q1 0 z1.length c1, .rsl q2 0 z2.length c2]).next (T.write 0 [V.rsl q1 0 z1.length c1, .rsl q2 0 z2.length c2]).obs := Desc.put _ _ hn.rd.desc
  generalize T.write 0 [V.rsl q1 0 z1.length c1, .rsl q2 0 z2.length c2] = T2 at st m2 i1 i2 hd
  repeat' (first | refine Wp.seq ?_ | refine Wp.block ?_ | (apply Wp.region; focus ((try simp [setArgs, allocP, hr, hc, st]) <;> rfl)) | (refine Wp.cond_t ?_ ?_; focus (simp [setArgs, allocP, hr, hc, st]; done)) | (refine Wp.cond_f ?_ ?_; focus (simp [setArgs, allocP, hr, hc, st]; done)) | refine Wp.skip ?_ | refine Wp.ret ?_ | refine Wp.exit ?_ | refine Blk.here ?_ | (refine Blk.past ?_ ?_; focus (simp; done)))
  refine ⟨rfl, (.agg [.rsl q1 0 z1.length c1, .rsl q2 0 z2.length c2], T2.trim 0 (.agg [.rsl q1 0 z1.length c1, .rsl q2 0 z2.length c2])), ?_, trim_desc hd, _, _, q1, q2, z1, z2, rfl, a3, i1.trimIn (by simp [V.refs, refsL]), i2.trimIn (by simp [V.refs, refsL]), a6, a7⟩
  simp [answer, aresults, aresult, loadP m2]

/-! ## Lists of one 1 -/
noncomputable def linC (L : Nat) : Bool := allTo (fun k => lstIs (eS L k) (symRun Try.prog noK [] 60 11 [.int .i64 (.c L), .int .i64 (.c k)] ⟨0, [], 0⟩)) L
set_option maxRecDepth 1000000 in
theorem lin_2 : linC 2 = true := by kernel_rfl
set_option maxRecDepth 1000000 in
theorem lin_3 : linC 3 = true := by kernel_rfl
set_option maxRecDepth 1000000 in
theorem lin_4 : linC 4 = true := by kernel_rfl
set_option maxRecDepth 1000000 in
theorem lin_5 : linC 5 = true := by kernel_rfl
set_option maxRecDepth 1000000 in
theorem lin_6 : linC 6 = true := by kernel_rfl
open Classical in
noncomputable def dLn : List (V Sy) → Sto Sy → Option (Nat × Nat)
  | [.int .i64 (.c z), .int .i64 (.c k)], _ => if ((2 : Int) ≤ z ∧ z ≤ 6) ∧ 0 ≤ k ∧ k < z then some (z.toNat, k.toNat) else none
  | _, _ => none
theorem dLn_eq {n k : Nat} {sto : Sto Sy} (h2 : 2 ≤ n) (h6 : n ≤ 6) (hk : k < n) : dLn [.int .i64 (.c n), .int .i64 (.c k)] sto = some (n, k) := by
  simp only [dLn, if_pos (show ((2 : Int) ≤ (n : Int) ∧ (n : Int) ≤ 6) ∧ 0 ≤ (k : Int) ∧ (k : Int) < n by omega)]; simp
theorem int_rel {ρ ρ' : Nat → Int} {s : Sms} {B B' : Nat} {c c' : Cx} {z : Int} {v : Value} (h : VR ⟨Sy.den ρ, s⟩ B c (.int .i64 (.c z)) v) : VR ⟨Sy.den ρ', s⟩ B' c' (.int .i64 (.c z)) v := by
  cases h with
  | int k n => exact VR.int (Δ := ⟨Sy.den ρ', s⟩) .i64 (.c z)
noncomputable def linK : Ctr := telK 11 dLn (fun p => lstR (eZ p.1 p.2)) (fun p => lstO (eZ p.1 p.2))
theorem linK_ok (ρ : Nat → Int) (s : Sms) (B : Nat) : COk Try.prog ⟨Sy.den ρ, s⟩ B linK := by
  refine telK_ok (body_of Try.func11 rfl) (fun args sto p h => ?_)
  unfold dLn at h
  split at h
  case h_2 => cases h
  rename_i z k
  split at h
  case isFalse => cases h
  rename_i hp
  cases h
  obtain ⟨n, rfl⟩ : ∃ n : Nat, z = n := ⟨z.toNat, by omega⟩
  obtain ⟨j, rfl⟩ : ∃ j : Nat, k = j := ⟨k.toNat, by omega⟩
  simp only [Int.toNat_natCast]
  have C : linC n = true := five (Q := fun L => linC L = true) lin_2 lin_3 lin_4 lin_5 lin_6 (by omega) (by omega)
  have D := allTo_ok C j (by omega)
  refine ⟨[.int .i64 (.c n), .int .i64 (.c j)], ?_, fun ρ s B c hinv vs hvs ρ' => ?_⟩
  · have T := tells_lst (ρ' := fun _ => 0) (pats := [.int .i64 (.c (n : Nat)), .int .i64 (.c (j : Nat))]) D (fun R S hRS s B' => run_goodK noCount mixed (fun _ _ _ => noK_ok) _ hRS B') (fun _ _ _ _ h => h)
    rwa [eS_den] at T
  · obtain ⟨v, w, rfl, hv, hw⟩ := hvs.two
    exact .cons (int_rel hv) (.cons (int_rel hw) .nil)

/-! ## Columns are told apart -/
noncomputable def triC (L : Nat) (a b : Int) : Bool := allTo (fun n => allTo (fun k => bite (Nat.blt n k) (match at2 (aR L a b) n k with
  | .c z => ieq z 0
  | .p _ => false) (bite (Nat.beq n k) (match at2 (aR L a b) n k with
  | .c z => orB (ieq z 1) (ieq z (-1))
  | .p _ => false) true)) L) L
set_option maxRecDepth 1000000 in
theorem tri_2 : all4 (triC 2) = true := by kernel_rfl
set_option maxRecDepth 1000000 in
theorem tri_3 : all4 (triC 3) = true := by kernel_rfl
set_option maxRecDepth 1000000 in
theorem tri_4 : all4 (triC 4) = true := by kernel_rfl
set_option maxRecDepth 1000000 in
theorem tri_5 : all4 (triC 5) = true := by kernel_rfl
set_option maxRecDepth 1000000 in
theorem tri_6 : all4 (triC 6) = true := by kernel_rfl
section
variable {g f : List Int}
theorem ieq_ok {a b : Int} (h : ieq a b = true) : a = b := by rw [ieq_eq] at h; exact eq_of_beq h
theorem tri_at (h : PairV g f) {n k : Nat} (hn : n < g.length) (hk : k < g.length) : (n < k → (coZ g f k).getD n 0 = 0) ∧ (n = k → (coZ g f k).getD n 0 = 1 ∨ (coZ g f k).getD n 0 = -1) := by
  have C : triC g.length (g.getD 0 0) (f.getD 1 0) = true := all4_ok (five (Q := fun L => all4 (triC L) = true) tri_2 tri_3 tri_4 tri_5 tri_6 h.2.2.2.1 h.1.2.2) h.2.2.2.2.1 h.2.2.2.2.2.2
  have D := allTo_ok (allTo_ok C n hn) k hk
  rw [coZ_get k hn]
  generalize at2 (aR g.length (g.getD 0 0) (f.getD 1 0)) n k = s at D
  simp only [bite_eq] at D
  constructor
  · intro hlt
    rw [if_pos (by rw [Nat.blt_eq]; exact hlt)] at D
    split at D
    · exact ieq_ok D
    · cases D
  · intro e
    subst e
    rw [if_neg (by rw [Nat.blt_eq]; omega), if_pos (Nat.beq_refl n)] at D
    split at D
    · rcases orB_ok D with D | D
      · exact .inl (ieq_ok D)
      · exact .inr (ieq_ok D)
    · cases D
theorem co_one (h : PairV g f) {k k' : Nat} (hk : k < g.length) (hk' : k' < g.length) (e : coZ g f k = coZ g f k') : k = k' := by
  rcases Nat.lt_trichotomy k k' with hlt | he | hgt
  · have h1 := (tri_at h hk hk).2 rfl
    have h2 := (tri_at h hk hk').1 hlt
    rw [e, h2] at h1
    omega
  · exact he
  · have h1 := (tri_at h hk' hk').2 rfl
    have h2 := (tri_at h hk' hk).1 hgt
    rw [← e, h2] at h1
    omega
theorem eZ_get {L k n : Nat} (hn : n < L) : (eZ L k).getD n 0 = dl n k := by
  simp only [eZ, List.getD, List.getElem?_map, List.getElem?_range hn, Option.map_some, Option.getD_some]
theorem dl_eq {n k : Nat} (h : n = k) : dl n k = 1 := by
  subst h
  unfold dl
  rw [Nat.beq_refl, bite_true]
theorem dl_ne {n k : Nat} (h : n ≠ k) : dl n k = 0 := by
  unfold dl
  rw [bite_eq, if_neg (fun e => h (Nat.eq_of_beq_eq_true e))]
theorem e_one {L k k' : Nat} (hk : k < L) (e : eZ L k = eZ L k') : k = k' := by
  by_cases h : k = k'
  · exact h
  · have h1 := congrArg (fun l : List Int => l.getD k 0) e
    simp only [eZ_get hk] at h1
    rw [dl_eq rfl, dl_ne h] at h1
    omega
end

/-! ## What the law calls with the pair and its inverse -/
structure Prm where
  g : List Int
  f : List Int
  p : V Sy
  q : V Sy
/-- A value is a pair of known lists. -/
def IsP (sto : Sto Sy) (v : V Sy) (a b : List Int) : Prop := ∃ x y, v = .agg [x, y] ∧ constsOf sto x = some a ∧ constsOf sto y = some b
theorem IsP.rel {ρ : Nat → Int} {s : Sms} {B : Nat} {c : Cx} {sto : Sto Sy} {v : V Sy} {a b : List Int} (h : IsP sto v a b) (hinv : SInv ⟨Sy.den ρ, s⟩ B c sto) {u : Value} (hu : VR ⟨Sy.den ρ, s⟩ B c v u) (ha : a.length ≤ 1048576) (hb : b.length ≤ 1048576) (ρ' : Nat → Int) : VR ⟨Sy.den ρ', s⟩ c.w.heap.size ⟨c.w, fun _ => none⟩ (.agg [patL a, patL b]) u := by
  obtain ⟨x, y, rfl, hx, hy⟩ := h
  obtain ⟨u1, u2, rfl, h1, h2⟩ := vr_agg2 hu
  exact VRs.agg (.cons (patL_rel hx ha hinv h1) (.cons (patL_rel hy hb hinv h2) .nil))
open Classical in
noncomputable def dAr (P : Prm) : List (V Sy) → Sto Sy → Option Bool
  | [v], sto => if v = P.p ∧ PairV P.g P.f ∧ IsP sto v P.g P.f then some true else if v = P.q ∧ InvP P.g P.f ∧ IsP sto v (cvZ P.g P.f) (rvZ P.g P.f) then some false else none
  | _, _ => none
noncomputable def ar2 (P : Prm) : Bool → List (List Int)
  | true => aZ P.g P.f
  | false => bZ P.g P.f
noncomputable def arK (P : Prm) : Ctr := telK 9 (dAr P) (fun t => rowsR (ar2 P t)) (fun t => rowsO (ar2 P t))
theorem arK_ok (P : Prm) (ρ : Nat → Int) (s : Sms) (B : Nat) : COk Try.prog ⟨Sy.den ρ, s⟩ B (arK P) := by
  refine telK_ok (body_of Try.func9 rfl) (fun args sto t h => ?_)
  unfold dAr at h
  split at h
  case h_2 => cases h
  rename_i v
  split at h
  · rename_i hp
    cases h
    have := hp.2.1.1.2.2
    have := hp.2.1.2.1.2.2
    exact ⟨_, arA_tells hp.2.1, fun ρ s B c hinv vs hvs ρ' => by
      obtain ⟨u, rfl, hu⟩ := hvs.one
      exact .cons (hp.2.2.rel hinv hu (by omega) (by omega) ρ') .nil⟩
  · split at h
    case isFalse => cases h
    rename_i hp
    cases h
    have := hp.2.1.2.1.2.2
    have := hp.2.1.2.2.2.2.2
    exact ⟨_, arB_tells hp.2.1, fun ρ s B c hinv vs hvs ρ' => by
      obtain ⟨u, rfl, hu⟩ := hvs.one
      exact .cons (hp.2.2.rel hinv hu (by omega) (by omega) ρ') .nil⟩
theorem dAr_p {P : Prm} {sto : Sto Sy} (h : PairV P.g P.f) (hp : IsP sto P.p P.g P.f) : dAr P [P.p] sto = some true := by
  simp only [dAr]
  rw [if_pos ⟨rfl, h, hp⟩]
theorem dAr_q {P : Prm} {sto : Sto Sy} (hne : P.q ≠ P.p) (h : InvP P.g P.f) (hp : IsP sto P.q (cvZ P.g P.f) (rvZ P.g P.f)) : dAr P [P.q] sto = some false := by
  simp only [dAr]
  rw [if_neg (fun hh => hne hh.1), if_pos ⟨rfl, h, hp⟩]
open Classical in
noncomputable def dVo (P : Prm) : List (V Sy) → Sto Sy → Option Unit
  | [v], sto => if InvP P.g P.f ∧ IsP sto v (cvZ P.g P.f) (rvZ P.g P.f) then some () else none
  | _, _ => none
theorem dVo_eq {P : Prm} {sto : Sto Sy} {v : V Sy} (h : InvP P.g P.f) (hp : IsP sto v (cvZ P.g P.f) (rvZ P.g P.f)) : dVo P [v] sto = some () := by
  simp only [dVo]
  rw [if_pos ⟨h, hp⟩]
noncomputable def voK (P : Prm) : Ctr := telK 13 (dVo P) (fun _ _ => .bool true) (fun _ _ => [])
theorem voK_ok (P : Prm) (ρ : Nat → Int) (s : Sms) (B : Nat) : COk Try.prog ⟨Sy.den ρ, s⟩ B (voK P) := by
  refine telK_ok (body_of Try.func13 rfl) (fun args sto t h => ?_)
  unfold dVo at h
  split at h
  case h_2 => cases h
  rename_i v
  split at h
  case isFalse => cases h
  rename_i hp
  cases h
  have := hp.1.2.1.2.2
  have := hp.1.2.2.2.2.2
  exact ⟨_, vpB_tells hp.1, fun ρ s B c hinv vs hvs ρ' => by
    obtain ⟨u, rfl, hu⟩ := hvs.one
    exact .cons (hp.2.rel hinv hu (by omega) (by omega) ρ') .nil⟩
def TfA (P : Prm) (sto : Sto Sy) (v x : V Sy) (k : Nat) : Prop := k < P.g.length ∧ v = P.p ∧ PairV P.g P.f ∧ IsP sto v P.g P.f ∧ constsOf sto x = some (eZ P.g.length k)
def TfB (P : Prm) (sto : Sto Sy) (v x : V Sy) (k : Nat) : Prop := k < P.g.length ∧ v = P.q ∧ InvP P.g P.f ∧ IsP sto v (cvZ P.g P.f) (rvZ P.g P.f) ∧ constsOf sto x = some (coZ P.g P.f k) ∧ validP 600 (coZ P.g P.f k)
open Classical in
noncomputable def dTf (P : Prm) : List (V Sy) → Sto Sy → Option (Bool × Nat)
  | [v, x], sto => if h : ∃ k, TfA P sto v x k then some (true, Classical.choose h) else if h : ∃ k, TfB P sto v x k then some (false, Classical.choose h) else none
  | _, _ => none
noncomputable def tf2 (P : Prm) : Bool × Nat → Option (List Int)
  | (true, k) => tfF P.g P.f k
  | (false, k) => some (eZ P.g.length k)
noncomputable def tfK (P : Prm) : Ctr := telK 10 (dTf P) (fun t => ansR (tf2 P t)) (fun t => ansO (tf2 P t))
theorem tfK_ok (P : Prm) (ρ : Nat → Int) (s : Sms) (B : Nat) : COk Try.prog ⟨Sy.den ρ, s⟩ B (tfK P) := by
  refine telK_ok (body_of Try.func10 rfl) (fun args sto t h => ?_)
  unfold dTf at h
  split at h
  case h_2 => cases h
  rename_i v x
  split at h
  · rename_i hx
    cases h
    obtain ⟨hk, rfl, hP, hp, hc⟩ := Classical.choose_spec hx
    have := hP.1.2.2
    have := hP.2.1.2.2
    have hl := eZ_len P.g.length (Classical.choose hx)
    exact ⟨_, tf_tells hP hk, fun ρ s B c hinv vs hvs ρ' => by
      obtain ⟨u, w, rfl, hu, hw⟩ := hvs.two
      exact .cons (hp.rel hinv hu (by omega) (by omega) ρ') (.cons (patL_rel hc (by omega) hinv hw) .nil)⟩
  · split at h
    case isFalse => cases h
    rename_i hx
    cases h
    obtain ⟨hk, rfl, hP, hp, hc, hv⟩ := Classical.choose_spec hx
    have := hP.2.1.2.2
    have := hP.2.2.2.2.2
    have := hv.2.2
    exact ⟨_, tb_tells hP hk hv, fun ρ s B c hinv vs hvs ρ' => by
      obtain ⟨u, w, rfl, hu, hw⟩ := hvs.two
      exact .cons (hp.rel hinv hu (by omega) (by omega) ρ') (.cons (patL_rel hc (by omega) hinv hw) .nil)⟩
theorem dTf_a {P : Prm} {sto : Sto Sy} {x : V Sy} {k : Nat} (h : TfA P sto P.p x k) : dTf P [P.p, x] sto = some (true, k) := by
  simp only [dTf]
  have hx : ∃ k, TfA P sto P.p x k := ⟨k, h⟩
  rw [dif_pos hx]
  have hc := Classical.choose_spec hx
  have e := hc.2.2.2.2
  rw [h.2.2.2.2] at e
  rw [← e_one h.1 (Option.some.inj e)]
theorem dTf_b {P : Prm} {sto : Sto Sy} {x : V Sy} {k : Nat} (hne : P.q ≠ P.p) (h : TfB P sto P.q x k) : dTf P [P.q, x] sto = some (false, k) := by
  simp only [dTf]
  have hx : ∃ k, TfB P sto P.q x k := ⟨k, h⟩
  rw [dif_neg (by rintro ⟨j, hj⟩; exact hne hj.2.1), dif_pos hx]
  have hc := Classical.choose_spec hx
  have e := hc.2.2.2.2.1
  rw [h.2.2.2.2.1] at e
  rw [← co_one h.2.2.1.1 h.1 hc.1 (Option.some.inj e)]
noncomputable def drK : Ctr := fun k args sto => symRun Try.prog K0 [] 201 k args sto
theorem drK_ok (ρ : Nat → Int) (s : Sms) (B : Nat) : COk Try.prog ⟨Sy.den ρ, s⟩ B drK := fun k args sto r sto' h =>
  symRun_ok noCount mixed (Γ := []) (fun f hf => by cases hf) (K0_ok ρ s B) 201 k args sto r sto' h
noncomputable def K1 (P : Prm) : Ctr := swK 5 drK (swK 6 (invK 6) (swK 7 (invK 7) (swK 8 eqpK (swK 12 eqbK (swK 11 linK (swK 9 (arK P) (swK 10 (tfK P) (swK 13 (voK P) noK))))))))
theorem K1_ok (P : Prm) (ρ : Nat → Int) (s : Sms) (B : Nat) : COk Try.prog ⟨Sy.den ρ, s⟩ B (K1 P) :=
  swK_ok (drK_ok _ _ _) (swK_ok (invKI_ok _ _ _) (swK_ok (invKS_ok _ _ _) (swK_ok (eqpK_ok _ _ _) (swK_ok (eqbK_ok _ _ _) (swK_ok (linK_ok _ _ _) (swK_ok (arK_ok _ _ _ _) (swK_ok (tfK_ok _ _ _ _) (swK_ok (voK_ok _ _ _ _) noK_ok))))))))
section
variable (P : Prm) (args : List (V Sy)) (sto : Sto Sy)
theorem K1_dr : K1 P 5 args sto = symRun Try.prog K0 [] 201 5 args sto := by
  unfold K1; rw [swK_at]; rfl
theorem K1_ii : K1 P 6 args sto = telK 6 dP (fun p => prR (invF p.1 p.2)) (fun p => prO (invF p.1 p.2)) 6 args sto := by
  unfold K1; rw [swK_ne (by decide), swK_at]; rfl
theorem K1_is : K1 P 7 args sto = telK 7 dP (fun p => prR (invF p.1 p.2)) (fun p => prO (invF p.1 p.2)) 7 args sto := by
  unfold K1; rw [swK_ne (by decide), swK_ne (by decide), swK_at]; rfl
theorem K1_ep : K1 P 8 args sto = telK 8 dEp (fun p _ => .bool (decide (p.1.1 = p.2.1 ∧ p.1.2 = p.2.2))) (fun _ _ => []) 8 args sto := by
  unfold K1; rw [swK_ne (by decide), swK_ne (by decide), swK_ne (by decide), swK_at]; rfl
theorem K1_eq : K1 P 12 args sto = telK 12 dEq (fun p _ => .bool (decide (p.1 = p.2))) (fun _ _ => []) 12 args sto := by
  unfold K1; rw [swK_ne (by decide), swK_ne (by decide), swK_ne (by decide), swK_ne (by decide), swK_at]; rfl
theorem K1_ln : K1 P 11 args sto = telK 11 dLn (fun p => lstR (eZ p.1 p.2)) (fun p => lstO (eZ p.1 p.2)) 11 args sto := by
  unfold K1; rw [swK_ne (by decide), swK_ne (by decide), swK_ne (by decide), swK_ne (by decide), swK_ne (by decide), swK_at]; rfl
theorem K1_ar : K1 P 9 args sto = telK 9 (dAr P) (fun t => rowsR (ar2 P t)) (fun t => rowsO (ar2 P t)) 9 args sto := by
  unfold K1; rw [swK_ne (by decide), swK_ne (by decide), swK_ne (by decide), swK_ne (by decide), swK_ne (by decide), swK_ne (by decide), swK_at]; rfl
theorem K1_tf : K1 P 10 args sto = telK 10 (dTf P) (fun t => ansR (tf2 P t)) (fun t => ansO (tf2 P t)) 10 args sto := by
  unfold K1; rw [swK_ne (by decide), swK_ne (by decide), swK_ne (by decide), swK_ne (by decide), swK_ne (by decide), swK_ne (by decide), swK_ne (by decide), swK_at]; rfl
theorem K1_vo : K1 P 13 args sto = telK 13 (dVo P) (fun _ _ => .bool true) (fun _ _ => []) 13 args sto := by
  unfold K1; rw [swK_ne (by decide), swK_ne (by decide), swK_ne (by decide), swK_ne (by decide), swK_ne (by decide), swK_ne (by decide), swK_ne (by decide), swK_ne (by decide), swK_at]; rfl
theorem hK1 : K1 P 3 args sto = none := by
  unfold K1; rw [swK_ne (by decide), swK_ne (by decide), swK_ne (by decide), swK_ne (by decide), swK_ne (by decide), swK_ne (by decide), swK_ne (by decide), swK_ne (by decide), swK_ne (by decide)]; rfl
end
end Go.Proofs.Ytnaegkpaiahpmaa.Iv

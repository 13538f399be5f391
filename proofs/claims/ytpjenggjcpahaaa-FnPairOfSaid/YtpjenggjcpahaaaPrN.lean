import Derived.Test.YtpjenggjcpahaaaPr
import Derived.Test.YtpjenggjcpahaaaPrM
import Derived.Test.YtpjenggjcpahaaaPrF
import Derived.Test.YtpjenggjcpahaaaPrG
import Derived.Test.YtpjenggjcpahaaaPrH
import Derived.Test.YtpjenggjcpahaaaPrK
import Derived.Test.YtpjenggjcpahaaaSeq
import Derived.Test.YtpjenggjcpahaaaSeqB
import Derived.Test.YtpjenggjcpahaaaRepB
import Derived.WalkKit
import Derived.ProofKit
import Derived.OpenShut
namespace Go.Proofs.Ytpjenggjcpahaaa.Pr
open Go.ChangeShapes Go.WideShapes Go.ChangeAt Go.RowKit Go.Sx Go.Proofs.Ytpjenggjcpahaaa.Ids Go.Proofs.Ytpjenggjcpahaaa.Seq
set_option linter.unusedVariables false
set_option linter.unusedSimpArgs false

noncomputable def bndC (L : Nat) (a : Int) (n : Nat) : Bool := match ivM (rngF 600 (gS L a) ++ rngF 600 (fS L 0 0)) (conv (gS L a) (fS L 0 0) n) with
  | some (lo, hi) => bite (ilt lo (-1000000000)) false (bite (ilt 1000000000 hi) false true)
  | none => false
set_option maxRecDepth 1000000 in
theorem bndC_ok : allTo (fun i => bite (allTo (bndC (i + 2) 1) (i + 2)) (allTo (bndC (i + 2) (-1)) (i + 2)) false) 5 = true := by kernel_rfl
section
variable {zss : List (List Int)}
theorem pair_sq (hn : ∀ r, r ∈ zss → ∀ z, z ∈ r → IntKind.i64.wrap z = z) (hp : PairP zss) : Sq zss := ⟨hp.1, hp.2.1, hp.2.2.1, hn⟩
theorem pair_in (hn : ∀ r, r ∈ zss → ∀ z, z ∈ r → IntKind.i64.wrap z = z) (hp : PairP zss) : InB zss := by
  have h := pair_sq hn hp
  have hlo := h.lo
  have hhi := h.hi
  intro n hnl
  have n1 : 1 ≤ 0 → (quo zss).getD 0 0 = 0 := fun h => by omega
  have n2 : 2 ≤ 0 → (quo zss).getD 1 0 = 0 := fun h => by omega
  have hu := hp.2.2.2.1
  obtain ⟨a, ha⟩ : ∃ a, (col zss 0).getD 0 0 = a := ⟨_, rfl⟩
  rw [ha] at hu
  have e := cvQ h ha hu n1 n2 (conv0 hlo hhi hu) hnl
  have hb := allTo_ok bndC_ok (zss.length - 2) (by omega)
  rw [show zss.length - 2 + 2 = zss.length by omega] at hb
  obtain ⟨b1, b2⟩ := guard_true hb
  have hb : bndC zss.length a n = true := by
    rcases hu with rfl | rfl
    · exact allTo_ok b1 n hnl
    · exact allTo_ok b2 n hnl
  unfold bndC at hb
  split at hb
  case h_2 => cases hb
  rename_i lo hi hiv
  have hF : ∀ f, f ∈ rngF 600 (gS zss.length a) ++ rngF 600 (fS zss.length 0 0) → f.Ok (rhoQ zss) := fun f hf => by
    rcases List.mem_append.1 hf with hf | hf
    · exact rngF_ok (fun z hz => hp.2.2.2.2.1.1 z (by rwa [gS_den h ha] at hz)) f hf
    · exact rngF_ok (fun z hz => hp.2.2.2.2.2.1.1 z (by rwa [fS_den h n1 n2] at hz)) f hf
  have := ivM_ok hF hiv
  rw [e] at this
  simp only [bite_eq, ilt_eq, decide_eq_true_eq] at hb
  split at hb
  · cases hb
  · split at hb
    · cases hb
    · omega
end

theorem allocP (S : Sto Sy) : aalloc (symNum []) (tiOf Try.prog) S 27 = some (.ptr S.next 0, S.new [.nil, .nil]) := by kernel_rfl
theorem bldP0 : abuild (symNum []) (tiOf Try.prog) 27 [] = some (.agg [.nil, .nil]) := by kernel_rfl
theorem loadP0 : aload (tiOf Try.prog) (⟨1, [(0, [.nil, .nil])], 0⟩ : Sto Sy) 27 (.ptr 0 0) = some (.agg [.nil, .nil]) := by kernel_rfl
theorem storeP0 : astore (tiOf Try.prog) (⟨1, [(0, [.nil, .nil])], 0⟩ : Sto Sy) 27 (.ptr 0 0) (.agg [.nil, .nil]) = some ⟨1, [(0, [.nil, .nil])], 0⟩ := by kernel_rfl
theorem newP0 : Sto.new (⟨0, [], 0⟩ : Sto Sy) [.nil, .nil] = ⟨1, [(0, [.nil, .nil])], 0⟩ := rfl
theorem callR (x : Int) (f : Nat) : acallV (symIn Try.prog noK [] (f + 1)) ⟨1, [(0, [.nil, .nil])], 0⟩ (.func 52 [] []) [.int .i64 (.c x), .int .i64 (.c 2), .int .i64 (.c 6)] = some (.bool (decide (2 ≤ x ∧ x ≤ 6)), ⟨1, [(0, [.nil, .nil])], 0⟩) := by
  rw [acallV_func (by decide), List.nil_append, List.append_nil, symIn_run (by decide), show (⟨(⟨1, [(0, [.nil, .nil])], 0⟩ : Sto Sy).next, (⟨1, [(0, [.nil, .nil])], 0⟩ : Sto Sy).obs, (⟨1, [(0, [.nil, .nil])], 0⟩ : Sto Sy).next⟩ : Sto Sy) = ⟨1, [(0, [.nil, .nil])], 1⟩ from rfl, Ids.inRange x 2 6 ⟨1, [(0, [.nil, .nil])], 1⟩ ⟨Nat.lt_succ_self _, trivial⟩ f]
  rfl
section
attribute [local simp] aops wants aop apure St.eval setTm_some setTm_none Tr.get_set aload evals pevals apureB tiS tiI tiB abin aint isCmp sym_lt sym_eqs sym_neqs sym_eq sym_neq sym_gtr sym_leq sym_geq sym_add sym_sub sym_mul aeff aeffB idx? ofV aindexAddr aggDesc aifc_int aun
set_option maxRecDepth 10000 in
theorem spec_shape (zss : List (List Int)) (hl0 : zss.length ≤ 1048576) (hno : (∃ r, r ∈ zss ∧ r.length ≠ zss.length) ∨ ¬ (2 ≤ zss.length ∧ zss.length ≤ 6)) (m : Nat) (hm : zss.length < m) :
    ∃ r, symRun Try.prog noK [] (m + 2) 13 [patS zss] ⟨0, [], 0⟩ = some r ∧ r.1 = .tup [.agg [.nil, .nil], .bool false] := by
  refine own_run2 (n := m + 1) rfl Try.func13 rfl rfl ?_
  simp only [Try.f13]
  obtain ⟨p, hp⟩ : ∃ p, p = patS zss := ⟨_, rfl⟩
  have hxp : ∀ i, i < zss.length → p = .slice (zss.map patL) := fun i hi => by
    rw [hp]
    cases zss with
    | nil => simp at hi
    | cons a r => rfl
  have hlen : (zss.map patL).length = zss.length := List.length_map ..
  have alS : alen (symNum []) (tiOf Try.prog) 23 p = some (.int .i64 (.c zss.length)) := by rw [hp]; exact Rep.alen_patS zss
  rw [← hp]
  clear hp
  have fin : ∀ st : St Sy, st.tm.get .any 2 = .ptr 0 0 → st.tm.get .any 3 = .bool false → st.sto = ⟨1, [(0, [.nil, .nil])], 0⟩ → ∃ r, answer (tiOf Try.prog) st 0 [.cell 2 27, .tmp 3] = some r ∧ r.1 = .tup [.agg [.nil, .nil], .bool false] := by
    intro st h2 h3 hs
    refine ⟨_, by simp only [answer, aresults, aresult, h2, h3, hs, loadP0]; rfl, rfl⟩
  repeat' (first | refine Wp.seq ?_ | refine Wp.block ?_ | (apply Wp.region; focus ((try simp [setArgs, allocP, newP0]) <;> rfl)) | (refine Wp.cond_t ?_ ?_; focus (simp [setArgs, allocP, newP0]; done)) | (refine Wp.cond_f ?_ ?_; focus (simp [setArgs, allocP, newP0]; done)) | refine Wp.skip ?_ | refine Wp.ret ?_ | refine Wp.exit ?_ | refine Blk.here ?_ | (refine Blk.past ?_ ?_; focus (simp; done)))
  refine Wp.loop rfl rfl (fun i st => st.tm.get .any 0 = p ∧ st.tm.get .any 2 = .ptr 0 0 ∧ st.tm.get .any 3 = .bool false ∧ st.tm.get .any 4 = .int .i64 (.c i) ∧ st.sto = ⟨1, [(0, [.nil, .nil])], 0⟩ ∧ ∀ j, j < i → j < zss.length → (zss.getD j []).length = zss.length) zss.length (by omega) ?_ ?_ ?_
  · exact ⟨by simp, by simp, by simp, by simp, rfl, fun j h => by omega⟩
  · rintro f i ⟨tm, S⟩ hi ⟨h0, h2, h3, h4, rfl, hall⟩
    simp only at h0 h2 h3 h4
    have hpe := hxp i hi
    have alS' := alS
    rw [hpe] at alS' h0
    have hlt : (i : Int) < zss.length := by omega
    have hxi : (zss.map patL)[i]? = some (patL (zss.getD i [])) := by simp [List.getD, hi]
    have hw := wrap_in (a := (i : Int) + 1) (by omega) (by omega)
    generalize hz : zss.getD i [] = zs at hxi
    have hzi : zss[i] = zs := by rw [← hz]; simp [List.getD, hi]
    have hii : i < (zss.map patL).length := by omega
    have al := alen_patL zs
    by_cases h1 : zs.length = zss.length
    · repeat' (first | refine Wp.seq ?_ | refine Wp.block ?_ | (apply Wp.region; focus ((try simp [h0, h2, h3, h4, hlt, alS', hxi, hi, hii, hzi, hlen, tiSS, al, h1, hw]) <;> rfl)) | (refine Wp.cond_t ?_ ?_; focus (simp [h0, h2, h3, h4, hlt, alS', hxi, hi, hii, hzi, hlen, tiSS, al, h1, hw]; done)) | (refine Wp.cond_f ?_ ?_; focus (simp [h0, h2, h3, h4, hlt, alS', hxi, hi, hii, hzi, hlen, tiSS, al, h1, hw]; done)) | refine Wp.skip ?_ | refine Wp.ret ?_ | refine Wp.exit ?_ | refine Blk.here ?_ | (refine Blk.past ?_ ?_; focus (simp; done)))
      exact ⟨by simp [h0, hpe], by simp [h2], by simp [h3], by simp, rfl, fun j h1' h2' => by
        rcases Nat.lt_succ_iff_lt_or_eq.1 h1' with q | rfl
        · exact hall j q h2'
        · rw [hz]; exact h1⟩
    · have h1i : ¬ (zs.length : Int) = (zss.length : Int) := by omega
      have h1b : ((zs.length : Int) == (zss.length : Int)) = false := by simp; omega
      have h1n : (zs.length == zss.length) = false := by simp; omega
      repeat' (first | refine Wp.seq ?_ | refine Wp.block ?_ | (apply Wp.region; focus ((try simp [h0, h2, h3, h4, hlt, alS', hxi, hi, hii, hzi, hlen, tiSS, al, h1, h1i, h1b, h1n, bldP0, storeP0]) <;> rfl)) | (refine Wp.cond_t ?_ ?_; focus (simp [h0, h2, h3, h4, hlt, alS', hxi, hi, hii, hzi, hlen, tiSS, al, h1, h1i, h1b, h1n, bldP0, storeP0]; done)) | (refine Wp.cond_f ?_ ?_; focus (simp [h0, h2, h3, h4, hlt, alS', hxi, hi, hii, hzi, hlen, tiSS, al, h1, h1i, h1b, h1n, bldP0, storeP0]; done)) | refine Wp.skip ?_ | refine Wp.ret ?_ | refine Wp.exit ?_ | refine Blk.here ?_ | (refine Blk.past ?_ ?_; focus (simp; done)))
      exact ⟨rfl, fin _ (by simp [h2]) (by simp) rfl⟩
  · rintro f ⟨tm, S⟩ ⟨h0, h2, h3, h4, rfl, hall⟩
    simp only at h0 h2 h3 h4
    have hL : ¬ (2 ≤ zss.length ∧ zss.length ≤ 6) := by
      rcases hno with ⟨r, hr, hne⟩ | h
      · obtain ⟨j, hj, rfl⟩ := List.mem_iff_getElem.1 hr
        have := hall j hj hj
        simp [List.getD, hj] at this
        exact (hne this).elim
      · exact h
    have hd : decide ((2 : Int) ≤ (zss.length : Int) ∧ (zss.length : Int) ≤ 6) = false := decide_eq_false (by omega)
    have cr := callR (zss.length : Int) m
    rw [hd] at cr
    repeat' (first | refine Wp.seq ?_ | refine Wp.block ?_ | (apply Wp.region; focus ((try simp [h0, h2, h3, h4, alS, cr, bldP0, storeP0]) <;> rfl)) | (refine Wp.cond_t ?_ ?_; focus (simp [h0, h2, h3, h4, alS, cr, bldP0, storeP0]; done)) | (refine Wp.cond_f ?_ ?_; focus (simp [h0, h2, h3, h4, alS, cr, bldP0, storeP0]; done)) | refine Wp.skip ?_ | refine Wp.ret ?_ | refine Wp.exit ?_ | refine Blk.here ?_ | (refine Blk.past ?_ ?_; focus (simp; done)))
    exact ⟨rfl, fin _ (by simp [h2]) (by simp) rfl⟩
end

theorem slice_rel {ρ : Nat → Int} {s : Sms} {B : Nat} {c : Cx} {zss : List (List Int)} {xs : List (V Sy)} {v : Value} (hne : zss ≠ []) (hl : xs.length = zss.length) (hx : ∀ (i : Nat) (x : V Sy) (zs : List Int), xs[i]? = some x → zss[i]? = some zs → ∀ u, VR ⟨Sy.den ρ, s⟩ B c (patL zs) u → VR ⟨Sy.den ρ, s⟩ B c x u) (h : VR ⟨Sy.den ρ, s⟩ B c (patS zss) v) : VR ⟨Sy.den ρ, s⟩ B c (.slice xs) v := by
  have hq : patS zss = .slice (zss.map patL) := by cases zss with
    | nil => exact (hne rfl).elim
    | cons a r => rfl
  rw [hq] at h
  have hl2 : (zss.map patL).length = xs.length := by rw [List.length_map, hl]
  generalize hg : zss.map patL = ys at h hl2
  cases h with
  | @slice _ b off cap us h1 h2 h3 h4 h5 =>
    rw [hl2]
    refine .slice us (by omega) (by omega) h3 h4 (fun j x u hj hu => ?_)
    have hjl : j < zss.length := by rw [← hl]; exact (List.getElem?_eq_some_iff.1 hj).1
    have hz : zss[j]? = some zss[j] := List.getElem?_eq_getElem hjl
    exact hx j x _ hj hz u (h5 j _ u (by rw [← hg, List.getElem?_map, hz]; rfl) hu)
  | snil => cases zss with
    | nil => exact (hne rfl).elim
    | cons a r => simp at hg
section
variable {zss : List (List Int)}
theorem vxz1 (h6 : zss.length ≤ 6) {n k : Nat} (hn : n < zss.length) (hk : k < zss.length) (hw : IntKind.i64.wrap ((zss.getD n []).getD k 0) = (zss.getD n []).getD k 0) : (vx (6 * n + k)).den (rhoZ zss) = (zss.getD n []).getD k 0 := by
  have e : rhoZ zss (6 * n + k) = (zss.getD n []).getD k 0 := by unfold rhoZ; rw [show (6 * n + k) / 6 = n by omega, show (6 * n + k) % 6 = k by omega]
  rw [vx_den _ _ (by omega) (by rw [e]; exact hw), e]
theorem getD_wrap {l : List Int} (hw : ∀ z, z ∈ l → IntKind.i64.wrap z = z) (k : Nat) : IntKind.i64.wrap (l.getD k 0) = l.getD k 0 := by
  rcases Nat.lt_or_ge k l.length with h | h
  · have e : l.getD k 0 = l[k] := by simp [List.getD, h]
    rw [e]; exact hw _ (List.getElem_mem h)
  · have e : l.getD k 0 = 0 := by simp [List.getD, List.getElem?_eq_none h]
    rw [e]; exact wrap0
theorem rowZ1 (h6 : zss.length ≤ 6) {n : Nat} (hn : n < zss.length) (hr : (zss.getD n []).length = zss.length) (hw : ∀ z, z ∈ zss.getD n [] → IntKind.i64.wrap z = z) : (rowZ zss.length n).map (Sy.den (rhoZ zss)) = zss.getD n [] := by
  apply List.ext_getElem?
  intro k
  unfold rowZ
  rw [List.map_map, List.getElem?_map]
  rcases Nat.lt_or_ge k zss.length with hk | hk
  · have e : (zss.getD n [])[k]? = some ((zss.getD n []).getD k 0) := by
      generalize zss.getD n [] = w at hr
      simp [List.getD, show k < w.length by omega]
    rw [List.getElem?_range hk, e]
    simp only [Option.map_some, Function.comp]
    rw [vxz1 h6 hn hk (getD_wrap hw k)]
  · rw [List.getElem?_eq_none (by simp; omega), List.getElem?_eq_none (by omega)]; rfl
theorem nrm_at (hn : ∀ r, r ∈ zss → ∀ z, z ∈ r → IntKind.i64.wrap z = z) (i : Nat) : ∀ z, z ∈ zss.getD i [] → IntKind.i64.wrap z = z := by
  rcases Nat.lt_or_ge i zss.length with h | h
  · have e : zss.getD i [] = zss[i] := by simp [List.getD, h]
    rw [e]; exact hn _ (List.getElem_mem h)
  · have e : zss.getD i [] = [] := by simp [List.getD, List.getElem?_eq_none h]
    rw [e]; simp
def GoodR (L : Nat) (r : List Int) : Prop := r.length = L ∧ -1000000000 ≤ r.getD 1 0 ∧ r.getD 1 0 ≤ 1000000000
theorem firstBad (L : Nat) : ∀ l : List (List Int), (∀ r, r ∈ l → GoodR L r) ∨ ∃ n, n < l.length ∧ ¬ GoodR L (l.getD n []) ∧ ∀ i, i < n → GoodR L (l.getD i [])
  | [] => .inl (by simp)
  | a :: r => by
    by_cases h : GoodR L a
    · rcases firstBad L r with h1 | ⟨n, h1, h2, h3⟩
      · refine .inl (fun x hx => ?_)
        rcases List.mem_cons.1 hx with rfl | hx
        · exact h
        · exact h1 x hx
      · refine .inr ⟨n + 1, by simpa using h1, by rw [getD_cons_succ']; exact h2, fun i hi => ?_⟩
        cases i with
        | zero => rw [getD_cons_zero']; exact h
        | succ i => rw [getD_cons_succ']; exact h3 i (by omega)
    · exact .inr ⟨0, by simp, by rw [getD_cons_zero']; exact h, fun i hi => by omega⟩
theorem jr_tells (hn : ∀ r, r ∈ zss → ∀ z, z ∈ r → IntKind.i64.wrap z = z) (h2 : 2 ≤ zss.length) (h6 : zss.length ≤ 6) {n : Nat} (hnl : n < zss.length) (hpre : ∀ i, i < n → GoodR zss.length (zss.getD i [])) {Γ : List Fact} (hΓ : ∀ f, f ∈ Γ → f.Ok (rhoZ zss)) {x : V Sy}
    (hx : ∀ (s : Sms) (B : Nat) (c : Cx) (u : Value), VR ⟨Sy.den (rhoZ zss), s⟩ B c (patL (zss.getD n [])) u → VR ⟨Sy.den (rhoZ zss), s⟩ B c x u) (h : ∀ ys : List (V Sy), ys.length = zss.length - 1 - n → noPair (jr zss.length n Γ x ys) = true) :
    Tells Try.prog 12 [patS zss] (pairR none) (pairO none) := by
  have hb : ∀ f, f ∈ Γ ++ bndZ n → f.Ok (rhoZ zss) := by
    intro f hf
    rcases List.mem_append.1 hf with hf | hf
    · exact hΓ f hf
    · obtain ⟨i, hi, hf⟩ := List.mem_flatMap.1 hf
      rw [List.mem_range] at hi
      obtain ⟨g1, g2, g3⟩ := hpre i hi
      have e := vxz1 (k := 1) h6 (show i < zss.length by omega) (by omega) (getD_wrap (nrm_at hn i) 1)
      simp only [List.mem_cons, List.not_mem_nil, or_false] at hf
      rcases hf with rfl | rfl
      · exact Fact.lt_no (by rw [e]; simp only [Sy.den]; omega)
      · exact Fact.lt_no (by rw [e]; simp only [Sy.den]; omega)
  have h := h ((zss.drop (n + 1)).map patL) (by simp; omega)
  refine tells_no h (fun R S hr s B' => (symRun_ok noCount mixed hb noK_ok 60 _ _ _ _ _ hr).1) (fun s B c vs hv => ?_)
  obtain ⟨v, rfl, hv2⟩ := hv.one
  refine .cons (slice_rel (by intro e; rw [e] at h2; simp at h2) (by simp; omega) (fun i y zs hy hzs u hu => ?_) hv2) .nil
  have hz : zss.getD i [] = zs := by simp [List.getD, hzs]
  rcases Nat.lt_trichotomy i n with hi | rfl | hi
  · rw [List.getElem?_append_left (by simp; exact hi), List.getElem?_map, List.getElem?_range hi] at hy
    cases hy
    have g := (hpre i hi).1
    refine ints_sym (rowZ1 h6 (by omega) g (nrm_at hn i)) (by intro e; rw [e] at g; simp at g; omega) (by rw [hz]; exact hu)
  · rw [List.getElem?_append_right (by simp)] at hy
    simp at hy
    subst hy
    exact hx _ _ _ _ (by rw [hz]; exact hu)
  · rw [List.getElem?_append_right (by simp; omega)] at hy
    simp only [List.length_map, List.length_range] at hy
    obtain ⟨k, hk⟩ : ∃ k, i - n = k + 1 := ⟨i - n - 1, by omega⟩
    rw [hk, List.getElem?_cons_succ, List.getElem?_map, List.getElem?_drop, show n + 1 + k = i by omega, hzs] at hy
    cases hy
    exact hu
theorem impl_bad (hn : ∀ r, r ∈ zss → ∀ z, z ∈ r → IntKind.i64.wrap z = z) (h2 : 2 ≤ zss.length) (h6 : zss.length ≤ 6) {n : Nat} (hnl : n < zss.length) (hpre : ∀ i, i < n → GoodR zss.length (zss.getD i [])) (hbad : ¬ GoodR zss.length (zss.getD n [])) :
    Tells Try.prog 12 [patS zss] (pairR none) (pairO none) := by
  by_cases hr : (zss.getD n []).length = zss.length
  · have hrel : ∀ (s : Sms) (B : Nat) (c : Cx) (u : Value), VR ⟨Sy.den (rhoZ zss), s⟩ B c (patL (zss.getD n [])) u → VR ⟨Sy.den (rhoZ zss), s⟩ B c (.slice (ints (rowZ zss.length n))) u := fun s B c u hu =>
      ints_sym (rowZ1 h6 hnl hr (nrm_at hn n)) (by intro e; rw [e] at hr; simp at hr; omega) hu
    have e := vxz1 (k := 1) h6 hnl (by omega) (getD_wrap (nrm_at hn n) 1)
    by_cases hlo : (zss.getD n []).getD 1 0 < -1000000000
    · refine jr_tells hn h2 h6 hnl hpre (fun f hf => ?_) hrel (fun ys hy => jLo_all h2 h6 hnl ys hy)
      simp only [List.mem_cons, List.not_mem_nil, or_false] at hf
      subst hf
      exact Fact.lt_yes (by rw [e]; exact hlo)
    · refine jr_tells hn h2 h6 hnl hpre (fun f hf => ?_) hrel (fun ys hy => jHi_all h2 h6 hnl ys hy)
      simp only [List.mem_cons, List.not_mem_nil, or_false] at hf
      rcases hf with rfl | rfl
      · refine Fact.lt_yes (by rw [e]; simp only [Sy.den]; have := hbad; unfold GoodR at this; omega)
      · exact Fact.lt_no (by rw [e]; exact hlo)
  · exact jr_tells hn h2 h6 hnl hpre (by simp) (fun _ _ _ _ hu => hu) (fun ys hy => jLen_all h2 h6 hnl ys hy _ hr)
theorem same_pat {k : FuncId} {K : Ctr} {n : Nat} (hK : ∀ (ρ : Nat → Int) (s : Sms) (B : Nat), COk Try.prog ⟨Sy.den ρ, s⟩ B K) (h : noPair (symRun Try.prog K [] n k [patS zss] ⟨0, [], 0⟩) = true) : Tells Try.prog k [patS zss] (pairR none) (pairO none) :=
  tells_no (ρ' := fun _ => 0) h (fun R S hr s B' => run_goodK noCount mixed hK _ hr B') (fun _ _ _ _ hv => hv)
theorem implPair_tells (hl0 : zss.length ≤ 1048576) (hn : ∀ r, r ∈ zss → ∀ z, z ∈ r → IntKind.i64.wrap z = z) : Tells Try.prog 12 [patS zss] (pairR (pF zss)) (pairO (pF zss)) := by
  by_cases hL : 2 ≤ zss.length ∧ zss.length ≤ 6
  case neg =>
    rw [pF_no (fun hp => hL ⟨hp.1, hp.2.1⟩)]
    match zss, hL with
    | [], _ => exact same_pat (fun _ _ _ => noK_ok) few0
    | [a], _ => exact same_pat (fun _ _ _ => noK_ok) (few1 (patL a))
    | a :: b :: c :: d :: e :: f :: g :: r, _ => exact same_pat (fun _ _ _ => noK_ok) (many7 (patL a) (patL b) (patL c) (patL d) (patL e) (patL f) (patL g) (r.map patL))
    | [a, b], h => exact (h (by simp)).elim
    | [a, b, c], h => exact (h (by simp)).elim
    | [a, b, c, d], h => exact (h (by simp)).elim
    | [a, b, c, d, e], h => exact (h (by simp)).elim
    | [a, b, c, d, e, f], h => exact (h (by simp)).elim
  obtain ⟨h2, h6⟩ := hL
  rcases firstBad zss.length zss with hall | ⟨n, h1, hbad, hpre⟩
  · refine impl_sq ⟨h2, h6, fun r hr => (hall r hr).1, hn⟩ (fun n hnl => ?_)
    have := hall _ (List.getElem_mem hnl)
    rw [col_get]
    have e : zss.getD n [] = zss[n] := by simp [List.getD, hnl]
    rw [e]; exact this.2
  · rw [pF_no (fun hp => hbad (by
      have e : zss.getD n [] = zss[n] := by simp [List.getD, h1]
      have hb := pair_in hn hp n h1
      rw [col_get] at hb
      exact ⟨by rw [e]; exact hp.2.2.1 _ (List.getElem_mem h1), hb⟩))]
    exact impl_bad hn h2 h6 h1 hpre hbad
theorem specPair_tells (hl0 : zss.length ≤ 1048576) (hn : ∀ r, r ∈ zss → ∀ z, z ∈ r → IntKind.i64.wrap z = z) : Tells Try.prog 13 [patS zss] (pairR (pF zss)) (pairO (pF zss)) := by
  by_cases hsq : (∃ r, r ∈ zss ∧ r.length ≠ zss.length) ∨ ¬ (2 ≤ zss.length ∧ zss.length ≤ 6)
  · rw [pF_no (fun hp => by
      rcases hsq with ⟨r, hr, hne⟩ | h
      · exact hne (hp.2.2.1 r hr)
      · exact h ⟨hp.1, hp.2.1⟩)]
    obtain ⟨r, h1, h2⟩ := spec_shape zss hl0 hsq (zss.length + 1) (by omega)
    exact same_pat (fun _ _ _ => noK_ok) (n := zss.length + 1 + 2) (by rw [h1]; obtain ⟨v, S⟩ := r; simp only at h2; subst h2; rfl)
  · have h2 : 2 ≤ zss.length ∧ zss.length ≤ 6 := Classical.not_not.1 (fun h => hsq (.inr h))
    exact spec_sq ⟨h2.1, h2.2, fun r hr => Classical.not_not.1 (fun h => hsq (.inl ⟨r, hr, h⟩)), hn⟩
end
end Go.Proofs.Ytpjenggjcpahaaa.Pr

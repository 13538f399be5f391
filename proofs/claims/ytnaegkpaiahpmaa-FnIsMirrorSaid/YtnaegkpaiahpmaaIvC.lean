/-
  Inverses of pairs: what both sides answer at any lists; arrays; columns. No condition.
-/
import Derived.Test.YtnaegkpaiahpmaaRows
import Derived.Test.YtnaegkpaiahpmaaSym
import Derived.Test.YtnaegkpaiahpmaaSymD
import Derived.Test.YtnaegkpaiahpmaaSymE
import Derived.Test.YtnaegkpaiahpmaaSymF
import Derived.Test.YtnaegkpaiahpmaaSymG
import Derived.Test.YtnaegkpaiahpmaaIds
import Derived.Test.YtnaegkpaiahpmaaSumm
import Derived.Test.YtnaegkpaiahpmaaNp
import Derived.Test.YtnaegkpaiahpmaaTel
import Derived.Test.YtnaegkpaiahpmaaIv
import Derived.Test.YtnaegkpaiahpmaaIvA
import Derived.Test.YtnaegkpaiahpmaaDraw
import Derived.Test.YtnaegkpaiahpmaaDrawC
import Derived.Test.YtnaegkpaiahpmaaDrawD
import Derived.Test.YtnaegkpaiahpmaaIvB
import Derived.WalkKit
import Derived.ProofKit
import Derived.OpenShut
namespace Go.Proofs.Ytnaegkpaiahpmaa.Iv
open Go.ChangeShapes Go.WideShapes Go.ChangeAt Go.RowKit Go.Sx Go.Proofs.Ytnaegkpaiahpmaa.Ids
open Go.Proofs.Ytnaegkpaiahpmaa.Tel (booIs tells_boo telK telK_ok vr_agg2 rowsR rowsO objsO heldAt heldAt_ok held_rn held_obj szO szO_eq tells_rows)
open Go.Proofs.Ytnaegkpaiahpmaa.Draw (fldP0 fldP1 loadS lookN allocP loadP storeP lookW)
set_option linter.unusedVariables false
set_option linter.unusedSimpArgs false

/-! ## A pair and whether there is one -/
def prR : Option (List Int × List Int) → Nat → V Sy
  | none, _ => .tup [.agg [.nil, .nil], .bool false]
  | some p, n => .tup [.agg [.rsl n 0 p.1.length none, .rsl (n + 1) 0 p.2.length none], .bool true]
def prO : Option (List Int × List Int) → Nat → List (Ob Sy)
  | none, _ => []
  | some p, _ => objsO [p.1, p.2]
theorem tells_no {k0 : FuncId} {pats pat : List (V Sy)} {ρ' : Nat → Int} {r : Option (V Sy × Sto Sy)} (h : noPr r = true) (hG : ∀ (R : V Sy) (S : Sto Sy), r = some (R, S) → ∀ (s : Sms) (B' : Nat), Go.Sx.Good Try.prog ⟨Sy.den ρ', s⟩ B' k0 pat ⟨0, [], 0⟩ R S)
    (hp : ∀ (s : Sms) (B : Nat) (c : Cx) (vs : List Value), VRs ⟨Sy.den ρ', s⟩ B c pats vs → VRs ⟨Sy.den ρ', s⟩ B c pat vs) : Tells Try.prog k0 pats (prR none) (prO none) := by
  unfold noPr at h
  split at h
  case h_2 => cases h
  rename_i S
  exact ⟨ρ', pat, _, S, [], fun _ => 0, hG _ _ rfl, List.nodup_nil, fun n ρ => ⟨rfl, fun j o b hj => by simp at hj, RNs.tup (.cons (RNs.agg (.cons .nil (.cons .nil .nil))) (.cons (.bool _) .nil))⟩, hp⟩
theorem tells_pr {k0 : FuncId} {pats pat : List (V Sy)} {ρ' : Nat → Int} {r : Option (V Sy × Sto Sy)} {ps qs : List Sy} (h : isPr ps qs r = true) (hG : ∀ (R : V Sy) (S : Sto Sy), r = some (R, S) → ∀ (s : Sms) (B' : Nat), Go.Sx.Good Try.prog ⟨Sy.den ρ', s⟩ B' k0 pat ⟨0, [], 0⟩ R S)
    (hp : ∀ (s : Sms) (B : Nat) (c : Cx) (vs : List Value), VRs ⟨Sy.den ρ', s⟩ B c pats vs → VRs ⟨Sy.den ρ', s⟩ B c pat vs) : Tells Try.prog k0 pats (prR (some (ps.map (Sy.den ρ'), qs.map (Sy.den ρ')))) (prO (some (ps.map (Sy.den ρ'), qs.map (Sy.den ρ')))) := by
  unfold isPr at h
  split at h
  case h_2 => cases h
  rename_i x y S
  split at h
  case h_2 => cases h
  rename_i a b ha hb
  rw [bite_eq] at h
  split at h
  case isTrue => cases h
  rename_i hab
  have hne : a ≠ b := fun e => hab (by rw [e]; exact Nat.beq_refl b)
  refine ⟨ρ', pat, _, S, [a, b], szO S, hG _ _ rfl, by simp [hne], fun n ρ => ⟨rfl, fun j o b' hj hb' => ?_, ?_⟩, hp⟩
  · match j with
    | 0 =>
      simp only [List.getElem?_cons_zero, Option.some.injEq, prO, objsO, List.map_cons] at hj hb'
      subst hj hb'
      exact held_obj ha _ _ _
    | 1 =>
      simp only [List.getElem?_cons_succ, List.getElem?_cons_zero, Option.some.injEq, prO, objsO, List.map_cons] at hj hb'
      subst hj hb'
      exact held_obj hb _ _ _
    | j + 2 => simp at hj
  · exact RNs.tup (.cons (RNs.agg (.cons (held_rn ha (j := 0) rfl (by simp)) (.cons (held_rn hb (j := 1) rfl (by simp)) .nil))) (.cons (.bool _) .nil))
/-! ## Inverses -/
noncomputable def rvZ (g f : List Int) : List Int := (rvS g.length (f.getD 1 0)).map (Sy.den (rhoP g f))
noncomputable def ivZ (g f : List Int) : List Int := (ivS g.length (g.getD 0 0)).map (Sy.den (rhoP g f))
noncomputable def cvZ (g f : List Int) : List Int := (cvS g.length (g.getD 0 0) (f.getD 1 0)).map (Sy.den (rhoP g f))
def InvP (g f : List Int) : Prop := PairV g f ∧ validP 600 (rvZ g f) ∧ validP 600 (ivZ g f) ∧ validP 600 (cvZ g f)
open Classical in
noncomputable def invF (g f : List Int) : Option (List Int × List Int) := if InvP g f then some (cvZ g f, rvZ g f) else none
section
variable {g f : List Int}
theorem PairV.nm (h : PairV g f) : Nm g ∧ Nm f := ⟨fun z hz => by have := h.1.1 z hz; exact wrap_in (by omega) (by omega), fun z hz => by have := h.2.1.1 z hz; exact wrap_in (by omega) (by omega)⟩
theorem PairV.gS (h : PairV g f) : (gS g.length (g.getD 0 0)).map (Sy.den (rhoP g f)) = g := gS_den h.nm.1 h.1.2.1 h.1.2.2
theorem PairV.fS (h : PairV g f) : (fS g.length (f.getD 1 0)).map (Sy.den (rhoP g f)) = f := by
  have := fS_den (g := g) h.nm.2 (by have := h.2.2.1; have := h.2.2.2.1; omega) h.2.1.2.2 h.2.2.2.2.2.1
  rwa [h.2.2.1] at this
theorem PairV.fac (h : PairV g f) : ∀ x, x ∈ facQ g.length (g.getD 0 0) (f.getD 1 0) → x.Ok (rhoP g f) := by
  intro x hx
  rcases List.mem_append.1 hx with hx | hx
  · exact rngF_ok (fun z hz => h.1.1 z (by rwa [h.gS] at hz)) x hx
  · exact rngF_ok (fun z hz => h.2.1.1 z (by rwa [h.fS] at hz)) x hx
theorem PairV.vt (h : PairV g f) : ∀ e, e ∈ vtQ g.length (g.getD 0 0) (f.getD 1 0) → e.Ok (rhoP g f) := by
  intro e he
  simp only [vtQ, List.mem_cons, List.not_mem_nil, or_false] at he
  rcases he with rfl | rfl
  · unfold VEnt.Ok; simp only [h.gS]; exact decide_eq_true h.1
  · unfold VEnt.Ok; simp only [h.fS]; exact decide_eq_true h.2.1
theorem PairV.pat (h : PairV g f) {s : Sms} {B : Nat} {c : Cx} {v : Value} (hv' : VR ⟨Sy.den (rhoP g f), s⟩ B c (.agg [patL g, patL f]) v) : VR ⟨Sy.den (rhoP g f), s⟩ B c (pQ g.length (g.getD 0 0) (f.getD 1 0)) v := by
  obtain ⟨u, w, rfl, hu', hw⟩ := vr_agg2 hv'
  exact VRs.agg (.cons (ints_sym h.gS (ne_len h.1.2.1) hu') (.cons (ints_sym h.fS (ne_len h.2.1.2.1) hw) .nil))
theorem PairV.pat1 (h : PairV g f) : ∀ (s : Sms) (B : Nat) (c : Cx) (vs : List Value), VRs ⟨Sy.den (rhoP g f), s⟩ B c [.agg [patL g, patL f]] vs → VRs ⟨Sy.den (rhoP g f), s⟩ B c [pQ g.length (g.getD 0 0) (f.getD 1 0)] vs := by
  intro s B c vs hvs
  obtain ⟨v, rfl, hv⟩ := hvs.one
  exact .cons (h.pat hv) .nil
theorem known_ok {ρ : Nat → Int} {Vt : List VEnt} (hV : ∀ e, e ∈ Vt → e.Ok ρ) {ps : List Sy} (h : known Vt ps = true) : validP 600 (ps.map (Sy.den ρ)) := by
  unfold known at h
  rw [bite_eq] at h
  split at h
  case isFalse => cases h
  rename_i hf
  split at h
  case h_2 => cases h
  rename_i hv
  exact of_decide_eq_true (vdec_ok hV (by omega) (fitsL_wrap ρ hf) hv)
theorem vent {ρ : Nat → Int} {ps : List Sy} {q : Bool} (h : decide (validP 600 (ps.map (Sy.den ρ))) = q) : VEnt.Ok ρ ⟨600, ps, q⟩ := h
theorem inv_at {k : FuncId} (hC : ∀ L, 2 ≤ L → L ≤ 6 → all4 (invAll k L) = true) (h : PairV g f) : Tells Try.prog k [.agg [patL g, patL f]] (prR (invF g f)) (prO (invF g f)) := by
  have C := andB_ok (all4_ok (hC g.length h.2.2.2.1 h.1.2.2) h.2.2.2.2.1 h.2.2.2.2.2.2)
  have cA1 := C _ (List.mem_cons_self ..)
  have cA0 := C _ (List.mem_cons_of_mem _ (List.mem_cons_self ..))
  have cB := C _ (List.mem_cons_of_mem _ (List.mem_cons_of_mem _ (List.mem_cons_self ..)))
  have cC := C _ (List.mem_cons_of_mem _ (List.mem_cons_of_mem _ (List.mem_cons_of_mem _ (List.mem_cons_self ..))))
  have cD := C _ (List.mem_cons_of_mem _ (List.mem_cons_of_mem _ (List.mem_cons_of_mem _ (List.mem_cons_of_mem _ (List.mem_cons_self ..)))))
  clear C
  have hF := h.fac
  have hV := h.vt
  have hp := h.pat1
  have I1 : rvZ g f = (rvS g.length (f.getD 1 0)).map (Sy.den (rhoP g f)) := rfl
  have I2 : ivZ g f = (ivS g.length (g.getD 0 0)).map (Sy.den (rhoP g f)) := rfl
  have I3 : cvZ g f = (cvS g.length (g.getD 0 0) (f.getD 1 0)).map (Sy.den (rhoP g f)) := rfl
  unfold invF InvP
  generalize g.getD 0 0 = a at *
  generalize f.getD 1 0 = b at *
  have G : ∀ (Vt : List VEnt), (∀ e, e ∈ Vt → e.Ok (rhoP g f)) → ∀ (R : V Sy) (S : Sto Sy), invR k g.length a b Vt = some (R, S) → ∀ (s : Sms) (B' : Nat), Go.Sx.Good Try.prog ⟨Sy.den (rhoP g f), s⟩ B' k [pQ g.length a b] ⟨0, [], 0⟩ R S := fun Vt hVt R S hRS s B' =>
    (symRun_ok noCount mixed hF (symK_ok noCount mixed ids_ok (t := Summs.tab) Summs.tab_ok hF (fun e he => (List.mem_append.1 he).elim (hVt e) (hV e))) 60 _ _ _ _ _ hRS).1
  have nop : ∀ Vt : List VEnt, (∀ e, e ∈ Vt → e.Ok (rhoP g f)) → noPr (invR k g.length a b Vt) = true → Tells Try.prog k [.agg [patL g, patL f]] (prR none) (prO none) := fun Vt hVt hn => tells_no (ρ' := rhoP g f) hn (G Vt hVt) hp
  by_cases v1 : validP 600 (rvZ g f)
  case neg =>
    rw [if_neg (fun hh => v1 hh.2.1)]
    obtain ⟨q, hq⟩ : ∃ q, decide (validP 600 (ivZ g f)) = q := ⟨_, rfl⟩
    have cA : invA k g.length a b q = true := by cases q; exact cA0; exact cA1
    rcases orB_ok cA with h1 | h1
    · exact (v1 (by rw [I1]; exact known_ok hV h1)).elim
    rcases orB_ok h1 with h2 | h2
    · cases q with
      | true => cases h2
      | false =>
        rw [bite_false] at h2
        exact (of_decide_eq_false hq (by rw [I2]; exact known_ok hV h2)).elim
    · refine nop _ (fun e he => ?_) h2
      simp only [List.mem_cons, List.not_mem_nil, or_false] at he
      rcases he with rfl | rfl
      · exact vent (by rw [← I1]; exact decide_eq_false v1)
      · exact vent (by rw [← I2]; exact hq)
  by_cases v2 : validP 600 (ivZ g f)
  case neg =>
    rw [if_neg (fun hh => v2 hh.2.2.1)]
    rcases orB_ok cB with h1 | h1
    · exact (v2 (by rw [I2]; exact known_ok hV h1)).elim
    · refine nop _ (fun e he => ?_) h1
      simp only [List.mem_cons, List.not_mem_nil, or_false] at he
      rcases he with rfl | rfl
      · exact vent (by rw [← I1]; exact decide_eq_true v1)
      · exact vent (by rw [← I2]; exact decide_eq_false v2)
  by_cases v3 : validP 600 (cvZ g f)
  case neg =>
    rw [if_neg (fun hh => v3 hh.2.2.2)]
    rcases orB_ok cC with h1 | h1
    · have hV2 : ∀ e, e ∈ (⟨600, rvS g.length b, true⟩ : VEnt) :: ⟨600, ivS g.length a, true⟩ :: vtQ g.length a b → e.Ok (rhoP g f) := fun e he => by
        rcases List.mem_cons.1 he with rfl | he
        · exact vent (by rw [← I1]; exact decide_eq_true v1)
        rcases List.mem_cons.1 he with rfl | he
        · exact vent (by rw [← I2]; exact decide_eq_true v2)
        · exact hV e he
      exact (v3 (by rw [I3]; exact known_ok hV2 h1)).elim
    · refine nop _ (fun e he => ?_) h1
      simp only [List.mem_cons, List.not_mem_nil, or_false] at he
      rcases he with rfl | rfl | rfl
      · exact vent (by rw [← I1]; exact decide_eq_true v1)
      · exact vent (by rw [← I2]; exact decide_eq_true v2)
      · exact vent (by rw [← I3]; exact decide_eq_false v3)
  rw [if_pos ⟨h, v1, v2, v3⟩, I1, I3]
  refine tells_pr (ρ' := rhoP g f) cD (G _ (fun e he => ?_)) hp
  simp only [List.mem_cons, List.not_mem_nil, or_false] at he
  rcases he with rfl | rfl | rfl
  · exact vent (by rw [← I1]; exact decide_eq_true v1)
  · exact vent (by rw [← I2]; exact decide_eq_true v2)
  · exact vent (by rw [← I3]; exact decide_eq_true v3)
theorem inv_len (h : PairV g f) : (rvZ g f).length = g.length ∧ (ivZ g f).length = g.length ∧ (cvZ g f).length = g.length := by
  have C := andB_ok (all4_ok (five (Q := fun L => all4 (invAll 6 L) = true) ii_2 ii_3 ii_4 ii_5 ii_6 h.2.2.2.1 h.1.2.2) h.2.2.2.2.1 h.2.2.2.2.2.2) _ (by simp : lenS g.length (g.getD 0 0) (f.getD 1 0) ∈ _)
  have D := andB_ok C
  refine ⟨?_, ?_, ?_⟩
  · unfold rvZ; rw [List.length_map]; exact Nat.eq_of_beq_eq_true (D _ (by simp))
  · unfold ivZ; rw [List.length_map]; exact Nat.eq_of_beq_eq_true (D _ (by simp))
  · unfold cvZ; rw [List.length_map]; exact Nat.eq_of_beq_eq_true (D _ (by simp))
end
section
attribute [local simp] aops wants aop apure St.eval setTm_some setTm_none Tr.get_set evals pevals apureB tiS tiI tiB abin aint isCmp sym_lt sym_eqs sym_neqs sym_eq sym_neq sym_gtr sym_leq sym_geq sym_add sym_sub sym_mul aeff aeffB idx? ofV aindexAddr aggDesc aifc_int aun fldP0 fldP1
theorem bld0 : abuild (symNum []) (tiOf Try.prog) 25 [] = some (.agg [V.nil, V.nil]) := by kernel_rfl
theorem look_pair (g f : List Int) (S : Sto Sy) : Go.Sx.look (S.new [patL g, patL f]).obs S.next = some [patL g, patL f] := lookN S _ _
/-- A pair that is not valid has no inverse, on either side. -/
theorem noI_run (g f : List Int) (hlg : g.length ≤ 1048576) (hlf : f.length ≤ 1048576) (hg : Nm g) (hf : Nm f) (h : ¬ PairV g f) : ∃ r, symRun Try.prog (vpK 13) [] 22 6 [.agg [patL g, patL f]] ⟨0, [], 0⟩ = some r ∧ r.1 = .tup [.agg [.nil, .nil], .bool false] := by
  refine own_run2 (n := 21) (by rfl) Try.func6 rfl rfl ?_
  simp only [Try.f6]
  have bx := bxP ⟨0, [], 0⟩ g f
  have k0 := look_pair g f ⟨0, [], 0⟩
  have k1 : Go.Sx.look (((⟨0, [], 0⟩ : Sto Sy).new [patL g, patL f]).new [V.nil, V.nil]).obs 0 = some [patL g, patL f] := k0
  have l0 := loadP k1
  have m1 := lookN ((⟨0, [], 0⟩ : Sto Sy).new [patL g, patL f]) V.nil V.nil
  have c1 := boolC (K := vpK 13) (S := ((⟨0, [], 0⟩ : Sto Sy).new [patL g, patL f]).new [V.nil, V.nil]) (Nat.zero_le _) (fun _ _ => rfl) (dP_eq (consts_pat _ g) (consts_pat _ f) ⟨⟨hlg, hg⟩, hlf, hf⟩) 21 (by omega)
  rw [decide_eq_false h] at c1
  have al := allocP ((⟨0, [], 0⟩ : Sto Sy).new [patL g, patL f])
  have st := storeP (v := V.nil) (w := V.nil) m1 rfl rfl
  have m2 := lookW (a := V.nil) (b := V.nil) m1
  have ld := loadP m2
  generalize (((⟨0, [], 0⟩ : Sto Sy).new [patL g, patL f]).new [V.nil, V.nil]).write ((⟨0, [], 0⟩ : Sto Sy).new [patL g, patL f]).next [V.nil, V.nil] = S3 at *
  generalize ((⟨0, [], 0⟩ : Sto Sy).new [patL g, patL f]).new [V.nil, V.nil] = S2 at *
  generalize (⟨0, [], 0⟩ : Sto Sy).new [patL g, patL f] = S1 at *
  generalize patL g = x at *
  generalize patL f = y at *
  repeat' (first | refine Wp.seq ?_ | refine Wp.block ?_ | (apply Wp.region; focus ((try simp [setArgs, bx, al, l0, c1, bld0, st]) <;> rfl)) | (refine Wp.cond_t ?_ ?_; focus (simp [setArgs, bx, al, l0, c1, bld0, st]; done)) | (refine Wp.cond_f ?_ ?_; focus (simp [setArgs, bx, al, l0, c1, bld0, st]; done)) | refine Wp.skip ?_ | refine Wp.ret ?_ | refine Wp.exit ?_ | refine Blk.here ?_ | (refine Blk.past ?_ ?_; focus (simp; done)))
  exact ⟨rfl, ⟨_, by simp [answer, aresults, aresult, ld]; rfl, rfl⟩⟩
theorem noS_run (g f : List Int) (hlg : g.length ≤ 1048576) (hlf : f.length ≤ 1048576) (hg : Nm g) (hf : Nm f) (h : ¬ PairV g f) : ∃ r, symRun Try.prog (vpK 22) [] 22 7 [.agg [patL g, patL f]] ⟨0, [], 0⟩ = some r ∧ r.1 = .tup [.agg [.nil, .nil], .bool false] := by
  refine own_run2 (n := 21) (by rfl) Try.func7 rfl rfl ?_
  simp only [Try.f7]
  have bx := bxP ⟨0, [], 0⟩ g f
  have k0 := look_pair g f ⟨0, [], 0⟩
  have k1 : Go.Sx.look (((⟨0, [], 0⟩ : Sto Sy).new [patL g, patL f]).new [V.nil, V.nil]).obs 0 = some [patL g, patL f] := k0
  have l0 := loadP k1
  have m1 := lookN ((⟨0, [], 0⟩ : Sto Sy).new [patL g, patL f]) V.nil V.nil
  have c1 := boolC (K := vpK 22) (S := ((⟨0, [], 0⟩ : Sto Sy).new [patL g, patL f]).new [V.nil, V.nil]) (Nat.zero_le _) (fun _ _ => rfl) (dP_eq (consts_pat _ g) (consts_pat _ f) ⟨⟨hlg, hg⟩, hlf, hf⟩) 21 (by omega)
  rw [decide_eq_false h] at c1
  have al := allocP ((⟨0, [], 0⟩ : Sto Sy).new [patL g, patL f])
  have st := storeP (v := V.nil) (w := V.nil) m1 rfl rfl
  have m2 := lookW (a := V.nil) (b := V.nil) m1
  have ld := loadP m2
  generalize (((⟨0, [], 0⟩ : Sto Sy).new [patL g, patL f]).new [V.nil, V.nil]).write ((⟨0, [], 0⟩ : Sto Sy).new [patL g, patL f]).next [V.nil, V.nil] = S3 at *
  generalize ((⟨0, [], 0⟩ : Sto Sy).new [patL g, patL f]).new [V.nil, V.nil] = S2 at *
  generalize (⟨0, [], 0⟩ : Sto Sy).new [patL g, patL f] = S1 at *
  generalize patL g = x at *
  generalize patL f = y at *
  repeat' (first | refine Wp.seq ?_ | refine Wp.block ?_ | (apply Wp.region; focus ((try simp [setArgs, bx, al, l0, c1, bld0, st]) <;> rfl)) | (refine Wp.cond_t ?_ ?_; focus (simp [setArgs, bx, al, l0, c1, bld0, st]; done)) | (refine Wp.cond_f ?_ ?_; focus (simp [setArgs, bx, al, l0, c1, bld0, st]; done)) | refine Wp.skip ?_ | refine Wp.ret ?_ | refine Wp.exit ?_ | refine Blk.here ?_ | (refine Blk.past ?_ ?_; focus (simp; done)))
  exact ⟨rfl, ⟨_, by simp [answer, aresults, aresult, ld]; rfl, rfl⟩⟩
end
theorem tells_noR {k : FuncId} {K : Ctr} {n : Nat} {pats : List (V Sy)} (hK : ∀ (ρ : Nat → Int) (s : Sms) (B : Nat), COk Try.prog ⟨Sy.den ρ, s⟩ B K) (h : ∃ r, symRun Try.prog K [] n k pats ⟨0, [], 0⟩ = some r ∧ r.1 = .tup [.agg [.nil, .nil], .bool false]) : Tells Try.prog k pats (prR none) (prO none) := by
  obtain ⟨⟨v, S⟩, hr, hv⟩ := h
  simp only at hv
  subst hv
  exact tells_no (ρ' := fun _ => 0) (r := some (.tup [.agg [.nil, .nil], .bool false], S)) rfl (fun R S' e s B' => by cases e; exact run_goodK noCount mixed hK _ hr B') (fun s B c vs h => h)
theorem invI_tells {g f : List Int} (hlg : g.length ≤ 1048576) (hlf : f.length ≤ 1048576) (hg : Nm g) (hf : Nm f) : Tells Try.prog 6 [.agg [patL g, patL f]] (prR (invF g f)) (prO (invF g f)) := by
  by_cases h : PairV g f
  · exact inv_at (fun L h2 h6 => five (Q := fun L => all4 (invAll 6 L) = true) ii_2 ii_3 ii_4 ii_5 ii_6 h2 h6) h
  · have e : invF g f = none := by unfold invF; rw [if_neg (fun hh => h hh.1)]
    rw [e]
    exact tells_noR vpKI_ok (noI_run g f hlg hlf hg hf h)
theorem invS_tells {g f : List Int} (hlg : g.length ≤ 1048576) (hlf : f.length ≤ 1048576) (hg : Nm g) (hf : Nm f) : Tells Try.prog 7 [.agg [patL g, patL f]] (prR (invF g f)) (prO (invF g f)) := by
  by_cases h : PairV g f
  · exact inv_at (fun L h2 h6 => five (Q := fun L => all4 (invAll 7 L) = true) is_2 is_3 is_4 is_5 is_6 h2 h6) h
  · have e : invF g f = none := by unfold invF; rw [if_neg (fun hh => h hh.1)]
    rw [e]
    exact tells_noR vpKS_ok (noS_run g f hlg hlf hg hf h)
noncomputable def invK (k : FuncId) : Ctr := telK k dP (fun p => prR (invF p.1 p.2)) (fun p => prO (invF p.1 p.2))
theorem invKI_ok (ρ : Nat → Int) (s : Sms) (B : Nat) : COk Try.prog ⟨Sy.den ρ, s⟩ B (invK 6) :=
  telK_ok (body_of Try.func6 rfl) (fun args sto p h => ⟨_, invI_tells (dP_rel h).1.1.1 (dP_rel h).1.2.1 (dP_rel h).1.1.2 (dP_rel h).1.2.2, (dP_rel h).2⟩)
theorem invKS_ok (ρ : Nat → Int) (s : Sms) (B : Nat) : COk Try.prog ⟨Sy.den ρ, s⟩ B (invK 7) :=
  telK_ok (body_of Try.func7 rfl) (fun args sto p h => ⟨_, invS_tells (dP_rel h).1.1.1 (dP_rel h).1.2.1 (dP_rel h).1.1.2 (dP_rel h).1.2.2, (dP_rel h).2⟩)
end Go.Proofs.Ytnaegkpaiahpmaa.Iv

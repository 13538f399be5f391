/-
  Pairs of lists: is one valid, on both sides, whatever lists they are. No condition.
-/
import Derived.Test.YtnaegkpaiahpmaaRows
import Derived.Test.YtnaegkpaiahpmaaSym
import Derived.Test.YtnaegkpaiahpmaaSymD
import Derived.Test.YtnaegkpaiahpmaaSymE
import Derived.Test.YtnaegkpaiahpmaaSymF
import Derived.Test.YtnaegkpaiahpmaaSymG
import Derived.Test.YtnaegkpaiahpmaaIds
import Derived.Test.YtnaegkpaiahpmaaSumm
import Derived.Test.YtnaegkpaiahpmaaNp
import Derived.Test.YtnaegkpaiahpmaaTel
import Derived.Test.YtnaegkpaiahpmaaIv
import Derived.Test.YtnaegkpaiahpmaaIvA
import Derived.Test.YtnaegkpaiahpmaaDraw
import Derived.Test.YtnaegkpaiahpmaaDrawC
import Derived.Test.YtnaegkpaiahpmaaDrawD
import Derived.WalkKit
import Derived.ProofKit
import Derived.OpenShut
namespace Go.Proofs.Ytnaegkpaiahpmaa.Iv
open Go.ChangeShapes Go.WideShapes Go.ChangeAt Go.RowKit Go.Sx Go.Proofs.Ytnaegkpaiahpmaa.Ids
open Go.Proofs.Ytnaegkpaiahpmaa.Tel (booIs tells_boo telK telK_ok vr_agg2 rowsR rowsO)
open Go.Proofs.Ytnaegkpaiahpmaa.Draw (fldP0 fldP1 loadS lookN)
set_option linter.unusedVariables false
set_option linter.unusedSimpArgs false

theorem andB_ok : ∀ {l : List Bool}, andB l = true → ∀ x, x ∈ l → x = true
  | [], _, x, h => by cases h
  | b :: r, h, x, hx => by
    simp only [andB, bite_eq] at h
    split at h
    case isFalse => cases h
    rename_i hb
    rcases List.mem_cons.1 hx with rfl | hx
    · exact hb
    · exact andB_ok h x hx
theorem orB_ok {x y : Bool} (h : orB x y = true) : x = true ∨ y = true := by
  unfold orB at h
  rw [bite_eq] at h
  split at h
  · rename_i hx; exact .inl hx
  · exact .inr h
theorem all4_ok {f : Int → Int → Bool} (h : all4 f = true) {a b : Int} (ha : a = 1 ∨ a = -1) (hb : b = 1 ∨ b = -1) : f a b = true := by
  have H := andB_ok h
  rcases ha with rfl | rfl <;> rcases hb with rfl | rfl
  · exact H _ (by simp)
  · exact H _ (by simp)
  · exact H _ (by simp)
  · exact H _ (by simp)
theorem five {Q : Nat → Prop} (h2 : Q 2) (h3 : Q 3) (h4 : Q 4) (h5 : Q 5) (h6 : Q 6) {L : Nat} (hl : 2 ≤ L) (hu : L ≤ 6) : Q L := by
  have h : L = 2 ∨ L = 3 ∨ L = 4 ∨ L = 5 ∨ L = 6 := by omega
  rcases h with rfl | rfl | rfl | rfl | rfl
  · exact h2
  · exact h3
  · exact h4
  · exact h5
  · exact h6
theorem ne_len {a : List Int} (h : 1 ≤ a.length) : a ≠ [] := fun e => by rw [e] at h; simp at h

/-! ## What the symbols stand for -/
/-- Numbers as a machine has them. -/
def Nm (zs : List Int) : Prop := ∀ z, z ∈ zs → IntKind.i64.wrap z = z
def rhoP (g f : List Int) (k : Nat) : Int := if k < 6 then g.getD k 0 else f.getD (k - 6) 0
theorem getD_wrap {zs : List Int} (h : Nm zs) (i : Nat) : IntKind.i64.wrap (zs.getD i 0) = zs.getD i 0 := by
  rcases Nat.lt_or_ge i zs.length with hi | hi
  · exact h _ (by simp [List.getD, hi])
  · simp [List.getD, List.getElem?_eq_none hi]; decide
section
variable {g f : List Int}
theorem vxg (hg : Nm g) {i : Nat} (hi : i < 6) : (vx i).den (rhoP g f) = g.getD i 0 := by
  have e : rhoP g f i = g.getD i 0 := by unfold rhoP; rw [if_pos hi]
  rw [vx_den _ _ (by omega) (by rw [e]; exact getD_wrap hg i), e]
theorem vxf (hf : Nm f) {i : Nat} (hi : i < 6) : (vx (6 + i)).den (rhoP g f) = f.getD i 0 := by
  have e : rhoP g f (6 + i) = f.getD i 0 := by unfold rhoP; rw [if_neg (by omega), Nat.add_sub_cancel_left]
  rw [vx_den _ _ (by omega) (by rw [e]; exact getD_wrap hf i), e]
theorem get_some {zs : List Int} {i : Nat} (h : i < zs.length) : zs[i]? = some (zs.getD i 0) := by simp [List.getD, h]
theorem gP_den (hg : Nm g) (h6 : g.length ≤ 6) : (gP g.length).map (Sy.den (rhoP g f)) = g := by
  apply List.ext_getElem?
  intro i
  unfold gP
  rw [List.map_map, List.getElem?_map]
  rcases Nat.lt_or_ge i g.length with hi | hi
  · rw [List.getElem?_range hi, get_some hi]
    simp only [Option.map_some, Function.comp]
    rw [vxg hg (by omega)]
  · rw [List.getElem?_eq_none (by simpa using hi), List.getElem?_eq_none hi]; rfl
theorem fP_den (hf : Nm f) (h6 : f.length ≤ 6) : (fP f.length).map (Sy.den (rhoP g f)) = f := by
  apply List.ext_getElem?
  intro i
  unfold fP
  rw [List.map_map, List.getElem?_map]
  rcases Nat.lt_or_ge i f.length with hi | hi
  · rw [List.getElem?_range hi, get_some hi]
    simp only [Option.map_some, Function.comp]
    rw [vxf hf (by omega)]
  · rw [List.getElem?_eq_none (by simpa using hi), List.getElem?_eq_none hi]; rfl
theorem gS_den (hg : Nm g) (h1 : 1 ≤ g.length) (h6 : g.length ≤ 6) : (gS g.length (g.getD 0 0)).map (Sy.den (rhoP g f)) = g := by
  apply List.ext_getElem?
  intro i
  rw [List.getElem?_map]
  rcases Nat.lt_or_ge i g.length with hi | hi
  · rw [get_some hi]
    cases i with
    | zero => simp only [gS, List.getElem?_cons_zero, Option.map_some, Sy.den]
    | succ i =>
      simp only [gS, List.getElem?_cons_succ, List.getElem?_map, List.getElem?_range (show i < g.length - 1 by omega), Option.map_some]
      rw [vxg hg (by omega)]
  · rw [List.getElem?_eq_none (by simp [gS]; omega), List.getElem?_eq_none hi]; rfl
theorem fS_den (hf : Nm f) (h2 : 2 ≤ f.length) (h6 : f.length ≤ 6) (h0 : f.getD 0 0 = 0) : (fS f.length (f.getD 1 0)).map (Sy.den (rhoP g f)) = f := by
  apply List.ext_getElem?
  intro i
  rw [List.getElem?_map]
  rcases Nat.lt_or_ge i f.length with hi | hi
  · rw [get_some hi]
    match i with
    | 0 => simp only [fS, List.getElem?_cons_zero, Option.map_some, Sy.den, h0]
    | 1 => simp only [fS, List.getElem?_cons_succ, List.getElem?_cons_zero, Option.map_some, Sy.den]
    | i + 2 =>
      simp only [fS, List.getElem?_cons_succ, List.getElem?_map, List.getElem?_range (show i < f.length - 2 by omega), Option.map_some]
      rw [show 8 + i = 6 + (i + 2) by omega, vxf hf (by omega)]
  · rw [List.getElem?_eq_none (by simp [fS]; omega), List.getElem?_eq_none hi]; rfl
end

/-! ## Is a list valid? -/
theorem vs_tells {k : FuncId} (hk : (k, (600 : Int)) ∈ ids.valid) (zs : List Int) (hl : zs.length ≤ 1048576) (hw : Nm zs) : Tells Try.prog k [patL zs] (fun _ => .bool (decide (validP 600 zs))) (fun _ => []) := by
  cases zs with
  | nil =>
    obtain ⟨n, S, hr⟩ := ids_ok.validE _ hk
    have e : decide (validP 600 []) = false := by decide
    rw [e]
    exact ⟨fun _ => 0, [.emp], _, S, [], fun _ => 0, fun s B' => run_goodK noCount mixed (fun _ _ _ => noK_ok) _ hr B', List.nodup_nil, fun n ρ => ⟨rfl, fun j o b hj => by simp at hj, .bool _⟩, fun s B c vs h => h⟩
  | cons z r =>
    obtain ⟨S, hr⟩ := ids_ok.valid _ hk (z :: r) hl hw
    exact ⟨fun _ => 0, [.slice (ints (nums (z :: r)))], _, S, [], fun _ => 0, fun s B' => hr _ s B', List.nodup_nil, fun n ρ => ⟨rfl, fun j o b hj => by simp at hj, .bool _⟩, fun s B c vs h => h⟩
open Classical in
noncomputable def dV : List (V Sy) → Sto Sy → Option (List Int)
  | [x], sto => match constsOf sto x with
    | some zs => if zs.length ≤ 1048576 ∧ Nm zs then some zs else none
    | none => none
  | _, _ => none
theorem dV_eq {sto : Sto Sy} {x : V Sy} {zs : List Int} (ha : constsOf sto x = some zs) (h : zs.length ≤ 1048576) (hw : Nm zs) : dV [x] sto = some zs := by
  simp only [dV, ha]
  rw [if_pos ⟨h, hw⟩]
noncomputable def vsK (k : FuncId) : Ctr := telK k dV (fun zs _ => .bool (decide (validP 600 zs))) (fun _ _ => [])
theorem vsK_ok {k : FuncId} (hk : (k, (600 : Int)) ∈ ids.valid) (hb : ∃ fn, Try.prog.funcs[k]? = some fn ∧ fn.body.isSome = true) (ρ : Nat → Int) (s : Sms) (B : Nat) : COk Try.prog ⟨Sy.den ρ, s⟩ B (vsK k) := by
  refine telK_ok hb (fun args sto zs h => ?_)
  unfold dV at h
  split at h
  case h_2 => cases h
  rename_i x
  split at h
  case h_2 => cases h
  rename_i zs' ha
  split at h
  case isFalse => cases h
  rename_i hp
  cases h
  refine ⟨_, vs_tells hk zs hp.1 hp.2, fun ρ s B c hinv vs hvs ρ' => ?_⟩
  obtain ⟨v, rfl, hv⟩ := hvs.one
  exact .cons (patL_rel ha hp.1 hinv hv) .nil
/-- One contract for a function, another one for the others. -/
noncomputable def swK (k0 : FuncId) (A B : Ctr) : Ctr := fun k args sto => bite (Nat.beq k k0) (A k args sto) (B k args sto)
theorem swK_ok {Δ : Den Sy} {B0 : Nat} {k0 : FuncId} {A B : Ctr} (hA : COk Try.prog Δ B0 A) (hB : COk Try.prog Δ B0 B) : COk Try.prog Δ B0 (swK k0 A B) := by
  intro k args sto r s h
  unfold swK at h
  rw [bite_eq] at h
  split at h
  · exact hA k args sto r s h
  · exact hB k args sto r s h
theorem swK_at {k0 : FuncId} {A B : Ctr} {args : List (V Sy)} {sto : Sto Sy} : swK k0 A B k0 args sto = A k0 args sto := by
  unfold swK
  rw [Nat.beq_refl, bite_true]
theorem swK_ne {k k0 : FuncId} {A B : Ctr} {args : List (V Sy)} {sto : Sto Sy} (h : ¬ Nat.beq k k0 = true) : swK k0 A B k args sto = B k args sto := by
  unfold swK
  rw [bite_eq, if_neg h]
/-- A call that makes nothing. -/
theorem boolC {K : Ctr} {k0 : FuncId} {α : Type} {D : List (V Sy) → Sto Sy → Option α} {Q : α → Bool} {args : List (V Sy)} {S : Sto Sy} {a : α} (hl : S.low ≤ S.next) (hk : ∀ args sto, K k0 args sto = telK k0 D (fun a _ => .bool (Q a)) (fun _ _ => []) k0 args sto) (hD : D args ⟨S.next, S.obs, S.next⟩ = some a) (f : Nat) (hf : 1 ≤ f) (hk9 : (k0 : Nat) < 1000000 := by decide) :
    acallV (symIn Try.prog K [] f) S (.func k0 [] []) args = some (.bool (Q a), S) := by
  obtain ⟨g, rfl⟩ : ∃ g, f = g + 1 := ⟨f - 1, by omega⟩
  have e : K k0 args ⟨S.next, S.obs, S.next⟩ = some (.bool (Q a), ⟨S.next, S.obs, S.next⟩) := by
    rw [hk]
    unfold telK
    rw [Nat.beq_refl, bite_true, hD]
    rfl
  rw [call_K (n := g) e hk9]
  obtain ⟨n, ob, l⟩ := S
  simp only at hl ⊢
  have : (if n < l then n else l) = l := by split <;> omega
  rw [this]

/-! ## Is a pair valid? -/
/-- A valid pair. -/
def PairV (g f : List Int) : Prop := validP 600 g ∧ validP 600 f ∧ f.length = g.length ∧ 2 ≤ g.length ∧ (g.getD 0 0 = 1 ∨ g.getD 0 0 = -1) ∧ f.getD 0 0 = 0 ∧ (f.getD 1 0 = 1 ∨ f.getD 1 0 = -1)
instance (g f : List Int) : Decidable (PairV g f) := inferInstanceAs (Decidable (_ ∧ _))
theorem vp_at {k : FuncId} (hC : ∀ L, 2 ≤ L → L ≤ 6 → vpC k L = true) {g f : List Int} (hl : f.length = g.length) (h2 : 2 ≤ g.length) (h6 : g.length ≤ 6) (hg : Nm g) (hf : Nm f) : Tells Try.prog k [.agg [patL g, patL f]] (fun _ => .bool (decide (PairV g f))) (fun _ => []) := by
  have ga := gP_den (f := f) hg h6
  have gb := fP_den (g := g) hf (by omega)
  rw [hl] at gb
  have hp : ∀ (s : Sms) (B : Nat) (c : Cx) (vs : List Value), VRs ⟨Sy.den (rhoP g f), s⟩ B c [.agg [patL g, patL f]] vs → VRs ⟨Sy.den (rhoP g f), s⟩ B c [pP g.length] vs := by
    intro s B c vs hvs
    obtain ⟨v, rfl, hv⟩ := hvs.one
    obtain ⟨u, w, rfl, hu, hw⟩ := vr_agg2 hv
    exact .cons (VRs.agg (.cons (ints_sym ga (ne_len (by omega)) hu) (.cons (ints_sym gb (ne_len (by omega)) hw) .nil))) .nil
  have main : ∀ (Γ : List Fact) (qa qb q : Bool), (∀ x, x ∈ Γ → x.Ok (rhoP g f)) → decide (validP 600 g) = qa → decide (validP 600 f) = qb → booIs q (vpR k g.length Γ qa qb) = true → decide (PairV g f) = q → Tells Try.prog k [.agg [patL g, patL f]] (fun _ => .bool (decide (PairV g f))) (fun _ => []) := by
    intro Γ qa qb q hΓ e1 e2 hq e3
    rw [e3]
    refine tells_boo hq (fun R S hRS s B' => ?_) hp
    refine (symRun_ok noCount mixed hΓ (symK_ok noCount mixed ids_ok (t := Summs.tab) Summs.tab_ok hΓ (fun e he => ?_)) 60 _ _ _ _ _ hRS).1
    simp only [List.mem_cons, List.not_mem_nil, or_false] at he
    rcases he with rfl | rfl
    · unfold VEnt.Ok; simp only [ga]; exact e1
    · unfold VEnt.Ok; simp only [gb]; exact e2
  have C := andB_ok (hC g.length h2 h6)
  have x0 : (vx 0).den (rhoP g f) = g.getD 0 0 := vxg hg (by omega)
  have x6 : (vx 6).den (rhoP g f) = f.getD 0 0 := vxf (i := 0) hf (by omega)
  have x7 : (vx 7).den (rhoP g f) = f.getD 1 0 := vxf (i := 1) hf (by omega)
  have ne : ∀ {x : Sy} {n z : Int}, x.den (rhoP g f) = n → ¬ n = z → (neF x z).Ok (rhoP g f) := fun {x n z} e h => Fact.eq_no (by rw [e]; exact h)
  have eq : ∀ {x : Sy} {n z : Int}, x.den (rhoP g f) = n → n = z → (eqF x z).Ok (rhoP g f) := fun {x n z} e h => Fact.eq_yes (by rw [e]; exact h)
  have un : ∀ {x : Sy} {n : Int}, x.den (rhoP g f) = n → (n = 1 ∨ n = -1) → ∃ s, ∀ y, y ∈ unF x s → y.Ok (rhoP g f) := fun {x n} e h => by
    rcases h with h | h
    · exact ⟨true, fun y hy => by simp only [unF, List.mem_cons, List.not_mem_nil, or_false] at hy; subst hy; exact eq e h⟩
    · exact ⟨false, fun y hy => by
        simp only [unF, List.mem_cons, List.not_mem_nil, or_false] at hy
        rcases hy with rfl | rfl
        · exact ne e (by omega)
        · exact eq e h⟩
  by_cases va : validP 600 g
  case neg =>
    by_cases vb : validP 600 f
    · exact main [] false true false (by simp) (decide_eq_false va) (decide_eq_true vb) (C _ (by simp)) (decide_eq_false fun h => va h.1)
    · exact main [] false false false (by simp) (decide_eq_false va) (decide_eq_false vb) (C _ (by simp)) (decide_eq_false fun h => va h.1)
  by_cases u0 : g.getD 0 0 = 1 ∨ g.getD 0 0 = -1
  case neg =>
    have hn : ∀ x, x ∈ [neF (vx 0) 1, neF (vx 0) (-1)] → x.Ok (rhoP g f) := fun y hy => by
      simp only [List.mem_cons, List.not_mem_nil, or_false] at hy
      rcases hy with rfl | rfl
      · exact ne x0 (fun h => u0 (.inl h))
      · exact ne x0 (fun h => u0 (.inr h))
    by_cases vb : validP 600 f
    · exact main _ true true false hn (decide_eq_true va) (decide_eq_true vb) (C _ (by simp)) (decide_eq_false fun h => u0 h.2.2.2.2.1)
    · exact main _ true false false hn (decide_eq_true va) (decide_eq_false vb) (C _ (by simp)) (decide_eq_false fun h => vb h.2.1)
  obtain ⟨s, hs⟩ := un x0 u0
  by_cases vb : validP 600 f
  case neg => exact main _ true false false hs (decide_eq_true va) (decide_eq_false vb) (by cases s <;> exact C _ (by simp)) (decide_eq_false fun h => vb h.2.1)
  have c := andB_ok (show vpS k g.length s = true by cases s <;> exact C _ (by simp))
  by_cases z0 : f.getD 0 0 = 0
  case neg =>
    refine main _ true true false (fun y hy => ?_) (decide_eq_true va) (decide_eq_true vb) (c _ (List.mem_cons_self ..)) (decide_eq_false fun h => z0 h.2.2.2.2.2.1)
    rcases List.mem_cons.1 hy with rfl | hy
    · exact ne x6 z0
    · exact hs y hy
  by_cases u1 : f.getD 1 0 = 1 ∨ f.getD 1 0 = -1
  case neg =>
    refine main _ true true false (fun y hy => ?_) (decide_eq_true va) (decide_eq_true vb) (c _ (List.mem_cons_of_mem _ (List.mem_cons_self ..))) (decide_eq_false fun h => u1 h.2.2.2.2.2.2)
    rcases List.mem_cons.1 hy with rfl | hy
    · exact ne x7 (fun h => u1 (.inl h))
    rcases List.mem_cons.1 hy with rfl | hy
    · exact ne x7 (fun h => u1 (.inr h))
    rcases List.mem_cons.1 hy with rfl | hy
    · exact eq x6 z0
    · exact hs y hy
  obtain ⟨t, ht⟩ := un x7 u1
  have d : booIs true (vpR k g.length (unF (vx 7) t ++ (eqF (vx 6) 0 :: unF (vx 0) s)) true true) = true := by
    cases t
    · exact c _ (List.mem_cons_of_mem _ (List.mem_cons_of_mem _ (List.mem_cons_of_mem _ (List.mem_cons_self ..))))
    · exact c _ (List.mem_cons_of_mem _ (List.mem_cons_of_mem _ (List.mem_cons_self ..)))
  refine main _ true true true (fun y hy => ?_) (decide_eq_true va) (decide_eq_true vb) d (decide_eq_true ⟨va, vb, hl, h2, u0, z0, u1⟩)
  rcases List.mem_append.1 hy with hy | hy
  · exact ht y hy
  rcases List.mem_cons.1 hy with rfl | hy
  · exact eq x6 z0
  · exact hs y hy

theorem isL_consts {S : Sto Sy} {q : Nat} {zs : List Int} {v : V Sy} (h : IsL S.obs q zs v) : constsOf S v = some zs := by
  obtain ⟨c2, hv, hc2⟩ := h.val
  have hle : S.elems v = some (ints (nums zs)) := by
    subst hv
    simp only [Sto.elems, Sto.cells, lookC_ints h.obj]
    simp [List.take_of_length_le]
  have hcc : capOk v = true := by
    rw [hv]; rcases hc2 with rfl | rfl <;> simp [capOk]
  simp only [constsOf, hle, numsOf_nums, hcc, bite_true, consts_of]
/-! ## Lists of any length -/
theorem bxP (S : Sto Sy) (g f : List Int) : abox S 25 (.agg [patL g, patL f]) = some (.ptr S.next 0, S.new [patL g, patL f]) := by
  cases g <;> cases f <;> rfl
theorem consts_pat (S : Sto Sy) (zs : List Int) : constsOf S (patL zs) = some zs := by
  cases zs with
  | nil => rfl
  | cons z r => simp only [constsOf, patL, Sto.elems, numsOf_nums, capOk, bite_true, consts_of]
theorem alen_patL (zs : List Int) : alen (symNum []) (tiOf Try.prog) 23 (patL zs) = some (.int .i64 (.c zs.length)) := by
  cases zs with
  | nil => simp [alen, patL, tiS, symNum]
  | cons z r => simp [alen, patL, tiS, symNum]
noncomputable def KT : Ctr := vsK 51
theorem KT_ok (ρ : Nat → Int) (s : Sms) (B : Nat) : COk Try.prog ⟨Sy.den ρ, s⟩ B KT := vsK_ok (by decide) (body_of Try.func51 rfl) _ _ _
section
attribute [local simp] aops wants aop apure St.eval setTm_some setTm_none Tr.get_set evals pevals apureB tiS tiI tiB abin aint isCmp sym_lt sym_eqs sym_neqs sym_eq sym_neq sym_gtr sym_leq sym_geq sym_add sym_sub sym_mul aeff aeffB idx? ofV aindexAddr aggDesc aifc_int aun fldP0 fldP1
set_option maxRecDepth 10000 in
theorem two_run (g f : List Int) (hlg : g.length ≤ 1048576) (hlf : f.length ≤ 1048576) (hg : Nm g) (hf : Nm f) : ∃ r, symRun Try.prog KT [] 22 49 [patL g, patL f] ⟨0, [], 0⟩ = some r ∧ r.1 = .bool (decide (validP 600 g ∧ validP 600 f ∧ g.length = f.length)) := by
  refine own_run2 (n := 21) (by rfl) Try.func49 rfl rfl ?_
  simp only [Try.f49]
  have c1 := boolC (K := KT) (S := ⟨0, [], 0⟩) (Nat.le_refl _) (fun _ _ => rfl) (dV_eq (consts_pat _ g) hlg hg) 21 (by omega)
  have c2 := boolC (K := KT) (S := ⟨0, [], 0⟩) (Nat.le_refl _) (fun _ _ => rfl) (dV_eq (consts_pat _ f) hlf hf) 21 (by omega)
  have a1 := alen_patL g
  have a2 := alen_patL f
  generalize patL g = x at *
  generalize patL f = y at *
  by_cases v1 : validP 600 g
  case neg =>
    have e : decide (validP 600 g ∧ validP 600 f ∧ g.length = f.length) = false := decide_eq_false (fun h => v1 h.1)
    rw [e]
    rw [decide_eq_false v1] at c1
    repeat' (first | refine Wp.seq ?_ | refine Wp.block ?_ | (apply Wp.region; focus ((try simp [setArgs, c1, c2, a1, a2]) <;> rfl)) | (refine Wp.cond_t ?_ ?_; focus (simp [setArgs, c1, c2, a1, a2]; done)) | (refine Wp.cond_f ?_ ?_; focus (simp [setArgs, c1, c2, a1, a2]; done)) | refine Wp.skip ?_ | refine Wp.ret ?_ | refine Wp.exit ?_ | refine Blk.here ?_ | (refine Blk.past ?_ ?_; focus (simp; done)))
    exact ⟨rfl, answer_trim1 (v := .bool false) (by simp) rfl⟩
  rw [decide_eq_true v1] at c1
  by_cases v2 : validP 600 f
  case neg =>
    have e : decide (validP 600 g ∧ validP 600 f ∧ g.length = f.length) = false := decide_eq_false (fun h => v2 h.2.1)
    rw [e]
    rw [decide_eq_false v2] at c2
    repeat' (first | refine Wp.seq ?_ | refine Wp.block ?_ | (apply Wp.region; focus ((try simp [setArgs, c1, c2, a1, a2]) <;> rfl)) | (refine Wp.cond_t ?_ ?_; focus (simp [setArgs, c1, c2, a1, a2]; done)) | (refine Wp.cond_f ?_ ?_; focus (simp [setArgs, c1, c2, a1, a2]; done)) | refine Wp.skip ?_ | refine Wp.ret ?_ | refine Wp.exit ?_ | refine Blk.here ?_ | (refine Blk.past ?_ ?_; focus (simp; done)))
    exact ⟨rfl, answer_trim1 (v := .bool false) (by simp) rfl⟩
  rw [decide_eq_true v2] at c2
  by_cases hl : g.length = f.length
  · have hl1 : ((g.length : Int) == f.length) = true := by simp [hl]
    have e : decide (validP 600 g ∧ validP 600 f ∧ g.length = f.length) = true := decide_eq_true ⟨v1, v2, hl⟩
    rw [e]
    repeat' (first | refine Wp.seq ?_ | refine Wp.block ?_ | (apply Wp.region; focus ((try simp [setArgs, c1, c2, a1, a2, hl1]) <;> rfl)) | (refine Wp.cond_t ?_ ?_; focus (simp [setArgs, c1, c2, a1, a2, hl1]; done)) | (refine Wp.cond_f ?_ ?_; focus (simp [setArgs, c1, c2, a1, a2, hl1]; done)) | refine Wp.skip ?_ | refine Wp.ret ?_ | refine Wp.exit ?_ | refine Blk.here ?_ | (refine Blk.past ?_ ?_; focus (simp; done)))
    exact ⟨rfl, answer_trim1 (v := .bool true) (by simp [hl]) rfl⟩
  · have hl1 : ((g.length : Int) == f.length) = false := by simpa using (show ¬ (g.length : Int) = f.length by omega)
    have e : decide (validP 600 g ∧ validP 600 f ∧ g.length = f.length) = false := decide_eq_false (fun h => hl h.2.2)
    rw [e]
    repeat' (first | refine Wp.seq ?_ | refine Wp.block ?_ | (apply Wp.region; focus ((try simp [setArgs, c1, c2, a1, a2, hl1]) <;> rfl)) | (refine Wp.cond_t ?_ ?_; focus (simp [setArgs, c1, c2, a1, a2, hl1]; done)) | (refine Wp.cond_f ?_ ?_; focus (simp [setArgs, c1, c2, a1, a2, hl1]; done)) | refine Wp.skip ?_ | refine Wp.ret ?_ | refine Wp.exit ?_ | refine Blk.here ?_ | (refine Blk.past ?_ ?_; focus (simp; done)))
    exact ⟨rfl, answer_trim1 (v := .bool false) (by simp [hl]) rfl⟩
end
open Classical in
noncomputable def d2L : List (V Sy) → Sto Sy → Option (List Int × List Int)
  | [x, y], sto => match constsOf sto x, constsOf sto y with
    | some a, some b => if (a.length ≤ 1048576 ∧ Nm a) ∧ b.length ≤ 1048576 ∧ Nm b then some (a, b) else none
    | _, _ => none
  | _, _ => none
theorem d2L_eq {sto : Sto Sy} {x y : V Sy} {a b : List Int} (ha : constsOf sto x = some a) (hb : constsOf sto y = some b) (h : (a.length ≤ 1048576 ∧ Nm a) ∧ b.length ≤ 1048576 ∧ Nm b) : d2L [x, y] sto = some (a, b) := by
  simp only [d2L, ha, hb]
  rw [if_pos h]
noncomputable def twK : Ctr := telK 49 d2L (fun p _ => .bool (decide (validP 600 p.1 ∧ validP 600 p.2 ∧ p.1.length = p.2.length))) (fun _ _ => [])
/-- What a run by hand tells. -/
theorem tells_run {k : FuncId} {K : Ctr} {n : Nat} {pats : List (V Sy)} {b : Bool} (hK : ∀ (ρ : Nat → Int) (s : Sms) (B : Nat), COk Try.prog ⟨Sy.den ρ, s⟩ B K) (h : ∃ r, symRun Try.prog K [] n k pats ⟨0, [], 0⟩ = some r ∧ r.1 = .bool b) : Tells Try.prog k pats (fun _ => .bool b) (fun _ => []) := by
  obtain ⟨⟨v, S⟩, hr, hv⟩ := h
  simp only at hv
  subst hv
  exact ⟨fun _ => 0, pats, _, S, [], fun _ => 0, fun s B' => run_goodK noCount mixed hK _ hr B', List.nodup_nil, fun n ρ => ⟨rfl, fun j o b hj => by simp at hj, .bool _⟩, fun s B c vs h => h⟩
theorem twK_ok (ρ : Nat → Int) (s : Sms) (B : Nat) : COk Try.prog ⟨Sy.den ρ, s⟩ B twK := by
  refine telK_ok (body_of Try.func49 rfl) (fun args sto p h => ?_)
  unfold d2L at h
  split at h
  case h_2 => cases h
  rename_i x y
  split at h
  case h_2 => cases h
  rename_i a b ha hb
  split at h
  case isFalse => cases h
  rename_i hp
  cases h
  refine ⟨_, tells_run KT_ok (two_run a b hp.1.1 hp.2.1 hp.1.2 hp.2.2), fun ρ s B c hinv vs hvs ρ' => ?_⟩
  obtain ⟨v, w, rfl, hv, hw⟩ := hvs.two
  exact .cons (patL_rel ha hp.1.1 hinv hv) (.cons (patL_rel hb hp.2.1 hinv hw) .nil)
open Classical in
noncomputable def dBw : List (V Sy) → Sto Sy → Option (List Int × List Int)
  | [x, y], sto => match constsOf sto x, constsOf sto y with
    | some a, some b => if (a.length ≤ 1048576 ∧ Nm a ∧ ¬ validP 600 a) ∧ b.length ≤ 1048576 then some (a, b) else none
    | _, _ => none
  | _, _ => none
theorem dBw_eq {sto : Sto Sy} {x y : V Sy} {a b : List Int} (ha : constsOf sto x = some a) (hb : constsOf sto y = some b) (h : (a.length ≤ 1048576 ∧ Nm a ∧ ¬ validP 600 a) ∧ b.length ≤ 1048576) : dBw [x, y] sto = some (a, b) := by
  simp only [dBw, ha, hb]
  rw [if_pos h]
noncomputable def bwK : Ctr := telK 30 dBw (fun _ _ => .bool false) (fun _ _ => [])
noncomputable def KI : Ctr := vsK 56
theorem KI_ok (ρ : Nat → Int) (s : Sms) (B : Nat) : COk Try.prog ⟨Sy.den ρ, s⟩ B KI := vsK_ok (by decide) (body_of Try.func56 rfl) _ _ _
section
attribute [local simp] aops wants aop apure St.eval setTm_some setTm_none Tr.get_set evals pevals apureB tiS tiI tiB abin aint isCmp sym_lt sym_eqs sym_neqs sym_eq sym_neq sym_gtr sym_leq sym_geq sym_add sym_sub sym_mul aeff aeffB idx? ofV aindexAddr aggDesc aifc_int aun fldP0 fldP1
set_option maxRecDepth 10000 in
theorem bw_run (g f : List Int) (hlg : g.length ≤ 1048576) (hg : Nm g) (hv : ¬ validP 600 g) : ∃ r, symRun Try.prog KI [] 22 30 [patL g, patL f] ⟨0, [], 0⟩ = some r ∧ r.1 = .bool false := by
  refine own_run2 (n := 21) (by rfl) Try.func30 rfl rfl ?_
  simp only [Try.f30]
  have c1 := boolC (K := KI) (S := ⟨0, [], 0⟩) (Nat.le_refl _) (fun _ _ => rfl) (dV_eq (consts_pat _ g) hlg hg) 21 (by omega)
  rw [decide_eq_false hv] at c1
  generalize patL g = x at *
  generalize patL f = y at *
  repeat' (first | refine Wp.seq ?_ | refine Wp.block ?_ | (apply Wp.region; focus ((try simp [setArgs, c1]) <;> rfl)) | (refine Wp.cond_t ?_ ?_; focus (simp [setArgs, c1]; done)) | (refine Wp.cond_f ?_ ?_; focus (simp [setArgs, c1]; done)) | refine Wp.skip ?_ | refine Wp.ret ?_ | refine Wp.exit ?_ | refine Blk.here ?_ | (refine Blk.past ?_ ?_; focus (simp; done)))
  exact ⟨rfl, answer_trim1 (v := .bool false) (by simp) rfl⟩
end
theorem bwK_ok (ρ : Nat → Int) (s : Sms) (B : Nat) : COk Try.prog ⟨Sy.den ρ, s⟩ B bwK := by
  refine telK_ok (body_of Try.func30 rfl) (fun args sto p h => ?_)
  unfold dBw at h
  split at h
  case h_2 => cases h
  rename_i x y
  split at h
  case h_2 => cases h
  rename_i a b ha hb
  split at h
  case isFalse => cases h
  rename_i hp
  cases h
  refine ⟨_, tells_run KI_ok (bw_run a b hp.1.1 hp.1.2.1 hp.1.2.2), fun ρ s B c hinv vs hvs ρ' => ?_⟩
  obtain ⟨v, w, rfl, hv, hw⟩ := hvs.two
  exact .cons (patL_rel ha hp.1.1 hinv hv) (.cons (patL_rel hb hp.2 hinv hw) .nil)

/-! ## Pairs of any lists -/
section
variable {I : Type} {N : Num I} {T : TypeId → Option Ti} {C : FuncId → List (V I) → Sto I → Option (V I × Sto I)} {nt : Nat}
theorem aops_cutE {all : List Oper} {F Q : St I → Prop} : ∀ (q : Nat) (l : List Oper) (st : St I), (∃ mid, aops N T C nt all (l.take q) st = some mid ∧ F mid) → (∀ mid, F mid → ∃ st', aops N T C nt all (l.drop q) mid = some st' ∧ Q st') → ∃ st', aops N T C nt all l st = some st' ∧ Q st'
  | 0, l, st, h1, h2 => by
    obtain ⟨mid, h, hf⟩ := h1
    simp only [List.take_zero, aops] at h
    cases h
    exact h2 _ hf
  | q + 1, [], st, h1, h2 => by
    obtain ⟨mid, h, hf⟩ := h1
    simp only [List.take_nil, aops] at h
    cases h
    exact h2 _ hf
  | q + 1, o :: r, st, h1, h2 => by
    obtain ⟨mid, h, hf⟩ := h1
    simp only [List.take_succ_cons, aops] at h
    simp only [aops]
    cases hw : wants all st o with
    | none => rw [hw] at h; cases h
    | some w =>
      rw [hw] at h
      cases w with
      | true =>
        simp only at h ⊢
        cases ha : aop N T C st o with
        | none => rw [ha] at h; cases h
        | some vs =>
          rw [ha] at h
          simp only at h ⊢
          exact aops_cutE q r _ ⟨mid, h, hf⟩ h2
      | false =>
        simp only at h ⊢
        exact aops_cutE q r _ ⟨mid, h, hf⟩ h2
variable {D : List Oper → St I → Option (St I)} {L : Code → St I → Option (AExit × St I)} {Qn : St I → Prop} {Qx : AExit → St I → Prop}
theorem _root_.Go.Sx.Wp.regionG {id : Nat} {ops : Array Oper} {st : St I} {G : St I → Prop} (h : ∃ st', aops N T C nt ops.toList ops.toList st = some st' ∧ G st') (hn : ∀ st', G st' → Qn st') : Wp N T C nt D L (.region id ops false) st Qn Qx := by
  obtain ⟨st', h1, h2⟩ := h
  exact Wp.region h1 (hn _ h2)
end
theorem lit2 (sto : Sto Sy) : abuildSlice (symNum []) (tiOf Try.prog) sto 23 2 [(0, .int .i64 (.c 1)), (1, .int .i64 (.c (-1)))] = some (.rsl sto.next 0 2 (some 2), sto.new (ints (nums [1, -1]))) := by kernel_rfl
section
attribute [local simp] aops wants aop apure St.eval setTm_some setTm_none Tr.get_set evals pevals apureB tiS tiI tiB abin aint isCmp sym_lt sym_eqs sym_neqs sym_eq sym_neq sym_gtr sym_leq sym_geq sym_add sym_sub sym_mul aeff aeffB idx? ofV aindexAddr aggDesc aifc_int aun fldP0 fldP1
set_option maxRecDepth 10000 in
theorem vpS_run (g f : List Int) (hlg : g.length ≤ 1048576) (hlf : f.length ≤ 1048576) (hg : Nm g) (hf : Nm f) (h : ¬ (validP 600 g ∧ validP 600 f ∧ g.length = f.length) ∨ ¬ 1 < g.length) : ∃ r, symRun Try.prog twK [] 22 22 [.agg [patL g, patL f]] ⟨0, [], 0⟩ = some r ∧ r.1 = .bool false := by
  refine own_run2 (n := 21) (by rfl) Try.func22 rfl rfl ?_
  simp only [Try.f22]
  have bx := bxP ⟨0, [], 0⟩ g f
  have k0 := lookN ⟨0, [], 0⟩ (patL g) (patL f)
  have hm : isMp [patL g, patL f] = false := by cases g <;> cases f <;> rfl
  have l0 := loadS (i := 0) k0 rfl hm
  have l1 := loadS (i := 1) k0 rfl hm
  have c1 := boolC (K := twK) (S := (⟨0, [], 0⟩ : Sto Sy).new [patL g, patL f]) (Nat.zero_le _) (fun _ _ => rfl) (d2L_eq (consts_pat _ g) (consts_pat _ f) ⟨⟨hlg, hg⟩, hlf, hf⟩) 21 (by omega)
  have a1 := alen_patL g
  generalize (⟨0, [], 0⟩ : Sto Sy).new [patL g, patL f] = S1 at *
  generalize patL g = x at *
  generalize patL f = y at *
  by_cases ht : validP 600 g ∧ validP 600 f ∧ g.length = f.length
  · have hn : ¬ (1 : Int) < g.length := by
      rcases h with h | h
      · exact (h ht).elim
      · omega
    rw [decide_eq_true ht] at c1
    refine Wp.seq ?_
    refine Wp.region (by simp [setArgs, bx]; rfl) ?_
    refine Wp.seq ?_
    refine Wp.regionG (G := fun st : St Sy => st.tm.get .any 2 = .bool false) (aops_cutE (F := fun st : St Sy => st.tm.get .any 14 = .bool false) 12 _ _ ⟨_, by simp [setArgs, l0, l1, c1, a1, hn]; rfl, by simp⟩ (fun st1 f1 => aops_cutE (F := fun st : St Sy => st.tm.get .any 21 = .bool false) 7 _ _ ?p2 (fun st2 f2 => aops_cutE (F := fun st : St Sy => st.tm.get .any 28 = .bool false) 7 _ _ ?p3 (fun st3 f3 => ?p4)))) (fun st4 f4 => ?p5)
    case p2 => exact ⟨_, by simp [f1]; rfl, by simp⟩
    case p3 => exact ⟨_, by simp [f2]; rfl, by simp⟩
    case p4 => exact ⟨_, by simp [f3]; rfl, by simp⟩
    case p5 =>
      repeat' (first | refine Wp.seq ?_ | refine Wp.block ?_ | (apply Wp.region; focus ((try simp []) <;> rfl)) | (refine Wp.cond_t ?_ ?_; focus (simp []; done)) | (refine Wp.cond_f ?_ ?_; focus (simp []; done)) | refine Wp.skip ?_ | refine Wp.ret ?_ | refine Wp.exit ?_ | refine Blk.here ?_ | (refine Blk.past ?_ ?_; focus (simp; done)))
      exact ⟨rfl, answer_trim1 (v := .bool false) f4 rfl⟩
  · rw [decide_eq_false ht] at c1
    refine Wp.seq ?_
    refine Wp.region (by simp [setArgs, bx]; rfl) ?_
    refine Wp.seq ?_
    refine Wp.regionG (G := fun st : St Sy => st.tm.get .any 2 = .bool false) (aops_cutE (F := fun st : St Sy => st.tm.get .any 14 = .bool false) 12 _ _ ⟨_, by simp [setArgs, l0, l1, c1, a1]; rfl, by simp⟩ (fun st1 f1 => aops_cutE (F := fun st : St Sy => st.tm.get .any 21 = .bool false) 7 _ _ ?q2 (fun st2 f2 => aops_cutE (F := fun st : St Sy => st.tm.get .any 28 = .bool false) 7 _ _ ?q3 (fun st3 f3 => ?q4)))) (fun st4 f4 => ?q5)
    case q2 => exact ⟨_, by simp [f1]; rfl, by simp⟩
    case q3 => exact ⟨_, by simp [f2]; rfl, by simp⟩
    case q4 => exact ⟨_, by simp [f3]; rfl, by simp⟩
    case q5 =>
      repeat' (first | refine Wp.seq ?_ | refine Wp.block ?_ | (apply Wp.region; focus ((try simp []) <;> rfl)) | (refine Wp.cond_t ?_ ?_; focus (simp []; done)) | (refine Wp.cond_f ?_ ?_; focus (simp []; done)) | refine Wp.skip ?_ | refine Wp.ret ?_ | refine Wp.exit ?_ | refine Blk.here ?_ | (refine Blk.past ?_ ?_; focus (simp; done)))
      exact ⟨rfl, answer_trim1 (v := .bool false) f4 rfl⟩
set_option maxRecDepth 10000 in
theorem vpI_run (g f : List Int) (hlg : g.length ≤ 1048576) (hg : Nm g) (h : ¬ g.length = f.length ∨ ¬ 2 ≤ g.length ∨ ¬ validP 600 g) : ∃ r, symRun Try.prog bwK [] 22 13 [.agg [patL g, patL f]] ⟨0, [], 0⟩ = some r ∧ r.1 = .bool false := by
  refine own_run2 (n := 21) (by rfl) Try.func13 rfl rfl ?_
  simp only [Try.f13]
  have bx := bxP ⟨0, [], 0⟩ g f
  have k0 := lookN ⟨0, [], 0⟩ (patL g) (patL f)
  have hm : isMp [patL g, patL f] = false := by cases g <;> cases f <;> rfl
  have l0 := loadS (i := 0) k0 rfl hm
  have l1 := loadS (i := 1) k0 rfl hm
  have a1 := alen_patL g
  have a2 := alen_patL f
  have hlt := lit2 ((⟨0, [], 0⟩ : Sto Sy).new [patL g, patL f])
  have c1 : ¬ validP 600 g → acallV (symIn Try.prog bwK [] 21) (((⟨0, [], 0⟩ : Sto Sy).new [patL g, patL f]).new (ints (nums [1, -1]))) (.func 30 [] []) [patL g, .rsl ((⟨0, [], 0⟩ : Sto Sy).new [patL g, patL f]).next 0 2 (some 2)] = some (.bool false, ((⟨0, [], 0⟩ : Sto Sy).new [patL g, patL f]).new (ints (nums [1, -1]))) := fun hv =>
    boolC (K := bwK) (Q := fun _ => false) (S := ((⟨0, [], 0⟩ : Sto Sy).new [patL g, patL f]).new (ints (nums [1, -1]))) (Nat.zero_le _) (fun _ _ => rfl) (dBw_eq (consts_pat _ g) (b := [1, -1]) (isL_consts (q := ((⟨0, [], 0⟩ : Sto Sy).new [patL g, patL f]).next) ⟨⟨some 2, rfl, .inr rfl⟩, look_new _ _⟩) ⟨⟨hlg, hg, hv⟩, by simp⟩) 21 (by omega)
  generalize (⟨0, [], 0⟩ : Sto Sy).new [patL g, patL f] = S1 at *
  generalize patL g = x at *
  generalize patL f = y at *
  by_cases hl : g.length = f.length
  case neg =>
    have hl1 : ((g.length : Int) == f.length) = false := by simpa using (show ¬ (g.length : Int) = f.length by omega)
    refine Wp.seq ?_
    refine Wp.region (by simp [setArgs, bx]; rfl) ?_
    refine Wp.seq ?_
    refine Wp.regionG (G := fun st : St Sy => st.tm.get .any 2 = .bool false) (aops_cutE (F := fun st : St Sy => st.tm.get .any 22 = .bool false) 20 _ _ ?ua (fun st2 f2 => aops_cutE (F := fun st : St Sy => st.tm.get .any 28 = .bool false) 6 _ _ ?ub (fun st3 f3 => ?uc))) (fun st4 f4 => ?ud)
    case ua => exact aops_cutE (F := fun st : St Sy => st.tm.get .any 10 = .bool false) 8 _ _ ⟨_, by simp [setArgs, l0, l1, a1, a2, hl1]; rfl, by simp⟩ (fun st0 f0 => aops_cutE (F := fun st : St Sy => st.tm.get .any 16 = .bool false) 6 _ _ ⟨_, by simp [f0]; rfl, by simp⟩ (fun st1 f1 => ⟨_, by simp [f1]; rfl, by simp⟩))
    case ub => exact ⟨_, by simp [f2]; rfl, by simp⟩
    case uc => exact ⟨_, by simp [f3]; rfl, by simp⟩
    case ud =>
      repeat' (first | refine Wp.seq ?_ | refine Wp.block ?_ | (apply Wp.region; focus ((try simp []) <;> rfl)) | (refine Wp.cond_t ?_ ?_; focus (simp []; done)) | (refine Wp.cond_f ?_ ?_; focus (simp []; done)) | refine Wp.skip ?_ | refine Wp.ret ?_ | refine Wp.exit ?_ | refine Blk.here ?_ | (refine Blk.past ?_ ?_; focus (simp; done)))
      exact ⟨rfl, answer_trim1 (v := .bool false) f4 rfl⟩
  have hl1 : ((g.length : Int) == f.length) = true := by simp [hl]
  by_cases h2 : (2 : Int) ≤ g.length
  case neg =>
    have h2a : (g.length : Int) < 2 := by omega
    refine Wp.seq ?_
    refine Wp.region (by simp [setArgs, bx]; rfl) ?_
    refine Wp.seq ?_
    refine Wp.regionG (G := fun st : St Sy => st.tm.get .any 2 = .bool false) (aops_cutE (F := fun st : St Sy => st.tm.get .any 22 = .bool false) 20 _ _ ?va (fun st2 f2 => aops_cutE (F := fun st : St Sy => st.tm.get .any 28 = .bool false) 6 _ _ ?vb (fun st3 f3 => ?vc))) (fun st4 f4 => ?vd)
    case va => exact aops_cutE (F := fun st : St Sy => st.tm.get .any 16 = .bool false) 14 _ _ ⟨_, by simp [setArgs, l0, l1, a1, a2, hl1, h2, h2a]; rfl, by simp⟩ (fun st1 f1 => ⟨_, by simp [f1]; rfl, by simp⟩)
    case vb => exact ⟨_, by simp [f2]; rfl, by simp⟩
    case vc => exact ⟨_, by simp [f3]; rfl, by simp⟩
    case vd =>
      repeat' (first | refine Wp.seq ?_ | refine Wp.block ?_ | (apply Wp.region; focus ((try simp []) <;> rfl)) | (refine Wp.cond_t ?_ ?_; focus (simp []; done)) | (refine Wp.cond_f ?_ ?_; focus (simp []; done)) | refine Wp.skip ?_ | refine Wp.ret ?_ | refine Wp.exit ?_ | refine Blk.here ?_ | (refine Blk.past ?_ ?_; focus (simp; done)))
      exact ⟨rfl, answer_trim1 (v := .bool false) f4 rfl⟩
  case pos =>
    have h2a : ¬ (g.length : Int) < 2 := by omega
    have c1 := c1 (by
      rcases h with h | h | h
      · exact (h hl).elim
      · exact (h (by omega)).elim
      · exact h)
    refine Wp.seq ?_
    refine Wp.region (by simp [setArgs, bx]; rfl) ?_
    refine Wp.seq ?_
    refine Wp.regionG (G := fun st : St Sy => st.tm.get .any 2 = .bool false) (aops_cutE (F := fun st : St Sy => st.tm.get .any 22 = .bool false) 20 _ _ ?wa (fun st2 f2 => aops_cutE (F := fun st : St Sy => st.tm.get .any 28 = .bool false) 6 _ _ ?wb (fun st3 f3 => ?wc))) (fun st4 f4 => ?wd)
    case wa => exact aops_cutE (F := fun st : St Sy => st.tm.get .any 16 = .bool true ∧ st.tm.get .any 1 = .ptr (⟨0, [], 0⟩ : Sto Sy).next 0 ∧ st.sto = S1) 14 _ _ ⟨_, by simp [setArgs, l0, l1, a1, a2, hl1, h2, h2a]; rfl, by simp, by simp, rfl⟩ (fun st1 f1 => by
      obtain ⟨tm1, T1⟩ := st1
      obtain ⟨f1, f1b, rfl⟩ := f1
      simp only at f1 f1b
      exact ⟨_, by simp [f1, f1b, l0, hlt, c1]; rfl, by simp⟩)
    case wb => exact ⟨_, by simp [f2]; rfl, by simp⟩
    case wc => exact ⟨_, by simp [f3]; rfl, by simp⟩
    case wd =>
      repeat' (first | refine Wp.seq ?_ | refine Wp.block ?_ | (apply Wp.region; focus ((try simp []) <;> rfl)) | (refine Wp.cond_t ?_ ?_; focus (simp []; done)) | (refine Wp.cond_f ?_ ?_; focus (simp []; done)) | refine Wp.skip ?_ | refine Wp.ret ?_ | refine Wp.exit ?_ | refine Blk.here ?_ | (refine Blk.past ?_ ?_; focus (simp; done)))
      exact ⟨rfl, answer_trim1 (v := .bool false) f4 rfl⟩
end
theorem vpS_tells {g f : List Int} (hlg : g.length ≤ 1048576) (hlf : f.length ≤ 1048576) (hg : Nm g) (hf : Nm f) : Tells Try.prog 22 [.agg [patL g, patL f]] (fun _ => .bool (decide (PairV g f))) (fun _ => []) := by
  by_cases h : (validP 600 g ∧ validP 600 f ∧ g.length = f.length) ∧ 1 < g.length
  · exact vp_at (fun L h2 h6 => five (Q := fun L => vpC 22 L = true) vs_2 vs_3 vs_4 vs_5 vs_6 h2 h6) h.1.2.2.symm h.2 h.1.1.2.2 hg hf
  · have e : decide (PairV g f) = false := decide_eq_false (fun hp => h ⟨⟨hp.1, hp.2.1, hp.2.2.1.symm⟩, by have := hp.2.2.2.1; omega⟩)
    rw [e]
    refine tells_run twK_ok (vpS_run g f hlg hlf hg hf ?_)
    by_cases h1 : validP 600 g ∧ validP 600 f ∧ g.length = f.length
    · exact .inr (fun h2 => h ⟨h1, h2⟩)
    · exact .inl h1
theorem vpI_tells {g f : List Int} (hlg : g.length ≤ 1048576) (hg : Nm g) (hf : Nm f) : Tells Try.prog 13 [.agg [patL g, patL f]] (fun _ => .bool (decide (PairV g f))) (fun _ => []) := by
  by_cases h : g.length = f.length ∧ 2 ≤ g.length ∧ g.length ≤ 6
  · exact vp_at (fun L h2 h6 => five (Q := fun L => vpC 13 L = true) vi_2 vi_3 vi_4 vi_5 vi_6 h2 h6) h.1.symm h.2.1 h.2.2 hg hf
  · have e : decide (PairV g f) = false := decide_eq_false (fun hp => h ⟨hp.2.2.1.symm, hp.2.2.2.1, hp.1.2.2⟩)
    rw [e]
    refine tells_run bwK_ok (vpI_run g f hlg hg ?_)
    by_cases h1 : g.length = f.length
    · by_cases h2 : 2 ≤ g.length
      · exact .inr (.inr (fun hv => h ⟨h1, h2, hv.2.2⟩))
      · exact .inr (.inl h2)
    · exact .inl h1
open Classical in
noncomputable def dP : List (V Sy) → Sto Sy → Option (List Int × List Int)
  | [.agg [x, y]], sto => match constsOf sto x, constsOf sto y with
    | some a, some b => if (a.length ≤ 1048576 ∧ Nm a) ∧ b.length ≤ 1048576 ∧ Nm b then some (a, b) else none
    | _, _ => none
  | _, _ => none
theorem dP_eq {sto : Sto Sy} {x y : V Sy} {a b : List Int} (ha : constsOf sto x = some a) (hb : constsOf sto y = some b) (h : (a.length ≤ 1048576 ∧ Nm a) ∧ b.length ≤ 1048576 ∧ Nm b) : dP [.agg [x, y]] sto = some (a, b) := by
  simp only [dP, ha, hb]
  rw [if_pos h]
theorem dP_rel {args : List (V Sy)} {sto : Sto Sy} {p : List Int × List Int} (h : dP args sto = some p) : ((p.1.length ≤ 1048576 ∧ Nm p.1) ∧ p.2.length ≤ 1048576 ∧ Nm p.2) ∧ ∀ (ρ : Nat → Int) (s : Sms) (B : Nat) (c : Cx), SInv ⟨Sy.den ρ, s⟩ B c sto → ∀ vs, VRs ⟨Sy.den ρ, s⟩ B c args vs → ∀ ρ', VRs ⟨Sy.den ρ', s⟩ c.w.heap.size ⟨c.w, fun _ => none⟩ [.agg [patL p.1, patL p.2]] vs := by
  unfold dP at h
  split at h
  case h_2 => cases h
  rename_i x y
  split at h
  case h_2 => cases h
  rename_i a b ha hb
  split at h
  case isFalse => cases h
  rename_i hp
  cases h
  refine ⟨hp, fun ρ s B c hinv vs hvs ρ' => ?_⟩
  obtain ⟨v, rfl, hv⟩ := hvs.one
  obtain ⟨u, w, rfl, hu, hw⟩ := vr_agg2 hv
  exact .cons (VRs.agg (.cons (patL_rel ha hp.1.1 hinv hu) (.cons (patL_rel hb hp.2.1 hinv hw) .nil))) .nil
noncomputable def vpK (k : FuncId) : Ctr := telK k dP (fun p _ => .bool (decide (PairV p.1 p.2))) (fun _ _ => [])
theorem vpKI_ok (ρ : Nat → Int) (s : Sms) (B : Nat) : COk Try.prog ⟨Sy.den ρ, s⟩ B (vpK 13) :=
  telK_ok (body_of Try.func13 rfl) (fun args sto p h => ⟨_, vpI_tells (dP_rel h).1.1.1 (dP_rel h).1.1.2 (dP_rel h).1.2.2, (dP_rel h).2⟩)
theorem vpKS_ok (ρ : Nat → Int) (s : Sms) (B : Nat) : COk Try.prog ⟨Sy.den ρ, s⟩ B (vpK 22) :=
  telK_ok (body_of Try.func22 rfl) (fun args sto p h => ⟨_, vpS_tells (dP_rel h).1.1.1 (dP_rel h).1.2.1 (dP_rel h).1.1.2 (dP_rel h).1.2.2, (dP_rel h).2⟩)
end Go.Proofs.Ytnaegkpaiahpmaa.Iv

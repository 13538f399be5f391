import Derived.Test.YtobdnpnohaonkaaPr
import Derived.Test.YtobdnpnohaonkaaPrM
import Derived.Test.YtobdnpnohaonkaaPrI
namespace Go.Proofs.Ytobdnpnohaonkaa.Pr
open Go.ChangeShapes Go.WideShapes Go.ChangeAt Go.RowKit Go.Sx Go.Proofs.Ytobdnpnohaonkaa.Ids
set_option linter.unusedVariables false
set_option linter.unusedSimpArgs false

theorem five {Q : Nat → Prop} (h2 : Q 2) (h3 : Q 3) (h4 : Q 4) (h5 : Q 5) (h6 : Q 6) {L : Nat} (hl : 2 ≤ L) (hu : L ≤ 6) : Q L := by
  have h : L = 2 ∨ L = 3 ∨ L = 4 ∨ L = 5 ∨ L = 6 := by omega
  rcases h with rfl | rfl | rfl | rfl | rfl
  · exact h2
  · exact h3
  · exact h4
  · exact h5
  · exact h6
theorem sgn2 {Q : Int → Prop} (h1 : Q 1) (h2 : Q (-1)) {a : Int} (h : a = 1 ∨ a = -1) : Q a := by
  rcases h with rfl | rfl
  · exact h1
  · exact h2
theorem iA_all {L : Nat} (h1 : 2 ≤ L) (h6 : L ≤ 6) {a : Int} (ha : a = 1 ∨ a = -1) : iA L a = true :=
  five (Q := fun L => iA L a = true) (sgn2 (Q := fun a => iA 2 a = true) iA_2_p iA_2_m ha) (sgn2 (Q := fun a => iA 3 a = true) iA_3_p iA_3_m ha) (sgn2 (Q := fun a => iA 4 a = true) iA_4_p iA_4_m ha) (sgn2 (Q := fun a => iA 5 a = true) iA_5_p iA_5_m ha) (sgn2 (Q := fun a => iA 6 a = true) iA_6_p iA_6_m ha) h1 h6
theorem iB_all {L : Nat} (h1 : 2 ≤ L) (h6 : L ≤ 6) {a : Int} (ha : a = 1 ∨ a = -1) : iBs L a = true :=
  five (Q := fun L => iBs L a = true) (sgn2 (Q := fun a => iBs 2 a = true) iB_2_p iB_2_m ha) (sgn2 (Q := fun a => iBs 3 a = true) iB_3_p iB_3_m ha) (sgn2 (Q := fun a => iBs 4 a = true) iB_4_p iB_4_m ha) (sgn2 (Q := fun a => iBs 5 a = true) iB_5_p iB_5_m ha) (sgn2 (Q := fun a => iBs 6 a = true) iB_6_p iB_6_m ha) h1 h6
theorem iC_all {L : Nat} (h1 : 2 ≤ L) (h6 : L ≤ 6) {a : Int} (ha : a = 1 ∨ a = -1) : iC L a = true :=
  five (Q := fun L => iC L a = true) (sgn2 (Q := fun a => iC 2 a = true) iC_2_p iC_2_m ha) (sgn2 (Q := fun a => iC 3 a = true) iC_3_p iC_3_m ha) (sgn2 (Q := fun a => iC 4 a = true) iC_4_p iC_4_m ha) (sgn2 (Q := fun a => iC 5 a = true) iC_5_p iC_5_m ha) (sgn2 (Q := fun a => iC 6 a = true) iC_6_p iC_6_m ha) h1 h6
theorem iD_2_pp : ∀ j, j < 3 → iD 2 (1) (1) j = true
  | 0, _ => iD_2_pp_0
  | 1, _ => iD_2_pp_1
  | 2, _ => iD_2_pp_2
  | n + 3, h => by omega
theorem iD_2_pm : ∀ j, j < 3 → iD 2 (1) (-1) j = true
  | 0, _ => iD_2_pm_0
  | 1, _ => iD_2_pm_1
  | 2, _ => iD_2_pm_2
  | n + 3, h => by omega
theorem iD_2_mp : ∀ j, j < 3 → iD 2 (-1) (1) j = true
  | 0, _ => iD_2_mp_0
  | 1, _ => iD_2_mp_1
  | 2, _ => iD_2_mp_2
  | n + 3, h => by omega
theorem iD_2_mm : ∀ j, j < 3 → iD 2 (-1) (-1) j = true
  | 0, _ => iD_2_mm_0
  | 1, _ => iD_2_mm_1
  | 2, _ => iD_2_mm_2
  | n + 3, h => by omega
theorem iD_3_pp : ∀ j, j < 4 → iD 3 (1) (1) j = true
  | 0, _ => iD_3_pp_0
  | 1, _ => iD_3_pp_1
  | 2, _ => iD_3_pp_2
  | 3, _ => iD_3_pp_3
  | n + 4, h => by omega
theorem iD_3_pm : ∀ j, j < 4 → iD 3 (1) (-1) j = true
  | 0, _ => iD_3_pm_0
  | 1, _ => iD_3_pm_1
  | 2, _ => iD_3_pm_2
  | 3, _ => iD_3_pm_3
  | n + 4, h => by omega
theorem iD_3_mp : ∀ j, j < 4 → iD 3 (-1) (1) j = true
  | 0, _ => iD_3_mp_0
  | 1, _ => iD_3_mp_1
  | 2, _ => iD_3_mp_2
  | 3, _ => iD_3_mp_3
  | n + 4, h => by omega
theorem iD_3_mm : ∀ j, j < 4 → iD 3 (-1) (-1) j = true
  | 0, _ => iD_3_mm_0
  | 1, _ => iD_3_mm_1
  | 2, _ => iD_3_mm_2
  | 3, _ => iD_3_mm_3
  | n + 4, h => by omega
theorem iD_4_pp : ∀ j, j < 5 → iD 4 (1) (1) j = true
  | 0, _ => iD_4_pp_0
  | 1, _ => iD_4_pp_1
  | 2, _ => iD_4_pp_2
  | 3, _ => iD_4_pp_3
  | 4, _ => iD_4_pp_4
  | n + 5, h => by omega
theorem iD_4_pm : ∀ j, j < 5 → iD 4 (1) (-1) j = true
  | 0, _ => iD_4_pm_0
  | 1, _ => iD_4_pm_1
  | 2, _ => iD_4_pm_2
  | 3, _ => iD_4_pm_3
  | 4, _ => iD_4_pm_4
  | n + 5, h => by omega
theorem iD_4_mp : ∀ j, j < 5 → iD 4 (-1) (1) j = true
  | 0, _ => iD_4_mp_0
  | 1, _ => iD_4_mp_1
  | 2, _ => iD_4_mp_2
  | 3, _ => iD_4_mp_3
  | 4, _ => iD_4_mp_4
  | n + 5, h => by omega
theorem iD_4_mm : ∀ j, j < 5 → iD 4 (-1) (-1) j = true
  | 0, _ => iD_4_mm_0
  | 1, _ => iD_4_mm_1
  | 2, _ => iD_4_mm_2
  | 3, _ => iD_4_mm_3
  | 4, _ => iD_4_mm_4
  | n + 5, h => by omega
theorem iD_5_pp : ∀ j, j < 6 → iD 5 (1) (1) j = true
  | 0, _ => iD_5_pp_0
  | 1, _ => iD_5_pp_1
  | 2, _ => iD_5_pp_2
  | 3, _ => iD_5_pp_3
  | 4, _ => iD_5_pp_4
  | 5, _ => iD_5_pp_5
  | n + 6, h => by omega
theorem iD_5_pm : ∀ j, j < 6 → iD 5 (1) (-1) j = true
  | 0, _ => iD_5_pm_0
  | 1, _ => iD_5_pm_1
  | 2, _ => iD_5_pm_2
  | 3, _ => iD_5_pm_3
  | 4, _ => iD_5_pm_4
  | 5, _ => iD_5_pm_5
  | n + 6, h => by omega
theorem iD_5_mp : ∀ j, j < 6 → iD 5 (-1) (1) j = true
  | 0, _ => iD_5_mp_0
  | 1, _ => iD_5_mp_1
  | 2, _ => iD_5_mp_2
  | 3, _ => iD_5_mp_3
  | 4, _ => iD_5_mp_4
  | 5, _ => iD_5_mp_5
  | n + 6, h => by omega
theorem iD_5_mm : ∀ j, j < 6 → iD 5 (-1) (-1) j = true
  | 0, _ => iD_5_mm_0
  | 1, _ => iD_5_mm_1
  | 2, _ => iD_5_mm_2
  | 3, _ => iD_5_mm_3
  | 4, _ => iD_5_mm_4
  | 5, _ => iD_5_mm_5
  | n + 6, h => by omega
theorem iD_6_pp : ∀ j, j < 7 → iD 6 (1) (1) j = true
  | 0, _ => iD_6_pp_0
  | 1, _ => iD_6_pp_1
  | 2, _ => iD_6_pp_2
  | 3, _ => iD_6_pp_3
  | 4, _ => iD_6_pp_4
  | 5, _ => iD_6_pp_5
  | 6, _ => iD_6_pp_6
  | n + 7, h => by omega
theorem iD_6_pm : ∀ j, j < 7 → iD 6 (1) (-1) j = true
  | 0, _ => iD_6_pm_0
  | 1, _ => iD_6_pm_1
  | 2, _ => iD_6_pm_2
  | 3, _ => iD_6_pm_3
  | 4, _ => iD_6_pm_4
  | 5, _ => iD_6_pm_5
  | 6, _ => iD_6_pm_6
  | n + 7, h => by omega
theorem iD_6_mp : ∀ j, j < 7 → iD 6 (-1) (1) j = true
  | 0, _ => iD_6_mp_0
  | 1, _ => iD_6_mp_1
  | 2, _ => iD_6_mp_2
  | 3, _ => iD_6_mp_3
  | 4, _ => iD_6_mp_4
  | 5, _ => iD_6_mp_5
  | 6, _ => iD_6_mp_6
  | n + 7, h => by omega
theorem iD_6_mm : ∀ j, j < 7 → iD 6 (-1) (-1) j = true
  | 0, _ => iD_6_mm_0
  | 1, _ => iD_6_mm_1
  | 2, _ => iD_6_mm_2
  | 3, _ => iD_6_mm_3
  | 4, _ => iD_6_mm_4
  | 5, _ => iD_6_mm_5
  | 6, _ => iD_6_mm_6
  | n + 7, h => by omega
theorem iD_all {L : Nat} (h1 : 2 ≤ L) (h6 : L ≤ 6) {a : Int} (ha : a = 1 ∨ a = -1) {b : Int} (hb : b = 1 ∨ b = -1) : ∀ j, j < L + 1 → iD L a b j = true :=
  five (Q := fun L => ∀ j, j < L + 1 → iD L a b j = true) (sgn2 (Q := fun a => ∀ j, j < 2 + 1 → iD 2 a b j = true) (sgn2 (Q := fun b => ∀ j, j < 2 + 1 → iD 2 1 b j = true) iD_2_pp iD_2_pm hb) (sgn2 (Q := fun b => ∀ j, j < 2 + 1 → iD 2 (-1) b j = true) iD_2_mp iD_2_mm hb) ha) (sgn2 (Q := fun a => ∀ j, j < 3 + 1 → iD 3 a b j = true) (sgn2 (Q := fun b => ∀ j, j < 3 + 1 → iD 3 1 b j = true) iD_3_pp iD_3_pm hb) (sgn2 (Q := fun b => ∀ j, j < 3 + 1 → iD 3 (-1) b j = true) iD_3_mp iD_3_mm hb) ha) (sgn2 (Q := fun a => ∀ j, j < 4 + 1 → iD 4 a b j = true) (sgn2 (Q := fun b => ∀ j, j < 4 + 1 → iD 4 1 b j = true) iD_4_pp iD_4_pm hb) (sgn2 (Q := fun b => ∀ j, j < 4 + 1 → iD 4 (-1) b j = true) iD_4_mp iD_4_mm hb) ha) (sgn2 (Q := fun a => ∀ j, j < 5 + 1 → iD 5 a b j = true) (sgn2 (Q := fun b => ∀ j, j < 5 + 1 → iD 5 1 b j = true) iD_5_pp iD_5_pm hb) (sgn2 (Q := fun b => ∀ j, j < 5 + 1 → iD 5 (-1) b j = true) iD_5_mp iD_5_mm hb) ha) (sgn2 (Q := fun a => ∀ j, j < 6 + 1 → iD 6 a b j = true) (sgn2 (Q := fun b => ∀ j, j < 6 + 1 → iD 6 1 b j = true) iD_6_pp iD_6_pm hb) (sgn2 (Q := fun b => ∀ j, j < 6 + 1 → iD 6 (-1) b j = true) iD_6_mp iD_6_mm hb) ha) h1 h6
theorem iZ_all {L : Nat} (h1 : 2 ≤ L) (h6 : L ≤ 6) (q : Bool) : iZ L q = true :=
  five (Q := fun L => iZ L q = true) (match q with | false => iZ_2_false | true => iZ_2_true) (match q with | false => iZ_3_false | true => iZ_3_true) (match q with | false => iZ_4_false | true => iZ_4_true) (match q with | false => iZ_5_false | true => iZ_5_true) (match q with | false => iZ_6_false | true => iZ_6_true) h1 h6
theorem conv_all {L : Nat} (h1 : 2 ≤ L) (h6 : L ≤ 6) : (convOk L 1 0 0 = true ∧ convOk L (-1) 0 0 = true) ∧ (convOk L 1 1 0 = true ∧ convOk L (-1) 1 0 = true) ∧ (convOk L 1 2 1 = true ∧ convOk L 1 2 (-1) = true) ∧ convOk L (-1) 2 1 = true ∧ convOk L (-1) 2 (-1) = true := by
  have h := allTo_ok convOk_ok (L - 2) (by omega)
  rw [show L - 2 + 2 = L by omega] at h
  simp only [bite_eq] at h
  split at h
  case isFalse => cases h
  rename_i a1
  split at h
  case isFalse => cases h
  rename_i a2
  split at h
  case isFalse => cases h
  rename_i a3
  split at h
  case isFalse => cases h
  rename_i a4
  split at h
  case isFalse => cases h
  rename_i a5
  split at h
  case isFalse => cases h
  rename_i a6
  split at h
  case isFalse => cases h
  rename_i a7
  exact ⟨⟨a1, a2⟩, ⟨a3, a4⟩, ⟨a5, a6⟩, a7, h⟩
theorem conv0 {L : Nat} (h1 : 2 ≤ L) (h6 : L ≤ 6) {a : Int} (ha : a = 1 ∨ a = -1) : convOk L a 0 0 = true := sgn2 (Q := fun a => convOk L a 0 0 = true) (conv_all h1 h6).1.1 (conv_all h1 h6).1.2 ha
theorem conv1 {L : Nat} (h1 : 2 ≤ L) (h6 : L ≤ 6) {a : Int} (ha : a = 1 ∨ a = -1) : convOk L a 1 0 = true := sgn2 (Q := fun a => convOk L a 1 0 = true) (conv_all h1 h6).2.1.1 (conv_all h1 h6).2.1.2 ha
theorem conv2 {L : Nat} (h1 : 2 ≤ L) (h6 : L ≤ 6) {a : Int} (ha : a = 1 ∨ a = -1) {b : Int} (hb : b = 1 ∨ b = -1) : convOk L a 2 b = true :=
  sgn2 (Q := fun a => convOk L a 2 b = true) (sgn2 (Q := fun b => convOk L 1 2 b = true) (conv_all h1 h6).2.2.1.1 (conv_all h1 h6).2.2.1.2 hb) (sgn2 (Q := fun b => convOk L (-1) 2 b = true) (conv_all h1 h6).2.2.2.1 (conv_all h1 h6).2.2.2.2 hb) ha

def PairP (zss : List (List Int)) : Prop := 2 ≤ zss.length ∧ zss.length ≤ 6 ∧ (∀ r, r ∈ zss → r.length = zss.length) ∧ ((col zss 0).getD 0 0 = 1 ∨ (col zss 0).getD 0 0 = -1) ∧ validP 600 (col zss 0) ∧ validP 600 (quo zss) ∧ (quo zss).getD 0 0 = 0 ∧ ((quo zss).getD 1 0 = 1 ∨ (quo zss).getD 1 0 = -1) ∧
  ∃ l, arrQ zss.length ((col zss 0).getD 0 0) ((quo zss).getD 1 0) = some l ∧ l.map (fun ps => ps.map (Sy.den (rhoQ zss))) = zss
open Classical in
noncomputable def pF (zss : List (List Int)) : Option (List Int × List Int) := if PairP zss then some (col zss 0, quo zss) else none
theorem pF_no {zss : List (List Int)} (h : ¬ PairP zss) : pF zss = none := by unfold pF; rw [if_neg h]
theorem pF_yes {zss : List (List Int)} (h : PairP zss) : pF zss = some (col zss 0, quo zss) := by unfold pF; rw [if_pos h]
def pairR : Option (List Int × List Int) → Nat → V Sy
  | none, _ => .tup [.agg [.nil, .nil], .bool false]
  | some p, n => .tup [.agg [.rsl n 0 p.1.length none, .rsl (n + 1) 0 p.2.length none], .bool true]
def pairO : Option (List Int × List Int) → Nat → List (Ob Sy)
  | none, _ => []
  | some p, _ => [ints (nums p.1), ints (nums p.2)]
theorem tells_no {k0 : FuncId} {pats pat : List (V Sy)} {ρ' : Nat → Int} {r : Option (V Sy × Sto Sy)} (h : noPair r = true) (hG : ∀ (R : V Sy) (S : Sto Sy), r = some (R, S) → ∀ (s : Sms) (B' : Nat), Go.Sx.Good Try.prog ⟨Sy.den ρ', s⟩ B' k0 pat ⟨0, [], 0⟩ R S)
    (hp : ∀ (s : Sms) (B : Nat) (c : Cx) (vs : List Value), VRs ⟨Sy.den ρ', s⟩ B c pats vs → VRs ⟨Sy.den ρ', s⟩ B c pat vs) : Tells Try.prog k0 pats (pairR none) (pairO none) := by
  unfold noPair at h
  split at h
  · rename_i S
    exact ⟨ρ', pat, _, S, [], fun _ => 0, hG _ _ rfl, List.nodup_nil, fun n ρ => ⟨rfl, fun j o b hj => by simp at hj, RNs.tup (.cons (RNs.agg (.cons .nil (.cons .nil .nil))) (.cons (.bool _) .nil))⟩, hp⟩
  · cases h
theorem heldAt_ok {S : Sto Sy} {ps : List Sy} {x : V Sy} {q : Nat} (h : heldAt S ps x = some q) : ∃ (qs : List Sy) (cap : Option Nat), x = .rsl q 0 ps.length cap ∧ Go.Sx.look S.obs q = some (ints qs) ∧ qs.take ps.length = ps ∧ ps.length ≤ qs.length ∧ ∀ cp, cap = some cp → ps.length ≤ cp ∧ cp ≤ qs.length := by
  unfold heldAt at h
  split at h
  case h_2 => cases h
  rename_i q' len cap
  simp only [bite_eq] at h
  split at h
  case isFalse => cases h
  rename_i hlen
  have hlen := Nat.eq_of_beq_eq_true hlen
  subst hlen
  split at h
  case h_2 => cases h
  rename_i b hb
  split at h
  case h_2 => cases h
  rename_i qs hqs
  have hbi := numsOf_ints hqs
  subst hbi
  split at h
  case isFalse => cases h
  rename_i hs
  have hs := sames_eq hs
  split at h
  case isFalse => cases h
  rename_i hle
  rw [Nat.ble_eq] at hle
  split at h
  · rename_i cp
    split at h
    case isFalse => cases h
    rename_i c1
    split at h
    case isFalse => cases h
    rename_i c2
    rw [Nat.ble_eq] at c1 c2
    cases h
    exact ⟨qs, _, rfl, hb, hs, hle, fun cp' e => by cases e; exact ⟨c1, c2⟩⟩
  · cases h
    exact ⟨qs, none, rfl, hb, hs, hle, fun cp' e => by cases e⟩
theorem tells_pair {k0 : FuncId} {pats pat : List (V Sy)} {ρ' : Nat → Int} {r : Option (V Sy × Sto Sy)} {ps qs : List Sy} (h : isPair ps qs r = true) (hG : ∀ (R : V Sy) (S : Sto Sy), r = some (R, S) → ∀ (s : Sms) (B' : Nat), Go.Sx.Good Try.prog ⟨Sy.den ρ', s⟩ B' k0 pat ⟨0, [], 0⟩ R S)
    (hp : ∀ (s : Sms) (B : Nat) (c : Cx) (vs : List Value), VRs ⟨Sy.den ρ', s⟩ B c pats vs → VRs ⟨Sy.den ρ', s⟩ B c pat vs) : Tells Try.prog k0 pats (pairR (some (ps.map (Sy.den ρ'), qs.map (Sy.den ρ')))) (pairO (some (ps.map (Sy.den ρ'), qs.map (Sy.den ρ')))) := by
  unfold isPair at h
  split at h
  case h_2 => cases h
  rename_i x y S
  split at h
  case h_2 => cases h
  rename_i a b ha hb
  rw [bite_eq] at h
  split at h
  case isTrue => cases h
  rename_i hab
  have hne : a ≠ b := fun e => hab (by rw [e]; exact Nat.beq_refl b)
  obtain ⟨us, c1, rfl, o1, t1, l1, k1⟩ := heldAt_ok ha
  obtain ⟨ws, c2, rfl, o2, t2, l2, k2⟩ := heldAt_ok hb
  have rel : ∀ {zs ts : List Sy} {n : Nat} {ρ : Nat → Int} {sz : Nat → Nat}, ts.take zs.length = zs → RNs ρ' ρ [a, b] sz n ((ints ts).take (ints (nums (zs.map (Sy.den ρ')))).length) (ints (nums (zs.map (Sy.den ρ')))) := fun {zs ts n ρ sz} ht => by
    have e : (ints (nums (zs.map (Sy.den ρ')))).length = zs.length := by simp
    rw [e, show (ints ts).take zs.length = ints (ts.take zs.length) by simp [ints, List.map_take], ht]
    exact RNs.ints rfl
  refine ⟨ρ', pat, _, S, [a, b], fun q => if q = a then us.length else ws.length, hG _ _ rfl, by simp [hne], fun n ρ => ⟨rfl, fun j o b' hj hb' => ?_, ?_⟩, hp⟩
  · match j with
    | 0 =>
      simp only [List.getElem?_cons_zero, Option.some.injEq, pairO] at hj hb'
      subst hj hb'
      exact ⟨_, o1, isMp_ints _, by simp, by simpa using l1, rel t1⟩
    | 1 =>
      simp only [List.getElem?_cons_succ, List.getElem?_cons_zero, Option.some.injEq, pairO] at hj hb'
      subst hj hb'
      exact ⟨_, o2, isMp_ints _, by simp [Ne.symm hne], by simpa using l2, rel t2⟩
    | j + 2 => simp at hj
  · have e1 : (ps.map (Sy.den ρ')).length = ps.length := by simp
    have e2 : (qs.map (Sy.den ρ')).length = qs.length := by simp
    show RN _ _ _ _ _ _ (.tup [.agg [.rsl n 0 (ps.map (Sy.den ρ')).length none, .rsl (n + 1) 0 (qs.map (Sy.den ρ')).length none], .bool true])
    rw [e1, e2]
    refine RNs.tup (.cons (RNs.agg (.cons ?_ (.cons ?_ .nil))) (.cons (.bool _) .nil))
    · cases c1 with
      | none => exact .rsl (j := 0) 0 _ none rfl
      | some cp => exact .rsn (j := 0) rfl (k1 _ rfl).1 (by simp; exact (k1 _ rfl).2)
    · cases c2 with
      | none => exact .rsl (j := 1) 0 _ none rfl
      | some cp => exact .rsn (j := 1) rfl (k2 _ rfl).1 (by simp [Ne.symm hne]; exact (k2 _ rfl).2)
theorem qRows_case {ρ : Nat → Int} : ∀ (l m : List (List Sy)), l.length = m.length → ((l.map (fun ps => ps.map (Sy.den ρ)) = m.map (fun ps => ps.map (Sy.den ρ))) ∧ ∀ e, e ∈ qRows l m l.length → e.Ok ρ) ∨ ∃ j, j < l.length ∧ l.map (fun ps => ps.map (Sy.den ρ)) ≠ m.map (fun ps => ps.map (Sy.den ρ)) ∧ ∀ e, e ∈ qRows l m j → e.Ok ρ
  | [], [], _ => .inl ⟨rfl, by simp [qRows]⟩
  | a :: r, b :: s, hl => by
    by_cases h : a.map (Sy.den ρ) = b.map (Sy.den ρ)
    · rcases qRows_case (ρ := ρ) r s (by simpa using hl) with ⟨h1, h2⟩ | ⟨j, h1, h2, h3⟩
      · refine .inl ⟨by simp only [List.map_cons, h, h1], fun e he => ?_⟩
        simp only [List.length_cons, qRows, List.mem_cons] at he
        rcases he with rfl | he
        · exact decide_eq_true h
        · exact h2 e he
      · refine .inr ⟨j + 1, by simpa using h1, fun e => h2 (by simp only [List.map_cons, List.cons.injEq] at e; exact e.2), fun e he => ?_⟩
        simp only [qRows, List.mem_cons] at he
        rcases he with rfl | he
        · exact decide_eq_true h
        · exact h3 e he
    · refine .inr ⟨0, by simp, fun e => h (by simp only [List.map_cons, List.cons.injEq] at e; exact e.1), fun e he => ?_⟩
      simp only [qRows, List.mem_cons, List.not_mem_nil, or_false] at he
      subst he
      exact decide_eq_false h
theorem first_out (l : List Int) : (∀ z, z ∈ l → -600 ≤ z ∧ z ≤ 600) ∨ ∃ n, n < l.length ∧ (∀ z, z ∈ l.take n → -600 ≤ z ∧ z ≤ 600) ∧ (l.getD n 0 < -600 ∨ 600 < l.getD n 0) := by
  induction l with
  | nil => exact .inl (by simp)
  | cons a r ih =>
    by_cases h : -600 ≤ a ∧ a ≤ 600
    · rcases ih with h1 | ⟨n, h1, h2, h3⟩
      · refine .inl (fun z hz => ?_)
        rcases List.mem_cons.1 hz with rfl | hz
        · exact h
        · exact h1 z hz
      · refine .inr ⟨n + 1, by simpa using h1, fun z hz => ?_, by rw [getD_cons_succ']; exact h3⟩
        rw [List.take_succ_cons] at hz
        rcases List.mem_cons.1 hz with rfl | hz
        · exact h
        · exact h2 z hz
    · exact .inr ⟨0, by simp, by simp, by rw [getD_cons_zero']; omega⟩
end Go.Proofs.Ytobdnpnohaonkaa.Pr

/-
  Texts of series and what they are read as: lists and texts alone. No condition.
-/
import Derived.Test.YtgaodlhdilhliaaGreatDoorRows
import Derived.Test.YtgaodlhdilhliaaGreatDoorSym
import Derived.Test.YtgaodlhdilhliaaGreatDoorSymE
import Derived.Test.YtgaodlhdilhliaaGreatDoorSymF
import Derived.Test.YtgaodlhdilhliaaGreatDoorIds
import Derived.Test.YtgaodlhdilhliaaGreatDoorSh
import Derived.Test.YtgaodlhdilhliaaGreatDoorSt
import Derived.Test.YtgaodlhdilhliaaGreatDoorNum
import Derived.Test.YtgaodlhdilhliaaGreatDoorTx
import Derived.Test.YtgaodlhdilhliaaGreatDoorTy
import Derived.Test.YtgaodlhdilhliaaGreatDoorTz
import Derived.Test.YtgaodlhdilhliaaGreatDoorSj
import Derived.Test.YtgaodlhdilhliaaGreatDoorAt
import Derived.Test.YtgaodlhdilhliaaGreatDoorPa
import Derived.Test.YtgaodlhdilhliaaGreatDoorCut
import Derived.WalkKit
import Derived.ProofKit
import Derived.OpenShut
namespace Go.Proofs.YtgaodlhdilhliaaGreatDoor.St
open Go.ChangeShapes Go.WideShapes Go.ChangeAt Go.RowKit Go.Sx Go.Proofs.YtgaodlhdilhliaaGreatDoor.Ids
set_option linter.unusedVariables false
set_option linter.unusedSimpArgs false

theorem mk_data (s : ByteArray) : (⟨s.data.toList.toArray⟩ : ByteArray) = s := rfl
theorem text_inj {z w : Int} (hz : -600 ≤ z ∧ z ≤ 600) (hw : -600 ≤ w ∧ w ≤ 600) (h : textZ z = textZ w) : z = w := by
  have h1 := text_back hz
  rw [h, text_back hw] at h1
  cases h1
  rfl
theorem texts_inj : ∀ {zs ws : List Int}, (∀ z, z ∈ zs → -600 ≤ z ∧ z ≤ 600) → (∀ z, z ∈ ws → -600 ≤ z ∧ z ≤ 600) → zs.map textZ = ws.map textZ → zs = ws
  | [], [], _, _, _ => rfl
  | [], _ :: _, _, _, h => by simp at h
  | _ :: _, [], _, _, h => by simp at h
  | z :: zs, w :: ws, h1, h2, h => by
    simp only [List.map_cons, List.cons.injEq] at h
    rw [text_inj (h1 z (by simp)) (h2 w (by simp)) h.1, texts_inj (fun y hy => h1 y (by simp [hy])) (fun y hy => h2 y (by simp [hy])) h.2]
/-- The text of a valid list. -/
def OkT (s : ByteArray) (zs : List Int) : Prop := validP 600 zs ∧ s = txt zs
theorem OkT.one {s : ByteArray} {zs ws : List Int} (h : OkT s zs) (h' : OkT s ws) : zs = ws := by
  have e1 := txt_split h.1
  have e2 := txt_split h'.1
  rw [← h.2] at e1
  rw [← h'.2, e1] at e2
  exact texts_inj h.1.1 h'.1.1 e2
open Classical in
noncomputable def parseV (s : ByteArray) : Option (List Int) := if h : ∃ zs, OkT s zs then some (Classical.choose h) else none
theorem parseV_some {s : ByteArray} {zs : List Int} (h : OkT s zs) : parseV s = some zs := by
  have hx : ∃ zs, OkT s zs := ⟨zs, h⟩
  unfold parseV
  rw [dif_pos hx, (Classical.choose_spec hx).one h]
theorem parseV_none {s : ByteArray} (h : ¬ ∃ zs, OkT s zs) : parseV s = none := by
  unfold parseV
  rw [dif_neg h]

/-! ## Parts -/
noncomputable def cutB (c : UInt8) (s : ByteArray) : List ByteArray := (cutL c s.data.toList).map fun l => ⟨l.toArray⟩
theorem cutB_lists (c : UInt8) (s : ByteArray) : (cutB c s).map (·.data.toList) = cutL c s.data.toList := by
  unfold cutB
  rw [List.map_map]
  exact List.map_id _
theorem ba_ext {a b : ByteArray} (h : a.data.toList = b.data.toList) : a = b := ByteArray.ext (Array.toList_inj.1 h)
theorem txt_list {zs : List Int} (h : validP 600 zs) : (txt zs).data.toList = Lib.join ((zs.map textZ).map (·.data.toList)) [44] := by
  unfold txt
  rw [if_pos h]
  rfl
theorem lists_inj : ∀ {xs ys : List ByteArray}, xs.map (·.data.toList) = ys.map (·.data.toList) → xs = ys
  | [], [], _ => rfl
  | [], _ :: _, h => by simp at h
  | _ :: _, [], h => by simp at h
  | x :: xs, y :: ys, h => by
    simp only [List.map_cons, List.cons.injEq] at h
    rw [ba_ext h.1, lists_inj h.2]
theorem cutB_txt {zs : List Int} (h : validP 600 zs) : cutB 44 (txt zs) = zs.map textZ := by
  apply lists_inj
  rw [cutB_lists, txt_list h]
  refine join_cutL (fun e => ?_) (fun x hx => ?_)
  · have := congrArg List.length e
    simp at this
    subst this
    have := h.2.1
    simp at this
  · obtain ⟨y, hy, rfl⟩ := List.mem_map.1 hx
    obtain ⟨z, hz, rfl⟩ := List.mem_map.1 hy
    exact text_noC (h.1 z hz)
/-- Parts that are texts of numbers: the text is theirs. -/
theorem txt_of_cut {s : ByteArray} {zs : List Int} (h : validP 600 zs) (hc : cutB 44 s = zs.map textZ) : s = txt zs := by
  apply ba_ext
  rw [txt_list h, ← hc, cutB_lists, cutL_join]
theorem cutB_len (c : UInt8) (s : ByteArray) : (cutB c s).length ≤ s.size + 1 := by
  have := cutL_len c s.data.toList
  unfold cutB
  rw [List.length_map, size_list]
  exact this
theorem cutB_short {c : UInt8} {s x : ByteArray} (h : x ∈ cutB c s) : x.size ≤ s.size := by
  obtain ⟨l, hl, rfl⟩ := List.mem_map.1 h
  have := (cutL_short hl).1
  rw [size_list, size_list]
  exact this
theorem cutB_half {c : UInt8} {s : ByteArray} {i : Nat} (hi : i ≤ (cutB c s).length) (h : ∀ x, x ∈ (cutB c s).take i → x.size ≠ 0) : 2 * i ≤ s.size + 1 := by
  have hl := cutL_join c s.data.toList
  have := join_half c (cutL c s.data.toList) i (by unfold cutB at hi; rw [List.length_map] at hi; exact hi) (fun l hl e => by
    subst e
    have h2 : (⟨([] : List UInt8).toArray⟩ : ByteArray) ∈ (cutB c s).take i := by
      unfold cutB
      rw [← List.map_take]
      exact List.mem_map.2 ⟨[], hl, rfl⟩
    exact h _ h2 rfl)
  rw [hl] at this
  rw [size_list]
  exact this

/-! ## Numbers -/
def digs : List UInt8 → List UInt8
  | [] => []
  | a :: r => if a = 45 then r else a :: r
def isNeg : List UInt8 → Bool
  | [] => false
  | a :: _ => decide (a = 45)
open Classical in
noncomputable def rdZ (x : ByteArray) : Int × Bool := match rdN 0 (digs x.data.toList) with
  | none => (0, false)
  | some u => (if isNeg x.data.toList then -(u : Int) else u, decide (digs x.data.toList ≠ [] ∧ textZ (if isNeg x.data.toList then -(u : Int) else u) = x))
theorem rdZ_true {x : ByteArray} (h : (rdZ x).2 = true) : textZ (rdZ x).1 = x ∧ -10009 ≤ (rdZ x).1 ∧ (rdZ x).1 ≤ 10009 ∧ x.size ≠ 0 := by
  unfold rdZ at h ⊢
  split at h
  · cases h
  · rename_i u hu
    have hb := rdN_bound (Nat.zero_le _) hu
    have h := of_decide_eq_true h
    refine ⟨h.2, ?_, ?_, fun e => ?_⟩
    · simp only
      split <;> omega
    · simp only
      split <;> omega
    · apply h.1
      have : x.data.toList = [] := List.eq_nil_of_length_eq_zero (by rw [← size_list]; exact e)
      rw [this]
      rfl
noncomputable def rdIs (l : List UInt8) (u : Nat) : Bool := match l with
  | [] => false
  | a :: r => bite (Nat.beq a.toNat 45) false (match rdN 0 (a :: r) with
    | some v => Nat.beq v u
    | none => false)
theorem rdIs_eq {l : List UInt8} {u : Nat} (h : rdIs l u = true) : l ≠ [] ∧ digs l = l ∧ isNeg l = false ∧ rdN 0 l = some u := by
  cases l with
  | nil => cases h
  | cons a r =>
    unfold rdIs at h
    simp only [bite_eq] at h
    split at h
    · cases h
    · rename_i ha
      have ha : a ≠ 45 := fun e => ha (by rw [e]; rfl)
      split at h
      · rename_i v hv
        rw [Nat.eq_of_beq_eq_true h] at hv
        exact ⟨by simp, by simp [digs, ha], by simp [isNeg, ha], hv⟩
      · cases h
set_option maxRecDepth 1000000 in
theorem rd_runs : allTo (fun i => rdIs ((digN i).map UInt8.ofNat) i) 601 = true := by kernel_rfl
theorem rdZ_text {z : Int} (h : -600 ≤ z ∧ z ≤ 600) : rdZ (textZ z) = (z, true) := by
  have hl : (textZ z).data.toList = Lib.itoa z := rfl
  unfold rdZ
  rw [hl]
  by_cases hz : z < 0
  · have e : Lib.itoa z = 45 :: (digN z.natAbs).map UInt8.ofNat := by
      unfold Lib.itoa
      rw [if_pos hz, digN_eq (by omega)]
    obtain ⟨h1, h2, h3, h4⟩ := rdIs_eq (allTo_ok rd_runs z.natAbs (by omega))
    rw [e]
    have e1 : digs (45 :: (digN z.natAbs).map UInt8.ofNat) = (digN z.natAbs).map UInt8.ofNat := by simp [digs]
    have e2 : isNeg (45 :: (digN z.natAbs).map UInt8.ofNat) = true := by simp [isNeg]
    have e3 : -(z.natAbs : Int) = z := by omega
    rw [e1, h4, e2]
    simp only [if_true, e3]
    rw [decide_eq_true ⟨h1, trivial⟩]
  · have e : Lib.itoa z = (digN z.toNat).map UInt8.ofNat := by
      unfold Lib.itoa
      rw [if_neg hz, digN_eq (by omega)]
    obtain ⟨h1, h2, h3, h4⟩ := rdIs_eq (allTo_ok rd_runs z.toNat (by omega))
    have e3 : (z.toNat : Int) = z := by omega
    rw [e, h2, h4, h3]
    simp only [if_false, Bool.false_eq_true, e3]
    rw [decide_eq_true ⟨h1, trivial⟩]
end Go.Proofs.YtgaodlhdilhliaaGreatDoor.St

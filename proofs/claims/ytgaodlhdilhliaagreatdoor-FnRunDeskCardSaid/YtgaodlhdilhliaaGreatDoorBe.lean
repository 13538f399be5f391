/-
  Lines that are answered, in the world: what impl.RunDesk gives. No condition.
-/
import Derived.Test.YtgaodlhdilhliaaGreatDoorRows
import Derived.Test.YtgaodlhdilhliaaGreatDoorSym
import Derived.Test.YtgaodlhdilhliaaGreatDoorSymD
import Derived.Test.YtgaodlhdilhliaaGreatDoorSymE
import Derived.Test.YtgaodlhdilhliaaGreatDoorSymF
import Derived.Test.YtgaodlhdilhliaaGreatDoorIds
import Derived.Test.YtgaodlhdilhliaaGreatDoorSh
import Derived.Test.YtgaodlhdilhliaaGreatDoorShB
import Derived.Test.YtgaodlhdilhliaaGreatDoorBd
import Derived.Test.YtgaodlhdilhliaaGreatDoorSt
import Derived.Test.YtgaodlhdilhliaaGreatDoorSp
import Derived.Test.YtgaodlhdilhliaaGreatDoorTel
import Derived.Test.YtgaodlhdilhliaaGreatDoorNum
import Derived.Test.YtgaodlhdilhliaaGreatDoorTx
import Derived.Test.YtgaodlhdilhliaaGreatDoorTy
import Derived.Test.YtgaodlhdilhliaaGreatDoorAo
import Derived.WalkKit
import Derived.BigCall
namespace Go.Proofs.YtgaodlhdilhliaaGreatDoor.St
open Go.ChangeShapes Go.WideShapes Go.ChangeAt Go.RowKit Go.Sx Go.Proofs.YtgaodlhdilhliaaGreatDoor.Ids
set_option linter.unusedVariables false
set_option linter.unusedSimpArgs false

theorem ansW (line : ByteArray) (hs : line.size ≤ 1048576) (w : World) (hg : ∀ w', KeepC w.heap.size w w' → Laid w' ∧ LaidM w' ∧ LaidE w') :
    Calls Tryz.prog 23 #[.string line] w fun e w' => e = .returned (.string (ansL line)) ∧ Below w.heap.size w w' := by
  obtain ⟨r, h1, h2, h3⟩ := implAns line hs (S := ⟨0, [], 0⟩) ⟨trivial, Nat.le_refl _⟩ 100 (Nat.le_refl _)
  let s : Sms := ⟨fun _ _ => ⟨#[]⟩, fun _ => [], fun w => Laid w ∧ LaidM w ∧ LaidE w⟩
  have hinv : SInv ⟨Sy.den (fun _ => 0), s⟩ w.heap.size ⟨w, fun _ => none⟩ (⟨0, [], 0⟩ : Sto Sy) :=
    ⟨Nat.le_refl _, fun _ _ => rfl, fun o b n h => (by cases h), fun o x h => (by cases h), fun o o' x x' b n n' h => (by cases h), trivial, hg⟩
  have hok := symRun_ok (ρ := fun _ => 0) (s := s) (B := w.heap.size) (Γ := []) noCount mixed (fun f hf => by cases hf) (KL_ok (fun w h => h.1) (fun w h => h.2.1) (fun w h => h.2.2)) 100
  obtain ⟨rv, rs⟩ := r
  simp only at h3
  subst h3
  refine Calls.mono ((hok _ _ _ _ _ h1).1 ⟨w, fun _ => none⟩ #[.string line] hinv (.cons (.str _) .nil)) ?_
  rintro e w' ⟨rv, c', rfl, rfl, k1, k2⟩
  cases k2
  exact ⟨rfl, k1.below⟩
/-- The answers to lines. -/
noncomputable def deskL (xs : List ByteArray) : List UInt8 := xs.flatMap fun x => (ansL x).data.toList ++ [10]
noncomputable def deskV (xs : List ByteArray) : ByteArray := if 20 < xs.length then ⟨#[]⟩ else ⟨(deskL xs).toArray⟩
theorem deskL_step (xs : List ByteArray) (k : Nat) (x : ByteArray) (h : xs[k]? = some x) : deskL (xs.take (k + 1)) = deskL (xs.take k) ++ ((ansL x).data.toList ++ [10]) := by
  unfold deskL
  obtain ⟨hk, rfl⟩ := List.getElem?_eq_some_iff.1 h
  rw [List.take_succ_eq_append_getElem hk, List.flatMap_append]
  simp
theorem deskL_len (xs : List ByteArray) : ∀ k, (deskL (xs.take k)).length ≤ 201 * k
  | 0 => by simp [deskL]
  | k + 1 => by
    have ih := deskL_len xs k
    cases h : xs[k]? with
    | none =>
      rw [List.take_of_length_le (Nat.le_succ_of_le (List.getElem?_eq_none_iff.1 h))]
      rw [List.take_of_length_le (List.getElem?_eq_none_iff.1 h)] at ih
      omega
    | some x =>
      rw [deskL_step xs k x h]
      have := ansL_size x
      rw [size_list] at this
      simp only [List.length_append, List.length_cons, List.length_nil]
      omega
theorem isB_below {T e : TypeId} {B b : Nat} {bs : List Value} {w w' : World} (h : Lib.IsBuilder T e B b bs w) (hb : Below w.heap.size w w') : Lib.IsBuilder T e B b bs w' := by
  have key : ∀ p, Lib.BuilderAt T e B b p bs w → Lib.BuilderAt T e B b p bs w' := fun p h => by
    have hlt := h.lt
    obtain ⟨hB, v, hv, hown, hne⟩ := h
    refine ⟨hB, v, by rw [hb.block b hlt]; exact hv, hown.kept (row := none) ⟨hb.os, hb.tape, hb.output, hb.size, fun k hk _ => hb.block k hk⟩ ?_, hne⟩
    cases v.ownBlock with
    | none => exact .inl rfl
    | some g => exact .inr (by simp)
  exact h.elim (fun h => .inl (key _ h)) (fun h => .inr (key _ h))
set_option maxHeartbeats 400000 in
set_option maxRecDepth 100000 in
theorem deskW (bk c : Nat) (xs : List ByteArray) (w : World) (hcells : ∀ (j : Nat) x, xs[j]? = some x → w.cell? ⟨bk, j, none⟩ = some (.string x)) (hbk : bk < w.heap.size) (hN : xs.length ≤ 140737488355328) (hcap : xs.length ≤ c)
    (hx : ∀ (j : Nat) x, xs[j]? = some x → x.size ≤ 1048576) (hg : ∀ w', KeepC w.heap.size w w' → Laid w' ∧ LaidM w' ∧ LaidE w') :
    Calls Tryz.prog 6 #[.slice (some ⟨bk, 0, none⟩) xs.length c] w fun e w' => e = .returned (.string (deskV xs)) ∧ Below w.heap.size w w' := by
  have HC := Any.hidJ hcells
  have HX := Any.hidJ hx
  have HG := Any.hidJ hg
  clear hcells hx hg
  by_cases h20 : (20 : Int) < xs.length
  · go_enter Tryz.func6, Tryz.ntmps6
    go_wp2
    go_ret
    exact ⟨by unfold deskV; rw [if_pos (by omega)]; rfl, Below.refl _ _⟩
  · have h0 : Hid (Lib.IsBuilder 44 5 w.heap.size w.heap.size (Lib.byteCells (deskL (xs.take 0))) (w.alloc (.cells #[.pointer none, .slice none 0 0] 44))) := Any.hidJ (Lib.fresh_isBuilder 44 5 w)
    have b0 : Hid (Below w.heap.size w (w.alloc (.cells #[.pointer none, .slice none 0 0] 44))) := Any.hidJ ((Below.refl _ w).alloc (Nat.le_refl _) _)
    go_enter Tryz.func6, Tryz.ntmps6
    go_wp2_with fail
    go_loopw [11] (fun i wr => ∃ k : Nat, k ≤ xs.length ∧ i = .int .i64 k ∧ Hid (Lib.IsBuilder 44 5 w.heap.size w.heap.size (Lib.byteCells (deskL (xs.take k))) wr) ∧ Hid (Below w.heap.size w wr)) (fun i _ => xs.length - (intOf i).toNat)
    case atStart => exact ⟨0, Nat.zero_le _, rfl, h0, b0⟩
    case round =>
      obtain ⟨k, hk, rfl, HB, HW⟩ := hrel
      by_cases hkn : k < xs.length
      · obtain ⟨x, hx⟩ : ∃ x, xs[k]? = some x := ⟨xs[k], List.getElem?_eq_getElem hkn⟩
        have hc : wr.cell? ⟨bk, k, none⟩ = some (.string x) := by
          rw [HW.out.cell (p := ⟨bk, k, none⟩) hbk]
          exact HC.out k x hx
        have hsx := HX.out k x hx
        have hBw : w.heap.size ≤ wr.heap.size := HW.out.size
        have hnext : Lib.byteCells (deskL (xs.take k)) ++ Lib.strCells (ansL x ++ ⟨#[10]⟩) = Lib.byteCells (deskL (xs.take (k + 1))) := by
          rw [deskL_step xs k x hx, Lib.strCells_eq, ← Lib.byteCells_append]
          rfl
        have hl := deskL_len xs k
        have hla := ansL_size x
        have Hn := Any.hidJ hnext
        clear hnext hx
        go_wp2_with fail
        refine (ansW x hsx wr (fun w' h => HG.out w' (HW.out.keepC.trans (fun k hk cur e z hx => h k (Nat.lt_of_lt_of_le hk hBw) cur e z hx)))).mono ?_
        rintro e w3 ⟨rfl, hb3⟩
        generalize ansL x = y at Hn hla
        have hB3 : Lib.IsBuilder 44 5 w.heap.size w.heap.size (Lib.byteCells (deskL (xs.take k))) w3 := isB_below HB.out hb3
        have hBw3 : w.heap.size ≤ w3.heap.size := Nat.le_trans hBw hb3.size
        have Hb3 := Any.hidJ hb3
        clear hb3
        go_wp2_with fail
        have hlen : (Lib.byteCells (deskL (xs.take k))).length + (y ++ ⟨#[10]⟩ : ByteArray).size ≤ 140737488355328 := by
          have e1 : (⟨#[10]⟩ : ByteArray).size = 1 := rfl
          rw [Lib.byteCells_length, ByteArray.size_append, e1]
          omega
        have hW := Tryz.WriteString w.heap.size w.heap.size _ (y ++ ⟨#[10]⟩) w3 hB3 hlen hBw3
        refine hW.mono ?_
        rintro e w4 ⟨rfl, h4, hb4⟩
        rw [Hn.out] at h4
        have H4 := Any.hidJ (Or.inr h4 : Lib.IsBuilder 44 5 w.heap.size w.heap.size _ w4)
        have Hb4 := Any.hidJ ((HW.out.trans (Hb3.out.mono hBw)).trans hb4)
        clear h4 hb4
        go_wp2
        exact ⟨⟨k + 1, by omega, by go_num, H4, Hb4⟩, by simp [intOf]; omega⟩
      · have hke : k = xs.length := by omega
        subst hke
        have hB' := HB.out
        rw [List.take_length] at hB'
        have hBw : w.heap.size ≤ wr.heap.size := HW.out.size
        go_wp2_with fail
        refine (Tryz.Builder_String_any w.heap.size w.heap.size _ wr hB' hBw).mono ?_
        rintro e w5 ⟨rfl, hb5⟩
        have Hb5 := Any.hidJ (HW.out.trans hb5)
        clear hb5 hB'
        go_wp2
        go_ret
        exact ⟨by unfold deskV; rw [if_neg (by omega)]; rfl, Hb5.out⟩
end Go.Proofs.YtgaodlhdilhliaaGreatDoor.St

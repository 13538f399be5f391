/-
  For all arguments the law FnWeightOfParts returns true, and the arguments read as they did. No condition.
  How: a machine over the model, proved right, runs the law at each way to part things, and on symbols else; what is drawn by hand.
-/
import Derived.Test.YtcpnlgjkijcmhaaRows
import Derived.Test.YtcpnlgjkijcmhaaDWeightB0
import Derived.Test.YtcpnlgjkijcmhaaDWeightB1
import Derived.Test.YtcpnlgjkijcmhaaDWeightB2
import Derived.Test.YtcpnlgjkijcmhaaDWeightB3
import Derived.Test.YtcpnlgjkijcmhaaDWeightB4
import Derived.Test.YtcpnlgjkijcmhaaDWeightB5
import Derived.Test.YtcpnlgjkijcmhaaDrawW
import Derived.WalkKit
import Derived.ProofKit
import Derived.OpenShut
namespace Go.Proofs.Ytcpnlgjkijcmhaa.DWeight
open Go.ChangeShapes Go.WideShapes Go.ChangeAt Go.RowKit Go.Sx Go.Proofs.Ytcpnlgjkijcmhaa.Ids Go.Proofs.Ytcpnlgjkijcmhaa.Way
set_option linter.unusedVariables false
set_option linter.unusedSimpArgs false

theorem len_0 : (waysOf 0).length = 1 := by kernel_rfl
theorem rows_0 : ∀ i, i < 1 → atWay ((waysOf 0).getD i []) = true := by
  intro i hi
  match i, hi with
  | 0, _ => exact b_0_0
  | k + 1, hi => omega
theorem len_1 : (waysOf 1).length = 1 := by kernel_rfl
theorem rows_1 : ∀ i, i < 1 → atWay ((waysOf 1).getD i []) = true := by
  intro i hi
  match i, hi with
  | 0, _ => exact b_1_0
  | k + 1, hi => omega
theorem len_2 : (waysOf 2).length = 2 := by kernel_rfl
theorem rows_2 : ∀ i, i < 2 → atWay ((waysOf 2).getD i []) = true := by
  intro i hi
  match i, hi with
  | 0, _ => exact b_2_0
  | 1, _ => exact b_2_1
  | k + 2, hi => omega
theorem len_3 : (waysOf 3).length = 5 := by kernel_rfl
theorem rows_3 : ∀ i, i < 5 → atWay ((waysOf 3).getD i []) = true := by
  intro i hi
  match i, hi with
  | 0, _ => exact b_3_0
  | 1, _ => exact b_3_1
  | 2, _ => exact b_3_2
  | 3, _ => exact b_3_3
  | 4, _ => exact b_3_4
  | k + 5, hi => omega
theorem len_4 : (waysOf 4).length = 15 := by kernel_rfl
theorem rows_4 : ∀ i, i < 15 → atWay ((waysOf 4).getD i []) = true := by
  intro i hi
  match i, hi with
  | 0, _ => exact b_4_0
  | 1, _ => exact b_4_1
  | 2, _ => exact b_4_2
  | 3, _ => exact b_4_3
  | 4, _ => exact b_4_4
  | 5, _ => exact b_4_5
  | 6, _ => exact b_4_6
  | 7, _ => exact b_4_7
  | 8, _ => exact b_4_8
  | 9, _ => exact b_4_9
  | 10, _ => exact b_4_10
  | 11, _ => exact b_4_11
  | 12, _ => exact b_4_12
  | 13, _ => exact b_4_13
  | 14, _ => exact b_4_14
  | k + 15, hi => omega
theorem len_5 : (waysOf 5).length = 52 := by kernel_rfl
theorem rows_5 : ∀ i, i < 52 → atWay ((waysOf 5).getD i []) = true := by
  intro i hi
  match i, hi with
  | 0, _ => exact b_5_0
  | 1, _ => exact b_5_1
  | 2, _ => exact b_5_2
  | 3, _ => exact b_5_3
  | 4, _ => exact b_5_4
  | 5, _ => exact b_5_5
  | 6, _ => exact b_5_6
  | 7, _ => exact b_5_7
  | 8, _ => exact b_5_8
  | 9, _ => exact b_5_9
  | 10, _ => exact b_5_10
  | 11, _ => exact b_5_11
  | 12, _ => exact b_5_12
  | 13, _ => exact b_5_13
  | 14, _ => exact b_5_14
  | 15, _ => exact b_5_15
  | 16, _ => exact b_5_16
  | 17, _ => exact b_5_17
  | 18, _ => exact b_5_18
  | 19, _ => exact b_5_19
  | 20, _ => exact b_5_20
  | 21, _ => exact b_5_21
  | 22, _ => exact b_5_22
  | 23, _ => exact b_5_23
  | 24, _ => exact b_5_24
  | 25, _ => exact b_5_25
  | 26, _ => exact b_5_26
  | 27, _ => exact b_5_27
  | 28, _ => exact b_5_28
  | 29, _ => exact b_5_29
  | 30, _ => exact b_5_30
  | 31, _ => exact b_5_31
  | 32, _ => exact b_5_32
  | 33, _ => exact b_5_33
  | 34, _ => exact b_5_34
  | 35, _ => exact b_5_35
  | 36, _ => exact b_5_36
  | 37, _ => exact b_5_37
  | 38, _ => exact b_5_38
  | 39, _ => exact b_5_39
  | 40, _ => exact b_5_40
  | 41, _ => exact b_5_41
  | 42, _ => exact b_5_42
  | 43, _ => exact b_5_43
  | 44, _ => exact b_5_44
  | 45, _ => exact b_5_45
  | 46, _ => exact b_5_46
  | 47, _ => exact b_5_47
  | 48, _ => exact b_5_48
  | 49, _ => exact b_5_49
  | 50, _ => exact b_5_50
  | 51, _ => exact b_5_51
  | k + 52, hi => omega
theorem all_ways {p : List Int} (hp : isPart p = true) : atWay p = true := by
  have h1 := mem_waysOf hp
  obtain ⟨i, hi, he⟩ := List.mem_iff_getElem.1 h1
  have h5 := isPart_len hp
  have e1 : (waysOf p.length).getD i [] = p := by simp [List.getD, hi, he]
  rw [← e1]
  generalize p.length = n at *
  match n, h5 with
  | 0, _ => rw [len_0] at hi; exact rows_0 i hi
  | 1, _ => rw [len_1] at hi; exact rows_1 i hi
  | 2, _ => rw [len_2] at hi; exact rows_2 i hi
  | 3, _ => rw [len_3] at hi; exact rows_3 i hi
  | 4, _ => rw [len_4] at hi; exact rows_4 i hi
  | 5, _ => rw [len_5] at hi; exact rows_5 i hi
  | k + 6, h => omega

set_option maxRecDepth 1000000 in
theorem huge : law.huge Try.prog 200 = true := by kernel_rfl
set_option maxRecDepth 1000000 in
theorem other : law.runX Try.prog ids [] 200 (partB pids [(0, false)]) [1] [] = true := by kernel_rfl
theorem own : ownKnob Try.prog.godebug = none := by kernel_rfl
theorem laidOut : laidOutB Try.prog = true := by kernel_rfl

theorem walk {v0 : Value} (bs : List Int) (w : World) (h : IsBytes w bs v0 ∧ bs.length ≤ 9223372036854775807) : LawTrue Try.prog 6 #[v0] w := by
  have hd := drawn_l Draw.K0_ok (dk := 21) (bs := bs) (n := 0 + 100) (Draw.drawWeightOfParts bs h.1.1 0)
  obtain ⟨Ls, I, hdr, hlen, hI, hwf, hwI⟩ := hd
  match Ls, hlen with
  | [p], _ =>
    obtain rfl := List.eq_nil_of_length_eq_zero hI
    refine LawD.okX (l := law) (D := ids) (t := []) (N := 200) (Ls := [p]) (I := []) noCount mixed ids_ok (by simp) huge (by decide) (body_of Try.func21 rfl) hdr rfl rfl hwf hwI h.1 h.2 ?_
    by_cases hc : isPart p = true
    · exact .inr ⟨KL, KL_ok, all_ways hc⟩
    · have hn : isPart [] = true := by decide
      have hne : p ≠ [] := fun e => hc (by rw [e]; exact hn)
      have hes : esOf [p] = [1] := by simp [esOf, hne]
      refine .inl ⟨partB pids [(0, false)], [], by rw [hes]; exact other, fun ρ hx => ⟨by simp, fun B hs => partB_ok pids_ok (fun e he => ?_) hs.1 hs.2⟩⟩
      simp only [List.mem_cons, List.not_mem_nil, or_false] at he
      subst he
      show isPart (if p = [] then [0] else p) = false
      rw [if_neg hne]
      simpa using hc

set_option maxRecDepth 100000 in
theorem lifted (os : Os) (started : os.Started) (H : Type) (enc : TypeId × Value → H) :
    ReturnsInHanded {} Try.checked os 6 .any (Rows.fnWeightOfPartsSpec.pre6 enc Try.prog Try.f6 Rows.fnWeightOfPartsRow.domain false) (Rows.fnWeightOfPartsSpec.post enc Try.prog Try.f6 false true false false) := by
  refine returnsInHanded_of_change (C := Try.checked) own started (by kernel_rfl) Try.func6
    (ChangeSpec.witness6 (enc := enc) (C := Try.checked) false ⟨#[], #[.slice none 0 0], []⟩ 8 (by kernel_rfl) (by kernel_rfl) (by kernel_rfl) (by kernel_rfl)) ?_
  intro W base args ds gs before hval0 hW hcnd _
  have hval : ∀ (j : Nat) t v, Try.f6.params[j]? = some t → args[j]? = some v → Value.okWide Try.prog W .any base t v := hval0
  have hW' := hW
  obtain ⟨p, q, hA0, hV, rfl, hfz, hnd⟩ := hW
  have hA : DataW.TrodAll enc Try.prog W 0 (fun _ => true) true Try.f6.params.toList args.toList ds p := hA0
  rw [Try.params6] at hA hval
  obtain ⟨v0, vs0, d0, ds0, p0, q0, hargs0, rfl, rfl, g0, r0⟩ := trodAll_cons hA
  obtain ⟨rfl, rfl, rfl⟩ := trodAll_nil r0
  obtain rfl : args = #[v0] := by cases args; simp_all
  obtain ⟨rfl, rfl⟩ := trodVars_none hV
  have k0 := g0
  have lt0 := trod_lt_block k0
  obtain ⟨z0, h_z0⟩ := open_bytes Try.underlying22 Try.underlying5 (by kernel_rfl) (hval 0 22 v0 rfl rfl) g0
  clear hA0 hval0
  refine (walk z0 W h_z0).mono fun e W' ⟨he, bel, hz⟩ => ?_
  subst he
  exact ⟨_, rfl, _, _, _, [], _, [], hW', trodAll_mk1 (shut_bool Try.underlying4 _), (trodAll_cons_mk (Below.trod laidOut (by kernel_rfl) (of_decide_eq_true (by kernel_rfl)) k0 bel lt0) trodAll_mk0), rfl, bel.frame _, fun h => by cases h⟩

theorem proved : Rows.FnWeightOfPartsSaid :=
  OpenClaim.holds_of_wide 6 Try.f6 rfl rfl rfl rfl rfl rfl rfl ⟨rfl, rfl, rfl, rfl, rfl⟩ rfl rfl rfl rfl rfl (by kernel_rfl) Try.func6 (by kernel_rfl)
    (of_decide_eq_true (by kernel_rfl)) (by unfold Func.isWrapper; first | (rw [if_pos (by decide +kernel)]; kernel_rfl) | (rw [if_neg (by decide +kernel)]; exact ⟨rfl, rfl⟩))
    (fun os started H enc _ => lifted os started H enc)
#print axioms proved

end Go.Proofs.Ytcpnlgjkijcmhaa.DWeight

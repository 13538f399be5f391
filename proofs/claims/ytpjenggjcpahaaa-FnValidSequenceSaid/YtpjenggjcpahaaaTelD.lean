/-
  What functions answer at what is known: all contracts that a draw of rows and its law use. No condition.
-/
import Derived.Test.YtpjenggjcpahaaaRows
import Derived.Test.YtpjenggjcpahaaaSym
import Derived.Test.YtpjenggjcpahaaaSymD
import Derived.Test.YtpjenggjcpahaaaSymE
import Derived.Test.YtpjenggjcpahaaaSymF
import Derived.Test.YtpjenggjcpahaaaIds
import Derived.Test.YtpjenggjcpahaaaSumm
import Derived.Test.YtpjenggjcpahaaaNp
import Derived.Test.YtpjenggjcpahaaaSeq
import Derived.Test.YtpjenggjcpahaaaSeqB
import Derived.Test.YtpjenggjcpahaaaSeqC
import Derived.Test.YtpjenggjcpahaaaSeqE
import Derived.Test.YtpjenggjcpahaaaRep
import Derived.Test.YtpjenggjcpahaaaRepB
import Derived.Test.YtpjenggjcpahaaaTel
import Derived.Test.YtpjenggjcpahaaaTelB
import Derived.Test.YtpjenggjcpahaaaTelC
import Derived.WalkKit
import Derived.ProofKit
import Derived.OpenShut
namespace Go.Proofs.Ytpjenggjcpahaaa.Tel
open Go.ChangeShapes Go.WideShapes Go.ChangeAt Go.RowKit Go.Sx Go.Proofs.Ytpjenggjcpahaaa.Ids Go.Proofs.Ytpjenggjcpahaaa.Seq Go.Proofs.Ytpjenggjcpahaaa.Rep
set_option linter.unusedVariables false
set_option linter.unusedSimpArgs false

theorem seqP_of {zss : List (List Int)} (h : seqB zss = true) : SeqP zss := by
  by_cases hs : SeqP zss
  · exact hs
  · rw [seqB_false hs] at h; cases h
theorem e0_valid {n : Nat} (h1 : 1 ≤ n) (h6 : n ≤ 6) : validP 1000000 (e0 n) := by
  refine ⟨fun z hz => ?_, by rw [e0_len h1]; exact h1, by rw [e0_len h1]; exact h6⟩
  rcases List.mem_cons.1 hz with rfl | hz
  · omega
  · rw [List.eq_of_mem_replicate hz]; omega
theorem re0_tells {zss : List (List Int)} (h : SeqP zss) : Tells Try.prog 21 [patL (e0 zss.length), patS zss] (ansR (some (zss.getD 0 []))) (ansO (some (zss.getD 0 []))) := by
  have h' := h
  obtain ⟨h1, h6, hall⟩ := h
  have hlen : (e0 zss.length).length = zss.length := e0_len h1
  have hd := rowsS_den (zs := e0 zss.length) (by omega) h'
  have hr := fun n hn => rowS_den (zs := e0 zss.length) (zss := zss) (by omega) h' (n := n) hn
  rw [hlen] at hd hr
  have hv := e0_den (rhoR (e0 zss.length) zss) zss.length
  have hΓ : ∀ f, f ∈ diagF zss.length zss.length → f.Ok (rhoR (e0 zss.length) zss) := by
    intro f hf
    obtain ⟨n, hn, rfl⟩ := List.mem_map.1 hf
    rw [List.mem_range] at hn
    refine Fact.eq_no ?_
    obtain ⟨a1, a2, a3⟩ := hall n (by omega)
    rw [ends_iff] at a3
    obtain ⟨b1, b2, b3⟩ := a3
    obtain ⟨c1, c2⟩ := unT_at n (by omega) n (by omega)
    have er : rhoR (e0 zss.length) zss (zss.length + n * (n + 1) / 2 + n) = (zss.getD n []).getD n 0 := by
      unfold rhoR
      rw [if_neg (by omega), hlen, show zss.length + n * (n + 1) / 2 + n - zss.length = n * (n + 1) / 2 + n by omega, c1]
    have hm : (zss.getD n []).getD n 0 ∈ zss.getD n [] := by
      generalize zss.getD n [] = w at b1
      simp [List.getD, b1]
    show ¬ (vx (zss.length + n * (n + 1) / 2 + n)).den (rhoR (e0 zss.length) zss) = (Sy.c 0).den (rhoR (e0 zss.length) zss)
    rw [vx_den _ _ (by omega) (by rw [er]; exact wrap1e6 (a2.1 _ hm)), er]
    exact b2
  have hV : ∀ e, e ∈ (⟨1000000, e0S zss.length, true⟩ : VEnt) :: seqV zss.length zss.length → e.Ok (rhoR (e0 zss.length) zss) := by
    intro e he
    rcases List.mem_cons.1 he with rfl | he
    · unfold VEnt.Ok
      simp only [hv]
      exact decide_eq_true (e0_valid h1 h6)
    · obtain ⟨ps', hps, rfl⟩ := List.mem_map.1 he
      obtain ⟨n, hn, rfl⟩ := List.mem_map.1 hps
      rw [List.mem_range] at hn
      unfold VEnt.Ok
      simp only [hr n hn]
      exact decide_eq_true (hall n hn).2.1
  have hpat : ∀ (s : Sms) (B : Nat) (c : Cx) (vs : List Value), VRs ⟨Sy.den (rhoR (e0 zss.length) zss), s⟩ B c [patL (e0 zss.length), patS zss] vs → VRs ⟨Sy.den (rhoR (e0 zss.length) zss), s⟩ B c [.slice (ints (e0S zss.length)), rowsP zss.length zss.length] vs := by
    intro s B c vs hvs
    obtain ⟨v, u, rfl, hv1, hu⟩ := hvs.two
    refine .cons (ints_sym hv (ne_len (by omega)) hv1) (.cons ?_ .nil)
    exact patS_sym hd (by intro e; rw [e] at h1; simp at h1) (fun z hz e => by
      obtain ⟨n, hn, rfl⟩ := List.mem_iff_getElem.1 hz
      have := (hall n hn).1
      simp [List.getD, hn, e] at this
      omega) hu
  have C : re0C zss.length = true := six (Q := fun n => re0C n = true) re0_1 re0_2 re0_3 re0_4 re0_5 re0_6 h1 h6
  have T := tells_ans (k0 := 21) (pats := [patL (e0 zss.length), patS zss]) (pat := [.slice (ints (e0S zss.length)), rowsP zss.length zss.length]) (ρ' := rhoR (e0 zss.length) zss) C (fun R S hRS s B' => (symRun_ok noCount mixed hΓ (symK_ok noCount mixed ids_ok (t := Summs.tab) Summs.tab_ok hΓ hV) 60 _ _ _ _ _ hRS).1) hpat
  rw [Option.map_some, hr 0 (by omega)] at T
  exact T
open Classical in
noncomputable def dRe0 : List (V Sy) → Sto Sy → Option (List (List Int))
  | [x, y], sto => match constsOf sto x, rowsOf sto y with
    | some zs, some zss => if (SeqP zss ∧ zs = e0 zss.length) then some zss else none
    | _, _ => none
  | _, _ => none
theorem dRe0_eq {sto : Sto Sy} {x y : V Sy} {zss : List (List Int)} (ha : constsOf sto x = some (e0 zss.length)) (hb : rowsOf sto y = some zss) (h : SeqP zss) : dRe0 [x, y] sto = some zss := by
  simp only [dRe0, ha, hb]
  rw [if_pos ⟨h, rfl⟩]
noncomputable def re0K : Ctr := telK 21 dRe0 (fun zss => ansR (some (zss.getD 0 []))) (fun zss => ansO (some (zss.getD 0 [])))
theorem re0K_ok (ρ : Nat → Int) (s : Sms) (B : Nat) : COk Try.prog ⟨Sy.den ρ, s⟩ B re0K := by
  refine telK_ok (body_of Try.func21 rfl) (fun args sto a h => ?_)
  unfold dRe0 at h
  split at h
  case h_2 => cases h
  rename_i x y
  split at h
  case h_2 => cases h
  rename_i zs zss ha hb
  split at h
  case isFalse => cases h
  rename_i hp
  cases h
  obtain ⟨hS, rfl⟩ := hp
  refine ⟨_, re0_tells hS, fun ρ s B c hinv vs hvs ρ' => ?_⟩
  obtain ⟨v, w, rfl, hv, hw⟩ := hvs.two
  refine .cons (patL_rel ha (by rw [e0_len hS.1]; have := hS.2.1; omega) hinv hv) (.cons (patS_rel hb (fun zs hzs => ?_) hinv hw) .nil)
  obtain ⟨n, hn, rfl⟩ := List.mem_iff_getElem.1 hzs
  have := (hS.2.2 n hn).1
  simp only [List.getD, List.getElem?_eq_getElem hn, Option.getD_some] at this
  rw [this]; have := hS.2.1; omega

/-! ## All of them -/
noncomputable def KD : Ctr := orK vpK (orK arrK (orK facK (orK uniK (orK linK (orK eqlK (orK re0K (orK (askSK 20 seqB) (askSK 19 seqB))))))))
theorem KD_ok (ρ : Nat → Int) (s : Sms) (B : Nat) : COk Try.prog ⟨Sy.den ρ, s⟩ B KD :=
  orK_ok (vpK_ok _ _ _) (orK_ok (arrK_ok _ _ _) (orK_ok (facK_ok _ _ _) (orK_ok (uniK_ok _ _ _) (orK_ok (linK_ok _ _ _) (orK_ok (eqlK_ok _ _ _) (orK_ok (re0K_ok _ _ _)
    (orK_ok (askSK_ok noCount mixed (body_of Try.func20 rfl) specSeq_ok) (askSK_ok noCount mixed (body_of Try.func19 rfl) implSeq_ok))))))))
noncomputable def isD (k : FuncId) : Bool := bite (Nat.beq k 44) true (bite (Nat.beq k 45) true (bite (Nat.beq k 116) true (bite (Nat.beq k 106) true (bite (Nat.beq k 22) true (bite (Nat.beq k 23) true
  (bite (Nat.beq k 21) true (bite (Nat.beq k 20) true (Nat.beq k 19))))))))
theorem telK_no {α : Type} {k0 k : FuncId} {D : List (V Sy) → Sto Sy → Option α} {R : α → Nat → V Sy} {O : α → Nat → List (Ob Sy)} (h : ¬ Nat.beq k k0 = true) (args : List (V Sy)) (sto : Sto Sy) : telK k0 D R O k args sto = none := by
  unfold telK
  rw [bite_eq, if_neg h]
theorem askSK_no {k0 k : FuncId} {F : List (List Int) → Bool} (h : ¬ Nat.beq k k0 = true) (args : List (V Sy)) (sto : Sto Sy) : askSK k0 F k args sto = none := by
  unfold askSK
  rw [bite_eq, if_neg h]
theorem orK_no {K1 K2 : Ctr} {k : FuncId} {args : List (V Sy)} {sto : Sto Sy} (h : K1 k args sto = none) : orK K1 K2 k args sto = K2 k args sto := by unfold orK; rw [h]
theorem orK_yes {K1 K2 : Ctr} {k : FuncId} {args : List (V Sy)} {sto : Sto Sy} {r : V Sy × Sto Sy} (h : K1 k args sto = some r) : orK K1 K2 k args sto = some r := by unfold orK; rw [h]
theorem KD_none {k : FuncId} {args : List (V Sy)} {sto : Sto Sy} (h : isD k = false) : KD k args sto = none := by
  unfold isD at h
  simp only [bite_eq] at h
  iterate 8
    split at h
    · cases h
  rename_i h1 h2 h3 h4 h5 h6 h7 h8
  unfold KD vpK arrK facK uniK linK eqlK re0K
  rw [orK_no (telK_no h1 _ _), orK_no (telK_no h2 _ _), orK_no (telK_no h3 _ _), orK_no (telK_no h4 _ _), orK_no (telK_no h5 _ _), orK_no (telK_no h6 _ _), orK_no (telK_no h7 _ _), orK_no (askSK_no h8 _ _), askSK_no (by rw [h]; decide)]
end Go.Proofs.Ytpjenggjcpahaaa.Tel

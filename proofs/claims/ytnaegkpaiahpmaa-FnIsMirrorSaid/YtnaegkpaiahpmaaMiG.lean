/-
  Mirrors: the draw, but for its open regions. No condition.
-/
import Derived.Test.YtnaegkpaiahpmaaRows
import Derived.Test.YtnaegkpaiahpmaaSym
import Derived.Test.YtnaegkpaiahpmaaSymD
import Derived.Test.YtnaegkpaiahpmaaSymE
import Derived.Test.YtnaegkpaiahpmaaSymF
import Derived.Test.YtnaegkpaiahpmaaSymG
import Derived.Test.YtnaegkpaiahpmaaIds
import Derived.Test.YtnaegkpaiahpmaaSumm
import Derived.Test.YtnaegkpaiahpmaaNp
import Derived.Test.YtnaegkpaiahpmaaTel
import Derived.Test.YtnaegkpaiahpmaaIv
import Derived.Test.YtnaegkpaiahpmaaIvA
import Derived.Test.YtnaegkpaiahpmaaDraw
import Derived.Test.YtnaegkpaiahpmaaDrawC
import Derived.Test.YtnaegkpaiahpmaaDrawD
import Derived.Test.YtnaegkpaiahpmaaDrawX
import Derived.Test.YtnaegkpaiahpmaaIvB
import Derived.Test.YtnaegkpaiahpmaaIvC
import Derived.Test.YtnaegkpaiahpmaaIvE
import Derived.WalkKit
import Derived.ProofKit
import Derived.OpenShut
namespace Go.Proofs.Ytnaegkpaiahpmaa.Mi
open Go.ChangeShapes Go.WideShapes Go.ChangeAt Go.RowKit Go.Sx Go.Proofs.Ytnaegkpaiahpmaa.Ids
open Go.Proofs.Ytnaegkpaiahpmaa.Iv
open Go.Proofs.Ytnaegkpaiahpmaa.Tel (telK telK_ok vr_agg2 rowsR rowsO objsO lstR lstO lstIs tells_lst unIs unR unO tells_un)
open Go.Proofs.Ytnaegkpaiahpmaa.Draw (K0 K0_ok fldP0 fldP1 loadS lookN loadP storeP lookW islW allocP storeS0 storeS1)
set_option linter.unusedVariables false
set_option linter.unusedSimpArgs false

/-! ## The unit, and ones -/
noncomputable def uniC (n : Nat) : Bool := unIs (eS n 0) (eS n 1) (symRun Try.prog noK [] 60 33 [.int .i64 (.c n)] ⟨0, [], 0⟩)
noncomputable def onS (n : Nat) : List Sy := (List.range n).map fun _ => .c 1
noncomputable def onC (n : Nat) : Bool := lstIs (onS n) (symRun Try.prog noK [] 60 34 [.int .i64 (.c n), .int .i64 (.c 1)] ⟨0, [], 0⟩)
set_option maxRecDepth 1000000 in
theorem uni_2 : bite (uniC 2) (onC 2) false = true := by kernel_rfl
set_option maxRecDepth 1000000 in
theorem uni_3 : bite (uniC 3) (onC 3) false = true := by kernel_rfl
set_option maxRecDepth 1000000 in
theorem uni_4 : bite (uniC 4) (onC 4) false = true := by kernel_rfl
set_option maxRecDepth 1000000 in
theorem uni_5 : bite (uniC 5) (onC 5) false = true := by kernel_rfl
set_option maxRecDepth 1000000 in
theorem uni_6 : bite (uniC 6) (onC 6) false = true := by kernel_rfl
theorem uni_at {n : Nat} (h2 : 2 ≤ n) (h6 : n ≤ 6) : uniC n = true ∧ onC n = true := by
  have C := five (Q := fun n => bite (uniC n) (onC n) false = true) uni_2 uni_3 uni_4 uni_5 uni_6 h2 h6
  rw [bite_eq] at C
  split at C
  · rename_i h; exact ⟨h, C⟩
  · cases C
noncomputable def eZ (L k : Nat) : List Int := (List.range L).map fun n => dl n k
theorem eS_den (ρ : Nat → Int) (L k : Nat) : (eS L k).map (Sy.den ρ) = eZ L k := by
  unfold eS eZ
  rw [List.map_map]
  rfl
theorem eZ_len (L k : Nat) : (eZ L k).length = L := by simp [eZ]
theorem eZ_one (L k : Nat) : ∀ z, z ∈ eZ L k → z = 0 ∨ z = 1 := fun z hz => by
  obtain ⟨n, _, rfl⟩ := List.mem_map.1 hz
  unfold dl
  rw [bite_eq]
  split
  · exact .inr rfl
  · exact .inl rfl
def onZ (n : Nat) : List Int := (List.range n).map fun _ => 1
theorem onS_den (ρ : Nat → Int) (n : Nat) : (onS n).map (Sy.den ρ) = onZ n := by
  unfold onS onZ
  rw [List.map_map]
  rfl
theorem int_rel {ρ ρ' : Nat → Int} {s : Sms} {B B' : Nat} {c c' : Cx} {z : Int} {v : Value} (h : VR ⟨Sy.den ρ, s⟩ B c (.int .i64 (.c z)) v) : VR ⟨Sy.den ρ', s⟩ B' c' (.int .i64 (.c z)) v := by
  cases h with
  | int k n => exact VR.int (Δ := ⟨Sy.den ρ', s⟩) .i64 (.c z)
open Classical in
noncomputable def dLn : List (V Sy) → Sto Sy → Option Nat
  | [.int .i64 (.c z)], _ => if (2 : Int) ≤ z ∧ z ≤ 6 then some z.toNat else none
  | [.int .i64 (.c z), .int .i64 (.c 1)], _ => if (2 : Int) ≤ z ∧ z ≤ 6 then some z.toNat else none
  | _, _ => none
open Classical in
noncomputable def dL1 : List (V Sy) → Sto Sy → Option Nat
  | [.int .i64 (.c z)], _ => if (2 : Int) ≤ z ∧ z ≤ 6 then some z.toNat else none
  | _, _ => none
open Classical in
noncomputable def dL2 : List (V Sy) → Sto Sy → Option Nat
  | [.int .i64 (.c z), .int .i64 (.c 1)], _ => if (2 : Int) ≤ z ∧ z ≤ 6 then some z.toNat else none
  | _, _ => none
theorem dL1_eq {n : Nat} {sto : Sto Sy} (h2 : 2 ≤ n) (h6 : n ≤ 6) : dL1 [.int .i64 (.c n)] sto = some n := by
  simp only [dL1, if_pos (show (2 : Int) ≤ (n : Int) ∧ (n : Int) ≤ 6 by omega)]; simp
theorem dL2_eq {n : Nat} {sto : Sto Sy} (h2 : 2 ≤ n) (h6 : n ≤ 6) : dL2 [.int .i64 (.c n), .int .i64 (.c 1)] sto = some n := by
  simp only [dL2, if_pos (show (2 : Int) ≤ (n : Int) ∧ (n : Int) ≤ 6 by omega)]; simp
noncomputable def uniK : Ctr := telK 33 dL1 (fun n => unR (eZ n 0, eZ n 1)) (fun n => unO (eZ n 0, eZ n 1))
theorem uniK_ok (ρ : Nat → Int) (s : Sms) (B : Nat) : COk Try.prog ⟨Sy.den ρ, s⟩ B uniK := by
  refine telK_ok (body_of Try.func33 rfl) (fun args sto p h => ?_)
  unfold dL1 at h
  split at h
  case h_2 => cases h
  rename_i z
  split at h
  case isFalse => cases h
  rename_i hp
  cases h
  obtain ⟨n, rfl⟩ : ∃ n : Nat, z = n := ⟨z.toNat, by omega⟩
  simp only [Int.toNat_natCast]
  refine ⟨[.int .i64 (.c n)], ?_, fun ρ s B c hinv vs hvs ρ' => ?_⟩
  · have T := tells_un (ρ' := fun _ => 0) (pats := [.int .i64 (.c (n : Nat))]) (uni_at (n := n) (by omega) (by omega)).1 (fun R S hRS s B' => run_goodK noCount mixed (fun _ _ _ => noK_ok) _ hRS B') (fun _ _ _ _ h => h)
    rwa [eS_den, eS_den] at T
  · obtain ⟨v, rfl, hv⟩ := hvs.one
    exact .cons (int_rel hv) .nil
noncomputable def onK : Ctr := telK 34 dL2 (fun n => lstR (onZ n)) (fun n => lstO (onZ n))
theorem onK_ok (ρ : Nat → Int) (s : Sms) (B : Nat) : COk Try.prog ⟨Sy.den ρ, s⟩ B onK := by
  refine telK_ok (body_of Try.func34 rfl) (fun args sto p h => ?_)
  unfold dL2 at h
  split at h
  case h_2 => cases h
  rename_i z
  split at h
  case isFalse => cases h
  rename_i hp
  cases h
  obtain ⟨n, rfl⟩ : ∃ n : Nat, z = n := ⟨z.toNat, by omega⟩
  simp only [Int.toNat_natCast]
  refine ⟨[.int .i64 (.c n), .int .i64 (.c 1)], ?_, fun ρ s B c hinv vs hvs ρ' => ?_⟩
  · have T := tells_lst (ρ' := fun _ => 0) (pats := [.int .i64 (.c (n : Nat)), .int .i64 (.c 1)]) (uni_at (n := n) (by omega) (by omega)).2 (fun R S hRS s B' => run_goodK noCount mixed (fun _ _ _ => noK_ok) _ hRS B') (fun _ _ _ _ h => h)
    rwa [onS_den] at T
  · obtain ⟨v, w, rfl, hv, hw⟩ := hvs.two
    exact .cons (int_rel hv) (.cons (int_rel hw) .nil)

/-! ## What the draw calls -/
noncomputable def dk : Ctr := fun k args sto => symRun Try.prog K0 [] 99 k args sto
theorem dk_ok (ρ : Nat → Int) (s : Sms) (B : Nat) : COk Try.prog ⟨Sy.den ρ, s⟩ B dk := fun k args sto r sto' h =>
  symRun_ok noCount mixed (Γ := []) (fun f hf => by cases hf) (K0_ok ρ s B) 99 k args sto r sto' h
noncomputable def K2 : Ctr := swK 18 dk (swK 31 dk (swK 32 dk (swK 35 dk (swK 17 dk (swK 33 uniK (swK 34 onK noK))))))
theorem K2_ok (ρ : Nat → Int) (s : Sms) (B : Nat) : COk Try.prog ⟨Sy.den ρ, s⟩ B K2 :=
  swK_ok (dk_ok _ _ _) (swK_ok (dk_ok _ _ _) (swK_ok (dk_ok _ _ _) (swK_ok (dk_ok _ _ _) (swK_ok (dk_ok _ _ _) (swK_ok (uniK_ok _ _ _) (swK_ok (onK_ok _ _ _) noK_ok))))))
section
variable (args : List (V Sy)) (sto : Sto Sy)
theorem K2_nr : K2 18 args sto = symRun Try.prog K0 [] 99 18 args sto := by
  unfold K2; rw [swK_at]; rfl
theorem K2_lo : K2 31 args sto = symRun Try.prog K0 [] 99 31 args sto := by
  unfold K2; rw [swK_ne (by decide), swK_at]; rfl
theorem K2_pk : K2 32 args sto = symRun Try.prog K0 [] 99 32 args sto := by
  unfold K2; rw [swK_ne (by decide), swK_ne (by decide), swK_at]; rfl
theorem K2_on : K2 35 args sto = symRun Try.prog K0 [] 99 35 args sto := by
  unfold K2; rw [swK_ne (by decide), swK_ne (by decide), swK_ne (by decide), swK_at]; rfl
theorem K2_sp : K2 17 args sto = symRun Try.prog K0 [] 99 17 args sto := by
  unfold K2; rw [swK_ne (by decide), swK_ne (by decide), swK_ne (by decide), swK_ne (by decide), swK_at]; rfl
theorem K2_un : K2 33 args sto = telK 33 dL1 (fun n => unR (eZ n 0, eZ n 1)) (fun n => unO (eZ n 0, eZ n 1)) 33 args sto := by
  unfold K2; rw [swK_ne (by decide), swK_ne (by decide), swK_ne (by decide), swK_ne (by decide), swK_ne (by decide), swK_at]; rfl
theorem K2_os : K2 34 args sto = telK 34 dL2 (fun n => lstR (onZ n)) (fun n => lstO (onZ n)) 34 args sto := by
  unfold K2; rw [swK_ne (by decide), swK_ne (by decide), swK_ne (by decide), swK_ne (by decide), swK_ne (by decide), swK_ne (by decide), swK_at]; rfl
theorem hK2 : K2 14 args sto = none := by
  unfold K2; rw [swK_ne (by decide), swK_ne (by decide), swK_ne (by decide), swK_ne (by decide), swK_ne (by decide), swK_ne (by decide), swK_ne (by decide)]; rfl
end
/-- A call that the other contract tells of. -/
theorem xfer {k : FuncId} {args : List (V Sy)} {S S' : Sto Sy} {v : V Sy} (h : acallV (symIn Try.prog K0 [] 99) S (.func k [] []) args = some (v, S')) (hk : ∀ args sto, K2 k args sto = symRun Try.prog K0 [] 99 k args sto) (f : Nat) (hf : 1 ≤ f) (hk9 : (k : Nat) < 1000000 := by decide) : acallV (symIn Try.prog K2 [] f) S (.func k [] []) args = some (v, S') := by
  obtain ⟨g, rfl⟩ : ∃ g, f = g + 1 := ⟨f - 1, by omega⟩
  rw [acallV_func hk9, List.nil_append, List.append_nil, symIn_run hk9] at h
  cases hr : symRun Try.prog K0 [] 99 k args ⟨S.next, S.obs, S.next⟩ with
  | none => rw [hr] at h; cases h
  | some r =>
    obtain ⟨w, s1⟩ := r
    rw [hr] at h
    have e : K2 k args ⟨S.next, S.obs, S.next⟩ = some (w, s1) := by rw [hk]; exact hr
    rw [call_K (P := Try.prog) (n := g) e hk9]
    simp only [Nat.blt_eq] at h
    exact h
theorem rdy_keep {bs : List Int} {o : Nat} {P : Int} {S S' : Sto Sy} (h : Rdy bs o P S) (hk : ∀ k x, Go.Sx.look S.obs k = some x → Go.Sx.look S'.obs k = some x) (hd : Desc S'.next S'.obs) : Rdy bs o P S' := by
  obtain ⟨p, h1, h2⟩ := h
  exact ⟨p, h1, hk _ _ h2.obj, hd, h2.p0⟩
theorem take2000 {bs : List Int} (h : ∀ b, b ∈ bs → 0 ≤ b ∧ b < 256) : ∀ b, b ∈ bs.take 2000 → 0 ≤ b ∧ b < 256 := fun b hb => h b (List.mem_of_mem_take hb)
theorem ans_pair {tm : Tr (V Sy)} {T : Sto Sy} {v1 v2 : V Sy} (h : tm.get .any 2 = .ptr 0 0) (hm : Go.Sx.look T.obs 0 = some [v1, v2]) : answer (tiOf Try.prog) ⟨tm, T⟩ 0 [.cell 2 25] = some (.agg [v1, v2], T.trim 0 (.agg [v1, v2])) := by
  simp [answer, aresults, aresult, h, loadP hm]
end Go.Proofs.Ytnaegkpaiahpmaa.Mi

/-
  Texts of series: both sides make the same, by runs by hand. No condition.
-/
import Derived.Test.YtgaodlhdilhliaaGreatDoorRows
import Derived.Test.YtgaodlhdilhliaaGreatDoorSym
import Derived.Test.YtgaodlhdilhliaaGreatDoorSymD
import Derived.Test.YtgaodlhdilhliaaGreatDoorSymE
import Derived.Test.YtgaodlhdilhliaaGreatDoorSymF
import Derived.Test.YtgaodlhdilhliaaGreatDoorIds
import Derived.Test.YtgaodlhdilhliaaGreatDoorSh
import Derived.Test.YtgaodlhdilhliaaGreatDoorSt
import Derived.Test.YtgaodlhdilhliaaGreatDoorTel
import Derived.Test.YtgaodlhdilhliaaGreatDoorNum
import Derived.Test.YtgaodlhdilhliaaGreatDoorShB
import Derived.Test.YtgaodlhdilhliaaGreatDoorSp
import Derived.Test.YtgaodlhdilhliaaGreatDoorBo
import Derived.Test.YtgaodlhdilhliaaGreatDoorBp
import Derived.WalkKit
import Derived.ProofKit
import Derived.OpenShut
namespace Go.Proofs.YtgaodlhdilhliaaGreatDoor.St
open Go.ChangeShapes Go.WideShapes Go.ChangeAt Go.RowKit Go.Sx Go.Proofs.YtgaodlhdilhliaaGreatDoor.Ids
open Go.Proofs.YtgaodlhdilhliaaGreatDoor.Tel (telK telK_ok)
set_option linter.unusedVariables false
set_option linter.unusedSimpArgs false

theorem specValidSeries_nil : symRun Tryz.prog noK [] 60 63 [.emp] ⟨0, [], 0⟩ = some (.bool false, ⟨0, [], 0⟩) := by kernel_rfl
theorem implValidSeries_nil : symRun Tryz.prog noK [] 60 57 [.emp] ⟨0, [], 0⟩ = some (.bool false, ⟨0, [], 0⟩) := by kernel_rfl
theorem sv_ok (zs : List Int) (hl : zs.length ≤ 1048576) : ∃ (K : Ctr) (n : Nat) (S : Sto Sy), (∀ (ρ : Nat → Int) (s : Sms) (B : Nat), COk Tryz.prog ⟨Sy.den ρ, s⟩ B K) ∧ symRun Tryz.prog K [] n 63 [patL zs] ⟨0, [], 0⟩ = some (.bool (decide (validP 600 zs)), S) := by
  cases zs with
  | nil => exact ⟨noK, _, _, fun _ _ _ => noK_ok, specValidSeries_nil⟩
  | cons z r => exact ⟨noK, _, _, fun _ _ _ => noK_ok, specValidSeries (z :: r) hl ((z :: r).length + 1) (by simp)⟩
noncomputable def swK (k0 : FuncId) (A B : Ctr) : Ctr := fun k args sto => bite (Nat.beq k k0) (A k args sto) (B k args sto)
theorem swK_ok {Δ : Den Sy} {B0 : Nat} {k0 : FuncId} {A B : Ctr} (hA : COk Tryz.prog Δ B0 A) (hB : COk Tryz.prog Δ B0 B) : COk Tryz.prog Δ B0 (swK k0 A B) := by
  intro k args sto r s h
  unfold swK at h
  rw [bite_eq] at h
  split at h
  · exact hA k args sto r s h
  · exact hB k args sto r s h
theorem swK_at {k0 : FuncId} {A B : Ctr} {args : List (V Sy)} {sto : Sto Sy} : swK k0 A B k0 args sto = A k0 args sto := by
  unfold swK
  rw [Nat.beq_refl, bite_true]
theorem swK_ne {k k0 : FuncId} {A B : Ctr} {args : List (V Sy)} {sto : Sto Sy} (h : ¬ Nat.beq k k0 = true) : swK k0 A B k args sto = B k args sto := by
  unfold swK
  rw [bite_eq, if_neg h]

/-! ## What is known of calls -/
def Nm (zs : List Int) : Prop := ∀ z, z ∈ zs → IntKind.i64.wrap z = z
theorem plain_rel {ρ ρ' : Nat → Int} {s : Sms} {B B' : Nat} {c c' : Cx} {z : Int} {v : Value} (h : VR ⟨Sy.den ρ, s⟩ B c (.int .i64 (.c z)) v) : VR ⟨Sy.den ρ', s⟩ B' c' (.int .i64 (.c z)) v := by
  cases h with
  | int k n => exact VR.int (Δ := ⟨Sy.den ρ', s⟩) .i64 (.c z)
open Classical in
noncomputable def dNum : List (V Sy) → Sto Sy → Option Int
  | [.int .i64 (.c z)], _ => if -9223372036854775807 ≤ z ∧ z ≤ 9223372036854775807 then some z else none
  | _, _ => none
noncomputable def numK : Ctr := telK 27 dNum (fun z _ => .str (textZ z)) (fun _ _ => [])
theorem numK_ok {ρ : Nat → Int} {s : Sms} {B : Nat} : COk Tryz.prog ⟨Sy.den ρ, s⟩ B numK := by
  refine telK_ok (body_of Tryz.func27 rfl) (fun args sto a h => ?_)
  unfold dNum at h
  split at h
  case h_2 => cases h
  rename_i z
  split at h
  case isFalse => cases h
  rename_i hz
  cases h
  refine ⟨[.int .i64 (.c a)], ⟨fun _ => 0, [.int .i64 (.c a)], _, _, [], fun _ => 0, fun s B' => run_goodK noCount mixed (fun _ _ _ => noK_ok) _ (num_run hz) B', List.nodup_nil, fun n ρ => ⟨rfl, fun j o b hj => by simp at hj, .str _⟩, fun _ _ _ _ h => h⟩, fun ρ s B c hinv vs hvs ρ' => ?_⟩
  obtain ⟨v, rfl, hv⟩ := hvs.one
  exact .cons (plain_rel hv) .nil
open Classical in
noncomputable def dVi : List (V Sy) → Sto Sy → Option (List Int)
  | [x], sto => match constsOf sto x with
    | some zs => if zs.length ≤ 1048576 ∧ Nm zs then some zs else none
    | none => none
  | _, _ => none
noncomputable def viK : Ctr := telK 57 dVi (fun zs _ => .bool (decide (validP 600 zs))) (fun _ _ => [])
theorem viK_ok {ρ : Nat → Int} {s : Sms} {B : Nat} : COk Tryz.prog ⟨Sy.den ρ, s⟩ B viK := by
  refine telK_ok (body_of Tryz.func57 rfl) (fun args sto a h => ?_)
  unfold dVi at h
  split at h
  case h_2 => cases h
  rename_i x
  split at h
  case h_2 => cases h
  rename_i zs hc
  split at h
  case isFalse => cases h
  rename_i hz
  cases h
  refine ⟨[patL a], ?_, fun ρ s B c hinv vs hvs ρ' => ?_⟩
  · cases a with
    | nil => exact ⟨fun _ => 0, [.emp], _, _, [], fun _ => 0, fun s B' => run_goodK noCount mixed (fun _ _ _ => noK_ok) _ implValidSeries_nil B', List.nodup_nil, fun n ρ => ⟨rfl, fun j o b hj => by simp at hj, .bool _⟩, fun _ _ _ _ h => h⟩
    | cons z r =>
      obtain ⟨S, hS⟩ := valid_of_runs noCount mixed (by decide) implValidSeries_runs implValidSeries_none implValidSeries_more (z :: r) hz.2
      exact ⟨fun _ => 0, [.slice (ints (nums (z :: r)))], _, S, [], fun _ => 0, fun s B' => hS _ s B', List.nodup_nil, fun n ρ => ⟨rfl, fun j o b hj => by simp at hj, .bool _⟩, fun _ _ _ _ h => h⟩
  · obtain ⟨v, rfl, hv⟩ := hvs.one
    exact .cons (patL_rel hc hz.1 hinv hv) .nil

/-! ## Texts that are cut -/
noncomputable def cutK : Ctr := fun k args sto => match args with
  | [.str s, .str sep] => bite (Nat.beq k 29) (bite (Nat.blt s.size 4294967281) (some (.tup [.str ⟨(Lib.cut s.data.toList sep.data.toList).1.toArray⟩, .str ⟨(Lib.cut s.data.toList sep.data.toList).2.1.toArray⟩, .bool (Lib.cut s.data.toList sep.data.toList).2.2], sto)) none) none
  | _ => none
noncomputable def conK : Ctr := fun k args sto => match args with
  | [.str s, .str sep] => bite (Nat.beq k 31) (bite (Nat.blt s.size 4294967281) (some (.bool (Lib.contains s.data.toList sep.data.toList), sto)) none) none
  | _ => none
theorem two_strs {Δ : Den Sy} {B : Nat} {c : Cx} {s t : ByteArray} {rargs : Array Value} (hv : VRs Δ B c [.str s, .str t] rargs.toList) : rargs = #[.string s, .string t] := by
  obtain ⟨u, v, h0, h1, h2⟩ := hv.two
  cases h1
  cases h2
  cases rargs with | mk l => simp only at h0; subst h0; rfl
theorem cutK_ok {ρ : Nat → Int} {s : Sms} {B : Nat} (hs : ∀ w, s.g w → LaidM w) : COk Tryz.prog ⟨Sy.den ρ, s⟩ B cutK := by
  intro k args sto r sto' h
  unfold cutK at h
  split at h
  case h_2 => cases h
  rename_i t sep
  simp only [bite_eq] at h
  split at h
  case isFalse => cases h
  rename_i hk
  have hk := Nat.eq_of_beq_eq_true hk
  subst hk
  split at h
  case isFalse => cases h
  rename_i hsz
  rw [Nat.blt_eq] at hsz
  cases h
  refine ⟨fun c rargs hinv hv => ?_, ⟨_, Tryz.func29, rfl⟩⟩
  have hrv := two_strs hv
  subst hrv
  obtain ⟨m, hm⟩ := hs _ (hinv.g _ (KeepC.refl _ _))
  refine (Tryz.strings_Cut t sep m c.w hsz hm).mono ?_
  rintro e w' ⟨rfl, n, rfl⟩
  exact ⟨_, ⟨_, c.κ⟩, rfl, rfl, Step.world hinv (Nat.le_refl _) (fun b hb => rfl) rfl rfl rfl (fun a ha => rfl), VR.tup rfl (fun i x u hx hu => (VRs.cons (.str _) (VRs.cons (.str _) (VRs.cons (.bool _) .nil))).2 i x u hx (by simpa using hu))⟩
theorem conK_ok {ρ : Nat → Int} {s : Sms} {B : Nat} (hs : ∀ w, s.g w → LaidM w) : COk Tryz.prog ⟨Sy.den ρ, s⟩ B conK := by
  intro k args sto r sto' h
  unfold conK at h
  split at h
  case h_2 => cases h
  rename_i t sep
  simp only [bite_eq] at h
  split at h
  case isFalse => cases h
  rename_i hk
  have hk := Nat.eq_of_beq_eq_true hk
  subst hk
  split at h
  case isFalse => cases h
  rename_i hsz
  rw [Nat.blt_eq] at hsz
  cases h
  refine ⟨fun c rargs hinv hv => ?_, ⟨_, Tryz.func31, rfl⟩⟩
  have hrv := two_strs hv
  subst hrv
  obtain ⟨m, hm⟩ := hs _ (hinv.g _ (KeepC.refl _ _))
  refine (Tryz.strings_Contains t sep m c.w hsz hm).mono ?_
  rintro e w' ⟨rfl, rfl⟩
  exact ⟨_, c, rfl, rfl, Step.refl hinv, .bool _⟩

noncomputable def KL : Ctr := swK 63 (askK 63 (fun zs => decide (validP 600 zs))) (swK 57 viK (swK 59 itoaK (swK 60 joinK (swK 27 numK (swK 55 splitK (swK 56 atoiK (swK 29 cutK (swK 31 conK (swK 36 (telK 36 (Bo.dBt [] (Bo.bothF 36 45 [])) ansR ansO) (swK 45 (telK 45 (Bo.dBt [] (Bo.bothF 36 45 [])) ansR ansO) (swK 37 (telK 37 (Bo.dBt [] (Bo.bothF 37 46 [])) ansR ansO) (swK 46 (telK 46 (Bo.dBt [] (Bo.bothF 37 46 [])) ansR ansO) (swK 38 (telK 38 (Bo.dBt [] (Bo.bothF 38 47 [])) ansR ansO) (swK 47 (telK 47 (Bo.dBt [] (Bo.bothF 38 47 [])) ansR ansO) (swK 39 (telK 39 (Bo.dBt [] (Bo.bothF 39 48 [])) ansR ansO) (swK 48 (telK 48 (Bo.dBt [] (Bo.bothF 39 48 [])) ansR ansO) (swK 40 (telK 40 (Bo.dBt [1] (Bo.bothF 40 50 [1])) ansR ansO) (swK 50 (telK 50 (Bo.dBt [1] (Bo.bothF 40 50 [1])) ansR ansO) (swK 41 (telK 41 (Bo.dBt [] (Bo.bothF 41 51 [])) ansR ansO) (swK 51 (telK 51 (Bo.dBt [] (Bo.bothF 41 51 [])) ansR ansO) (swK 42 (telK 42 (Bo.dHn (Bo.bothL 42 53)) Tel.lstR Tel.lstO) (swK 53 (telK 53 (Bo.dHn (Bo.bothL 42 53)) Tel.lstR Tel.lstO) noK))))))))))))))))))))))
theorem KL_ok {ρ : Nat → Int} {s : Sms} {B : Nat} (hs : ∀ w, s.g w → Laid w) (hm : ∀ w, s.g w → LaidM w) (he : ∀ w, s.g w → LaidE w) : COk Tryz.prog ⟨Sy.den ρ, s⟩ B KL :=
  swK_ok (askK_ok noCount mixed (body_of Tryz.func63 rfl) sv_ok) (swK_ok viK_ok (swK_ok (itoaK_ok hs) (swK_ok joinK_ok (swK_ok numK_ok (swK_ok (splitK_ok hm) (swK_ok (atoiK_ok he) (swK_ok (cutK_ok hm) (swK_ok (conK_ok hm) (swK_ok (Bo.btK_ok (kS := 36) (kI := 45) (.inl rfl) (body_of Tryz.func36 rfl) (fun zs h => Bo.exp_all h)) (swK_ok (Bo.btK_ok (kS := 36) (kI := 45) (.inr rfl) (body_of Tryz.func45 rfl) (fun zs h => Bo.exp_all h)) (swK_ok (Bo.btK_ok (kS := 37) (kI := 46) (.inl rfl) (body_of Tryz.func37 rfl) (fun zs h => Bo.log_all h)) (swK_ok (Bo.btK_ok (kS := 37) (kI := 46) (.inr rfl) (body_of Tryz.func46 rfl) (fun zs h => Bo.log_all h)) (swK_ok (Bo.btK_ok (kS := 38) (kI := 47) (.inl rfl) (body_of Tryz.func38 rfl) (fun zs h => Bo.inv_all h)) (swK_ok (Bo.btK_ok (kS := 38) (kI := 47) (.inr rfl) (body_of Tryz.func47 rfl) (fun zs h => Bo.inv_all h)) (swK_ok (Bo.btK_ok (kS := 39) (kI := 48) (.inl rfl) (body_of Tryz.func39 rfl) (fun zs h => Bo.rev_all h)) (swK_ok (Bo.btK_ok (kS := 39) (kI := 48) (.inr rfl) (body_of Tryz.func48 rfl) (fun zs h => Bo.rev_all h)) (swK_ok (Bo.btK_ok (kS := 40) (kI := 50) (.inl rfl) (body_of Tryz.func40 rfl) (fun zs h => Bo.bin_all h)) (swK_ok (Bo.btK_ok (kS := 40) (kI := 50) (.inr rfl) (body_of Tryz.func50 rfl) (fun zs h => Bo.bin_all h)) (swK_ok (Bo.btK_ok (kS := 41) (kI := 51) (.inl rfl) (body_of Tryz.func41 rfl) (fun zs h => Bo.zig_all h)) (swK_ok (Bo.btK_ok (kS := 41) (kI := 51) (.inr rfl) (body_of Tryz.func51 rfl) (fun zs h => Bo.zig_all h)) (swK_ok (Bo.hnK_ok (kS := 42) (kI := 53) (.inl rfl) (body_of Tryz.func42 rfl) (fun zs h => Bo.han_all h)) (swK_ok (Bo.hnK_ok (kS := 42) (kI := 53) (.inr rfl) (body_of Tryz.func53 rfl) (fun zs h => Bo.han_all h)) noK_ok))))))))))))))))))))))

structure Wst (S : Sto Sy) : Prop where
  desc : Desc S.next S.obs
  low : S.low ≤ S.next
/-- A call that leaves the store alone. -/
theorem call_same {k : FuncId} {args : List (V Sy)} {S : Sto Sy} {r : V Sy} (hS : Wst S) (h : KL k args ⟨S.next, S.obs, S.next⟩ = some (r, ⟨S.next, S.obs, S.next⟩)) (f : Nat) (hf : 1 ≤ f) (hk : (k : Nat) < 1000000 := by decide) : acallV (symIn Tryz.prog KL [] f) S (.func k [] []) args = some (r, S) := by
  obtain ⟨g, rfl⟩ : ∃ g, f = g + 1 := ⟨f - 1, by omega⟩
  have e : (⟨S.next, S.obs, if S.next < S.low then S.next else S.low⟩ : Sto Sy) = S := by rw [if_neg (by have := hS.low; omega)]
  refine (call_K (hk := hk) h).trans ?_
  show some (r, (⟨S.next, S.obs, if S.next < S.low then S.next else S.low⟩ : Sto Sy)) = _
  rw [e]
theorem call_run {k : FuncId} {args : List (V Sy)} {S : Sto Sy} {r : V Sy} {n : Nat} (hS : Wst S) (h : symRun Tryz.prog KL [] n k args ⟨S.next, S.obs, S.next⟩ = some (r, ⟨S.next, S.obs, S.next⟩)) (hk : (k : Nat) < 1000000 := by decide) : acallV (symIn Tryz.prog KL [] n) S (.func k [] []) args = some (r, S) := by
  have e : (⟨S.next, S.obs, if S.next < S.low then S.next else S.low⟩ : Sto Sy) = S := by rw [if_neg (by have := hS.low; omega)]
  rw [acallV_func hk, List.nil_append, List.append_nil, symIn_run hk, h]
  show some (r, (⟨S.next, S.obs, if Nat.blt S.next S.low then S.next else S.low⟩ : Sto Sy)) = _
  simp only [Nat.blt_eq]
  rw [e]
section
variable {S : Sto Sy} (hS : Wst S) (f : Nat) (hf : 1 ≤ f)
include hS hf
theorem c_num {z : Int} (h : -9223372036854775807 ≤ z ∧ z ≤ 9223372036854775807) : acallV (symIn Tryz.prog KL [] f) S (.func 27 [] []) [.int .i64 (.c z)] = some (.str (textZ z), S) := by
  refine call_same hS ?_ f hf
  unfold KL
  repeat (first | rw [swK_at] | rw [swK_ne (by decide)])
  unfold numK telK
  simp only [Nat.beq_refl, bite_true, dNum, if_pos h]
  rfl
theorem c_itoa {z : Int} (h : IntKind.i64.wrap z = z) : acallV (symIn Tryz.prog KL [] f) S (.func 59 [] []) [.int .i64 (.c z)] = some (.str (textZ z), S) := by
  refine call_same hS ?_ f hf
  unfold KL
  repeat (first | rw [swK_at] | rw [swK_ne (by decide)])
  unfold itoaK
  simp only [Nat.beq_refl, bite_true, if_pos h]
theorem c_join {q n : Nat} {cap : Option Nat} {sep : ByteArray} {xs : List ByteArray} (h : JoinD ⟨S.next, S.obs, S.next⟩ q n cap sep xs) : acallV (symIn Tryz.prog KL [] f) S (.func 60 [] []) [.rsl q 0 n cap, .str sep] = some (.str (joinB xs sep), S) := by
  refine call_same hS ?_ f hf
  unfold KL
  repeat (first | rw [swK_at] | rw [swK_ne (by decide)])
  exact joinK_eq h
theorem c_vi {x : V Sy} {zs : List Int} (h : constsOf ⟨S.next, S.obs, S.next⟩ x = some zs) (hl : zs.length ≤ 1048576) (hn : Nm zs) : acallV (symIn Tryz.prog KL [] f) S (.func 57 [] []) [x] = some (.bool (decide (validP 600 zs)), S) := by
  refine call_same hS ?_ f hf
  unfold KL
  repeat (first | rw [swK_at] | rw [swK_ne (by decide)])
  unfold viK telK
  simp only [Nat.beq_refl, bite_true, dVi, h, if_pos (And.intro hl hn)]
  rfl
theorem c_vs {x : V Sy} {zs : List Int} (h : constsOf ⟨S.next, S.obs, S.next⟩ x = some zs) (hl : zs.length ≤ 1048576) : acallV (symIn Tryz.prog KL [] f) S (.func 63 [] []) [x] = some (.bool (decide (validP 600 zs)), S) := by
  refine call_same hS ?_ f hf
  unfold KL
  repeat (first | rw [swK_at] | rw [swK_ne (by decide)])
  unfold askK
  have hb : Nat.ble zs.length 1048576 = true := by rw [Nat.ble_eq]; exact hl
  simp only [Nat.beq_refl, bite_true, h, hb]
theorem c_atoi {s : ByteArray} {v : Int} (h1 : s.size ≤ 281474976710656) (h2 : Lib.atoiAll s.data.toList = .ok v) : acallV (symIn Tryz.prog KL [] f) S (.func 56 [] []) [.str s] = some (.tup [.int .i64 (.c v), .nilIface], S) := by
  refine call_same hS ?_ f hf
  unfold KL
  repeat (first | rw [swK_at] | rw [swK_ne (by decide)])
  exact atoiK_eq h1 h2
theorem c_atoiE {s : ByteArray} (h1 : s.size ≤ 281474976710656) (h2 : ∀ v, Lib.atoiAll s.data.toList ≠ .ok v) : acallV (symIn Tryz.prog KL [] f) S (.func 56 [] []) [.str s] = some (.tup [.aint .i64, .iface errT .any], S) := by
  refine call_same hS ?_ f hf
  unfold KL
  repeat (first | rw [swK_at] | rw [swK_ne (by decide)])
  exact atoiK_err h1 h2
theorem c_split {s sep : ByteArray} {n : Int} (h : SplitD s sep n) : acallV (symIn Tryz.prog KL [] f) S (.func 55 [] []) [.str s, .str sep, .int .i64 (.c n)] = some (.rsl S.next 0 (splitX s sep n).length none, ⟨S.next + 1, (S.next, strs (splitX s sep n)) :: S.obs, S.low⟩) := by
  obtain ⟨g, rfl⟩ : ∃ g, f = g + 1 := ⟨f - 1, by omega⟩
  have e : KL 55 [.str s, .str sep, .int .i64 (.c n)] ⟨S.next, S.obs, S.next⟩ = some (.rsl S.next 0 (splitX s sep n).length none, ⟨S.next + 1, (S.next, strs (splitX s sep n)) :: S.obs, S.next⟩) := by
    unfold KL
    repeat (first | rw [swK_at] | rw [swK_ne (by decide)])
    unfold splitK
    simp only [Nat.beq_refl, bite_true, if_pos h]
  rw [call_K e, if_neg (by have := hS.low; show ¬ S.next < S.low; omega)]
theorem c_cut {s sep : ByteArray} (h : s.size < 4294967281) : acallV (symIn Tryz.prog KL [] f) S (.func 29 [] []) [.str s, .str sep] = some (.tup [.str ⟨(Lib.cut s.data.toList sep.data.toList).1.toArray⟩, .str ⟨(Lib.cut s.data.toList sep.data.toList).2.1.toArray⟩, .bool (Lib.cut s.data.toList sep.data.toList).2.2], S) := by
  refine call_same hS ?_ f hf
  unfold KL
  repeat (first | rw [swK_at] | rw [swK_ne (by decide)])
  unfold cutK
  have hb : Nat.blt s.size 4294967281 = true := by rw [Nat.blt_eq]; exact h
  simp only [Nat.beq_refl, bite_true, hb]
theorem c_con {s sep : ByteArray} (h : s.size < 4294967281) : acallV (symIn Tryz.prog KL [] f) S (.func 31 [] []) [.str s, .str sep] = some (.bool (Lib.contains s.data.toList sep.data.toList), S) := by
  refine call_same hS ?_ f hf
  unfold KL
  repeat (first | rw [swK_at] | rw [swK_ne (by decide)])
  unfold conK
  have hb : Nat.blt s.size 4294967281 = true := by rw [Nat.blt_eq]; exact h
  simp only [Nat.beq_refl, bite_true, hb]
end
end Go.Proofs.YtgaodlhdilhliaaGreatDoor.St

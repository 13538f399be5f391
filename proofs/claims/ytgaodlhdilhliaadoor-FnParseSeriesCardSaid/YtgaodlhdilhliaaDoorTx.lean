/-
  Texts of series: both sides make the same, by runs by hand. No condition.
-/
import Derived.Test.YtgaodlhdilhliaaDoorRows
import Derived.Test.YtgaodlhdilhliaaDoorSym
import Derived.Test.YtgaodlhdilhliaaDoorSymD
import Derived.Test.YtgaodlhdilhliaaDoorSymE
import Derived.Test.YtgaodlhdilhliaaDoorSymF
import Derived.Test.YtgaodlhdilhliaaDoorIds
import Derived.Test.YtgaodlhdilhliaaDoorSh
import Derived.Test.YtgaodlhdilhliaaDoorSt
import Derived.Test.YtgaodlhdilhliaaDoorTel
import Derived.Test.YtgaodlhdilhliaaDoorNum
import Derived.Test.YtgaodlhdilhliaaDoorShB
import Derived.Test.YtgaodlhdilhliaaDoorSp
import Derived.Test.YtgaodlhdilhliaaDoorDraw
import Derived.WalkKit
import Derived.ProofKit
import Derived.OpenShut
namespace Go.Proofs.YtgaodlhdilhliaaDoor.St
open Go.ChangeShapes Go.WideShapes Go.ChangeAt Go.RowKit Go.Sx Go.Proofs.YtgaodlhdilhliaaDoor.Ids
open Go.Proofs.YtgaodlhdilhliaaDoor.Tel (telK telK_ok)
set_option linter.unusedVariables false
set_option linter.unusedSimpArgs false

noncomputable def swK (k0 : FuncId) (A B : Ctr) : Ctr := fun k args sto => bite (Nat.beq k k0) (A k args sto) (B k args sto)
theorem swK_ok {Δ : Den Sy} {B0 : Nat} {k0 : FuncId} {A B : Ctr} (hA : COk Tryd.prog Δ B0 A) (hB : COk Tryd.prog Δ B0 B) : COk Tryd.prog Δ B0 (swK k0 A B) := by
  intro k args sto r s h
  unfold swK at h
  rw [bite_eq] at h
  split at h
  · exact hA k args sto r s h
  · exact hB k args sto r s h
theorem swK_at {k0 : FuncId} {A B : Ctr} {args : List (V Sy)} {sto : Sto Sy} : swK k0 A B k0 args sto = A k0 args sto := by
  unfold swK
  rw [Nat.beq_refl, bite_true]
theorem swK_ne {k k0 : FuncId} {A B : Ctr} {args : List (V Sy)} {sto : Sto Sy} (h : ¬ Nat.beq k k0 = true) : swK k0 A B k args sto = B k args sto := by
  unfold swK
  rw [bite_eq, if_neg h]

/-! ## What is known of calls -/
def Nm (zs : List Int) : Prop := ∀ z, z ∈ zs → IntKind.i64.wrap z = z
theorem plain_rel {ρ ρ' : Nat → Int} {s : Sms} {B B' : Nat} {c c' : Cx} {z : Int} {v : Value} (h : VR ⟨Sy.den ρ, s⟩ B c (.int .i64 (.c z)) v) : VR ⟨Sy.den ρ', s⟩ B' c' (.int .i64 (.c z)) v := by
  cases h with
  | int k n => exact VR.int (Δ := ⟨Sy.den ρ', s⟩) .i64 (.c z)
open Classical in
noncomputable def dNum : List (V Sy) → Sto Sy → Option Int
  | [.int .i64 (.c z)], _ => if -9223372036854775807 ≤ z ∧ z ≤ 9223372036854775807 then some z else none
  | _, _ => none
noncomputable def numK : Ctr := telK 36 dNum (fun z _ => .str (textZ z)) (fun _ _ => [])
theorem numK_ok {ρ : Nat → Int} {s : Sms} {B : Nat} : COk Tryd.prog ⟨Sy.den ρ, s⟩ B numK := by
  refine telK_ok (body_of Tryd.func36 rfl) (fun args sto a h => ?_)
  unfold dNum at h
  split at h
  case h_2 => cases h
  rename_i z
  split at h
  case isFalse => cases h
  rename_i hz
  cases h
  refine ⟨[.int .i64 (.c a)], ⟨fun _ => 0, [.int .i64 (.c a)], _, _, [], fun _ => 0, fun s B' => run_goodK noCount mixed (fun _ _ _ => noK_ok) _ (num_run hz) B', List.nodup_nil, fun n ρ => ⟨rfl, fun j o b hj => by simp at hj, .str _⟩, fun _ _ _ _ h => h⟩, fun ρ s B c hinv vs hvs ρ' => ?_⟩
  obtain ⟨v, rfl, hv⟩ := hvs.one
  exact .cons (plain_rel hv) .nil
open Classical in
noncomputable def dVi : List (V Sy) → Sto Sy → Option (List Int)
  | [x], sto => match constsOf sto x with
    | some zs => if zs.length ≤ 1048576 ∧ Nm zs then some zs else none
    | none => none
  | _, _ => none
noncomputable def viK : Ctr := telK 14 dVi (fun zs _ => .bool (decide (validP 600 zs))) (fun _ _ => [])
theorem viK_ok {ρ : Nat → Int} {s : Sms} {B : Nat} : COk Tryd.prog ⟨Sy.den ρ, s⟩ B viK := by
  refine telK_ok (body_of Tryd.func14 rfl) (fun args sto a h => ?_)
  unfold dVi at h
  split at h
  case h_2 => cases h
  rename_i x
  split at h
  case h_2 => cases h
  rename_i zs hc
  split at h
  case isFalse => cases h
  rename_i hz
  cases h
  refine ⟨[patL a], ?_, fun ρ s B c hinv vs hvs ρ' => ?_⟩
  · cases a with
    | nil => exact ⟨fun _ => 0, [.emp], _, _, [], fun _ => 0, fun s B' => run_goodK noCount mixed (fun _ _ _ => noK_ok) _ implValidSeries_nil B', List.nodup_nil, fun n ρ => ⟨rfl, fun j o b hj => by simp at hj, .bool _⟩, fun _ _ _ _ h => h⟩
    | cons z r =>
      obtain ⟨S, hS⟩ := valid_of_runs noCount mixed (by decide) implValidSeries_runs implValidSeries_none implValidSeries_more (z :: r) hz.2
      exact ⟨fun _ => 0, [.slice (ints (nums (z :: r)))], _, S, [], fun _ => 0, fun s B' => hS _ s B', List.nodup_nil, fun n ρ => ⟨rfl, fun j o b hj => by simp at hj, .bool _⟩, fun _ _ _ _ h => h⟩
  · obtain ⟨v, rfl, hv⟩ := hvs.one
    exact .cons (patL_rel hc hz.1 hinv hv) .nil

noncomputable def drK : Ctr := fun k args sto => symRun Tryd.prog Draw.K0 [] 101 k args sto
theorem drK_ok {ρ : Nat → Int} {s : Sms} {B : Nat} : COk Tryd.prog ⟨Sy.den ρ, s⟩ B drK := fun k args sto r sto' h =>
  symRun_ok noCount mixed (Γ := []) (fun f hf => by cases hf) (Draw.K0_ok ρ s B) 101 k args sto r sto' h
noncomputable def KL : Ctr := swK 15 (copyK 15) (swK 16 (sameK 16) (swK 22 (askK 22 (fun zs => decide (validP 600 zs))) (swK 14 viK (swK 33 itoaK (swK 34 joinK (swK 36 numK (swK 24 splitK (swK 25 atoiK (swK 12 drK (swK 11 (sameK 11) noK))))))))))
theorem KL_ok {ρ : Nat → Int} {s : Sms} {B : Nat} (hs : ∀ w, s.g w → Laid w) (hm : ∀ w, s.g w → LaidM w) (he : ∀ w, s.g w → LaidE w) : COk Tryd.prog ⟨Sy.den ρ, s⟩ B KL :=
  swK_ok (copyK_ok noCount mixed (body_of Tryd.func15 rfl) copy_ok) (swK_ok (sameK_ok noCount mixed (body_of Tryd.func16 rfl) same_ok)
    (swK_ok (askK_ok noCount mixed (body_of Tryd.func22 rfl) sv_ok) (swK_ok viK_ok (swK_ok (itoaK_ok hs) (swK_ok joinK_ok (swK_ok numK_ok (swK_ok (splitK_ok hm) (swK_ok (atoiK_ok he) (swK_ok drK_ok (swK_ok (sameK_ok noCount mixed (body_of Tryd.func11 rfl) equal_ok) noK_ok))))))))))

structure Wst (S : Sto Sy) : Prop where
  desc : Desc S.next S.obs
  low : S.low ≤ S.next
theorem KL_dr (args : List (V Sy)) (sto : Sto Sy) : KL 12 args sto = symRun Tryd.prog Draw.K0 [] 101 12 args sto := by
  unfold KL
  rw [swK_ne (by decide), swK_ne (by decide), swK_ne (by decide), swK_ne (by decide), swK_ne (by decide), swK_ne (by decide), swK_ne (by decide), swK_ne (by decide), swK_ne (by decide), swK_at]
  rfl
/-- A call that leaves the store alone. -/
theorem call_same {k : FuncId} {args : List (V Sy)} {S : Sto Sy} {r : V Sy} (hS : Wst S) (h : KL k args ⟨S.next, S.obs, S.next⟩ = some (r, ⟨S.next, S.obs, S.next⟩)) (f : Nat) (hf : 1 ≤ f) (hk : (k : Nat) < 1000000 := by decide) : acallV (symIn Tryd.prog KL [] f) S (.func k [] []) args = some (r, S) := by
  obtain ⟨g, rfl⟩ : ∃ g, f = g + 1 := ⟨f - 1, by omega⟩
  have e : (⟨S.next, S.obs, if S.next < S.low then S.next else S.low⟩ : Sto Sy) = S := by rw [if_neg (by have := hS.low; omega)]
  refine (call_K (hk := hk) h).trans ?_
  show some (r, (⟨S.next, S.obs, if S.next < S.low then S.next else S.low⟩ : Sto Sy)) = _
  rw [e]
theorem call_run {k : FuncId} {args : List (V Sy)} {S : Sto Sy} {r : V Sy} {n : Nat} (hS : Wst S) (h : symRun Tryd.prog KL [] n k args ⟨S.next, S.obs, S.next⟩ = some (r, ⟨S.next, S.obs, S.next⟩)) (hk : (k : Nat) < 1000000 := by decide) : acallV (symIn Tryd.prog KL [] n) S (.func k [] []) args = some (r, S) := by
  have e : (⟨S.next, S.obs, if S.next < S.low then S.next else S.low⟩ : Sto Sy) = S := by rw [if_neg (by have := hS.low; omega)]
  rw [acallV_func hk, List.nil_append, List.append_nil, symIn_run hk, h]
  show some (r, (⟨S.next, S.obs, if Nat.blt S.next S.low then S.next else S.low⟩ : Sto Sy)) = _
  simp only [Nat.blt_eq]
  rw [e]
section
variable {S : Sto Sy} (hS : Wst S) (f : Nat) (hf : 1 ≤ f)
include hS hf
theorem c_num {z : Int} (h : -9223372036854775807 ≤ z ∧ z ≤ 9223372036854775807) : acallV (symIn Tryd.prog KL [] f) S (.func 36 [] []) [.int .i64 (.c z)] = some (.str (textZ z), S) := by
  refine call_same hS ?_ f hf
  unfold KL
  rw [swK_ne (by decide), swK_ne (by decide), swK_ne (by decide), swK_ne (by decide), swK_ne (by decide), swK_ne (by decide), swK_at]
  unfold numK telK
  simp only [Nat.beq_refl, bite_true, dNum, if_pos h]
  rfl
theorem c_itoa {z : Int} (h : IntKind.i64.wrap z = z) : acallV (symIn Tryd.prog KL [] f) S (.func 33 [] []) [.int .i64 (.c z)] = some (.str (textZ z), S) := by
  refine call_same hS ?_ f hf
  unfold KL
  rw [swK_ne (by decide), swK_ne (by decide), swK_ne (by decide), swK_ne (by decide), swK_at]
  unfold itoaK
  simp only [Nat.beq_refl, bite_true, if_pos h]
theorem c_join {q n : Nat} {cap : Option Nat} {sep : ByteArray} {xs : List ByteArray} (h : JoinD ⟨S.next, S.obs, S.next⟩ q n cap sep xs) : acallV (symIn Tryd.prog KL [] f) S (.func 34 [] []) [.rsl q 0 n cap, .str sep] = some (.str (joinB xs sep), S) := by
  refine call_same hS ?_ f hf
  unfold KL
  rw [swK_ne (by decide), swK_ne (by decide), swK_ne (by decide), swK_ne (by decide), swK_ne (by decide), swK_at]
  exact joinK_eq h
theorem c_vi {x : V Sy} {zs : List Int} (h : constsOf ⟨S.next, S.obs, S.next⟩ x = some zs) (hl : zs.length ≤ 1048576) (hn : Nm zs) : acallV (symIn Tryd.prog KL [] f) S (.func 14 [] []) [x] = some (.bool (decide (validP 600 zs)), S) := by
  refine call_same hS ?_ f hf
  unfold KL
  rw [swK_ne (by decide), swK_ne (by decide), swK_ne (by decide), swK_at]
  unfold viK telK
  simp only [Nat.beq_refl, bite_true, dVi, h, if_pos (And.intro hl hn)]
  rfl
theorem c_vs {x : V Sy} {zs : List Int} (h : constsOf ⟨S.next, S.obs, S.next⟩ x = some zs) (hl : zs.length ≤ 1048576) : acallV (symIn Tryd.prog KL [] f) S (.func 22 [] []) [x] = some (.bool (decide (validP 600 zs)), S) := by
  refine call_same hS ?_ f hf
  unfold KL
  rw [swK_ne (by decide), swK_ne (by decide), swK_at]
  unfold askK
  have hb : Nat.ble zs.length 1048576 = true := by rw [Nat.ble_eq]; exact hl
  simp only [Nat.beq_refl, bite_true, h, hb]
theorem c_same {x y : V Sy} {zs : List Int} (h : constsOf ⟨S.next, S.obs, S.next⟩ x = some zs) (h' : constsOf ⟨S.next, S.obs, S.next⟩ y = some zs) (hl : zs.length ≤ 1048576) : acallV (symIn Tryd.prog KL [] f) S (.func 16 [] []) [x, y] = some (.bool true, S) := by
  refine call_same hS ?_ f hf
  unfold KL
  rw [swK_ne (by decide), swK_at]
  unfold sameK
  have hb : Nat.ble zs.length 1048576 = true := by rw [Nat.ble_eq]; exact hl
  simp only [Nat.beq_refl, bite_true, h, h', hb, sameI_of]
theorem c_copy {x : V Sy} {zs : List Int} (h : constsOf ⟨S.next, S.obs, S.next⟩ x = some zs) (hl : zs.length ≤ 1048576) : acallV (symIn Tryd.prog KL [] f) S (.func 15 [] []) [x] = some (.rsl S.next 0 zs.length none, ⟨S.next + 1, (S.next, ints (nums zs)) :: S.obs, S.low⟩) := by
  obtain ⟨g, rfl⟩ : ∃ g, f = g + 1 := ⟨f - 1, by omega⟩
  have e : KL 15 [x] ⟨S.next, S.obs, S.next⟩ = some (.rsl S.next 0 zs.length none, ⟨S.next + 1, (S.next, ints (nums zs)) :: S.obs, S.next⟩) := by
    unfold KL
    rw [swK_at]
    unfold copyK
    have hb : Nat.ble zs.length 1048576 = true := by rw [Nat.ble_eq]; exact hl
    simp only [Nat.beq_refl, bite_true, h, hb]
  rw [call_K e, if_neg (by have := hS.low; show ¬ S.next < S.low; omega)]
theorem c_atoi {s : ByteArray} {v : Int} (h1 : s.size ≤ 281474976710656) (h2 : Lib.atoiAll s.data.toList = .ok v) : acallV (symIn Tryd.prog KL [] f) S (.func 25 [] []) [.str s] = some (.tup [.int .i64 (.c v), .nilIface], S) := by
  refine call_same hS ?_ f hf
  unfold KL
  rw [swK_ne (by decide), swK_ne (by decide), swK_ne (by decide), swK_ne (by decide), swK_ne (by decide), swK_ne (by decide), swK_ne (by decide), swK_ne (by decide), swK_at]
  exact atoiK_eq h1 h2
theorem c_atoiE {s : ByteArray} (h1 : s.size ≤ 281474976710656) (h2 : ∀ v, Lib.atoiAll s.data.toList ≠ .ok v) : acallV (symIn Tryd.prog KL [] f) S (.func 25 [] []) [.str s] = some (.tup [.aint .i64, .iface errT .any], S) := by
  refine call_same hS ?_ f hf
  unfold KL
  rw [swK_ne (by decide), swK_ne (by decide), swK_ne (by decide), swK_ne (by decide), swK_ne (by decide), swK_ne (by decide), swK_ne (by decide), swK_ne (by decide), swK_at]
  exact atoiK_err h1 h2
theorem c_equal {x y : V Sy} {zs : List Int} (h : constsOf ⟨S.next, S.obs, S.next⟩ x = some zs) (h' : constsOf ⟨S.next, S.obs, S.next⟩ y = some zs) (hl : zs.length ≤ 1048576) : acallV (symIn Tryd.prog KL [] f) S (.func 11 [] []) [x, y] = some (.bool true, S) := by
  refine call_same hS ?_ f hf
  unfold KL
  rw [swK_ne (by decide), swK_ne (by decide), swK_ne (by decide), swK_ne (by decide), swK_ne (by decide), swK_ne (by decide), swK_ne (by decide), swK_ne (by decide), swK_ne (by decide), swK_ne (by decide), swK_at]
  unfold sameK
  have hb : Nat.ble zs.length 1048576 = true := by rw [Nat.ble_eq]; exact hl
  simp only [Nat.beq_refl, bite_true, h, h', hb, sameI_of]
theorem c_split {s sep : ByteArray} {n : Int} (h : SplitD s sep n) : acallV (symIn Tryd.prog KL [] f) S (.func 24 [] []) [.str s, .str sep, .int .i64 (.c n)] = some (.rsl S.next 0 (splitX s sep n).length none, ⟨S.next + 1, (S.next, strs (splitX s sep n)) :: S.obs, S.low⟩) := by
  obtain ⟨g, rfl⟩ : ∃ g, f = g + 1 := ⟨f - 1, by omega⟩
  have e : KL 24 [.str s, .str sep, .int .i64 (.c n)] ⟨S.next, S.obs, S.next⟩ = some (.rsl S.next 0 (splitX s sep n).length none, ⟨S.next + 1, (S.next, strs (splitX s sep n)) :: S.obs, S.next⟩) := by
    unfold KL
    rw [swK_ne (by decide), swK_ne (by decide), swK_ne (by decide), swK_ne (by decide), swK_ne (by decide), swK_ne (by decide), swK_ne (by decide), swK_at]
    unfold splitK
    simp only [Nat.beq_refl, bite_true, if_pos h]
  rw [call_K e, if_neg (by have := hS.low; show ¬ S.next < S.low; omega)]
end
end Go.Proofs.YtgaodlhdilhliaaDoor.St

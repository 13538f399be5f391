/-
  Words of texts, and numbers read: contracts over a world whose tables are laid. No condition.
-/
import Derived.Test.YtgaodlhdilhliaaGreatDoorRows
import Derived.Test.YtgaodlhdilhliaaGreatDoorSym
import Derived.Test.YtgaodlhdilhliaaGreatDoorSymF
import Derived.Test.YtgaodlhdilhliaaGreatDoorSh
import Derived.Test.YtgaodlhdilhliaaGreatDoorShB
import Derived.Test.YtgaodlhdilhliaaGreatDoorSt
import Derived.Lib.AppendIntMem
import Derived.WalkKit
import Derived.ProofKit
import Derived.OpenShut
namespace Go.Proofs.YtgaodlhdilhliaaGreatDoor.St
open Go.ChangeShapes Go.WideShapes Go.ChangeAt Go.RowKit Go.Sx
set_option linter.unusedVariables false
set_option linter.unusedSimpArgs false

theorem vrs_two {Δ : Den Sy} {B : Nat} {c : Cx} {x y : V Sy} {a b : Value} (h1 : VR Δ B c x a) (h2 : VR Δ B c y b) : VRs Δ B c [x, y] [a, b] := .cons h1 (.cons h2 .nil)
theorem size_of_below {B : Nat} {w w' : World} (h : Below w.heap.size w w') : ∀ a : Addr, a.block < w.heap.size → w'.frozen? a = w.frozen? a := fun a ha => World.frozen?_of_block (w := w) (h.block _ ha)

/-! ## Atoi -/
/-- What is known of the world: the two errors are there. -/
def LaidE (w : World) : Prop := (∃ tp p, w.var? Tryz.prog "strconv.ErrSyntax" = some #[.iface tp p]) ∧ ∃ tp p, w.var? Tryz.prog "strconv.ErrRange" = some #[.iface tp p]
def errT : TypeId := Tryz.laysC172_ren.t 168
open Classical in
noncomputable def atoiK : Ctr := fun k args sto => match args with
  | [.str s] => bite (Nat.beq k 56) (if s.size ≤ 281474976710656 then (if h : ∃ v, Lib.atoiAll s.data.toList = .ok v then some (.tup [.int .i64 (.c (Classical.choose h)), .nilIface], sto) else some (.tup [.aint .i64, .iface errT .any], sto)) else none) none
  | _ => none
theorem atoiK_eq {s : ByteArray} {sto : Sto Sy} {v : Int} (h1 : s.size ≤ 281474976710656) (h2 : Lib.atoiAll s.data.toList = .ok v) : atoiK 56 [.str s] sto = some (.tup [.int .i64 (.c v), .nilIface], sto) := by
  have hx : ∃ v, Lib.atoiAll s.data.toList = .ok v := ⟨v, h2⟩
  simp only [atoiK, bite_eq]
  rw [if_pos (by rfl), if_pos h1, dif_pos hx]
  have hc := Classical.choose_spec hx
  generalize Classical.choose hx = u at hc ⊢
  rw [h2] at hc
  cases hc
  rfl
theorem atoiK_err {s : ByteArray} {sto : Sto Sy} (h1 : s.size ≤ 281474976710656) (h2 : ∀ v, Lib.atoiAll s.data.toList ≠ .ok v) : atoiK 56 [.str s] sto = some (.tup [.aint .i64, .iface errT .any], sto) := by
  simp only [atoiK, bite_eq]
  rw [if_pos (by rfl), if_pos h1, dif_neg (fun ⟨v, hv⟩ => h2 v hv)]
theorem atoiK_ok {ρ : Nat → Int} {s : Sms} {B : Nat} (hs : ∀ w, s.g w → LaidE w) : COk Tryz.prog ⟨Sy.den ρ, s⟩ B atoiK := by
  intro k args sto r sto' h
  unfold atoiK at h
  split at h
  case h_2 => cases h
  rename_i t
  rw [bite_eq] at h
  split at h
  case isFalse => cases h
  rename_i hk
  have hk := Nat.eq_of_beq_eq_true hk
  subst hk
  split at h
  case isFalse => cases h
  rename_i hsz
  have harg : ∀ (c : Cx) (rargs : Array Value), VRs ⟨Sy.den ρ, s⟩ B c [.str t] rargs.toList → rargs = #[.string t] := fun c rargs hv => by
    obtain ⟨u, hv0, hv1⟩ := hv.one
    cases hv1
    cases rargs with | mk l => simp only at hv0; subst hv0; rfl
  split at h
  · rename_i hx
    have hc := Classical.choose_spec hx
    generalize Classical.choose hx = v at h hc
    cases h
    refine ⟨fun c rargs hinv hv => ?_, ⟨_, Tryz.func56, rfl⟩⟩
    have hrv := harg c rargs hv
    subst hrv
    refine (Tryz.strconv_Atoi_ok t (by omega) v hc c.w).mono ?_
    rintro e w' ⟨rfl, hw⟩
    have hb : Below c.w.heap.size c.w w' := by
      rcases hw with rfl | ⟨b, rfl⟩
      · exact Below.refl _ _
      · exact Lib.bytesWorld_below _ _ _
    exact ⟨_, ⟨_, c.κ⟩, rfl, rfl, Step.world hinv hb.size (fun b hb' => hb.block b hb') hb.os hb.tape hb.output (size_of_below (B := 0) hb), VR.tup rfl (fun i x u hx hu => (vrs_two (VR_int' (Δ := ⟨Sy.den ρ, s⟩) (p := .c v) (n := v) rfl) .nilIface).2 i x u hx (by simpa using hu))⟩
  · rename_i hx
    cases h
    refine ⟨fun c rargs hinv hv => ?_, ⟨_, Tryz.func56, rfl⟩⟩
    have hrv := harg c rargs hv
    subst hrv
    have hL := hs _ (hinv.g _ (KeepC.refl _ _))
    refine (Tryz.strconv_Atoi_err t hsz (fun v hv => hx ⟨v, hv⟩) c.w hL.1 hL.2).mono ?_
    rintro e w' ⟨n, N, rfl, hb⟩
    exact ⟨_, ⟨_, c.κ⟩, rfl, rfl, Step.world hinv hb.size (fun b hb' => hb.block b hb') hb.os hb.tape hb.output (size_of_below (B := 0) hb), VR.tup rfl (fun i x u hx hu => (vrs_two (.aint .i64 n) (.iface errT (.any _))).2 i x u hx (by simpa [errT] using hu))⟩

/-! ## SplitN -/
def SplitD (s sep : ByteArray) (n : Int) : Prop := s.size < 4294967281 ∧ 1 ≤ sep.size ∧ 1 ≤ n ∧ n ≤ 9223372036854775807
noncomputable def splitX (s sep : ByteArray) (n : Int) : List ByteArray := Lib.splitB sep 0 (min n.toNat (s.size + 1) - 1) s
open Classical in
noncomputable def splitK : Ctr := fun k args sto => match args with
  | [.str s, .str sep, .int .i64 (.c n)] => bite (Nat.beq k 55) (if SplitD s sep n then some (.rsl sto.next 0 (splitX s sep n).length none, ⟨sto.next + 1, (sto.next, strs (splitX s sep n)) :: sto.obs, sto.low⟩) else none) none
  | _ => none
/-- What is known of the world: the greatest length that is looked for at once. -/
def LaidM (w : World) : Prop := ∃ m, w.cell? ⟨0, 0, none⟩ = some (.int .i64 m)
theorem noBc_strs (xs : List ByteArray) : noBc (strs xs) = strs xs := by
  match xs with
  | [] => rfl
  | [x] => rfl
  | x :: y :: r => rfl
theorem strs_vrs {Δ : Den Sy} {B : Nat} {c : Cx} : ∀ xs : List ByteArray, VRs Δ B c (strs xs) (xs.map Value.string)
  | [] => .nil
  | x :: r => .cons (.str x) (strs_vrs r)
theorem splitK_ok {ρ : Nat → Int} {s : Sms} {B : Nat} (hs : ∀ w, s.g w → LaidM w) : COk Tryz.prog ⟨Sy.den ρ, s⟩ B splitK := by
  intro k args sto r sto' h
  unfold splitK at h
  split at h
  case h_2 => cases h
  rename_i t sep n
  rw [bite_eq] at h
  split at h
  case isFalse => cases h
  rename_i hk
  have hk := Nat.eq_of_beq_eq_true hk
  subst hk
  split at h
  case isFalse => cases h
  rename_i hx
  obtain ⟨h1, h2, h3, h4⟩ := hx
  obtain ⟨N, rfl⟩ : ∃ N : Nat, n = N := ⟨n.toNat, by omega⟩
  cases h
  refine ⟨fun c rargs hinv hv => ?_, ⟨_, Tryz.func55, rfl⟩⟩
  obtain ⟨u1, u2, u3, hv0, w1, w2, w3⟩ : ∃ u1 u2 u3, rargs.toList = [u1, u2, u3] ∧ VR ⟨Sy.den ρ, s⟩ B c (.str t) u1 ∧ VR ⟨Sy.den ρ, s⟩ B c (.str sep) u2 ∧ VR ⟨Sy.den ρ, s⟩ B c (.int .i64 (.c N)) u3 := by
    have hl := hv.1
    match hr : rargs.toList, hl with
    | [a, b, d], _ => rw [hr] at hv; exact ⟨a, b, d, rfl, hv.2 0 _ _ rfl rfl, hv.2 1 _ _ rfl rfl, hv.2 2 _ _ rfl rfl⟩
  have hrv : rargs = #[.string t, .string sep, .int .i64 N] := by
    cases w1
    cases w2
    cases w3
    cases rargs with | mk l => simp only at hv0; subst hv0; rfl
  subst hrv
  obtain ⟨m, hm⟩ := hs _ (hinv.g _ (KeepC.refl _ _))
  refine (Tryz.strings_SplitN t sep N m c.w h1 hm h2 (by omega) (by omega)).mono ?_
  rintro e w' ⟨rfl, rfl⟩
  have hlen := Lib.splitB_length_le sep 0 (min N (t.size + 1) - 1) t
  have hX : splitX t sep N = Lib.splitB sep 0 (min N (t.size + 1) - 1) t := by unfold splitX; rw [Int.toNat_natCast]
  rw [hX]
  generalize Lib.splitB sep 0 (min N (t.size + 1) - 1) t = xs at hlen
  have hle : xs.length ≤ min N (t.size + 1) := by omega
  generalize min N (t.size + 1) = M at hle
  have hsz : (Lib.cellsOf xs M).size = M := by simp [Lib.cellsOf]; omega
  have hst := Step.newBlock hinv (w' := c.w.alloc (.cells (Lib.cellsOf xs M) 9)) (rcs := Lib.cellsOf xs M) (e := 9) (cs := strs xs) (by simp) (fun b hb => heap_alloc_old c.w _ hb) (heap_alloc_new c.w _) rfl rfl rfl (by rw [hsz]; simp [strs]; omega) (by
    have e : (Lib.cellsOf xs M).toList.take (strs xs).length = xs.map Value.string := by
      simp [Lib.cellsOf, strs]
    rw [e]; exact strs_vrs xs)
  have e2 : sto.new (strs xs) = ⟨sto.next + 1, (sto.next, strs xs) :: sto.obs, sto.low⟩ := by unfold Sto.new; rw [noBc_strs]
  rw [e2] at hst
  refine ⟨_, _, rfl, rfl, hst, ?_⟩
  exact VR.rslo (newOb_κ _ _ _ _) hle (by rw [hsz]; omega)
end Go.Proofs.YtgaodlhdilhliaaGreatDoor.St

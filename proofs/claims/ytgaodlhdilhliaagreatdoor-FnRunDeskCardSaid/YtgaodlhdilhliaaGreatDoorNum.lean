/-
  Texts of numbers: what spec.number answers, by a run by hand. No condition.
-/
import Derived.Test.YtgaodlhdilhliaaGreatDoorRows
import Derived.Test.YtgaodlhdilhliaaGreatDoorSym
import Derived.Test.YtgaodlhdilhliaaGreatDoorSymE
import Derived.Test.YtgaodlhdilhliaaGreatDoorSymF
import Derived.Test.YtgaodlhdilhliaaGreatDoorIds
import Derived.Test.YtgaodlhdilhliaaGreatDoorSh
import Derived.Test.YtgaodlhdilhliaaGreatDoorSt
import Derived.WalkKit
import Derived.ProofKit
import Derived.OpenShut
namespace Go.Proofs.YtgaodlhdilhliaaGreatDoor.St
open Go.ChangeShapes Go.WideShapes Go.ChangeAt Go.RowKit Go.Sx Go.Proofs.YtgaodlhdilhliaaGreatDoor.Ids
set_option linter.unusedVariables false
set_option linter.unusedSimpArgs false

noncomputable def natsB : List UInt8 → List Nat → Bool
  | [], [] => true
  | a :: r, b :: t => bite (Nat.beq a.toNat b) (natsB r t) false
  | _, _ => false
theorem natsB_eq : ∀ {l : List UInt8} {r : List Nat}, natsB l r = true → l = r.map UInt8.ofNat
  | [], [], _ => rfl
  | [], _ :: _, h => by cases h
  | _ :: _, [], h => by cases h
  | a :: l, b :: r, h => by
    simp only [natsB, bite_eq] at h
    split at h
    · rename_i e
      have e := Nat.eq_of_beq_eq_true e
      rw [List.map_cons, ← e, ← natsB_eq h, UInt8.ofNat_toNat]
    · cases h
noncomputable def digN (u : Nat) : List Nat := bite (Nat.blt u 10) [48 + u] (bite (Nat.blt u 100) [48 + u / 10, 48 + u % 10] [48 + u / 10 / 10, 48 + u / 10 % 10, 48 + u % 10])
theorem digN_eq {u : Nat} (h : u < 1000) : Lib.decDigits u = (digN u).map UInt8.ofNat := by
  unfold digN
  rw [bite_eq, bite_eq]
  by_cases h1 : u < 10
  · rw [if_pos (by rw [Nat.blt_eq]; exact h1), Lib.decDigits, dif_pos h1]; rfl
  · rw [if_neg (by rw [Nat.blt_eq]; exact h1), Lib.decDigits, dif_neg h1]
    by_cases h2 : u < 100
    · rw [if_pos (by rw [Nat.blt_eq]; exact h2), Lib.decDigits, dif_pos (by omega)]; rfl
    · rw [if_neg (by rw [Nat.blt_eq]; exact h2), Lib.decDigits, dif_neg (by omega), Lib.decDigits, dif_pos (by omega)]; rfl
theorem dec_one {u : Nat} (h : u < 10) : Lib.decDigits u = [UInt8.ofNat (48 + u)] := by rw [Lib.decDigits, dif_pos h]
theorem dec_more {u : Nat} (h : 10 ≤ u) : Lib.decDigits u = Lib.decDigits (u / 10) ++ [UInt8.ofNat (48 + u % 10)] := by rw [Lib.decDigits, dif_neg (by omega)]
theorem dec_len : ∀ (d u : Nat), u < 10 ^ (d + 1) → (Lib.decDigits u).length ≤ d + 1
  | 0, u, h => by rw [dec_one (by simpa using h)]; simp
  | d + 1, u, h => by
    by_cases h1 : u < 10
    · rw [dec_one h1]; simp
    · have ih := dec_len d (u / 10) (by rw [Nat.pow_succ] at h; omega)
      rw [dec_more (by omega), List.length_append]
      simp
      omega
theorem dec_pos (u : Nat) : 1 ≤ (Lib.decDigits u).length := by
  by_cases h1 : u < 10
  · rw [dec_one h1]; simp
  · rw [dec_more (by omega)]; simp
theorem textZ_nat (u : Nat) : textZ (u : Int) = ⟨(Lib.decDigits u).toArray⟩ := by
  unfold textZ Lib.itoa
  rw [if_neg (by omega)]
  rfl
theorem textZ_more {u : Nat} (h : 10 ≤ u) : textZ (u : Int) = textZ ((u / 10 : Nat) : Int) ++ textZ ((u % 10 : Nat) : Int) := by
  rw [textZ_nat, textZ_nat, textZ_nat, dec_more h, dec_one (u := u % 10) (by omega)]
  apply ByteArray.ext
  apply Array.toList_inj.1
  simp [ByteArray.data_append]
theorem textZ_neg {z : Int} (h : z < 0) : textZ z = (⟨#[45]⟩ : ByteArray) ++ textZ (-z) := by
  obtain ⟨u, hu⟩ : ∃ u : Nat, -z = u := ⟨(-z).toNat, by omega⟩
  rw [hu, textZ_nat]
  unfold textZ Lib.itoa
  have e : z.natAbs = u := by omega
  rw [if_pos h, e]
  apply ByteArray.ext
  apply Array.toList_inj.1
  simp [ByteArray.data_append]
theorem textZ_len (z : Int) : (textZ z).size = (Lib.itoa z).length := by unfold textZ; simp [ByteArray.size]
theorem textZ_size {d u : Nat} (h : u < 10 ^ (d + 1)) : (textZ (u : Int)).size ≤ d + 1 := by
  rw [textZ_nat]
  have := dec_len d u h
  simpa [ByteArray.size] using this
theorem digit_txt : ∀ u : Nat, u < 10 → (ByteArray.mk #[48, 49, 50, 51, 52, 53, 54, 55, 56, 57]).extract u (u + 1) = ByteArray.mk #[UInt8.ofNat (48 + u)] := by decide +kernel
theorem digit_one {u : Nat} (h : u < 10) : (ByteArray.mk #[48, 49, 50, 51, 52, 53, 54, 55, 56, 57]).extract u (u + 1) = textZ (u : Int) := by
  rw [digit_txt u h, textZ_nat, dec_one h]
attribute [local simp] aops wants aop apure St.eval setTm_some setTm_none Tr.get_set evals pevals apureB alen tiS tiI tiB abin aint isCmp sym_lt sym_eqs sym_neqs sym_eq sym_neq sym_gtr sym_leq sym_geq sym_add sym_sub sym_mul aeff aeffB idx? ofV aindexAddr aggDesc aifc_int aun
theorem num_call {S : Sto Sy} (hl : S.low ≤ S.next) {m : Nat} {v : Int} (h : symRun Tryz.prog noK [] m 27 [.int .i64 (.c v)] ⟨S.next, S.obs, S.next⟩ = some (.str (textZ v), ⟨S.next, S.obs, S.next⟩)) : acallV (symIn Tryz.prog noK [] m) S (.func 27 [] []) [.int .i64 (.c v)] = some (.str (textZ v), S) := by
  rw [acallV_func (by decide), List.nil_append, List.append_nil, symIn_run (by decide), h]
  show some (_, (⟨S.next, S.obs, if Nat.blt S.next S.low then S.next else S.low⟩ : Sto Sy)) = _
  rw [if_neg (by rw [Nat.blt_eq]; omega)]
theorem aifc_str {T : TypeId → Option Ti} {op : BinOp} {t : TypeId} {ox oy : Operand} {a b : ByteArray} : aifc (I := Sy) T op t ox oy (.str a) (.str b) = none := rfl
theorem tiStr : tiOf Tryz.prog 9 = some ⟨.string, 1, 16, .string ⟨#[]⟩, true⟩ := by kernel_rfl
theorem sl_mid {s : ByteArray} {l h : Nat} (h1 : l ≤ h) (h2 : h ≤ s.size) : aslice (symNum []) (tiOf Tryz.prog) 9 (.str s) (some (.int .i64 (.c (l : Int)))) (some (.int .i64 (.c (h : Int)))) none = some (.str (s.extract l h)) := by
  simp [aslice, tiStr, bound, idx?, h1, h2]
theorem sl_from {s : ByteArray} {l : Nat} (h1 : l ≤ s.size) : aslice (symNum []) (tiOf Tryz.prog) 9 (.str s) (some (.int .i64 (.c (l : Int)))) none none = some (.str (s.extract l s.size)) := by
  simp [aslice, tiStr, bound, idx?, h1]
theorem sl_to {s : ByteArray} {h : Nat} (h1 : h ≤ s.size) : aslice (symNum []) (tiOf Tryz.prog) 9 (.str s) none (some (.int .i64 (.c (h : Int)))) none = some (.str (s.extract 0 h)) := by
  simp [aslice, tiStr, bound, idx?, h1]
set_option maxRecDepth 10000 in
theorem num_pos {S : Sto Sy} (hd0 : Desc S.next S.obs) : ∀ (d u : Nat), u < 10 ^ (d + 1) → d ≤ 30 → (u : Int) ≤ 9223372036854775807 → ∀ m, symRun Tryz.prog noK [] (m + d + 1) 27 [.int .i64 (.c u)] ⟨S.next, S.obs, S.next⟩ = some (.str (textZ (u : Int)), ⟨S.next, S.obs, S.next⟩) := by
  intro d
  induction d with
  | zero =>
    intro u h _ hu m
    have h10 : u < 10 := by simpa using h
    have hd := digit_one h10
    have c1 : ¬ (u : Int) < 0 := by omega
    have c2 : (u : Int) < 10 := by omega
    have hw := wrap_in (a := (u : Int) + 1) (by omega) (by omega)
    have hsl := sl_mid (s := ByteArray.mk #[48, 49, 50, 51, 52, 53, 54, 55, 56, 57]) (l := u) (h := u + 1) (by omega) (by show u + 1 ≤ 10; omega)
    rw [hd, Int.natCast_add, Int.natCast_one] at hsl
    refine own_run (by rfl) Tryz.func27 rfl rfl ?_
    simp only [Tryz.f27]
    repeat' (first | refine Wp.seq ?_ | refine Wp.block ?_ | (apply Wp.region; focus ((try simp [setArgs, c1, c2, hw, oeval, hsl]) <;> rfl)) | (refine Wp.cond_t ?_ ?_; focus (simp [setArgs, c1, c2, hw, oeval, hsl]; done)) | (refine Wp.cond_f ?_ ?_; focus (simp [setArgs, c1, c2, hw, oeval, hsl]; done)) | refine Wp.skip ?_ | refine Wp.ret ?_ | refine Wp.exit ?_ | refine Blk.here ?_ | (refine Blk.past ?_ ?_; focus (simp; done)))
    refine ⟨rfl, ?_⟩
    simp [answer, aresults, aresult]
    exact trim_plain (sto := ⟨S.next, S.obs, S.next⟩) hd0 rfl
  | succ d ih =>
    intro u h hd30 hu m
    by_cases h10 : u < 10
    · have hd := digit_one h10
      have c1 : ¬ (u : Int) < 0 := by omega
      have c2 : (u : Int) < 10 := by omega
      have hw := wrap_in (a := (u : Int) + 1) (by omega) (by omega)
      have hsl := sl_mid (s := ByteArray.mk #[48, 49, 50, 51, 52, 53, 54, 55, 56, 57]) (l := u) (h := u + 1) (by omega) (by show u + 1 ≤ 10; omega)
      rw [hd, Int.natCast_add, Int.natCast_one] at hsl
      refine own_run (by rfl) Tryz.func27 rfl rfl ?_
      simp only [Tryz.f27]
      repeat' (first | refine Wp.seq ?_ | refine Wp.block ?_ | (apply Wp.region; focus ((try simp [setArgs, c1, c2, hw, oeval, hsl]) <;> rfl)) | (refine Wp.cond_t ?_ ?_; focus (simp [setArgs, c1, c2, hw, oeval, hsl]; done)) | (refine Wp.cond_f ?_ ?_; focus (simp [setArgs, c1, c2, hw, oeval, hsl]; done)) | refine Wp.skip ?_ | refine Wp.ret ?_ | refine Wp.exit ?_ | refine Blk.here ?_ | (refine Blk.past ?_ ?_; focus (simp; done)))
      refine ⟨rfl, ?_⟩
      simp [answer, aresults, aresult]
      exact trim_plain (sto := ⟨S.next, S.obs, S.next⟩) hd0 rfl
    · have c1 : ¬ (u : Int) < 0 := by omega
      have c2 : ¬ (u : Int) < 10 := by omega
      have hlt : u / 10 < 10 ^ (d + 1) := by rw [Nat.pow_succ] at h; omega
      have hlt2 : u % 10 < 10 ^ (d + 1) := by
        have : 10 ^ 1 ≤ 10 ^ (d + 1) := Nat.pow_le_pow_right (by omega) (by omega)
        omega
      have r1 := num_call (S := ⟨S.next, S.obs, S.next⟩) (Nat.le_refl _) (ih (u / 10) hlt (by omega) (by omega) m)
      have r2 := num_call (S := ⟨S.next, S.obs, S.next⟩) (Nat.le_refl _) (ih (u % 10) hlt2 (by omega) (by omega) m)
      have e1 : (u : Int).tdiv 10 = ((u / 10 : Nat) : Int) := (Int.ofNat_tdiv u 10).symm
      have e2 : (u : Int).tmod 10 = ((u % 10 : Nat) : Int) := (Int.ofNat_tmod u 10).symm
      have q1 := sym_quo [] (u : Int) 10 (by omega)
      have q2 := sym_rem [] (u : Int) 10 (by omega)
      rw [e1, wrap_in (by omega) (by omega)] at q1
      rw [e2] at q2
      have s1 := textZ_size hlt
      have s2 := textZ_size hlt2
      have g := textZ_more (u := u) (by omega)
      have gs : (textZ ((u / 10 : Nat) : Int)).size + (textZ ((u % 10 : Nat) : Int)).size ≤ 9223372036854775807 := by omega
      generalize u / 10 = u1 at r1 q1 g gs
      generalize u % 10 = u2 at r2 q2 g gs
      refine own_run (by rfl) Tryz.func27 rfl rfl ?_
      simp only [Tryz.f27]
      have em : m + (d + 1) = m + d + 1 := rfl
      rw [em]
      repeat' (first | refine Wp.seq ?_ | refine Wp.block ?_ | (apply Wp.region; focus ((try simp [setArgs, c1, c2, q1, q2, r1, r2, gs, aifc_str]) <;> rfl)) | (refine Wp.cond_t ?_ ?_; focus (simp [setArgs, c1, c2, q1, q2, r1, r2, gs, aifc_str]; done)) | (refine Wp.cond_f ?_ ?_; focus (simp [setArgs, c1, c2, q1, q2, r1, r2, gs, aifc_str]; done)) | refine Wp.skip ?_ | refine Wp.ret ?_ | refine Wp.exit ?_ | refine Blk.here ?_ | (refine Blk.past ?_ ?_; focus (simp; done)))
      refine ⟨rfl, ?_⟩
      simp [answer, aresults, aresult, g]
      exact trim_plain (sto := ⟨S.next, S.obs, S.next⟩) hd0 rfl
theorem abs_lt {u : Nat} (h : (u : Int) ≤ 9223372036854775807) : u < 10 ^ (18 + 1) := by
  have : (10 : Nat) ^ (18 + 1) = 10000000000000000000 := by decide
  omega
theorem num_any {S : Sto Sy} (hd0 : Desc S.next S.obs) {z : Int} (h : -9223372036854775807 ≤ z ∧ z ≤ 9223372036854775807) (m : Nat) : symRun Tryz.prog noK [] (m + 20) 27 [.int .i64 (.c z)] ⟨S.next, S.obs, S.next⟩ = some (.str (textZ z), ⟨S.next, S.obs, S.next⟩) := by
  by_cases hz : z < 0
  · obtain ⟨u, hu⟩ : ∃ u : Nat, -z = u := ⟨(-z).toNat, by omega⟩
    have r := num_call (S := ⟨S.next, S.obs, S.next⟩) (Nat.le_refl _) (num_pos hd0 18 u (abs_lt (by omega)) (by omega) (by omega) m)
    have e := textZ_neg hz
    rw [hu] at e
    have sz := textZ_size (abs_lt (u := u) (by omega))
    have gs : (ByteArray.mk #[45]).size + (textZ (u : Int)).size ≤ 9223372036854775807 := by
      have : (ByteArray.mk #[45]).size = 1 := rfl
      omega
    have hw : IntKind.i64.wrap (-z) = u := by rw [hu, wrap_in (by omega) (by omega)]
    have hw0 : IntKind.i64.wrap (0 - z) = u := by rw [Int.zero_sub]; exact hw
    refine own_run (by rfl) Tryz.func27 rfl rfl ?_
    simp only [Tryz.f27]
    repeat' (first | refine Wp.seq ?_ | refine Wp.block ?_ | (apply Wp.region; focus ((try simp [setArgs, hz, hw, hw0, r, gs, aifc_str]) <;> rfl)) | (refine Wp.cond_t ?_ ?_; focus (simp [setArgs, hz, hw, hw0, r, gs, aifc_str]; done)) | (refine Wp.cond_f ?_ ?_; focus (simp [setArgs, hz, hw, hw0, r, gs, aifc_str]; done)) | refine Wp.skip ?_ | refine Wp.ret ?_ | refine Wp.exit ?_ | refine Blk.here ?_ | (refine Blk.past ?_ ?_; focus (simp; done)))
    refine ⟨rfl, ?_⟩
    simp [answer, aresults, aresult, e]
    exact trim_plain (sto := ⟨S.next, S.obs, S.next⟩) hd0 rfl
  · obtain ⟨u, rfl⟩ : ∃ u : Nat, z = u := ⟨z.toNat, by omega⟩
    have e : m + 20 = m + 1 + 18 + 1 := by omega
    rw [e]
    exact num_pos hd0 18 u (abs_lt (by omega)) (by omega) (by omega) (m + 1)
theorem num_run {z : Int} (h : -9223372036854775807 ≤ z ∧ z ≤ 9223372036854775807) : symRun Tryz.prog noK [] 60 27 [.int .i64 (.c z)] ⟨0, [], 0⟩ = some (.str (textZ z), ⟨0, [], 0⟩) := num_any (S := ⟨0, [], 0⟩) trivial h 40
theorem textZ_any {z : Int} (h : -9223372036854775807 ≤ z ∧ z ≤ 9223372036854775807) : (textZ z).size ≤ 20 := by
  by_cases hz : z < 0
  · obtain ⟨u, hu⟩ : ∃ u : Nat, -z = u := ⟨(-z).toNat, by omega⟩
    have sz := textZ_size (abs_lt (u := u) (by omega))
    rw [textZ_neg hz, hu, ByteArray.size_append]
    have : (ByteArray.mk #[45]).size = 1 := rfl
    omega
  · obtain ⟨u, rfl⟩ : ∃ u : Nat, z = u := ⟨z.toNat, by omega⟩
    have := textZ_size (abs_lt (u := u) (by omega))
    omega
end Go.Proofs.YtgaodlhdilhliaaGreatDoor.St

/-
  Texts that are drawn from bytes, by runs by hand. No condition.
-/
import Derived.Test.YtgaodlhdilhliaaGreatDoorRows
import Derived.Test.YtgaodlhdilhliaaGreatDoorSym
import Derived.Test.YtgaodlhdilhliaaGreatDoorSymD
import Derived.Test.YtgaodlhdilhliaaGreatDoorSymE
import Derived.Test.YtgaodlhdilhliaaGreatDoorSymF
import Derived.Test.YtgaodlhdilhliaaGreatDoorIds
import Derived.Test.YtgaodlhdilhliaaGreatDoorDraw
import Derived.Test.YtgaodlhdilhliaaGreatDoorDrawC
import Derived.Test.YtgaodlhdilhliaaGreatDoorDrawX
import Derived.Test.YtgaodlhdilhliaaGreatDoorSh
import Derived.Test.YtgaodlhdilhliaaGreatDoorSt
import Derived.Test.YtgaodlhdilhliaaGreatDoorNum
import Derived.Test.YtgaodlhdilhliaaGreatDoorTx
import Derived.Test.YtgaodlhdilhliaaGreatDoorTy
import Derived.Test.YtgaodlhdilhliaaGreatDoorPb
import Derived.Test.YtgaodlhdilhliaaGreatDoorPd
import Derived.Test.YtgaodlhdilhliaaGreatDoorTg
import Derived.WalkKit
import Derived.ProofKit
import Derived.OpenShut
namespace Go.Proofs.YtgaodlhdilhliaaGreatDoor.Draw
open Go.ChangeShapes Go.WideShapes Go.ChangeAt Go.RowKit Go.Sx Go.Proofs.YtgaodlhdilhliaaGreatDoor.Ids Go.Proofs.YtgaodlhdilhliaaGreatDoor.St
set_option linter.unusedVariables false
set_option linter.unusedSimpArgs false

theorem u8s_len (bs : List Int) : (u8s bs).length = bs.length := u8s_length bs
attribute [local simp] aops wants aop apure St.eval setTm_some setTm_none Tr.get_set evals pevals apureB alen tiS tiI tiB tiY tiU tiSs tiStr fa0 fa1 abin aint isCmp sym_lt sym_eqs sym_neqs sym_eq sym_neq sym_gtr sym_leq sym_geq sym_add sym_sub sym_mul aeff aeffB idx? ofV aindexAddr aindex aggDesc aifc_int aifc_str
set_option maxRecDepth 10000 in
theorem ofR (bs : List Int) (hbs : ∀ b, b ∈ bs → 0 ≤ b ∧ b < 256) (o : Nat) (p : Int) (xs : List ByteArray) (sto : Sto Sy) (h : Rd bs o p sto) (hp : p ≤ 1000000) (q : Nat) (hq : q ≠ o) (hz : Go.Sx.look sto.obs q = some (St.strs xs))
    (h1 : 1 ≤ xs.length) (h2 : xs.length ≤ 1000000) (m : Nat) :
    ∃ r, symRun Tryz.prog K0 [] (m + 2) 19 [.ptr o 0, .rsl q 0 xs.length (some xs.length)] sto = some r ∧ ∃ x sto', r = (.str x, sto') ∧ x ∈ xs ∧ Nx bs o p (p + 1) sto sto' := by
  refine own_run2 hK0 Tryz.func19 rfl rfl ?_
  simp only [Tryz.f19]
  obtain ⟨_, hr, x, s1, rfl, hx0, hx1, hn⟩ := pick bs hbs o p xs.length ⟨sto.next, sto.obs, sto.next⟩ ⟨h.obj, h.desc, h.p0⟩ hp (by omega) m
  have hk := hn.keep q _ hq hz
  have hxl : x.toNat < xs.length := by omega
  have hlow := hn.low
  have hlt := h.lt
  have hn2 := hn.call
  have hc : acallV (symIn Tryz.prog K0 [] (m + 1)) sto (.func 15 [] []) [.ptr o 0, .int .i64 (.c xs.length)] = some (.int .i64 (.c x), ⟨s1.next, s1.obs, if s1.low < sto.low then s1.low else sto.low⟩) := by
    rw [acallV_func (by decide), List.nil_append, List.append_nil, symIn_run (by decide), hr]
    simp only [Nat.blt_eq]
  have ld := St.loadS (S := ⟨s1.next, s1.obs, if s1.low < sto.low then s1.low else sto.low⟩) (q := q) (i := x.toNat) (xs := xs) hk hxl
  have hxm : xs[x.toNat] ∈ xs := List.getElem_mem hxl
  generalize xs[x.toNat] = y at ld hxm
  generalize (⟨s1.next, s1.obs, if s1.low < sto.low then s1.low else sto.low⟩ : Sto Sy) = S9 at hc ld hn2
  repeat' (first | refine Wp.seq ?_ | refine Wp.block ?_ | (apply Wp.region; focus ((try simp [setArgs, hc, hx0, hx1, hxl, ld]) <;> rfl)) | (refine Wp.cond_t ?_ ?_; focus (simp [setArgs, hc, hx0, hx1, hxl, ld]; done)) | (refine Wp.cond_f ?_ ?_; focus (simp [setArgs, hc, hx0, hx1, hxl, ld]; done)) | refine Wp.skip ?_ | refine Wp.ret ?_ | refine Wp.exit ?_ | refine Blk.here ?_ | (refine Blk.past ?_ ?_; focus (simp; done)))
  refine ⟨rfl, (.str y, S9), ?_, _, _, rfl, hxm, hn2⟩
  simp [answer, aresults, aresult]
  exact trim_low (Nat.lt_of_le_of_lt hn2.low hlt)
/-- One of a list of texts that is written out. -/
theorem ofC (bs : List Int) (hbs : ∀ b, b ∈ bs → 0 ≤ b ∧ b < 256) {o : Nat} {P : Int} {S : Sto Sy} (h : Rdy bs o P S) (hP : P ≤ 1000000) (xs : List ByteArray) (k : Nat) (hk : xs.length = k) (hk1 : 1 ≤ k) (hk2 : k ≤ 1000000) (f : Nat) (hf : 2 ≤ f) :
    ∃ x S1, acallV (symIn Tryz.prog K0 [] f) (S.new (St.strs xs)) (.func 19 [] []) [.ptr o 0, .rsl S.next 0 k (some k)] = some (.str x, S1) ∧ Nw bs o (P + 1) [] S S1 ∧ x ∈ xs := by
  subst hk
  obtain ⟨m, rfl⟩ : ∃ m, f = m + 2 := ⟨f - 2, by omega⟩
  obtain ⟨p, hp, hr⟩ := (h.new (St.strs xs)).lows (S.new (St.strs xs)).next
  obtain ⟨_, h1, x, s1, rfl, h2, h4⟩ := ofR bs hbs o p xs _ hr (by omega) S.next (by have := h.lt; omega) (new_strs S _) hk1 hk2 m
  obtain ⟨v, S1, k1, k2, k3⟩ := run_call (Φ := fun v _ => v = .str x) ⟨_, h1, h4.nw (Q := P + 1) (by omega), rfl⟩
  subst k3
  exact ⟨x, S1, k1, k2.ahead h.desc (fun k hk => by cases hk), h2⟩
def xs8 : List ByteArray := [⟨#[48]⟩, ⟨#[49]⟩, ⟨#[55]⟩, ⟨#[45]⟩, ⟨#[44]⟩, ⟨#[45, 45]⟩, ⟨#[97]⟩, ⟨#[32]⟩]
def xs5 : List ByteArray := [⟨#[48]⟩, ⟨#[49]⟩, ⟨#[32]⟩, ⟨#[44]⟩, ⟨#[44, 45, 48]⟩]
theorem litS8 (sto : Sto Sy) : abuildSlice (symNum []) (tiOf Tryz.prog) sto 23 8 [(0, .str ⟨#[48]⟩), (1, .str ⟨#[49]⟩), (2, .str ⟨#[55]⟩), (3, .str ⟨#[45]⟩), (4, .str ⟨#[44]⟩), (5, .str ⟨#[45, 45]⟩), (6, .str ⟨#[97]⟩), (7, .str ⟨#[32]⟩)] = some (.rsl sto.next 0 8 (some 8), sto.new (St.strs xs8)) := by kernel_rfl
theorem litS5 (sto : Sto Sy) : abuildSlice (symNum []) (tiOf Tryz.prog) sto 23 5 [(0, .str ⟨#[48]⟩), (1, .str ⟨#[49]⟩), (2, .str ⟨#[32]⟩), (3, .str ⟨#[44]⟩), (4, .str ⟨#[44, 45, 48]⟩)] = some (.rsl sto.next 0 5 (some 5), sto.new (St.strs xs5)) := by kernel_rfl
theorem xs8_size : ∀ x, x ∈ xs8 → x.size ≤ 3 := by decide +kernel
theorem xs5_size : ∀ x, x ∈ xs5 → x.size ≤ 3 := by decide +kernel
theorem refs_strs (xs : List ByteArray) : refsL (St.strs xs) = [] := by
  induction xs with
  | nil => rfl
  | cons b r ih => simpa [St.strs, refsL, V.refs] using ih
theorem inNs_strs {ok : Nat → Bool} (xs : List ByteArray) : inNs ok (St.strs xs) = true := by
  induction xs with
  | nil => rfl
  | cons b r ih => simpa [St.strs, inNs, V.inN] using ih
theorem ext_size (s : ByteArray) (a b : Nat) : (s.extract a b).size ≤ s.size := by
  rw [size_list, size_list, ext_list, List.length_drop, List.length_take]; omega

set_option maxRecDepth 100000 in
theorem mutate (bs : List Int) (hbs : ∀ b, b ∈ bs → 0 ≤ b ∧ b < 256) {o : Nat} {P : Int} {S : Sto Sy} (h : Rdy bs o P S) (hP : P ≤ 900000) (s : ByteArray) (hs : s.size ≤ 1000) (f : Nat) (hf : 5 ≤ f) :
    ∃ v S1, acallV (symIn Tryz.prog K0 [] f) S (.func 21 [] []) [.ptr o 0, .str s] = some (v, S1) ∧ Nw bs o (P + 5) [] S S1 ∧ ∃ x : ByteArray, v = .str x ∧ x.size ≤ 3000 := by
  obtain ⟨g, rfl⟩ : ∃ g, f = g + 1 := ⟨f - 1, by omega⟩
  refine run_call (Φ := fun v obs => ∃ x : ByteArray, v = .str x ∧ x.size ≤ 3000) (own_run2 hK0 Tryz.func21 rfl rfl ?_)
  simp only [Tryz.f21]
  have h0 := h.lows S.next
  have hlt := h.lt
  have hN : (⟨S.next, S.obs, S.next⟩ : Sto Sy).next = S.next := rfl
  generalize (⟨S.next, S.obs, S.next⟩ : Sto Sy) = S0 at h0 hN ⊢
  have hw := wrap_in (a := (s.size : Int) + 1) (by omega) (by omega)
  obtain ⟨k, S1, hc1, hn1, hk0, hk1⟩ := pickC bs hbs h0 (by omega) ((s.size : Int) + 1) (by omega) g (by omega)
  obtain ⟨k, rfl⟩ : ∃ j : Nat, k = j := ⟨k.toNat, by omega⟩
  obtain ⟨x, S2, hc2, hn2, hx0, hx1⟩ := pickC bs hbs hn1.rd (by omega) 5 (by omega) g (by omega)
  have t2 := hn1.trans h0.desc hn2 (by simp)
  have hks : k ≤ s.size := by omega
  have hsl := sl_to (s := s) hks
  have b1 := ext_size s 0 k
  have hkS : IntKind.i64.wrap ((k : Int) + 1) = (k : Int) + 1 := wrap_in (by omega) (by omega)
  by_cases x2 : x = 2
  · subst x2
    repeat' (first | refine Wp.seq ?_ | refine Wp.block ?_ | (apply Wp.region; focus ((try simp [setArgs, hw, hc1, hc2, oeval, hsl]) <;> rfl)) | (refine Wp.cond_t ?_ ?_; focus (simp [setArgs, hw, hc1, hc2, oeval, hsl]; done)) | (refine Wp.cond_f ?_ ?_; focus (simp [setArgs, hw, hc1, hc2, oeval, hsl]; done)) | refine Wp.skip ?_ | refine Wp.ret ?_ | refine Wp.exit ?_ | refine Blk.here ?_ | (refine Blk.past ?_ ?_; focus (simp; done)))
    exact ⟨rfl, answer_one (v := .str (s.extract 0 k)) (by simp) (t2.lowlt h0 hN) ⟨t2.more (by omega), _, rfl, by omega⟩⟩
  by_cases x3 : x = 3
  · subst x3
    obtain ⟨y, S3, hc3, hn3, hy⟩ := ofC bs hbs t2.rd (by omega) xs5 5 rfl (by omega) (by omega) g (by omega)
    have t3 := t2.trans h0.desc hn3 (by simp)
    have hy3 := xs5_size y hy
    have gs : s.size + y.size ≤ 9223372036854775807 := by omega
    repeat' (first | refine Wp.seq ?_ | refine Wp.block ?_ | (apply Wp.region; focus ((try simp [setArgs, hw, hc1, hc2, litS5, hc3, gs]) <;> rfl)) | (refine Wp.cond_t ?_ ?_; focus (simp [setArgs, hw, hc1, hc2, litS5, hc3, gs]; done)) | (refine Wp.cond_f ?_ ?_; focus (simp [setArgs, hw, hc1, hc2, litS5, hc3, gs]; done)) | refine Wp.skip ?_ | refine Wp.ret ?_ | refine Wp.exit ?_ | refine Blk.here ?_ | (refine Blk.past ?_ ?_; focus (simp; done)))
    exact ⟨rfl, answer_one (v := .str (s ++ y)) (by simp) (t3.lowlt h0 hN) ⟨t3.more (by omega), _, rfl, by rw [ByteArray.size_append]; omega⟩⟩
  by_cases x01 : x = 0 ∨ x = 1
  · by_cases hkl : k < s.size
    · have hkl2 : (k : Int) < s.size := by omega
      have hsr := sl_from (s := s) (l := k + 1) (by omega)
      rw [Int.natCast_add, Int.natCast_one] at hsr
      have b2 := ext_size s (k + 1) s.size
      obtain ⟨pR, _, rR⟩ := t2.rd
      have oU := rR.obj
      have dU := rR.desc
      have lt0 := rR.lt
      have l2 := t2.low
      have lU : S2.low ≤ S2.next := by omega
      have hR2 : Rdy bs o (P + 1 + 1) (S2.new (St.strs xs8)) := t2.rd.new (St.strs xs8)
      have hl2 := St.new_strs S2 xs8
      have eN2 : (S2.new (St.strs xs8)).obs = (S2.next, St.strs xs8) :: S2.obs := by
        show (S2.next, noBc (St.strs xs8)) :: S2.obs = _
        rw [noBc_strs]
      have eNn : (S2.new (St.strs xs8)).next = S2.next + 1 := rfl
      have eNl : (S2.new (St.strs xs8)).low = S2.low := rfl
      obtain ⟨T2, hT2⟩ : ∃ T2 : Sto Sy, T2 = S2.new (St.strs xs8) := ⟨_, rfl⟩
      rw [← hT2] at hR2 hl2 eN2 eNn eNl
      obtain ⟨m, rfl⟩ : ∃ m, g = m + 2 := ⟨g - 2, by omega⟩
      obtain ⟨v10, S10, hc10, hn10, y, rfl, hy⟩ : ∃ v S, acallV (symIn Tryz.prog K0 [] (m + 2)) ⟨S2.next + 1, onlyObs [o, S2.next] T2.obs, S2.next + 1⟩ (.func 19 [] []) [.ptr o 0, .rsl S2.next 0 8 (some 8)] = some (v, S) ∧ Nw bs o (P + 1 + 1 + 1) [] ⟨S2.next + 1, onlyObs [o, S2.next] T2.obs, S2.next + 1⟩ S ∧ ∃ y, v = .str y ∧ y ∈ xs8 := by
        obtain ⟨p, hp, hr'⟩ := hR2
        have hd' := hr'.desc
        rw [eNn] at hd'
        have hZ : Rd bs o p (⟨S2.next + 1, onlyObs [o, S2.next] T2.obs, S2.next + 1⟩ : Sto Sy) := ⟨by show Go.Sx.look (onlyObs [o, S2.next] T2.obs) o = _; rw [onlyObs_look, if_pos (by simp)]; exact hr'.obj, onlyObs_desc hd', hr'.p0⟩
        obtain ⟨_, h1', x, s1, rfl, h2', h4'⟩ := ofR bs hbs o p xs8 _ hZ (by omega) S2.next (by omega) (by show Go.Sx.look (onlyObs [o, S2.next] T2.obs) S2.next = _; rw [onlyObs_look, if_pos (by simp)]; exact hl2) (by decide) (by decide) m
        exact run_call (Φ := fun v _ => ∃ y, v = .str y ∧ y ∈ xs8) ⟨_, h1', h4'.nw (by omega), x, rfl, h2'⟩
      obtain ⟨v9, W9, hd9, hm9, _⟩ : ∃ v S, acallV (symIn Tryz.prog K0 [] (m + 2)) ⟨S2.next + 1, (S2.next, St.strs xs8) :: S2.obs, S2.next + 1⟩ (.func 19 [] []) [.ptr o 0, .rsl S2.next 0 8 (some 8)] = some (v, S) ∧ Nw bs o (P + 1 + 1 + 1) [] ⟨S2.next + 1, (S2.next, St.strs xs8) :: S2.obs, S2.next + 1⟩ S ∧ True := by
        obtain ⟨p, hp, hr'⟩ := hR2.lows (S2.next + 1)
        rw [eNn, eN2] at hr'
        rw [eN2] at hl2
        obtain ⟨_, h1', x, s1, rfl, h2', h4'⟩ := ofR bs hbs o p xs8 _ hr' (by omega) S2.next (by omega) hl2 (by decide) (by decide) m
        exact run_call (Φ := fun _ _ => True) ⟨_, h1', h4'.nw (Q := P + 1 + 1 + 1) (by omega), trivial⟩
      have hble : Nat.ble (S2.next + 1) W9.low = false := by have := hm9.low; rw [Bool.eq_false_iff, ne_eq, Nat.ble_eq]; omega
      have hn10' : Nw bs o (P + 1 + 1 + 1) [] ⟨T2.next, onlyObs [o, S2.next] T2.obs, T2.next⟩ S10 := by rw [eNn]; exact hn10
      have j10 := joined2 hR2 hl2 (by omega) hn10' S2.low l2
      obtain ⟨J3, hJ3⟩ : ∃ J3 : Sto Sy, J3 = ⟨S10.next, takeNew T2.next S10.obs ++ over [o, S2.next] S10.obs T2.obs, if Nat.blt S10.low S2.low then S10.low else S2.low⟩ := ⟨_, rfl⟩
      rw [← hJ3] at j10
      have eJ3n : J3.next = S10.next := by rw [hJ3]
      have eJ3o : J3.obs = takeNew (S2.next + 1) S10.obs ++ over [o, S2.next] S10.obs T2.obs := by rw [hJ3, eNn]
      have eJ3l : J3.low = if Nat.blt S10.low S2.low then S10.low else S2.low := by rw [hJ3]
      have j10' : Nw bs o (P + 1 + 1 + 1) [] (S2.new (St.strs xs8)) J3 := by rw [← hT2]; exact j10
      have t3 : Nw bs o (P + 1 + 1 + 1) [] S0 J3 := t2.trans h0.desc (j10'.ahead (ex := []) dU (fun k hk => by cases hk)) (by simp)
      have hy3 := xs8_size y hy
      have g1 : (s.extract 0 k).size + y.size ≤ 9223372036854775807 := by omega
      have g2 : (s.extract 0 k ++ y).size + (s.extract (k + 1) s.size).size ≤ 9223372036854775807 := by rw [ByteArray.size_append]; omega
      have g2' : (s.extract 0 k).size + y.size + (s.extract (k + 1) s.size).size ≤ 9223372036854775807 := by omega
      have gsz : (s.extract 0 k ++ y ++ s.extract (k + 1) s.size).size ≤ 3000 := by rw [ByteArray.size_append, ByteArray.size_append]; omega
      have tkU := takeNew_id dU
      have dT : Desc (S2.next + 1) ((S2.next, St.strs xs8) :: S2.obs) := ⟨Nat.lt_succ_self _, dU⟩
      generalize s.extract 0 k = pre at hsl g1 g2 g2' gsz
      generalize s.extract (k + 1) s.size = post at hsr g2 g2' gsz
      have nb8 : noBc (St.strs xs8) = St.strs xs8 := noBc_strs _
      have ob0 : ∀ ok : Nat → Bool, obsIn ok (onlyObs [] S2.obs) = true := fun ok => by rw [onlyObs_nil]; rfl
      have rf8 : refsL (St.strs xs8) = [] := refs_strs _
      have fin : ∀ st : St Sy, st.tm.get .any 4 = .str (pre ++ y ++ post) → st.sto = J3 → ∃ r, answer (tiOf Tryz.prog) st S.next [.tmp 4] = some r ∧ Nw bs o (P + 5) [] S0 r.2 ∧ ∃ x : ByteArray, r.1 = .str x ∧ x.size ≤ 3000 := fun st h1 h2 => answer_one h1 (by rw [h2]; exact t3.lowlt h0 hN) ⟨by show Nw bs o (P + 5) [] S0 st.sto; rw [h2]; exact t3.more (by omega), _, rfl, gsz⟩
      rcases x01 with rfl | rfl
      · repeat' (first | refine Wp.seq ?_ | refine Wp.block ?_ | (apply Wp.region; focus ((try simp [setArgs, hw, hc1, hc2, hkl2, hkl]) <;> rfl)) | (refine Wp.cond_t ?_ ?_; focus (simp [setArgs, hw, hc1, hc2, hkl2, hkl]; done)) | (refine Wp.cond_f ?_ ?_; focus (simp [setArgs, hw, hc1, hc2, hkl2, hkl]; done)) | refine Wp.skip ?_ | refine Wp.ret ?_ | refine Wp.exit ?_ | refine Blk.here ?_ | (refine Blk.past ?_ ?_; focus (simp; done)))
        refine drawX7 (tm2 := ?tma) (st' := ?sta) (s2 := J3) 11 5 4 3 (by kernel_rfl) (by kernel_rfl) (by kernel_rfl) (fun F hF4 hF3 => ?g1a) (fun F hF4 hF3 => ?g2a) ?g3a ?g4a
        case g1a =>
          simp at hF4 hF3
          simp [dhead, seenBy, keepOnly, looks, joinN, addN, allN, bite_eq, Op.operands, Call.operands, oeval, hsl, litS8, Sto.new, nb8, takeNew, tkU, hF4, hF3, hd9, hble]
        case g2a =>
          refine (xpure (v := .str s) [] [] (by simp [shown, sightOf, rootsOf, looks, Op.operands, Call.operands, V.refs]) (by simp only [fitX, ob0]; simp [temsIn, looks, Op.operands, Call.operands, V.inN, lt0]) (by simp [wants]) (by simp [seenX, keepOnly, looks, Op.operands, Call.operands, oeval]) dU lU (fun a ha => by simp at ha) (by simp [apart])).trans ?_
          refine (xpure (v := .int .i64 (.c k)) [] [] (by simp [shown, sightOf, rootsOf, looks, Op.operands, Call.operands, V.refs]) (by simp only [fitX, ob0]; simp [temsIn, looks, Op.operands, Call.operands, V.inN, lt0]) (by simp [wants]) (by simp [seenX, keepOnly, looks, Op.operands, Call.operands, oeval]) dU lU (fun a ha => by simp at ha) (by simp [apart])).trans ?_
          refine (xpure (v := .str pre) [] [] (by simp [shown, sightOf, rootsOf, looks, Op.operands, Call.operands, V.refs]) (by simp only [fitX, ob0]; simp [temsIn, looks, Op.operands, Call.operands, V.inN, lt0]) (by simp [wants]) (by simp [seenX, keepOnly, looks, Op.operands, Call.operands, oeval, hsl]) dU lU (fun a ha => by simp at ha) (by simp [apart])).trans ?_
          refine (xpure (v := .ptr o 0) [] [o] (by simp [shown, sightOf, rootsOf, looks, Op.operands, Call.operands, V.refs]) (by simp only [fitX, ob0]; simp [temsIn, looks, Op.operands, Call.operands, V.inN, lt0]) (by simp [wants]) (by simp [seenX, keepOnly, looks, Op.operands, Call.operands, oeval]) dU lU (fun a ha => by simp at ha; omega) (by simp [apart])).trans ?_
          have tk8 : takeNew S2.next ((S2.next, St.strs xs8) :: onlyObs [] S2.obs) ++ over [] ((S2.next, St.strs xs8) :: onlyObs [] S2.obs) S2.obs = T2.obs := by
            rw [over_nil, onlyObs_nil, eN2]
            simp [takeNew, bite_eq]
          have lo8 : (if Nat.blt S2.next S2.low then S2.next else S2.low) = S2.low := by rw [if_neg (by rw [Nat.blt_eq]; omega)]
          refine (xgen (v := .rsl S2.next 0 8 (some 8)) (s := ⟨S2.next + 1, (S2.next, St.strs xs8) :: onlyObs [] S2.obs, S2.next⟩) [] [] [] (by simp [shown, sightOf, rootsOf, looks, Op.operands, Call.operands, V.refs]) (by simp only [fitX, ob0]; simp [temsIn, looks, Op.operands, Call.operands, V.inN]) (by simp [wants]) (by simp [seenX, keepOnly, looks, Op.operands, Call.operands, litS8, Sto.new, nb8]) rfl (Nat.le_succ _) ⟨Nat.lt_succ_self _, onlyObs_desc dU⟩ rfl (by simp [apart])).trans ?_
          rw [tk8, lo8]
          obtain ⟨pJ, _, rJ⟩ := hR2
          have oJ := rJ.obj
          have dT2 : Desc (S2.next + 1) T2.obs := by rw [eN2]; exact dT
          have ob5 : obsIn (fun a => [o, S2.next].contains a) (onlyObs [o, S2.next] T2.obs) = true := obsIn_of dT2 (fun a ha b hb => by
            have ha : a = o ∨ a = S2.next := by simpa using ha
            rcases ha with rfl | rfl
            · rw [oJ] at hb
              cases hb
              simp [inNs, V.inN, inNs_u8s]
            · rw [hl2] at hb
              cases hb
              exact inNs_strs _)
          have hn10l : S10.low ≤ o := hn10.low
          have hn10n : S2.next + 1 ≤ S10.next := hn10.next
          have hw10 : wroteOf [o, S2.next] S10.low = [o, S2.next] := by simp [wroteOf]; omega
          have hz9 : ¬ o = S2.next := by omega
          have hz9' : ¬ S2.next = o := by omega
          have lt1 : o < S2.next + 1 := by omega
          simp at hF4 hF3
          refine (xgen (v := .str y) (s := S10) [o, S2.next] [o, S2.next] [o, S2.next] (by simp [shown, sightOf, rootsOf, looks, Op.operands, Call.operands, V.refs, deeper, oJ, hl2, refsL, reach, refs_u8s, rf8]) (by simp only [fitX, ob5]; simp [temsIn, looks, Op.operands, Call.operands, V.inN, lt1]) (by simp [wants]) (by simp [seenX, keepOnly, looks, Op.operands, Call.operands, hc10]) hw10 hn10n hn10.rd.desc (by simp [onlyObs_look, oJ, hl2]) (by simp [apart, hF4, hF3, lt0, lt1, hz9, hz9'])).trans ?_
          rw [← eJ3o, ← eJ3l]
          have dJ : Desc S10.next J3.obs := by rw [← eJ3n]; exact j10.rd.desc
          have lJ : J3.low ≤ S10.next := by have := j10.low; omega
          have obJ : ∀ ok : Nat → Bool, obsIn ok (onlyObs [] J3.obs) = true := fun ok => by rw [onlyObs_nil]; rfl
          refine (xpure (v := .str (pre ++ y)) [] [] (by simp [shown, sightOf, rootsOf, looks, Op.operands, Call.operands, V.refs]) (by simp only [fitX, obJ]; simp [temsIn, looks, Op.operands, Call.operands, V.inN, lt0]) (by simp [wants]) (by simp [seenX, keepOnly, looks, Op.operands, Call.operands, oeval, g1]) dJ lJ (fun a ha => by simp at ha) (by simp [apart])).trans ?_
          refine (xpure (v := .str s) [] [] (by simp [shown, sightOf, rootsOf, looks, Op.operands, Call.operands, V.refs]) (by simp only [fitX, obJ]; simp [temsIn, looks, Op.operands, Call.operands, V.inN, lt0]) (by simp [wants]) (by simp [seenX, keepOnly, looks, Op.operands, Call.operands, oeval]) dJ lJ (fun a ha => by simp at ha) (by simp [apart])).trans ?_
          refine (xpure (v := .int .i64 (.c k)) [] [] (by simp [shown, sightOf, rootsOf, looks, Op.operands, Call.operands, V.refs]) (by simp only [fitX, obJ]; simp [temsIn, looks, Op.operands, Call.operands, V.inN, lt0]) (by simp [wants]) (by simp [seenX, keepOnly, looks, Op.operands, Call.operands, oeval]) dJ lJ (fun a ha => by simp at ha) (by simp [apart])).trans ?_
          refine (xpure (v := .int .i64 (.c ((k : Int) + 1))) [] [] (by simp [shown, sightOf, rootsOf, looks, Op.operands, Call.operands, V.refs]) (by simp only [fitX, obJ]; simp [temsIn, looks, Op.operands, Call.operands, V.inN, lt0]) (by simp [wants]) (by simp [seenX, keepOnly, looks, Op.operands, Call.operands, oeval, hkS]) dJ lJ (fun a ha => by simp at ha) (by simp [apart])).trans ?_
          refine (xpure (v := .str post) [] [] (by simp [shown, sightOf, rootsOf, looks, Op.operands, Call.operands, V.refs]) (by simp only [fitX, obJ]; simp [temsIn, looks, Op.operands, Call.operands, V.inN, lt0]) (by simp [wants]) (by simp [seenX, keepOnly, looks, Op.operands, Call.operands, oeval, hsr]) dJ lJ (fun a ha => by simp at ha) (by simp [apart])).trans ?_
          have eJ : (⟨S10.next, J3.obs, J3.low⟩ : Sto Sy) = J3 := by rw [← eJ3n]
          exact congrArg (fun s => some (_, s)) eJ
        case g3a =>
          simp [g2, g2']
          rfl
        case g4a =>
          repeat' (first | refine Wp.seq ?_ | refine Wp.block ?_ | (apply Wp.region; focus ((try simp []) <;> rfl)) | (refine Wp.cond_t ?_ ?_; focus (simp []; done)) | (refine Wp.cond_f ?_ ?_; focus (simp []; done)) | refine Wp.skip ?_ | refine Wp.ret ?_ | refine Wp.exit ?_ | refine Blk.here ?_ | (refine Blk.past ?_ ?_; focus (simp; done)))
          refine ⟨rfl, fin _ ?_ ?_⟩
          · simp
          · rfl
      · repeat' (first | refine Wp.seq ?_ | refine Wp.block ?_ | (apply Wp.region; focus ((try simp [setArgs, hw, hc1, hc2, hkl2, hkl]) <;> rfl)) | (refine Wp.cond_t ?_ ?_; focus (simp [setArgs, hw, hc1, hc2, hkl2, hkl]; done)) | (refine Wp.cond_f ?_ ?_; focus (simp [setArgs, hw, hc1, hc2, hkl2, hkl]; done)) | refine Wp.skip ?_ | refine Wp.ret ?_ | refine Wp.exit ?_ | refine Blk.here ?_ | (refine Blk.past ?_ ?_; focus (simp; done)))
        refine drawX7 (tm2 := ?tmb) (st' := ?stb) (s2 := J3) 11 5 4 3 (by kernel_rfl) (by kernel_rfl) (by kernel_rfl) (fun F hF4 hF3 => ?g1b) (fun F hF4 hF3 => ?g2b) ?g3b ?g4b
        case g1b =>
          simp at hF4 hF3
          simp [dhead, seenBy, keepOnly, looks, joinN, addN, allN, bite_eq, Op.operands, Call.operands, oeval, hsl, litS8, Sto.new, nb8, takeNew, tkU, hF4, hF3, hd9, hble]
        case g2b =>
          refine (xpure (v := .str s) [] [] (by simp [shown, sightOf, rootsOf, looks, Op.operands, Call.operands, V.refs]) (by simp only [fitX, ob0]; simp [temsIn, looks, Op.operands, Call.operands, V.inN, lt0]) (by simp [wants]) (by simp [seenX, keepOnly, looks, Op.operands, Call.operands, oeval]) dU lU (fun a ha => by simp at ha) (by simp [apart])).trans ?_
          refine (xpure (v := .int .i64 (.c k)) [] [] (by simp [shown, sightOf, rootsOf, looks, Op.operands, Call.operands, V.refs]) (by simp only [fitX, ob0]; simp [temsIn, looks, Op.operands, Call.operands, V.inN, lt0]) (by simp [wants]) (by simp [seenX, keepOnly, looks, Op.operands, Call.operands, oeval]) dU lU (fun a ha => by simp at ha) (by simp [apart])).trans ?_
          refine (xpure (v := .str pre) [] [] (by simp [shown, sightOf, rootsOf, looks, Op.operands, Call.operands, V.refs]) (by simp only [fitX, ob0]; simp [temsIn, looks, Op.operands, Call.operands, V.inN, lt0]) (by simp [wants]) (by simp [seenX, keepOnly, looks, Op.operands, Call.operands, oeval, hsl]) dU lU (fun a ha => by simp at ha) (by simp [apart])).trans ?_
          refine (xpure (v := .ptr o 0) [] [o] (by simp [shown, sightOf, rootsOf, looks, Op.operands, Call.operands, V.refs]) (by simp only [fitX, ob0]; simp [temsIn, looks, Op.operands, Call.operands, V.inN, lt0]) (by simp [wants]) (by simp [seenX, keepOnly, looks, Op.operands, Call.operands, oeval]) dU lU (fun a ha => by simp at ha; omega) (by simp [apart])).trans ?_
          have tk8 : takeNew S2.next ((S2.next, St.strs xs8) :: onlyObs [] S2.obs) ++ over [] ((S2.next, St.strs xs8) :: onlyObs [] S2.obs) S2.obs = T2.obs := by
            rw [over_nil, onlyObs_nil, eN2]
            simp [takeNew, bite_eq]
          have lo8 : (if Nat.blt S2.next S2.low then S2.next else S2.low) = S2.low := by rw [if_neg (by rw [Nat.blt_eq]; omega)]
          refine (xgen (v := .rsl S2.next 0 8 (some 8)) (s := ⟨S2.next + 1, (S2.next, St.strs xs8) :: onlyObs [] S2.obs, S2.next⟩) [] [] [] (by simp [shown, sightOf, rootsOf, looks, Op.operands, Call.operands, V.refs]) (by simp only [fitX, ob0]; simp [temsIn, looks, Op.operands, Call.operands, V.inN]) (by simp [wants]) (by simp [seenX, keepOnly, looks, Op.operands, Call.operands, litS8, Sto.new, nb8]) rfl (Nat.le_succ _) ⟨Nat.lt_succ_self _, onlyObs_desc dU⟩ rfl (by simp [apart])).trans ?_
          rw [tk8, lo8]
          obtain ⟨pJ, _, rJ⟩ := hR2
          have oJ := rJ.obj
          have dT2 : Desc (S2.next + 1) T2.obs := by rw [eN2]; exact dT
          have ob5 : obsIn (fun a => [o, S2.next].contains a) (onlyObs [o, S2.next] T2.obs) = true := obsIn_of dT2 (fun a ha b hb => by
            have ha : a = o ∨ a = S2.next := by simpa using ha
            rcases ha with rfl | rfl
            · rw [oJ] at hb
              cases hb
              simp [inNs, V.inN, inNs_u8s]
            · rw [hl2] at hb
              cases hb
              exact inNs_strs _)
          have hn10l : S10.low ≤ o := hn10.low
          have hn10n : S2.next + 1 ≤ S10.next := hn10.next
          have hw10 : wroteOf [o, S2.next] S10.low = [o, S2.next] := by simp [wroteOf]; omega
          have hz9 : ¬ o = S2.next := by omega
          have hz9' : ¬ S2.next = o := by omega
          have lt1 : o < S2.next + 1 := by omega
          simp at hF4 hF3
          refine (xgen (v := .str y) (s := S10) [o, S2.next] [o, S2.next] [o, S2.next] (by simp [shown, sightOf, rootsOf, looks, Op.operands, Call.operands, V.refs, deeper, oJ, hl2, refsL, reach, refs_u8s, rf8]) (by simp only [fitX, ob5]; simp [temsIn, looks, Op.operands, Call.operands, V.inN, lt1]) (by simp [wants]) (by simp [seenX, keepOnly, looks, Op.operands, Call.operands, hc10]) hw10 hn10n hn10.rd.desc (by simp [onlyObs_look, oJ, hl2]) (by simp [apart, hF4, hF3, lt0, lt1, hz9, hz9'])).trans ?_
          rw [← eJ3o, ← eJ3l]
          have dJ : Desc S10.next J3.obs := by rw [← eJ3n]; exact j10.rd.desc
          have lJ : J3.low ≤ S10.next := by have := j10.low; omega
          have obJ : ∀ ok : Nat → Bool, obsIn ok (onlyObs [] J3.obs) = true := fun ok => by rw [onlyObs_nil]; rfl
          refine (xpure (v := .str (pre ++ y)) [] [] (by simp [shown, sightOf, rootsOf, looks, Op.operands, Call.operands, V.refs]) (by simp only [fitX, obJ]; simp [temsIn, looks, Op.operands, Call.operands, V.inN, lt0]) (by simp [wants]) (by simp [seenX, keepOnly, looks, Op.operands, Call.operands, oeval, g1]) dJ lJ (fun a ha => by simp at ha) (by simp [apart])).trans ?_
          refine (xpure (v := .str s) [] [] (by simp [shown, sightOf, rootsOf, looks, Op.operands, Call.operands, V.refs]) (by simp only [fitX, obJ]; simp [temsIn, looks, Op.operands, Call.operands, V.inN, lt0]) (by simp [wants]) (by simp [seenX, keepOnly, looks, Op.operands, Call.operands, oeval]) dJ lJ (fun a ha => by simp at ha) (by simp [apart])).trans ?_
          refine (xpure (v := .int .i64 (.c k)) [] [] (by simp [shown, sightOf, rootsOf, looks, Op.operands, Call.operands, V.refs]) (by simp only [fitX, obJ]; simp [temsIn, looks, Op.operands, Call.operands, V.inN, lt0]) (by simp [wants]) (by simp [seenX, keepOnly, looks, Op.operands, Call.operands, oeval]) dJ lJ (fun a ha => by simp at ha) (by simp [apart])).trans ?_
          refine (xpure (v := .int .i64 (.c ((k : Int) + 1))) [] [] (by simp [shown, sightOf, rootsOf, looks, Op.operands, Call.operands, V.refs]) (by simp only [fitX, obJ]; simp [temsIn, looks, Op.operands, Call.operands, V.inN, lt0]) (by simp [wants]) (by simp [seenX, keepOnly, looks, Op.operands, Call.operands, oeval, hkS]) dJ lJ (fun a ha => by simp at ha) (by simp [apart])).trans ?_
          refine (xpure (v := .str post) [] [] (by simp [shown, sightOf, rootsOf, looks, Op.operands, Call.operands, V.refs]) (by simp only [fitX, obJ]; simp [temsIn, looks, Op.operands, Call.operands, V.inN, lt0]) (by simp [wants]) (by simp [seenX, keepOnly, looks, Op.operands, Call.operands, oeval, hsr]) dJ lJ (fun a ha => by simp at ha) (by simp [apart])).trans ?_
          have eJ : (⟨S10.next, J3.obs, J3.low⟩ : Sto Sy) = J3 := by rw [← eJ3n]
          exact congrArg (fun s => some (_, s)) eJ
        case g3b =>
          simp [g2, g2']
          rfl
        case g4b =>
          repeat' (first | refine Wp.seq ?_ | refine Wp.block ?_ | (apply Wp.region; focus ((try simp []) <;> rfl)) | (refine Wp.cond_t ?_ ?_; focus (simp []; done)) | (refine Wp.cond_f ?_ ?_; focus (simp []; done)) | refine Wp.skip ?_ | refine Wp.ret ?_ | refine Wp.exit ?_ | refine Blk.here ?_ | (refine Blk.past ?_ ?_; focus (simp; done)))
          refine ⟨rfl, fin _ ?_ ?_⟩
          · simp
          · rfl
    · have hkl2 : ¬ (k : Int) < s.size := by omega
      rcases x01 with rfl | rfl
      all_goals repeat' (first | refine Wp.seq ?_ | refine Wp.block ?_ | (apply Wp.region; focus ((try simp [setArgs, hw, hc1, hc2, hkl2, hkl]) <;> rfl)) | (refine Wp.cond_t ?_ ?_; focus (simp [setArgs, hw, hc1, hc2, hkl2, hkl]; done)) | (refine Wp.cond_f ?_ ?_; focus (simp [setArgs, hw, hc1, hc2, hkl2, hkl]; done)) | refine Wp.skip ?_ | refine Wp.ret ?_ | refine Wp.exit ?_ | refine Blk.here ?_ | (refine Blk.past ?_ ?_; focus (simp; done)))
      all_goals exact ⟨rfl, answer_one (v := .str s) (by simp) (t2.lowlt h0 hN) ⟨t2.more (by omega), _, rfl, by omega⟩⟩
  · have y0 : ¬ x = 0 := fun h => x01 (.inl h)
    have y1 : ¬ x = 1 := fun h => x01 (.inr h)
    repeat' (first | refine Wp.seq ?_ | refine Wp.block ?_ | (apply Wp.region; focus ((try simp [setArgs, hw, hc1, hc2, x2, x3, y0, y1]) <;> rfl)) | (refine Wp.cond_t ?_ ?_; focus (simp [setArgs, hw, hc1, hc2, x2, x3, y0, y1]; done)) | (refine Wp.cond_f ?_ ?_; focus (simp [setArgs, hw, hc1, hc2, x2, x3, y0, y1]; done)) | refine Wp.skip ?_ | refine Wp.ret ?_ | refine Wp.exit ?_ | refine Blk.here ?_ | (refine Blk.past ?_ ?_; focus (simp; done)))
    exact ⟨rfl, answer_one (v := .str s) (by simp) (t2.lowlt h0 hN) ⟨t2.more (by omega), _, rfl, by omega⟩⟩
theorem numK0 (g : Nat) (hg : 20 ≤ g) (S : Sto Sy) (hS : Wst S) (z : Int) (h : -9223372036854775807 ≤ z ∧ z ≤ 9223372036854775807) : acallV (symIn Tryz.prog K0 [] g) S (.func 27 [] []) [.int .i64 (.c z)] = some (.str (textZ z), S) := by
  obtain ⟨m, rfl⟩ : ∃ m, g = m + 20 := ⟨g - 20, by omega⟩
  exact num_call hS.low (num_any hS.desc h m)
end Go.Proofs.YtgaodlhdilhliaaGreatDoor.Draw

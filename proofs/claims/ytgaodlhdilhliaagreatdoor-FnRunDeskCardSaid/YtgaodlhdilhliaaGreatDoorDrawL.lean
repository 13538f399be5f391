/-
  Lines that are drawn from bytes, by runs by hand. No condition.
-/
import Derived.Test.YtgaodlhdilhliaaGreatDoorRows
import Derived.Test.YtgaodlhdilhliaaGreatDoorSym
import Derived.Test.YtgaodlhdilhliaaGreatDoorSymD
import Derived.Test.YtgaodlhdilhliaaGreatDoorSymE
import Derived.Test.YtgaodlhdilhliaaGreatDoorSymF
import Derived.Test.YtgaodlhdilhliaaGreatDoorIds
import Derived.Test.YtgaodlhdilhliaaGreatDoorDraw
import Derived.Test.YtgaodlhdilhliaaGreatDoorDrawC
import Derived.Test.YtgaodlhdilhliaaGreatDoorDrawD
import Derived.Test.YtgaodlhdilhliaaGreatDoorDrawX
import Derived.Test.YtgaodlhdilhliaaGreatDoorDrawP
import Derived.Test.YtgaodlhdilhliaaGreatDoorSh
import Derived.Test.YtgaodlhdilhliaaGreatDoorSt
import Derived.Test.YtgaodlhdilhliaaGreatDoorNum
import Derived.Test.YtgaodlhdilhliaaGreatDoorTx
import Derived.Test.YtgaodlhdilhliaaGreatDoorTy
import Derived.Test.YtgaodlhdilhliaaGreatDoorPb
import Derived.Test.YtgaodlhdilhliaaGreatDoorPd
import Derived.Test.YtgaodlhdilhliaaGreatDoorTg
import Derived.WalkKit
import Derived.ProofKit
import Derived.OpenShut
namespace Go.Proofs.YtgaodlhdilhliaaGreatDoor.Draw
open Go.ChangeShapes Go.WideShapes Go.ChangeAt Go.RowKit Go.Sx Go.Proofs.YtgaodlhdilhliaaGreatDoor.Ids Go.Proofs.YtgaodlhdilhliaaGreatDoor.St
set_option linter.unusedVariables false
set_option linter.unusedSimpArgs false

def xsW : List ByteArray := [⟨#[101, 120, 112]⟩, ⟨#[108, 111, 103]⟩, ⟨#[105, 110, 118, 101, 114, 116]⟩, ⟨#[114, 101, 118, 101, 114, 115, 101]⟩, ⟨#[98, 105, 110, 111, 109, 105, 97, 108]⟩, ⟨#[122, 105, 103, 122, 97, 103]⟩, ⟨#[104, 97, 110, 107, 101, 108]⟩]
theorem litW (sto : Sto Sy) : abuildSlice (symNum []) (tiOf Tryz.prog) sto 23 7 [(0, .str ⟨#[101, 120, 112]⟩), (1, .str ⟨#[108, 111, 103]⟩), (2, .str ⟨#[105, 110, 118, 101, 114, 116]⟩), (3, .str ⟨#[114, 101, 118, 101, 114, 115, 101]⟩), (4, .str ⟨#[98, 105, 110, 111, 109, 105, 97, 108]⟩), (5, .str ⟨#[122, 105, 103, 122, 97, 103]⟩), (6, .str ⟨#[104, 97, 110, 107, 101, 108]⟩)] = some (.rsl sto.next 0 7 (some 7), sto.new (St.strs xsW)) := by kernel_rfl
theorem xsW_size : ∀ x, x ∈ xsW → x.size ≤ 10 := by decide +kernel
def xsL : List ByteArray := [⟨#[]⟩, ⟨#[104, 101, 108, 112]⟩, ⟨#[101, 120, 112]⟩, ⟨#[101, 120, 112, 32, 120]⟩, ⟨#[119, 97, 108, 107, 32, 48, 44, 49]⟩, ⟨#[108, 111, 103, 32]⟩, ⟨#[101, 120, 112, 32, 48, 44, 32, 49]⟩, ⟨#[105, 110, 118, 101, 114, 116, 32, 54, 48, 49]⟩]
theorem litL (sto : Sto Sy) : abuildSlice (symNum []) (tiOf Tryz.prog) sto 23 8 [(0, .str ⟨#[]⟩), (1, .str ⟨#[104, 101, 108, 112]⟩), (2, .str ⟨#[101, 120, 112]⟩), (3, .str ⟨#[101, 120, 112, 32, 120]⟩), (4, .str ⟨#[119, 97, 108, 107, 32, 48, 44, 49]⟩), (5, .str ⟨#[108, 111, 103, 32]⟩), (6, .str ⟨#[101, 120, 112, 32, 48, 44, 32, 49]⟩), (7, .str ⟨#[105, 110, 118, 101, 114, 116, 32, 54, 48, 49]⟩)] = some (.rsl sto.next 0 8 (some 8), sto.new (St.strs xsL)) := by kernel_rfl
theorem xsL_size : ∀ x, x ∈ xsL → x.size ≤ 10 := by decide +kernel
theorem litN (sto : Sto Sy) : abuildSlice (symNum []) (tiOf Tryz.prog) sto 35 4 [(0, .int .i64 (.c 4)), (1, .int .i64 (.c 6)), (2, .int .i64 (.c 2)), (3, .int .i64 (.c 0))] = some (.rsl sto.next 0 4 (some 4), sto.new (ints (nums [4, 6, 2, 0]))) := by kernel_rfl
theorem isT_keep {bs : List Int} {o : Nat} {P : Int} {a b : Sto Sy} {q : Nat} {xs : List ByteArray} {v : V Sy} (h : IsT a.obs q xs v) (hn : Nw bs o P [] a b) (h1 : q ≠ o) : IsT b.obs q xs v := ⟨h.val, hn.keep q _ h1 (by simp) h.obj⟩
theorem append_strN {bs : List Int} {o : Nat} {P : Int} {S0 S : Sto Sy} (hn : Nw bs o P [] S0 S) (hd : Desc S0.next S0.obs) {q : Nat} {xs : List ByteArray} {v : V Sy} (hq : S0.next ≤ q) (hqo : q ≠ o) (h : IsT S.obs q xs v) (hx : xs.length ≤ 2000000) (x : ByteArray) :
    ∃ v' S' q', aappend (symNum []) (tiOf Tryz.prog) (S.new (St.strs [x])) 23 23 v (.rsl S.next 0 1 (some 1)) = some (v', S') ∧ Nw bs o P [] S0 S' ∧ S0.next ≤ q' ∧ IsT S'.obs q' (xs ++ [x]) v' := by
  obtain ⟨cp, rfl, hcp⟩ := h.val
  have hds := hn.rd.desc
  have hqn := hds.look_lt h.obj
  have ho : lookC (S.new (St.strs [x])).obs q = some (St.strs xs) := lookC_iff.2 ⟨by rw [look_new1 S _ hqn]; exact h.obj, strs_nm _⟩
  have hy : lookC (S.new (St.strs [x])).obs S.next = some (St.strs [x]) := lookC_iff.2 ⟨new_strs S [x], strs_nm _⟩
  have he : (S.new (St.strs [x])).elems (.rsl S.next 0 1 (some 1)) = some [V.str x] := by
    simp only [Sto.elems, Sto.cells, hy]
    rfl
  have hz : (ofV (symNum []) (Value.string ⟨#[]⟩)).oneCell = true := rfl
  have happ : St.strs xs ++ [V.str x] = St.strs (xs ++ [x]) := by rw [← strs_app]; rfl
  have hb1 : (xs.length + 1) * 16 ≤ 140737488355328 := by omega
  have hb2 : xs.length + 1 ≤ 9223372036854775807 := by omega
  have hle : (xs ++ [x]).length = xs.length + 1 := by simp
  have hnx := hn.next
  rcases hcp with rfl | rfl
  · refine ⟨.rsl (S.next + 1) 0 (xs.length + 1) none, ⟨S.next + 1 + 1, (S.next + 1, St.strs (xs ++ [x])) :: del (S.new (St.strs [x])).obs q, if Nat.blt q S.low then q else S.low⟩, S.next + 1, ?_, (hn.behind _).grown hd hqo (.inr hq) _, by omega, ⟨⟨none, by rw [hle], .inl rfl⟩, by show Go.Sx.look ((S.next + 1, _) :: _) (S.next + 1) = _; rw [look_cons, if_pos rfl]⟩⟩
    have htk : (St.strs xs).take xs.length = St.strs xs := List.take_of_length_le (by rw [strs_len]; exact Nat.le_refl _)
    simp only [aappend, tiSs, tiStr, he, ho, hz, List.all_cons, List.all_nil, V.oneCell, Bool.and_true, true_and, and_true, if_true, strs_len, List.length_cons, List.length_nil, Nat.zero_add, htk, happ, Nat.le_refl]
    rw [if_pos (show (xs.length + 1) * 16 ≤ 140737488355328 ∧ xs.length + 1 ≤ 9223372036854775807 from ⟨hb1, hb2⟩)]
    rfl
  · have hc : ¬ xs.length + 1 ≤ xs.length := by omega
    refine ⟨.rsl (S.next + 1) 0 (xs.length + 1) none, (S.new (St.strs [x])).new (St.strs (xs ++ [x])), S.next + 1, ?_, (hn.behind _).behind _, by omega, ⟨⟨none, by rw [hle], .inl rfl⟩, new_strs (S.new (St.strs [x])) _⟩⟩
    have hdt : ((St.strs xs).drop 0).take xs.length ++ [V.str x] = St.strs (xs ++ [x]) := by rw [← happ, List.drop_zero, List.take_of_length_le (by rw [strs_len]; exact Nat.le_refl _)]
    simp only [aappend, tiSs, tiStr, he, ho, hz, List.all_cons, List.all_nil, V.oneCell, Bool.and_true, true_and, and_true, if_true, strs_len, List.length_cons, List.length_nil, Nat.zero_add, hdt, Nat.le_refl]
    rw [if_pos (show (xs.length + 1) * 16 ≤ 140737488355328 ∧ xs.length + 1 ≤ 9223372036854775807 from ⟨hb1, hb2⟩)]
    simp only [if_neg hc]
    rfl
attribute [local simp] aops wants aop apure St.eval setTm_some setTm_none Tr.get_set evals pevals apureB alen tiS tiI tiB tiY tiU tiSs tiStr fa0 fa1 abin aint isCmp sym_lt sym_eqs sym_neqs sym_eq sym_neq sym_gtr sym_leq sym_geq sym_add sym_sub sym_mul aeff aeffB idx? ofV aindexAddr aindex aggDesc aifc_int aifc_str
/-- The text of a list, as a call. -/
theorem textC (g : Nat) (hg : 30 ≤ g) {bs : List Int} {o : Nat} {P : Int} {S0 S : Sto Sy} (hn : Nw bs o P [] S0 S) (ho : o < S0.next) {n : Nat} {v : V Sy} (h : Lst n 1 6 600 v S.obs) :
    ∃ s : ByteArray, acallV (symIn Tryz.prog K0 [] g) S (.func 20 [] []) [v] = some (.str s, S) ∧ s.size ≤ 126 := by
  obtain ⟨q, zs, hq, hz, hl1, hl2, hb⟩ := h
  obtain ⟨m, rfl⟩ : ∃ m, g = m + 1 := ⟨g - 1, by omega⟩
  have w2 : Wst S := ⟨hn.rd.desc, by have := hn.low; have := hn.next; omega⟩
  obtain ⟨cp, rfl, hcp⟩ := hz.val
  have hc := specTextG (K := K0) (fun _ _ => rfl) m (numK0 m (by omega)) zs (fun z hz => by have := hb z hz; omega) (by omega) w2 (cp := cp) hz.obj (by omega)
  have hsz := acc_sizeG (zs := zs) (fun z hz => by have := hb z hz; omega) zs.length (Nat.le_refl _)
  exact ⟨_, hc, by omega⟩
theorem lst_wide {n x : Nat} {v : V Sy} {obs : List (Nat × Ob Sy)} (h : Lst n x x 600 v obs) (h1 : 1 ≤ x) (h2 : x ≤ 6) : Lst n 1 6 600 v obs := by
  obtain ⟨q, zs, a, b, c, d, e⟩ := h
  exact ⟨q, zs, a, b, by omega, by omega, e⟩
theorem lst_keep {bs : List Int} {o : Nat} {P : Int} {a b : Sto Sy} {n lo hi : Nat} {B : Int} {v : V Sy} (h : Lst n lo hi B v a.obs) (hn : Nw bs o P [] a b) (ho : o < n) : Lst n lo hi B v b.obs := by
  obtain ⟨q, zs, hq, hz, r⟩ := h
  exact ⟨q, zs, hq, hz.keep hn (by omega) (by simp), r⟩
set_option maxRecDepth 10000 in
theorem drawRD (bs : List Int) (hbs0 : ∀ b, b ∈ bs → 0 ≤ b ∧ b < 256) (m : Nat) : ∃ r, symRun Tryz.prog K0 [] (m + 200) 5 [.slice (u8s bs)] ⟨0, [], 0⟩ = some r ∧ Desc r.2.next r.2.obs ∧ ∃ q xs, IsT r.2.obs q xs r.1 ∧ xs.length ≤ 6 ∧ ∀ x, x ∈ xs → x.size ≤ 3000 := by
  refine own_run2 (n := m + 199) hK0 Tryz.func5 rfl rfl ?_
  simp only [Tryz.f5]
  have hr := readerC bs (m + 199) (by omega)
  obtain ⟨S1, e1, h1⟩ := reader0 bs
  rw [← e1] at hr
  have hbs := take2000 hbs0
  generalize bs.take 2000 = bs at hbs h1
  have hS1n : S1.next = 1 := by rw [e1]
  clear e1
  have hlt0 : 0 < S1.next := by omega
  have r1 := h1.new (St.strs [])
  have t0 := new_strs S1 []
  have lS := litS0 S1
  obtain ⟨n, S3, hc1, hn1, hn⟩ := oneC bs hbs r1 (by omega) [4, 6, 2, 0] 4 rfl (by omega) (by omega) (m + 199) (by omega)
  have h13 := hn1.ahead h1.desc (ex := []) (fun k hk => by cases hk)
  have hTs : IsT S3.obs S1.next [] (.rsl S1.next 0 0 (some 0)) := isT_keep (a := S1.new (St.strs [])) ⟨⟨some 0, by simp, .inr rfl⟩, t0⟩ hn1 (by omega)
  obtain ⟨n, rfl⟩ : ∃ k : Nat, n = k := ⟨n.toNat, by simp at hn; omega⟩
  have hn6 : n ≤ 6 := by simp at hn; omega
  clear hn t0
  generalize S1.new (St.strs []) = S2 at lS hc1
  repeat' (first | refine Wp.seq ?_ | refine Wp.block ?_ | (apply Wp.region; focus ((try simp [setArgs, hr, lS, litN, hc1]) <;> rfl)) | (refine Wp.cond_t ?_ ?_; focus (simp [setArgs, hr, lS, litN, hc1]; done)) | (refine Wp.cond_f ?_ ?_; focus (simp [setArgs, hr, lS, litN, hc1]; done)) | refine Wp.skip ?_ | refine Wp.ret ?_ | refine Wp.exit ?_ | refine Blk.here ?_ | (refine Blk.past ?_ ?_; focus (simp; done)))
  refine Wp.loop rfl rfl (fun i st => st.tm.get .any 3 = .ptr 0 0 ∧ st.tm.get .any 5 = .int .i64 (.c ((n : Int) - (i : Int))) ∧ ∃ q xs, S1.next ≤ q ∧ IsT st.sto.obs q xs (st.tm.get .any 4) ∧ xs.length = i ∧ (∀ x, x ∈ xs → x.size ≤ 3000) ∧ Nw bs 0 (1 + 500 * (i : Int)) [] S1 st.sto) n (by omega) ?_ ?_ ?_
  · exact ⟨by simp, by simp, S1.next, [], Nat.le_refl _, by simpa using hTs, rfl, by simp, h13.more (by omega)⟩
  · rintro k i ⟨tm, T⟩ hi ⟨e3, e5, q, xs, hq, hT, hxl, hxb, hG⟩
    simp only at e3 e5 hT hG
    have hpos : (0 : Int) < (n : Int) - (i : Int) := by omega
    have hwr := wrap_in (a := ((n : Int) - (i : Int)) - 1) (by omega) (by omega)
    have hwe : ((n : Int) - (i : Int)) - 1 = (n : Int) - ((i + 1 : Nat) : Int) := by omega
    have hq0 : q ≠ 0 := by omega
    have hTn : 0 < T.next := by have := hG.next; omega
    obtain ⟨cp, hv, hcp⟩ := hT.val
    rw [hv] at hT
    obtain ⟨v1, T1, c1, g1, L1⟩ := goodSeries bs hbs hG.rd (by omega) (m + 199) (by omega)
    have t1 := hG.trans h1.desc g1 (by simp)
    have hT1 := isT_keep hT g1 hq0
    obtain ⟨x, T2, c2, g2, hx0, hx1⟩ := pickC bs hbs t1.rd (by omega) 3 (by omega) (m + 199) (by omega)
    have t2 := t1.trans h1.desc g2 (by simp)
    have hT2 := isT_keep hT1 g2 hq0
    by_cases x0 : x = 0
    · subst x0
      obtain ⟨_, T3, c3, g3, l, rfl, hy1, hy2⟩ := longOf bs hbs t2.rd (by omega) (m + 199) (by omega)
      have t3 := t2.trans h1.desc g3 (by simp)
      have hT3 := isT_keep hT2 g3 hq0
      obtain ⟨v4, T4, c4, g4, L4⟩ := innerSeries bs hbs t3.rd (by omega) l hy1 (by omega) (m + 199) (by omega)
      have t4 := t3.trans h1.desc g4 (by simp)
      have hTX := isT_keep hT3 g4 hq0
      have L4 := lst_wide L4 hy1 hy2
      have hTn : 0 < T3.next := by have := t3.next; omega
      obtain ⟨w, T5, c5, g5, hw5⟩ := ofC bs hbs t4.rd (by omega) xsW 7 rfl (by omega) (by omega) (m + 199) (by omega)
      have t5 := t4.trans h1.desc g5 (by simp)
      have L5 := lst_keep L4 g5 hTn
      obtain ⟨s, c6, hs⟩ := textC (m + 199) (by omega) t5 hlt0 L5
      have hws := xsW_size w hw5
      have sp : (⟨#[32]⟩ : ByteArray).size = 1 := rfl
      have z1 : w.size + (ByteArray.mk #[32]).size ≤ 9223372036854775807 := by omega
      have z2 : w.size + (ByteArray.mk #[32]).size + s.size ≤ 9223372036854775807 := by omega
      have z3 : (w ++ ⟨#[32]⟩ ++ s : ByteArray).size ≤ 1000 := by rw [ByteArray.size_append, ByteArray.size_append]; omega
      obtain ⟨y, T6, c7, g7, hy0, hy1⟩ := pickC bs hbs t5.rd (by omega) 10 (by omega) (m + 199) (by omega)
      have t6 := t5.trans h1.desc g7 (by simp)
      by_cases y0 : y = 0
      · subst y0
        obtain ⟨u, T7, c8, g8, hu⟩ := ofC bs hbs t6.rd (by omega) xsL 8 rfl (by omega) (by omega) (m + 199) (by omega)
        have t7 := t6.trans h1.desc g8 (by simp)
        have hT7 := isT_keep (isT_keep (isT_keep hTX g5 hq0) g7 hq0) g8 hq0
        have hus := xsL_size u hu
        obtain ⟨v', S', q', k1, k2, k3, k4⟩ := append_strN t7 h1.desc hq hq0 hT7 (by omega) (u)
        repeat' (first | refine Wp.seq ?_ | refine Wp.block ?_ | (apply Wp.region; focus ((try simp [e3, e5, hv, hpos, hi, c1, c2, c3, c4, litW, c5, c6, z1, z2, c7, litL, c8, litS1, k1, hwr]) <;> rfl)) | (refine Wp.cond_t ?_ ?_; focus (simp [e3, e5, hv, hpos, hi, c1, c2, c3, c4, litW, c5, c6, z1, z2, c7, litL, c8, litS1, k1, hwr]; done)) | (refine Wp.cond_f ?_ ?_; focus (simp [e3, e5, hv, hpos, hi, c1, c2, c3, c4, litW, c5, c6, z1, z2, c7, litL, c8, litS1, k1, hwr]; done)) | refine Wp.skip ?_ | refine Wp.ret ?_ | refine Wp.exit ?_ | refine Blk.here ?_ | (refine Blk.past ?_ ?_; focus (simp; done)))
        exact ⟨by simp [e3], by simp [hwe], q', xs ++ [u], k3, by simpa using k4, by simp [hxl], fun z hz => (List.mem_append.1 hz).elim (hxb z) (fun e => by rw [List.mem_singleton.1 e]; omega), k2.more (by omega)⟩
      by_cases y1 : y = 1
      · subst y1
        obtain ⟨_, T7, c8, g8, u, rfl, hu⟩ := mutate bs hbs t6.rd (by omega) (w ++ ⟨#[32]⟩ ++ s) z3 (m + 199) (by omega)
        have t7 := t6.trans h1.desc g8 (by simp)
        have hT7 := isT_keep (isT_keep (isT_keep hTX g5 hq0) g7 hq0) g8 hq0
        obtain ⟨v', S', q', k1, k2, k3, k4⟩ := append_strN t7 h1.desc hq hq0 hT7 (by omega) (u)
        repeat' (first | refine Wp.seq ?_ | refine Wp.block ?_ | (apply Wp.region; focus ((try simp [e3, e5, hv, hpos, hi, c1, c2, c3, c4, litW, c5, c6, z1, z2, c7, c8, litS1, k1, hwr]) <;> rfl)) | (refine Wp.cond_t ?_ ?_; focus (simp [e3, e5, hv, hpos, hi, c1, c2, c3, c4, litW, c5, c6, z1, z2, c7, c8, litS1, k1, hwr]; done)) | (refine Wp.cond_f ?_ ?_; focus (simp [e3, e5, hv, hpos, hi, c1, c2, c3, c4, litW, c5, c6, z1, z2, c7, c8, litS1, k1, hwr]; done)) | refine Wp.skip ?_ | refine Wp.ret ?_ | refine Wp.exit ?_ | refine Blk.here ?_ | (refine Blk.past ?_ ?_; focus (simp; done)))
        exact ⟨by simp [e3], by simp [hwe], q', xs ++ [u], k3, by simpa using k4, by simp [hxl], fun z hz => (List.mem_append.1 hz).elim (hxb z) (fun e => by rw [List.mem_singleton.1 e]; exact hu), k2.more (by omega)⟩
      have hT7 := isT_keep (isT_keep hTX g5 hq0) g7 hq0
      obtain ⟨v', S', q', k1, k2, k3, k4⟩ := append_strN t6 h1.desc hq hq0 hT7 (by omega) (w ++ ⟨#[32]⟩ ++ s)
      repeat' (first | refine Wp.seq ?_ | refine Wp.block ?_ | (apply Wp.region; focus ((try simp [e3, e5, hv, hpos, hi, c1, c2, c3, c4, litW, c5, c6, z1, z2, c7, y0, y1, litS1, k1, hwr]) <;> rfl)) | (refine Wp.cond_t ?_ ?_; focus (simp [e3, e5, hv, hpos, hi, c1, c2, c3, c4, litW, c5, c6, z1, z2, c7, y0, y1, litS1, k1, hwr]; done)) | (refine Wp.cond_f ?_ ?_; focus (simp [e3, e5, hv, hpos, hi, c1, c2, c3, c4, litW, c5, c6, z1, z2, c7, y0, y1, litS1, k1, hwr]; done)) | refine Wp.skip ?_ | refine Wp.ret ?_ | refine Wp.exit ?_ | refine Blk.here ?_ | (refine Blk.past ?_ ?_; focus (simp; done)))
      exact ⟨by simp [e3], by simp [hwe], q', xs ++ [w ++ ⟨#[32]⟩ ++ s], k3, by simpa using k4, by simp [hxl], fun z hz => (List.mem_append.1 hz).elim (hxb z) (fun e => by rw [List.mem_singleton.1 e]; omega), k2.more (by omega)⟩
    by_cases x1 : x = 1
    · subst x1
      obtain ⟨_, T3, c3, g3, l, rfl, hy1, hy2⟩ := longOf bs hbs t2.rd (by omega) (m + 199) (by omega)
      have t3 := t2.trans h1.desc g3 (by simp)
      have hT3 := isT_keep hT2 g3 hq0
      obtain ⟨v4, T4, c4, g4, L4⟩ := unitSeries bs hbs t3.rd (by omega) l hy1 (by omega) (m + 199) (by omega)
      have t4 := t3.trans h1.desc g4 (by simp)
      have hTX := isT_keep hT3 g4 hq0
      have L4 := lst_wide L4 hy1 hy2
      have hTn : 0 < T3.next := by have := t3.next; omega
      obtain ⟨w, T5, c5, g5, hw5⟩ := ofC bs hbs t4.rd (by omega) xsW 7 rfl (by omega) (by omega) (m + 199) (by omega)
      have t5 := t4.trans h1.desc g5 (by simp)
      have L5 := lst_keep L4 g5 hTn
      obtain ⟨s, c6, hs⟩ := textC (m + 199) (by omega) t5 hlt0 L5
      have hws := xsW_size w hw5
      have sp : (⟨#[32]⟩ : ByteArray).size = 1 := rfl
      have z1 : w.size + (ByteArray.mk #[32]).size ≤ 9223372036854775807 := by omega
      have z2 : w.size + (ByteArray.mk #[32]).size + s.size ≤ 9223372036854775807 := by omega
      have z3 : (w ++ ⟨#[32]⟩ ++ s : ByteArray).size ≤ 1000 := by rw [ByteArray.size_append, ByteArray.size_append]; omega
      obtain ⟨y, T6, c7, g7, hy0, hy1⟩ := pickC bs hbs t5.rd (by omega) 10 (by omega) (m + 199) (by omega)
      have t6 := t5.trans h1.desc g7 (by simp)
      by_cases y0 : y = 0
      · subst y0
        obtain ⟨u, T7, c8, g8, hu⟩ := ofC bs hbs t6.rd (by omega) xsL 8 rfl (by omega) (by omega) (m + 199) (by omega)
        have t7 := t6.trans h1.desc g8 (by simp)
        have hT7 := isT_keep (isT_keep (isT_keep hTX g5 hq0) g7 hq0) g8 hq0
        have hus := xsL_size u hu
        obtain ⟨v', S', q', k1, k2, k3, k4⟩ := append_strN t7 h1.desc hq hq0 hT7 (by omega) (u)
        repeat' (first | refine Wp.seq ?_ | refine Wp.block ?_ | (apply Wp.region; focus ((try simp [e3, e5, hv, hpos, hi, c1, c2, c3, c4, litW, c5, c6, z1, z2, c7, litL, c8, litS1, k1, hwr]) <;> rfl)) | (refine Wp.cond_t ?_ ?_; focus (simp [e3, e5, hv, hpos, hi, c1, c2, c3, c4, litW, c5, c6, z1, z2, c7, litL, c8, litS1, k1, hwr]; done)) | (refine Wp.cond_f ?_ ?_; focus (simp [e3, e5, hv, hpos, hi, c1, c2, c3, c4, litW, c5, c6, z1, z2, c7, litL, c8, litS1, k1, hwr]; done)) | refine Wp.skip ?_ | refine Wp.ret ?_ | refine Wp.exit ?_ | refine Blk.here ?_ | (refine Blk.past ?_ ?_; focus (simp; done)))
        exact ⟨by simp [e3], by simp [hwe], q', xs ++ [u], k3, by simpa using k4, by simp [hxl], fun z hz => (List.mem_append.1 hz).elim (hxb z) (fun e => by rw [List.mem_singleton.1 e]; omega), k2.more (by omega)⟩
      by_cases y1 : y = 1
      · subst y1
        obtain ⟨_, T7, c8, g8, u, rfl, hu⟩ := mutate bs hbs t6.rd (by omega) (w ++ ⟨#[32]⟩ ++ s) z3 (m + 199) (by omega)
        have t7 := t6.trans h1.desc g8 (by simp)
        have hT7 := isT_keep (isT_keep (isT_keep hTX g5 hq0) g7 hq0) g8 hq0
        obtain ⟨v', S', q', k1, k2, k3, k4⟩ := append_strN t7 h1.desc hq hq0 hT7 (by omega) (u)
        repeat' (first | refine Wp.seq ?_ | refine Wp.block ?_ | (apply Wp.region; focus ((try simp [e3, e5, hv, hpos, hi, c1, c2, c3, c4, litW, c5, c6, z1, z2, c7, c8, litS1, k1, hwr]) <;> rfl)) | (refine Wp.cond_t ?_ ?_; focus (simp [e3, e5, hv, hpos, hi, c1, c2, c3, c4, litW, c5, c6, z1, z2, c7, c8, litS1, k1, hwr]; done)) | (refine Wp.cond_f ?_ ?_; focus (simp [e3, e5, hv, hpos, hi, c1, c2, c3, c4, litW, c5, c6, z1, z2, c7, c8, litS1, k1, hwr]; done)) | refine Wp.skip ?_ | refine Wp.ret ?_ | refine Wp.exit ?_ | refine Blk.here ?_ | (refine Blk.past ?_ ?_; focus (simp; done)))
        exact ⟨by simp [e3], by simp [hwe], q', xs ++ [u], k3, by simpa using k4, by simp [hxl], fun z hz => (List.mem_append.1 hz).elim (hxb z) (fun e => by rw [List.mem_singleton.1 e]; exact hu), k2.more (by omega)⟩
      have hT7 := isT_keep (isT_keep hTX g5 hq0) g7 hq0
      obtain ⟨v', S', q', k1, k2, k3, k4⟩ := append_strN t6 h1.desc hq hq0 hT7 (by omega) (w ++ ⟨#[32]⟩ ++ s)
      repeat' (first | refine Wp.seq ?_ | refine Wp.block ?_ | (apply Wp.region; focus ((try simp [e3, e5, hv, hpos, hi, c1, c2, c3, c4, litW, c5, c6, z1, z2, c7, y0, y1, litS1, k1, hwr]) <;> rfl)) | (refine Wp.cond_t ?_ ?_; focus (simp [e3, e5, hv, hpos, hi, c1, c2, c3, c4, litW, c5, c6, z1, z2, c7, y0, y1, litS1, k1, hwr]; done)) | (refine Wp.cond_f ?_ ?_; focus (simp [e3, e5, hv, hpos, hi, c1, c2, c3, c4, litW, c5, c6, z1, z2, c7, y0, y1, litS1, k1, hwr]; done)) | refine Wp.skip ?_ | refine Wp.ret ?_ | refine Wp.exit ?_ | refine Blk.here ?_ | (refine Blk.past ?_ ?_; focus (simp; done)))
      exact ⟨by simp [e3], by simp [hwe], q', xs ++ [w ++ ⟨#[32]⟩ ++ s], k3, by simpa using k4, by simp [hxl], fun z hz => (List.mem_append.1 hz).elim (hxb z) (fun e => by rw [List.mem_singleton.1 e]; omega), k2.more (by omega)⟩
    have hTX := hT2
    have L4 := lst_keep L1 g2 hTn
    obtain ⟨w, T5, c5, g5, hw5⟩ := ofC bs hbs t2.rd (by omega) xsW 7 rfl (by omega) (by omega) (m + 199) (by omega)
    have t5 := t2.trans h1.desc g5 (by simp)
    have L5 := lst_keep L4 g5 hTn
    obtain ⟨s, c6, hs⟩ := textC (m + 199) (by omega) t5 hlt0 L5
    have hws := xsW_size w hw5
    have sp : (⟨#[32]⟩ : ByteArray).size = 1 := rfl
    have z1 : w.size + (ByteArray.mk #[32]).size ≤ 9223372036854775807 := by omega
    have z2 : w.size + (ByteArray.mk #[32]).size + s.size ≤ 9223372036854775807 := by omega
    have z3 : (w ++ ⟨#[32]⟩ ++ s : ByteArray).size ≤ 1000 := by rw [ByteArray.size_append, ByteArray.size_append]; omega
    obtain ⟨y, T6, c7, g7, hy0, hy1⟩ := pickC bs hbs t5.rd (by omega) 10 (by omega) (m + 199) (by omega)
    have t6 := t5.trans h1.desc g7 (by simp)
    by_cases y0 : y = 0
    · subst y0
      obtain ⟨u, T7, c8, g8, hu⟩ := ofC bs hbs t6.rd (by omega) xsL 8 rfl (by omega) (by omega) (m + 199) (by omega)
      have t7 := t6.trans h1.desc g8 (by simp)
      have hT7 := isT_keep (isT_keep (isT_keep hTX g5 hq0) g7 hq0) g8 hq0
      have hus := xsL_size u hu
      obtain ⟨v', S', q', k1, k2, k3, k4⟩ := append_strN t7 h1.desc hq hq0 hT7 (by omega) (u)
      repeat' (first | refine Wp.seq ?_ | refine Wp.block ?_ | (apply Wp.region; focus ((try simp [e3, e5, hv, hpos, hi, c1, c2, x0, x1, litW, c5, c6, z1, z2, c7, litL, c8, litS1, k1, hwr]) <;> rfl)) | (refine Wp.cond_t ?_ ?_; focus (simp [e3, e5, hv, hpos, hi, c1, c2, x0, x1, litW, c5, c6, z1, z2, c7, litL, c8, litS1, k1, hwr]; done)) | (refine Wp.cond_f ?_ ?_; focus (simp [e3, e5, hv, hpos, hi, c1, c2, x0, x1, litW, c5, c6, z1, z2, c7, litL, c8, litS1, k1, hwr]; done)) | refine Wp.skip ?_ | refine Wp.ret ?_ | refine Wp.exit ?_ | refine Blk.here ?_ | (refine Blk.past ?_ ?_; focus (simp; done)))
      exact ⟨by simp [e3], by simp [hwe], q', xs ++ [u], k3, by simpa using k4, by simp [hxl], fun z hz => (List.mem_append.1 hz).elim (hxb z) (fun e => by rw [List.mem_singleton.1 e]; omega), k2.more (by omega)⟩
    by_cases y1 : y = 1
    · subst y1
      obtain ⟨_, T7, c8, g8, u, rfl, hu⟩ := mutate bs hbs t6.rd (by omega) (w ++ ⟨#[32]⟩ ++ s) z3 (m + 199) (by omega)
      have t7 := t6.trans h1.desc g8 (by simp)
      have hT7 := isT_keep (isT_keep (isT_keep hTX g5 hq0) g7 hq0) g8 hq0
      obtain ⟨v', S', q', k1, k2, k3, k4⟩ := append_strN t7 h1.desc hq hq0 hT7 (by omega) (u)
      repeat' (first | refine Wp.seq ?_ | refine Wp.block ?_ | (apply Wp.region; focus ((try simp [e3, e5, hv, hpos, hi, c1, c2, x0, x1, litW, c5, c6, z1, z2, c7, c8, litS1, k1, hwr]) <;> rfl)) | (refine Wp.cond_t ?_ ?_; focus (simp [e3, e5, hv, hpos, hi, c1, c2, x0, x1, litW, c5, c6, z1, z2, c7, c8, litS1, k1, hwr]; done)) | (refine Wp.cond_f ?_ ?_; focus (simp [e3, e5, hv, hpos, hi, c1, c2, x0, x1, litW, c5, c6, z1, z2, c7, c8, litS1, k1, hwr]; done)) | refine Wp.skip ?_ | refine Wp.ret ?_ | refine Wp.exit ?_ | refine Blk.here ?_ | (refine Blk.past ?_ ?_; focus (simp; done)))
      exact ⟨by simp [e3], by simp [hwe], q', xs ++ [u], k3, by simpa using k4, by simp [hxl], fun z hz => (List.mem_append.1 hz).elim (hxb z) (fun e => by rw [List.mem_singleton.1 e]; exact hu), k2.more (by omega)⟩
    have hT7 := isT_keep (isT_keep hTX g5 hq0) g7 hq0
    obtain ⟨v', S', q', k1, k2, k3, k4⟩ := append_strN t6 h1.desc hq hq0 hT7 (by omega) (w ++ ⟨#[32]⟩ ++ s)
    repeat' (first | refine Wp.seq ?_ | refine Wp.block ?_ | (apply Wp.region; focus ((try simp [e3, e5, hv, hpos, hi, c1, c2, x0, x1, litW, c5, c6, z1, z2, c7, y0, y1, litS1, k1, hwr]) <;> rfl)) | (refine Wp.cond_t ?_ ?_; focus (simp [e3, e5, hv, hpos, hi, c1, c2, x0, x1, litW, c5, c6, z1, z2, c7, y0, y1, litS1, k1, hwr]; done)) | (refine Wp.cond_f ?_ ?_; focus (simp [e3, e5, hv, hpos, hi, c1, c2, x0, x1, litW, c5, c6, z1, z2, c7, y0, y1, litS1, k1, hwr]; done)) | refine Wp.skip ?_ | refine Wp.ret ?_ | refine Wp.exit ?_ | refine Blk.here ?_ | (refine Blk.past ?_ ?_; focus (simp; done)))
    exact ⟨by simp [e3], by simp [hwe], q', xs ++ [w ++ ⟨#[32]⟩ ++ s], k3, by simpa using k4, by simp [hxl], fun z hz => (List.mem_append.1 hz).elim (hxb z) (fun e => by rw [List.mem_singleton.1 e]; omega), k2.more (by omega)⟩
  · rintro f ⟨tm, T⟩ ⟨e3, e5, q, xs, hq, hT, hxl, hxb, hG⟩
    simp only at e3 e5 hT hG
    have hz : (n : Int) - n = 0 := by omega
    obtain ⟨cp, hv, hcp⟩ := hT.val
    rw [hv] at hT
    repeat' (first | refine Wp.seq ?_ | refine Wp.block ?_ | (apply Wp.region; focus ((try simp [e3, e5, hz, hv]) <;> rfl)) | (refine Wp.cond_t ?_ ?_; focus (simp [e3, e5, hz, hv]; done)) | (refine Wp.cond_f ?_ ?_; focus (simp [e3, e5, hz, hv]; done)) | refine Wp.skip ?_ | refine Wp.ret ?_ | refine Wp.exit ?_ | refine Blk.here ?_ | (refine Blk.past ?_ ?_; focus (simp; done)))
    refine ⟨rfl, answer_trim1 (v := .rsl q 0 xs.length cp) (by simp [hv]) ⟨trim_desc hG.rd.desc, q, xs, ⟨hT.val, ?_⟩, by omega, hxb⟩⟩
    rw [trim_look (by simp [V.refs])]
    exact hT.obj
end Go.Proofs.YtgaodlhdilhliaaGreatDoor.Draw

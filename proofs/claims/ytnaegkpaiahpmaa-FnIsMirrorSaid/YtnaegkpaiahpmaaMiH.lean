/-
  Mirrors: the draw, by a run by hand. No condition.
-/
import Derived.Test.YtnaegkpaiahpmaaRows
import Derived.Test.YtnaegkpaiahpmaaSym
import Derived.Test.YtnaegkpaiahpmaaSymD
import Derived.Test.YtnaegkpaiahpmaaSymE
import Derived.Test.YtnaegkpaiahpmaaSymF
import Derived.Test.YtnaegkpaiahpmaaSymG
import Derived.Test.YtnaegkpaiahpmaaIds
import Derived.Test.YtnaegkpaiahpmaaNp
import Derived.Test.YtnaegkpaiahpmaaTel
import Derived.Test.YtnaegkpaiahpmaaIv
import Derived.Test.YtnaegkpaiahpmaaDraw
import Derived.Test.YtnaegkpaiahpmaaDrawC
import Derived.Test.YtnaegkpaiahpmaaDrawD
import Derived.Test.YtnaegkpaiahpmaaDrawX
import Derived.Test.YtnaegkpaiahpmaaIvB
import Derived.Test.YtnaegkpaiahpmaaIvC
import Derived.Test.YtnaegkpaiahpmaaIvE
import Derived.Test.YtnaegkpaiahpmaaMiG
import Derived.WalkKit
import Derived.ProofKit
import Derived.OpenShut
namespace Go.Proofs.Ytnaegkpaiahpmaa.Mi
open Go.ChangeShapes Go.WideShapes Go.ChangeAt Go.RowKit Go.Sx Go.Proofs.Ytnaegkpaiahpmaa.Ids
open Go.Proofs.Ytnaegkpaiahpmaa.Iv (Ws cellW telP)
open Go.Proofs.Ytnaegkpaiahpmaa.Tel (telK unR unO objsO lstR lstO)
open Go.Proofs.Ytnaegkpaiahpmaa.Draw (K0 fldP0 fldP1 loadS lookN loadP storeP lookW islW allocP storeS0 storeS1)
set_option linter.unusedVariables false
set_option linter.unusedSimpArgs false

theorem isl_write {obs : List (Nat × Ob Sy)} {q r : Nat} {zs : List Int} {v : V Sy} {cs : Ob Sy} (h : IsL obs q zs v) (hr : q ≠ r) : IsL (put obs r cs) q zs v := ⟨h.val, by rw [look_put_ne hr]; exact h.obj⟩
theorem look_writeS {S : Sto Sy} {k q : Nat} {cs x : Ob Sy} (h : Go.Sx.look S.obs k = some x) (hk : k ≠ q) : Go.Sx.look (S.write q cs).obs k = some x := by
  show Go.Sx.look (put S.obs q _) k = _
  rw [look_put_ne hk]; exact h
theorem small_fit {zs : List Int} (h1 : zs.length ≤ 25) (h : ∀ z, z ∈ zs → z = 0 ∨ z = 1 ∨ z = -1) : Fit zs := Fit.of h1 (fun z hz => by have := h z hz; omega)
theorem litO (sto : Sto Sy) : abuildSlice (symNum []) (tiOf Try.prog) sto 23 2 [(0, .int .i64 (.c (-1))), (1, .int .i64 (.c 1))] = some (.rsl sto.next 0 2 (some 2), sto.new (ints (nums [-1, 1]))) := by kernel_rfl
/-- One of two numbers, where only the reader and the list are seen. -/
theorem oneSeen {bs : List Int} (hbs : ∀ b, b ∈ bs → 0 ≤ b ∧ b < 256) {o : Nat} {P : Int} {J : Sto Sy} (h : Rdy bs o P J) (hP : P ≤ 1000000) {q : Nat} (hq : q ≠ o) {zs : List Int} (hl : Go.Sx.look J.obs q = some (ints (nums zs))) (k : Nat) (hk : zs.length = k) (h1 : 1 ≤ k) (h2 : k ≤ 1000000) (f : Nat) (hf : 1 ≤ f) :
    ∃ x S, acallV (symIn Try.prog K2 [] f) ⟨J.next, onlyObs [o, q] J.obs, J.next⟩ (.func 35 [] []) [.ptr o 0, .rsl q 0 k (some k)] = some (.int .i64 (.c x), S) ∧ Nw bs o (P + 1) [] ⟨J.next, onlyObs [o, q] J.obs, J.next⟩ S ∧ x ∈ zs := by
  subst hk
  obtain ⟨p, hp, hr'⟩ := h
  have hZ : Rd bs o p (⟨J.next, onlyObs [o, q] J.obs, J.next⟩ : Sto Sy) := ⟨by show Go.Sx.look (onlyObs [o, q] J.obs) o = _; rw [onlyObs_look, if_pos (by simp)]; exact hr'.obj, onlyObs_desc hr'.desc, hr'.p0⟩
  obtain ⟨_, h1', x, s1, rfl, h2', h4'⟩ := Draw.one bs hbs o p zs _ hZ (by omega) q hq (by show Go.Sx.look (onlyObs [o, q] J.obs) q = _; rw [onlyObs_look, if_pos (by simp)]; exact hl) h1 h2 97
  obtain ⟨v, S, k1, k2, k3⟩ : ∃ v S, acallV (symIn Try.prog K0 [] 99) ⟨J.next, onlyObs [o, q] J.obs, J.next⟩ (.func 35 [] []) [.ptr o 0, .rsl q 0 zs.length (some zs.length)] = some (v, S) ∧ Nw bs o (P + 1) [] ⟨J.next, onlyObs [o, q] J.obs, J.next⟩ S ∧ v = .int .i64 (.c x) :=
    run_call (Φ := fun v _ => v = .int .i64 (.c x)) ⟨_, h1', h4'.nw (Q := P + 1) (by omega), rfl⟩
  subst k3
  exact ⟨x, S, xfer k1 K2_on f hf, k2, h2'⟩
attribute [local simp] aops wants aop apure St.eval setTm_some setTm_none Tr.get_set evals pevals apureB alen tiS tiI tiB Draw.tiY Draw.tiU abin aint isCmp sym_lt sym_eqs sym_neqs sym_eq sym_neq sym_gtr sym_leq sym_geq sym_add sym_sub sym_mul aeff aeffB idx? ofV aindexAddr aggDesc aifc_int fldP0 fldP1 u8s_length
def DrawnP (r : V Sy × Sto Sy) : Prop := Desc r.2.next r.2.obs ∧ ∃ v1 v2 q1 q2 z1 z2, r.1 = .agg [v1, v2] ∧ IsL r.2.obs q1 z1 v1 ∧ IsL r.2.obs q2 z2 v2 ∧ Fit z1 ∧ Fit z2
theorem drawn_of {T : Sto Sy} {v1 v2 : V Sy} {q1 q2 : Nat} {z1 z2 : List Int} {tm : Tr (V Sy)} (hd : Desc T.next T.obs) (i1 : IsL T.obs q1 z1 v1) (i2 : IsL T.obs q2 z2 v2) (f1 : Fit z1) (f2 : Fit z2) (hm : Go.Sx.look T.obs 0 = some [v1, v2]) (ht : tm.get .any 2 = .ptr 0 0) :
    ∃ r, answer (tiOf Try.prog) ⟨tm, T⟩ 0 [.cell 2 25] = some r ∧ DrawnP r := by
  refine ⟨_, ans_pair ht hm, trim_desc hd, v1, v2, q1, q2, z1, z2, rfl, i1.trimIn (fun k hk => ?_), i2.trimIn (fun k hk => ?_), f1, f2⟩
  · simp only [V.refs, refsL, List.append_nil, List.mem_append]; exact .inl hk
  · simp only [V.refs, refsL, List.append_nil, List.mem_append]; exact .inr hk
set_option maxRecDepth 10000 in
theorem drawIM (bs : List Int) (hbs0 : ∀ b, b ∈ bs → 0 ≤ b ∧ b < 256) : ∃ r, symRun Try.prog K2 [] 200 14 [.slice (u8s bs)] ⟨0, [], 0⟩ = some r ∧ DrawnP r := by
  refine own_run2 (n := 199) (hK2 _ _) Try.func14 rfl rfl ?_
  simp only [Try.f14]
  obtain ⟨S1, hr, h1, k1, e1⟩ := Draw.readerP bs 99 (by omega)
  have hr := xfer hr K2_nr 199 (by omega)
  have hbs := take2000 hbs0
  generalize bs.take 2000 = bs1 at h1 hbs
  obtain ⟨_, T, hc, hn, L, rfl, hL2, hL6⟩ := Draw.lengthOf bs1 hbs h1 (by omega) 99 (by omega)
  have hc := xfer hc K2_lo 199 (by omega)
  obtain ⟨x, T1, hp, hn1, hx0, hx3⟩ := Draw.pickC bs1 hbs hn.rd (by omega) 3 (by omega) 99 (by omega)
  have hp := xfer hp K2_pk 199 (by omega)
  have k2 := hn.keep _ _ (by omega) (by simp) k1
  have k3 := hn1.keep _ _ (by omega) (by simp) k2
  have hlt := hn1.rd.lt
  have w1 : Ws T1 := ⟨hn1.rd.desc, by have := hn1.low; omega⟩
  have hx : x = 0 ∨ x = 1 ∨ x = 2 := by omega
  have z0 := eZ_len L 0
  have z1 := eZ_len L 1
  have o0 := eZ_one L 0
  have o1 := eZ_one L 1
  have n1 : (onZ L).length = L := by simp [onZ]
  have p1 : ∀ z, z ∈ onZ L → z = 1 := fun z hz => by obtain ⟨_, _, rfl⟩ := List.mem_map.1 hz; rfl
  rcases hx with rfl | rfl | rfl
  case inl =>
    obtain ⟨S2, c2, w2, n2, o2, k2'⟩ := telP w1 K2_un (dL1_eq hL2 hL6) 199 (by omega)
    simp only [unR] at c2
    have i0 : IsL S2.obs T1.next (eZ L 0) (.rsl T1.next 0 (eZ L 0).length none) := ⟨⟨none, rfl, .inl rfl⟩, o2 0 _ rfl⟩
    have i1 : IsL S2.obs (T1.next + 1) (eZ L 1) (.rsl (T1.next + 1) 0 (eZ L 1).length none) := ⟨⟨none, rfl, .inl rfl⟩, o2 1 _ rfl⟩
    have n2 : S2.next = T1.next + 2 := n2
    generalize eZ L 0 = g at *
    generalize eZ L 1 = f at *
    rw [z0, z1] at c2
    rw [z0] at i0
    rw [z1] at i1
    obtain ⟨S3, st3, w3, n3, m3, k3'⟩ := cellW w2 (a := .rsl T1.next 0 L none) (b := .rsl (T1.next + 1) 0 L none) rfl rfl
    have i0 : IsL S3.obs T1.next g (.rsl T1.next 0 L none) := ⟨i0.val, k3' _ _ i0.obj⟩
    have i1 : IsL S3.obs (T1.next + 1) f (.rsl (T1.next + 1) 0 L none) := ⟨i1.val, k3' _ _ i1.obj⟩
    have r3 := k3' _ _ (k2' _ _ k3)
    obtain ⟨S4, c4, w4, n4, o4, k4'⟩ := telP w3 K2_os (dL2_eq hL2 hL6) 199 (by omega)
    simp only [lstR] at c4
    have j0 : IsL S4.obs S3.next (onZ L) (.rsl S3.next 0 (onZ L).length none) := ⟨⟨none, rfl, .inl rfl⟩, o4 0 _ rfl⟩
    generalize onZ L = u at *
    rw [n1] at c4 j0
    have i1 : IsL S4.obs (T1.next + 1) f (.rsl (T1.next + 1) 0 L none) := ⟨i1.val, k4' _ _ i1.obj⟩
    have r4 := k4' _ _ r3
    have m4 := k4' _ _ m3
    have d4 := w4.desc
    have st5 := storeS0 (r := S3.next) (l := L) (c := none) m4
    have m5 := lookW (a := .rsl S3.next 0 L none) (b := .rsl (T1.next + 1) 0 L none) m4
    have i1 := islW (cs := [.rsl S3.next 0 L none, .rsl (T1.next + 1) 0 L none]) (r := S2.next) i1 (by omega)
    have j0 := islW (cs := [.rsl S3.next 0 L none, .rsl (T1.next + 1) 0 L none]) (r := S2.next) j0 (by omega)
    have r5 := look_writeS (q := S2.next) (cs := [.rsl S3.next 0 L none, .rsl (T1.next + 1) 0 L none]) r4 (by omega)
    have d5 : Desc (S4.write S2.next [.rsl S3.next 0 L none, .rsl (T1.next + 1) 0 L none]).next (S4.write S2.next [.rsl S3.next 0 L none, .rsl (T1.next + 1) 0 L none]).obs := Desc.put _ _ d4
    generalize S4.write S2.next [.rsl S3.next 0 L none, .rsl (T1.next + 1) 0 L none] = S5 at *
    have l5 := loadS (i := 1) m5 rfl
    have st6 := store_ok (T := tiOf Try.prog) tiI i1 (i := 1) (x := -1) (by omega)
    have i1 := i1.wrote 1 (-1)
    have j0 := islW (cs := ints (nums (f.set 1 (-1)))) (r := T1.next + 1) j0 (by omega)
    have m6 := look_writeS (q := T1.next + 1) (cs := ints (nums (f.set 1 (-1)))) m5 (by omega)
    have r6 := look_writeS (q := T1.next + 1) (cs := ints (nums (f.set 1 (-1)))) r5 (by omega)
    have d6 : Desc (S5.write (T1.next + 1) (ints (nums (f.set 1 (-1))))).next (S5.write (T1.next + 1) (ints (nums (f.set 1 (-1))))).obs := Desc.put _ _ d5
    generalize S5.write (T1.next + 1) (ints (nums (f.set 1 (-1)))) = S6 at *
    have l6 := loadP m6
    have st7 := storeP (v := .rsl S3.next 0 L none) (w := .rsl (T1.next + 1) 0 L none) r6 rfl rfl
    have r7 := lookW (a := .rsl S3.next 0 L none) (b := .rsl (T1.next + 1) 0 L none) r6
    have i1 := islW (cs := [.rsl S3.next 0 L none, .rsl (T1.next + 1) 0 L none]) (r := 0) i1 (by omega)
    have j0 := islW (cs := [.rsl S3.next 0 L none, .rsl (T1.next + 1) 0 L none]) (r := 0) j0 (by omega)
    have d7 : Desc (S6.write 0 [.rsl S3.next 0 L none, .rsl (T1.next + 1) 0 L none]).next (S6.write 0 [.rsl S3.next 0 L none, .rsl (T1.next + 1) 0 L none]).obs := Desc.put _ _ d6
    generalize S6.write 0 [.rsl S3.next 0 L none, .rsl (T1.next + 1) 0 L none] = S7 at *
    have h1L : ¬ L ≤ 1 := by omega
    have h1L' : 1 < L := by omega
    have h1i : (1 : Int) < L := by omega
    have h0L : 0 < L := by omega
    repeat' (first | refine Wp.seq ?_ | refine Wp.block ?_ | (apply Wp.region; focus ((try simp [setArgs, allocP, hr, hc, hp, c2, st3, c4, st5, l5, st6, h1L, h1L', h1i, h0L, l6, st7]) <;> rfl)) | (refine Wp.cond_t ?_ ?_; focus (simp [setArgs, allocP, hr, hc, hp, c2, st3, c4, st5, l5, st6, h1L, h1L', h1i, h0L, l6, st7]; done)) | (refine Wp.cond_f ?_ ?_; focus (simp [setArgs, allocP, hr, hc, hp, c2, st3, c4, st5, l5, st6, h1L, h1L', h1i, h0L, l6, st7]; done)) | refine Wp.skip ?_ | refine Wp.ret ?_ | refine Wp.exit ?_ | refine Blk.here ?_ | (refine Blk.past ?_ ?_; focus (simp; done)))
    exact ⟨rfl, drawn_of d7 j0 i1 (small_fit (by omega) (fun z hz => .inr (.inl (p1 z hz)))) (small_fit (by simp; omega) (fun z hz => by
      rcases List.mem_or_eq_of_mem_set hz with hz | rfl
      · have := o1 z hz; omega
      · omega)) r7 rfl⟩
  case inr.inr =>
    obtain ⟨_, U, hs, hn2, v1, v2, rfl, q1, q2, z1, z2, a1, a2, a3, a4, a5, a6, a7⟩ := Draw.somePair bs1 hbs hn1.rd (by omega) 99 (by omega)
    have hs := xfer hs K2_sp 199 (by omega)
    have k4 := hn2.keep _ _ (by omega) (by simp) k3
    have p1 : v1.oneCell = true := by obtain ⟨c, rfl, _⟩ := a4.val; rfl
    have p2 : v2.oneCell = true := by obtain ⟨c, rfl, _⟩ := a5.val; rfl
    have st := storeP k4 p1 p2
    have m2 := lookW (a := v1) (b := v2) k4
    have i1 := islW (cs := [v1, v2]) (r := 0) a4 (by omega)
    have i2 := islW (cs := [v1, v2]) (r := 0) a5 (by omega)
    have hd : Desc (U.write 0 [v1, v2]).next (U.write 0 [v1, v2]).obs := Desc.put _ _ hn2.rd.desc
    generalize U.write 0 [v1, v2] = T2 at *
    repeat' (first | refine Wp.seq ?_ | refine Wp.block ?_ | (apply Wp.region; focus ((try simp [setArgs, allocP, hr, hc, hp, hs, st]) <;> rfl)) | (refine Wp.cond_t ?_ ?_; focus (simp [setArgs, allocP, hr, hc, hp, hs, st]; done)) | (refine Wp.cond_f ?_ ?_; focus (simp [setArgs, allocP, hr, hc, hp, hs, st]; done)) | refine Wp.skip ?_ | refine Wp.ret ?_ | refine Wp.exit ?_ | refine Blk.here ?_ | (refine Blk.past ?_ ?_; focus (simp; done)))
    exact ⟨rfl, drawn_of hd i1 i2 a6 a7 m2 rfl⟩
  case inr.inl =>
    have h1L : ¬ L ≤ 1 := by omega
    have h1L' : 1 < L := by omega
    have h1i : (1 : Int) < L := by omega
    have h0L : 0 < L := by omega
    obtain ⟨S2, c2, w2, n2, o2, k2'⟩ := telP w1 K2_un (dL1_eq hL2 hL6) 199 (by omega)
    simp only [unR] at c2
    have i0 : IsL S2.obs T1.next (eZ L 0) (.rsl T1.next 0 (eZ L 0).length none) := ⟨⟨none, rfl, .inl rfl⟩, o2 0 _ rfl⟩
    have i1 : IsL S2.obs (T1.next + 1) (eZ L 1) (.rsl (T1.next + 1) 0 (eZ L 1).length none) := ⟨⟨none, rfl, .inl rfl⟩, o2 1 _ rfl⟩
    have n2 : S2.next = T1.next + 2 := n2
    generalize eZ L 0 = g at *
    generalize eZ L 1 = f at *
    rw [z0, z1] at c2
    rw [z0] at i0
    rw [z1] at i1
    obtain ⟨S3, st3, w3, n3, m3, k3'⟩ := cellW w2 (a := .rsl T1.next 0 L none) (b := .rsl (T1.next + 1) 0 L none) rfl rfl
    have i0 : IsL S3.obs T1.next g (.rsl T1.next 0 L none) := ⟨i0.val, k3' _ _ i0.obj⟩
    have i1 : IsL S3.obs (T1.next + 1) f (.rsl (T1.next + 1) 0 L none) := ⟨i1.val, k3' _ _ i1.obj⟩
    have r3 := k3' _ _ (k2' _ _ k3)
    have rd3 := rdy_keep hn1.rd (fun k x hx => k3' k x (k2' k x hx)) w3.desc
    repeat' (first | refine Wp.seq ?_ | refine Wp.block ?_ | (apply Wp.region; focus ((try simp [setArgs, allocP, hr, hc, hp, c2, st3]) <;> rfl)) | (refine Wp.cond_t ?_ ?_; focus (simp [setArgs, allocP, hr, hc, hp, c2, st3]; done)) | (refine Wp.cond_f ?_ ?_; focus (simp [setArgs, allocP, hr, hc, hp, c2, st3]; done)) | refine Wp.skip ?_ | refine Wp.ret ?_ | refine Wp.exit ?_ | refine Blk.here ?_ | (refine Blk.past ?_ ?_; focus (simp; done)))
    have i0U7 := i0
    have i1U7 := i1

    -- a region of open order
    have dU7 := w3.desc
    have lU7 := w3.low
    have ltU7 := rd3.lt
    obtain ⟨w7, W7, hd7, hm7, _⟩ := Draw.oneC bs1 hbs (rd3.lows (S3.next + 1)) (by omega) [-1, 1] 2 rfl (by omega) (by omega) 99 (by omega)
    have hd7 := xfer hd7 K2_on 199 (by omega)
    have eN7 : (Sto.new ⟨S3.next, S3.obs, S3.next + 1⟩ (ints (nums [-1, 1])) : Sto Sy) = ⟨S3.next + 1, (S3.next, ints (nums [-1, 1])) :: S3.obs, S3.next + 1⟩ := by
      show (⟨S3.next + 1, (S3.next, noBc (ints (nums [-1, 1]))) :: S3.obs, S3.next + 1⟩ : Sto Sy) = _
      rw [noBc_ints]
    rw [eN7] at hd7
    have hd7 : acallV (symIn Try.prog K2 [] 199) ⟨S3.next + 1, (S3.next, ints (nums [-1, 1])) :: S3.obs, S3.next + 1⟩ (.func 35 [] []) [.ptr 1 0, .rsl S3.next 0 2 (some 2)] = some (.int .i64 (.c w7), W7) := hd7
    have hb7 : Nat.ble (S3.next + 1) W7.low = false := by have := hm7.low; rw [Bool.eq_false_iff, ne_eq, Nat.ble_eq]; omega
    have tk7 := takeNew_id dU7
    have rJ7 : Rdy bs1 1 (0 + 1 + 1) (⟨S3.next + 1, (S3.next, ints (nums [-1, 1])) :: S3.obs, S3.low⟩ : Sto Sy) := by
      have := rd3.new (ints (nums [-1, 1]))
      rwa [show (S3.new (ints (nums [-1, 1])) : Sto Sy) = ⟨S3.next + 1, (S3.next, ints (nums [-1, 1])) :: S3.obs, S3.low⟩ by show (⟨S3.next + 1, (S3.next, noBc (ints (nums [-1, 1]))) :: S3.obs, S3.low⟩ : Sto Sy) = _; rw [noBc_ints]] at this
    obtain ⟨J7, hJ7⟩ : ∃ J : Sto Sy, J = ⟨S3.next + 1, (S3.next, ints (nums [-1, 1])) :: S3.obs, S3.low⟩ := ⟨_, rfl⟩
    rw [← hJ7] at rJ7
    have eJn7 : J7.next = S3.next + 1 := by rw [hJ7]
    have eJo7 : J7.obs = (S3.next, ints (nums [-1, 1])) :: S3.obs := by rw [hJ7]
    have hl7 : Go.Sx.look J7.obs S3.next = some (ints (nums [-1, 1])) := by rw [eJo7, look_cons, if_pos rfl]
    have kJ7 : ∀ k x, Go.Sx.look S3.obs k = some x → Go.Sx.look J7.obs k = some x := fun k x h => by
      have := dU7.look_lt h
      rw [eJo7, look_cons, if_neg (by omega)]; exact h
    have dJ7 : Desc (S3.next + 1) J7.obs := by rw [← eJn7]; exact rJ7.desc
    obtain ⟨x7, X7, hc7, hn7, hx7⟩ := oneSeen hbs rJ7 (by omega) (q := S3.next) (by omega) hl7 2 rfl (by omega) (by omega) 199 (by omega)
    rw [eJn7] at hc7
    have jo7 := Draw.joined2 rJ7 hl7 (by omega) hn7 0 (by omega)
    obtain ⟨V7, hV7⟩ : ∃ V : Sto Sy, V = ⟨X7.next, takeNew J7.next X7.obs ++ over [1, S3.next] X7.obs J7.obs, if Nat.blt X7.low S3.low then X7.low else S3.low⟩ := ⟨_, rfl⟩
    have rV7 : Rdy bs1 1 (0 + 1 + 1 + 1) V7 := by rw [hV7]; exact jo7.rd.lows _
    have kV7 : ∀ k x, k ≠ 1 → Go.Sx.look S3.obs k = some x → Go.Sx.look V7.obs k = some x := fun k x hk h => by rw [hV7]; exact jo7.keep k x hk (by simp) (kJ7 k x h)
    have hXn7 : S3.next + 1 ≤ X7.next := by have := hn7.next; rw [← eJn7]; exact this
    have hXl7 : X7.low ≤ 1 := hn7.low
    have eVn7 : V7.next = X7.next := by rw [hV7]
    have wV7 : Ws V7 := ⟨rV7.desc, by rw [hV7]; show (if Nat.blt X7.low S3.low then X7.low else S3.low) ≤ X7.next; split <;> omega⟩
    have i0 : IsL V7.obs T1.next _ (.rsl T1.next 0 L none) := ⟨i0.val, kV7 _ _ (by omega) i0.obj⟩
    have i1 : IsL V7.obs (T1.next + 1) _ (.rsl (T1.next + 1) 0 L none) := ⟨i1.val, kV7 _ _ (by omega) i1.obj⟩
    have mU7 := m3
    have mV7 := kV7 _ _ (by omega) mU7
    have rr7 := kV7 _ _ (by omega) r3
    have st7 := store_ok (T := tiOf Try.prog) tiI i1 (i := 1) (x := x7) (by omega)
    have hxw7 : x7 = 0 ∨ x7 = 1 ∨ x7 = -1 := by
      rcases hx7 with _ | ⟨_, _ | ⟨_, h⟩⟩
      · omega
      · omega
      · cases h
    have i1' := i1.wrote 1 x7

    have hcU7 := dU7.look_lt mU7
    have haU7 := dU7.look_lt i0U7.obj
    have hbU7 := dU7.look_lt i1U7.obj
    have hdq7 : deeper S3.obs [S2.next] = [T1.next, T1.next + 1] := by simp [deeper, mU7, refsL, V.refs]
    have hreach7 := Draw.reach_rows hdq7 (by simp) (Draw.deeper_ints [T1.next, T1.next + 1] (fun a ha => by
      simp at ha
      rcases ha with rfl | rfl
      · exact ⟨_, i0U7.obj⟩
      · exact ⟨_, i1U7.obj⟩))
    have ob07 : ∀ ok : Nat → Bool, obsIn ok (onlyObs [] S3.obs) = true := fun ok => by rw [Draw.onlyObs_nil]; rfl
    have ob17 : obsIn (fun o => [S2.next, T1.next, T1.next + 1].contains o) (onlyObs [S2.next] S3.obs) = true := Draw.obsIn_of dU7 (fun a ha b hb => by
      have ha : a = S2.next := by simpa using ha
      subst ha
      rw [mU7] at hb
      cases hb
      simp [inNs, V.inN])
    have ob47 : obsIn (fun o => [1, S3.next].contains o) (onlyObs [1, S3.next] J7.obs) = true := Draw.obsIn_of dJ7 (fun a ha b hb => by
      have ha : a = 1 ∨ a = S3.next := by simpa using ha
      obtain ⟨pJ, _, rJ⟩ := rJ7
      have oJ := rJ.obj
      rcases ha with rfl | rfl
      · rw [oJ] at hb
        cases hb
        simp [inNs, V.inN, Draw.inNs_u8s]
      · rw [hl7] at hb
        cases hb
        exact Draw.inNs_nums _)
    have ldO7 : aload (tiOf Try.prog) ⟨S3.next, onlyObs [S2.next] S3.obs, S3.next⟩ 23 (.ptr S2.next 1) = some (.rsl (T1.next + 1) 0 L none) := loadS (S := ⟨S3.next, onlyObs [S2.next] S3.obs, S3.next⟩) (by show Go.Sx.look (onlyObs [S2.next] S3.obs) S2.next = _; rw [onlyObs_look, if_pos (by simp)]; exact mU7) rfl
    have ldF7 : aload (tiOf Try.prog) ⟨S3.next, S3.obs, S3.next⟩ 23 (.ptr S2.next 1) = some (.rsl (T1.next + 1) 0 L none) := loadS (S := ⟨S3.next, S3.obs, S3.next⟩) mU7 rfl
    have nb7 : noBc (ints (nums [-1, 1])) = ints (nums [-1, 1]) := noBc_ints _
    have rf7 : refsL (ints (nums [-1, 1])) = [] := Draw.refs_nums _
    have hc17 : ¬ S2.next = 1 := by omega
    have hc27 : ¬ S2.next = S3.next := by omega
    have hc37 : ¬ 1 = S2.next := by omega
    have hc47 : ¬ S3.next = S2.next := by omega
    have hc57 : ¬ S3.next = 1 := by omega
    have hc67 : ¬ 1 = S3.next := by omega
    have h1J7 : 1 < S3.next + 1 := by omega
    obtain ⟨Y7, hY7⟩ : ∃ Y : Sto Sy, Y = V7.write (T1.next + 1) (ints (nums ((f).set 1 x7))) := ⟨_, rfl⟩
    have st7 : astore (tiOf Try.prog) V7 3 (.ptr (T1.next + 1) 1) (.int .i64 (.c x7)) = some Y7 := by rw [hY7]; exact st7
    refine Draw.drawX3 (tm2 := ?tm7) (st' := ?sf7) (s2 := V7) 5 [(4, 3)] (by kernel_rfl) (by kernel_rfl) (by kernel_rfl) (fun F hF => ?g1) (fun F hF => ?g2) ?g3 ?g4
    case g1 =>
      have hF3 : 3 ∈ F.getD 4 [] := hF (4, 3) (by simp)
      simp at hF3
      simp [dhead, seenBy, keepOnly, looks, joinN, addN, takeNew, bite_eq, Op.operands, Call.operands, tk7, hd7, hb7, ldF7, litO, Sto.new, nb7, hF3]
    case g2 =>
      have hF3 : 3 ∈ F.getD 4 [] := hF (4, 3) (by simp)
      simp at hF3
      refine (Draw.xpure (v := .ptr S2.next 1) [] [S2.next] (by simp [shown, sightOf, rootsOf, looks, Op.operands, Call.operands, V.refs, deeper]) (by simp only [fitX, ob07]; simp [temsIn, looks, Op.operands, Call.operands, V.inN, hcU7]) (by simp [wants]) (by simp [seenX, keepOnly, looks, Op.operands, Call.operands]) dU7 lU7 (fun a ha => by simp at ha; omega) (by simp [apart, hcU7, ltU7])).trans ?_
      refine (Draw.xpure (v := (.rsl (T1.next + 1) 0 L none)) [S2.next] [S2.next, T1.next, T1.next + 1] (by simp [shown, sightOf, rootsOf, looks, Op.operands, Call.operands, V.refs, deeper, refsL, mU7, hreach7]) (by simp only [fitX, ob17]; simp [temsIn, looks, Op.operands, Call.operands, V.inN, hcU7, haU7, hbU7]) (by simp [wants]) (by simp [seenX, keepOnly, looks, Op.operands, Call.operands, ldO7]) dU7 lU7 (fun a ha => by simp at ha; omega) (by simp [apart, hcU7, ltU7])).trans ?_
      refine (Draw.xpure (v := .ptr 1 0) [] [1] (by simp [shown, sightOf, rootsOf, looks, Op.operands, Call.operands, V.refs, deeper]) (by simp only [fitX, ob07]; simp [temsIn, looks, Op.operands, Call.operands, V.inN, ltU7]) (by simp [wants]) (by simp [seenX, keepOnly, looks, Op.operands, Call.operands]) dU7 lU7 (fun a ha => by simp at ha; omega) (by simp [apart, hcU7, ltU7])).trans ?_
      have tkn : takeNew S3.next ((S3.next, ints (nums [-1, 1])) :: onlyObs [] S3.obs) ++ over [] ((S3.next, ints (nums [-1, 1])) :: onlyObs [] S3.obs) S3.obs = J7.obs := by
        rw [over_nil, Draw.onlyObs_nil, eJo7]
        simp [takeNew, bite_eq]
      have lo : (if Nat.blt S3.next S3.low then S3.next else S3.low) = S3.low := by rw [if_neg (by rw [Nat.blt_eq]; omega)]
      refine (Draw.xgen (v := .rsl S3.next 0 2 (some 2)) (s := ⟨S3.next + 1, (S3.next, ints (nums [-1, 1])) :: onlyObs [] S3.obs, S3.next⟩) [] [] [] (by simp [shown, sightOf, rootsOf, looks, Op.operands, Call.operands, V.refs]) (by simp only [fitX, ob07]; simp [temsIn, looks, Op.operands, Call.operands, V.inN]) (by simp [wants]) (by simp [seenX, keepOnly, looks, Op.operands, Call.operands, litO, Sto.new, nb7]) rfl (Nat.le_succ _) ⟨Nat.lt_succ_self _, onlyObs_desc dU7⟩ rfl (by simp [apart])).trans ?_
      rw [tkn, lo]
      obtain ⟨pJ, _, rJ⟩ := rJ7
      have oJ := rJ.obj
      have hw : wroteOf [1, S3.next] X7.low = [1, S3.next] := by simp [wroteOf]; omega
      have eV : (⟨X7.next, takeNew (S3.next + 1) X7.obs ++ over [1, S3.next] X7.obs J7.obs, if Nat.blt X7.low S3.low then X7.low else S3.low⟩ : Sto Sy) = V7 := by rw [hV7, eJn7]
      refine (Draw.xgen (v := .int .i64 (.c x7)) (s := X7) [1, S3.next] [1, S3.next] [1, S3.next] (by simp [shown, sightOf, rootsOf, looks, Op.operands, Call.operands, V.refs, deeper, oJ, hl7, refsL, reach, Draw.refs_u8s, rf7]) (by simp only [fitX, ob47]; simp [temsIn, looks, Op.operands, Call.operands, V.inN, h1J7]) (by simp [wants]) (by simp [seenX, keepOnly, looks, Op.operands, Call.operands, hc7]) hw hXn7 hn7.rd.desc (by simp [onlyObs_look, oJ, hl7]) (by simp [apart, hF3, hc17, hc27, hc37, hc47, hc57, hc67, ltU7])).trans ?_
      exact congrArg (fun s => some (_, s)) eV
    case g3 =>
      simp [h0L, h1L, h1L', h1i, st7]
      rfl
    case g4 =>
    have dY : Desc Y7.next Y7.obs := by rw [hY7]; exact Desc.put _ _ wV7.desc
    have wY : Ws Y7 := ⟨dY, by
      have := wV7.low
      rw [hY7]
      show (if Nat.blt (T1.next + 1) V7.low then (T1.next + 1) else V7.low) ≤ V7.next
      split
      · rename_i h; rw [Nat.blt_eq] at h; omega
      · exact this⟩
    have nY : Y7.next = X7.next := by rw [hY7]; exact eVn7
    have rdY : Rdy bs1 1 (0 + 1 + 1 + 1) Y7 := by
      obtain ⟨p, hp, hr⟩ := rV7
      refine ⟨p, hp, ⟨?_, dY, hr.p0⟩⟩
      rw [hY7]
      exact look_writeS hr.obj (by omega)
    have i0 : IsL Y7.obs T1.next g (.rsl T1.next 0 L none) := ⟨i0.val, by rw [hY7]; exact look_writeS i0.obj (by omega)⟩
    have i1 : IsL Y7.obs (T1.next + 1) (f.set 1 x7) (.rsl (T1.next + 1) 0 L none) := by rw [hY7]; exact i1'
    have mY : Go.Sx.look Y7.obs S2.next = some [.rsl T1.next 0 L none, .rsl (T1.next + 1) 0 L none] := by rw [hY7]; exact look_writeS mV7 (by omega)
    have rY : Go.Sx.look Y7.obs 0 = some [.nil, .nil] := by rw [hY7]; exact look_writeS rr7 (by omega)
    have i0U8 := i0
    have i1U8 := i1
    repeat' (first | refine Wp.seq ?_ | refine Wp.block ?_ | (apply Wp.region; focus ((try simp [setArgs]) <;> rfl)) | (refine Wp.cond_t ?_ ?_; focus (simp [setArgs]; done)) | (refine Wp.cond_f ?_ ?_; focus (simp [setArgs]; done)) | refine Wp.skip ?_ | refine Wp.ret ?_ | refine Wp.exit ?_ | refine Blk.here ?_ | (refine Blk.past ?_ ?_; focus (simp; done)))
    clear hY7 hV7 hJ7 hd7 hm7 hc7 hn7 st7 i0U7 i1U7

    -- a region of open order
    have dU8 := wY.desc
    have lU8 := wY.low
    have ltU8 := rdY.lt
    obtain ⟨w8, W8, hd8, hm8, _⟩ := Draw.oneC bs1 hbs (rdY.lows (Y7.next + 1)) (by omega) [-1, 1] 2 rfl (by omega) (by omega) 99 (by omega)
    have hd8 := xfer hd8 K2_on 199 (by omega)
    have eN8 : (Sto.new ⟨Y7.next, Y7.obs, Y7.next + 1⟩ (ints (nums [-1, 1])) : Sto Sy) = ⟨Y7.next + 1, (Y7.next, ints (nums [-1, 1])) :: Y7.obs, Y7.next + 1⟩ := by
      show (⟨Y7.next + 1, (Y7.next, noBc (ints (nums [-1, 1]))) :: Y7.obs, Y7.next + 1⟩ : Sto Sy) = _
      rw [noBc_ints]
    rw [eN8] at hd8
    have hd8 : acallV (symIn Try.prog K2 [] 199) ⟨Y7.next + 1, (Y7.next, ints (nums [-1, 1])) :: Y7.obs, Y7.next + 1⟩ (.func 35 [] []) [.ptr 1 0, .rsl Y7.next 0 2 (some 2)] = some (.int .i64 (.c w8), W8) := hd8
    have hb8 : Nat.ble (Y7.next + 1) W8.low = false := by have := hm8.low; rw [Bool.eq_false_iff, ne_eq, Nat.ble_eq]; omega
    have tk8 := takeNew_id dU8
    have rJ8 : Rdy bs1 1 (0 + 1 + 1 + 1) (⟨Y7.next + 1, (Y7.next, ints (nums [-1, 1])) :: Y7.obs, Y7.low⟩ : Sto Sy) := by
      have := rdY.new (ints (nums [-1, 1]))
      rwa [show (Y7.new (ints (nums [-1, 1])) : Sto Sy) = ⟨Y7.next + 1, (Y7.next, ints (nums [-1, 1])) :: Y7.obs, Y7.low⟩ by show (⟨Y7.next + 1, (Y7.next, noBc (ints (nums [-1, 1]))) :: Y7.obs, Y7.low⟩ : Sto Sy) = _; rw [noBc_ints]] at this
    obtain ⟨J8, hJ8⟩ : ∃ J : Sto Sy, J = ⟨Y7.next + 1, (Y7.next, ints (nums [-1, 1])) :: Y7.obs, Y7.low⟩ := ⟨_, rfl⟩
    rw [← hJ8] at rJ8
    have eJn8 : J8.next = Y7.next + 1 := by rw [hJ8]
    have eJo8 : J8.obs = (Y7.next, ints (nums [-1, 1])) :: Y7.obs := by rw [hJ8]
    have hl8 : Go.Sx.look J8.obs Y7.next = some (ints (nums [-1, 1])) := by rw [eJo8, look_cons, if_pos rfl]
    have kJ8 : ∀ k x, Go.Sx.look Y7.obs k = some x → Go.Sx.look J8.obs k = some x := fun k x h => by
      have := dU8.look_lt h
      rw [eJo8, look_cons, if_neg (by omega)]; exact h
    have dJ8 : Desc (Y7.next + 1) J8.obs := by rw [← eJn8]; exact rJ8.desc
    obtain ⟨x8, X8, hc8, hn8, hx8⟩ := oneSeen hbs rJ8 (by omega) (q := Y7.next) (by omega) hl8 2 rfl (by omega) (by omega) 199 (by omega)
    rw [eJn8] at hc8
    have jo8 := Draw.joined2 rJ8 hl8 (by omega) hn8 0 (by omega)
    obtain ⟨V8, hV8⟩ : ∃ V : Sto Sy, V = ⟨X8.next, takeNew J8.next X8.obs ++ over [1, Y7.next] X8.obs J8.obs, if Nat.blt X8.low Y7.low then X8.low else Y7.low⟩ := ⟨_, rfl⟩
    have rV8 : Rdy bs1 1 (0 + 1 + 1 + 1 + 1) V8 := by rw [hV8]; exact jo8.rd.lows _
    have kV8 : ∀ k x, k ≠ 1 → Go.Sx.look Y7.obs k = some x → Go.Sx.look V8.obs k = some x := fun k x hk h => by rw [hV8]; exact jo8.keep k x hk (by simp) (kJ8 k x h)
    have hXn8 : Y7.next + 1 ≤ X8.next := by have := hn8.next; rw [← eJn8]; exact this
    have hXl8 : X8.low ≤ 1 := hn8.low
    have eVn8 : V8.next = X8.next := by rw [hV8]
    have wV8 : Ws V8 := ⟨rV8.desc, by rw [hV8]; show (if Nat.blt X8.low Y7.low then X8.low else Y7.low) ≤ X8.next; split <;> omega⟩
    have i0 : IsL V8.obs T1.next _ (.rsl T1.next 0 L none) := ⟨i0.val, kV8 _ _ (by omega) i0.obj⟩
    have i1 : IsL V8.obs (T1.next + 1) _ (.rsl (T1.next + 1) 0 L none) := ⟨i1.val, kV8 _ _ (by omega) i1.obj⟩
    have mU8 := mY
    have mV8 := kV8 _ _ (by omega) mU8
    have rr8 := kV8 _ _ (by omega) rY
    have st8 := store_ok (T := tiOf Try.prog) tiI i0 (i := 0) (x := x8) (by omega)
    have hxw8 : x8 = 0 ∨ x8 = 1 ∨ x8 = -1 := by
      rcases hx8 with _ | ⟨_, _ | ⟨_, h⟩⟩
      · omega
      · omega
      · cases h
    have i0' := i0.wrote 0 x8

    have hcU8 := dU8.look_lt mU8
    have haU8 := dU8.look_lt i0U8.obj
    have hbU8 := dU8.look_lt i1U8.obj
    have hdq8 : deeper Y7.obs [S2.next] = [T1.next, T1.next + 1] := by simp [deeper, mU8, refsL, V.refs]
    have hreach8 := Draw.reach_rows hdq8 (by simp) (Draw.deeper_ints [T1.next, T1.next + 1] (fun a ha => by
      simp at ha
      rcases ha with rfl | rfl
      · exact ⟨_, i0U8.obj⟩
      · exact ⟨_, i1U8.obj⟩))
    have ob08 : ∀ ok : Nat → Bool, obsIn ok (onlyObs [] Y7.obs) = true := fun ok => by rw [Draw.onlyObs_nil]; rfl
    have ob18 : obsIn (fun o => [S2.next, T1.next, T1.next + 1].contains o) (onlyObs [S2.next] Y7.obs) = true := Draw.obsIn_of dU8 (fun a ha b hb => by
      have ha : a = S2.next := by simpa using ha
      subst ha
      rw [mU8] at hb
      cases hb
      simp [inNs, V.inN])
    have ob48 : obsIn (fun o => [1, Y7.next].contains o) (onlyObs [1, Y7.next] J8.obs) = true := Draw.obsIn_of dJ8 (fun a ha b hb => by
      have ha : a = 1 ∨ a = Y7.next := by simpa using ha
      obtain ⟨pJ, _, rJ⟩ := rJ8
      have oJ := rJ.obj
      rcases ha with rfl | rfl
      · rw [oJ] at hb
        cases hb
        simp [inNs, V.inN, Draw.inNs_u8s]
      · rw [hl8] at hb
        cases hb
        exact Draw.inNs_nums _)
    have ldO8 : aload (tiOf Try.prog) ⟨Y7.next, onlyObs [S2.next] Y7.obs, Y7.next⟩ 23 (.ptr S2.next 0) = some (.rsl T1.next 0 L none) := loadS (S := ⟨Y7.next, onlyObs [S2.next] Y7.obs, Y7.next⟩) (by show Go.Sx.look (onlyObs [S2.next] Y7.obs) S2.next = _; rw [onlyObs_look, if_pos (by simp)]; exact mU8) rfl
    have ldF8 : aload (tiOf Try.prog) ⟨Y7.next, Y7.obs, Y7.next⟩ 23 (.ptr S2.next 0) = some (.rsl T1.next 0 L none) := loadS (S := ⟨Y7.next, Y7.obs, Y7.next⟩) mU8 rfl
    have nb8 : noBc (ints (nums [-1, 1])) = ints (nums [-1, 1]) := noBc_ints _
    have rf8 : refsL (ints (nums [-1, 1])) = [] := Draw.refs_nums _
    have hc18 : ¬ S2.next = 1 := by omega
    have hc28 : ¬ S2.next = Y7.next := by omega
    have hc38 : ¬ 1 = S2.next := by omega
    have hc48 : ¬ Y7.next = S2.next := by omega
    have hc58 : ¬ Y7.next = 1 := by omega
    have hc68 : ¬ 1 = Y7.next := by omega
    have h1J8 : 1 < Y7.next + 1 := by omega
    obtain ⟨Y8, hY8⟩ : ∃ Y : Sto Sy, Y = V8.write T1.next (ints (nums ((g).set 0 x8))) := ⟨_, rfl⟩
    have st8 : astore (tiOf Try.prog) V8 3 (.ptr T1.next 0) (.int .i64 (.c x8)) = some Y8 := by rw [hY8]; exact st8
    refine Draw.drawX3 (tm2 := ?tm8) (st' := ?sf8) (s2 := V8) 5 [(4, 3)] (by kernel_rfl) (by kernel_rfl) (by kernel_rfl) (fun F hF => ?g1) (fun F hF => ?g2) ?g3 ?g4
    case g1 =>
      have hF3 : 3 ∈ F.getD 4 [] := hF (4, 3) (by simp)
      simp at hF3
      simp [dhead, seenBy, keepOnly, looks, joinN, addN, takeNew, bite_eq, Op.operands, Call.operands, tk8, hd8, hb8, ldF8, litO, Sto.new, nb8, hF3]
    case g2 =>
      have hF3 : 3 ∈ F.getD 4 [] := hF (4, 3) (by simp)
      simp at hF3
      refine (Draw.xpure (v := .ptr S2.next 0) [] [S2.next] (by simp [shown, sightOf, rootsOf, looks, Op.operands, Call.operands, V.refs, deeper]) (by simp only [fitX, ob08]; simp [temsIn, looks, Op.operands, Call.operands, V.inN, hcU8]) (by simp [wants]) (by simp [seenX, keepOnly, looks, Op.operands, Call.operands]) dU8 lU8 (fun a ha => by simp at ha; omega) (by simp [apart, hcU8, ltU8])).trans ?_
      refine (Draw.xpure (v := (.rsl T1.next 0 L none)) [S2.next] [S2.next, T1.next, T1.next + 1] (by simp [shown, sightOf, rootsOf, looks, Op.operands, Call.operands, V.refs, deeper, refsL, mU8, hreach8]) (by simp only [fitX, ob18]; simp [temsIn, looks, Op.operands, Call.operands, V.inN, hcU8, haU8, hbU8]) (by simp [wants]) (by simp [seenX, keepOnly, looks, Op.operands, Call.operands, ldO8]) dU8 lU8 (fun a ha => by simp at ha; omega) (by simp [apart, hcU8, ltU8])).trans ?_
      refine (Draw.xpure (v := .ptr 1 0) [] [1] (by simp [shown, sightOf, rootsOf, looks, Op.operands, Call.operands, V.refs, deeper]) (by simp only [fitX, ob08]; simp [temsIn, looks, Op.operands, Call.operands, V.inN, ltU8]) (by simp [wants]) (by simp [seenX, keepOnly, looks, Op.operands, Call.operands]) dU8 lU8 (fun a ha => by simp at ha; omega) (by simp [apart, hcU8, ltU8])).trans ?_
      have tkn : takeNew Y7.next ((Y7.next, ints (nums [-1, 1])) :: onlyObs [] Y7.obs) ++ over [] ((Y7.next, ints (nums [-1, 1])) :: onlyObs [] Y7.obs) Y7.obs = J8.obs := by
        rw [over_nil, Draw.onlyObs_nil, eJo8]
        simp [takeNew, bite_eq]
      have lo : (if Nat.blt Y7.next Y7.low then Y7.next else Y7.low) = Y7.low := by rw [if_neg (by rw [Nat.blt_eq]; omega)]
      refine (Draw.xgen (v := .rsl Y7.next 0 2 (some 2)) (s := ⟨Y7.next + 1, (Y7.next, ints (nums [-1, 1])) :: onlyObs [] Y7.obs, Y7.next⟩) [] [] [] (by simp [shown, sightOf, rootsOf, looks, Op.operands, Call.operands, V.refs]) (by simp only [fitX, ob08]; simp [temsIn, looks, Op.operands, Call.operands, V.inN]) (by simp [wants]) (by simp [seenX, keepOnly, looks, Op.operands, Call.operands, litO, Sto.new, nb8]) rfl (Nat.le_succ _) ⟨Nat.lt_succ_self _, onlyObs_desc dU8⟩ rfl (by simp [apart])).trans ?_
      rw [tkn, lo]
      obtain ⟨pJ, _, rJ⟩ := rJ8
      have oJ := rJ.obj
      have hw : wroteOf [1, Y7.next] X8.low = [1, Y7.next] := by simp [wroteOf]; omega
      have eV : (⟨X8.next, takeNew (Y7.next + 1) X8.obs ++ over [1, Y7.next] X8.obs J8.obs, if Nat.blt X8.low Y7.low then X8.low else Y7.low⟩ : Sto Sy) = V8 := by rw [hV8, eJn8]
      refine (Draw.xgen (v := .int .i64 (.c x8)) (s := X8) [1, Y7.next] [1, Y7.next] [1, Y7.next] (by simp [shown, sightOf, rootsOf, looks, Op.operands, Call.operands, V.refs, deeper, oJ, hl8, refsL, reach, Draw.refs_u8s, rf8]) (by simp only [fitX, ob48]; simp [temsIn, looks, Op.operands, Call.operands, V.inN, h1J8]) (by simp [wants]) (by simp [seenX, keepOnly, looks, Op.operands, Call.operands, hc8]) hw hXn8 hn8.rd.desc (by simp [onlyObs_look, oJ, hl8]) (by simp [apart, hF3, hc18, hc28, hc38, hc48, hc58, hc68, ltU8])).trans ?_
      exact congrArg (fun s => some (_, s)) eV
    case g3 =>
      simp [h0L, h1L, h1L', h1i, st8]
      rfl
    case g4 =>
    have dZ : Desc Y8.next Y8.obs := by rw [hY8]; exact Desc.put _ _ wV8.desc
    have i0 : IsL Y8.obs T1.next (g.set 0 x8) (.rsl T1.next 0 L none) := by rw [hY8]; exact i0'
    have i1 : IsL Y8.obs (T1.next + 1) (f.set 1 x7) (.rsl (T1.next + 1) 0 L none) := ⟨i1.val, by rw [hY8]; exact look_writeS i1.obj (by omega)⟩
    have mZ : Go.Sx.look Y8.obs S2.next = some [.rsl T1.next 0 L none, .rsl (T1.next + 1) 0 L none] := by rw [hY8]; exact look_writeS mV8 (by omega)
    have rZ : Go.Sx.look Y8.obs 0 = some [.nil, .nil] := by rw [hY8]; exact look_writeS rr8 (by omega)
    have l6 := loadP mZ
    have st9 := storeP (v := .rsl T1.next 0 L none) (w := .rsl (T1.next + 1) 0 L none) rZ rfl rfl
    have r9 := lookW (a := .rsl T1.next 0 L none) (b := .rsl (T1.next + 1) 0 L none) rZ
    have j0 := islW (cs := [.rsl T1.next 0 L none, .rsl (T1.next + 1) 0 L none]) (r := 0) i0 (by omega)
    have j1 := islW (cs := [.rsl T1.next 0 L none, .rsl (T1.next + 1) 0 L none]) (r := 0) i1 (by omega)
    have d9 : Desc (Y8.write 0 [.rsl T1.next 0 L none, .rsl (T1.next + 1) 0 L none]).next (Y8.write 0 [.rsl T1.next 0 L none, .rsl (T1.next + 1) 0 L none]).obs := Desc.put _ _ dZ
    generalize Y8.write 0 [.rsl T1.next 0 L none, .rsl (T1.next + 1) 0 L none] = S9 at st9 r9 j0 j1 d9
    repeat' (first | refine Wp.seq ?_ | refine Wp.block ?_ | (apply Wp.region; focus ((try simp [setArgs, l6, st9]) <;> rfl)) | (refine Wp.cond_t ?_ ?_; focus (simp [setArgs, l6, st9]; done)) | (refine Wp.cond_f ?_ ?_; focus (simp [setArgs, l6, st9]; done)) | refine Wp.skip ?_ | refine Wp.ret ?_ | refine Wp.exit ?_ | refine Blk.here ?_ | (refine Blk.past ?_ ?_; focus (simp; done)))
    exact ⟨rfl, drawn_of d9 j0 j1 (small_fit (by simp; omega) (fun z hz => by
      rcases List.mem_or_eq_of_mem_set hz with hz | rfl
      · have := o0 z hz; omega
      · exact hxw8)) (small_fit (by simp; omega) (fun z hz => by
      rcases List.mem_or_eq_of_mem_set hz with hz | rfl
      · have := o1 z hz; omega
      · exact hxw7)) r9 rfl⟩
end Go.Proofs.Ytnaegkpaiahpmaa.Mi

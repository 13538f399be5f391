/-
  Inverses of pairs: the law, by a run by hand. No condition.
-/
import Derived.Test.YtnaegkpaiahpmaaRows
import Derived.Test.YtnaegkpaiahpmaaSym
import Derived.Test.YtnaegkpaiahpmaaSymD
import Derived.Test.YtnaegkpaiahpmaaSymE
import Derived.Test.YtnaegkpaiahpmaaSymF
import Derived.Test.YtnaegkpaiahpmaaSymG
import Derived.Test.YtnaegkpaiahpmaaIds
import Derived.Test.YtnaegkpaiahpmaaTel
import Derived.Test.YtnaegkpaiahpmaaIv
import Derived.Test.YtnaegkpaiahpmaaDraw
import Derived.Test.YtnaegkpaiahpmaaDrawC
import Derived.Test.YtnaegkpaiahpmaaDrawD
import Derived.Test.YtnaegkpaiahpmaaIvB
import Derived.Test.YtnaegkpaiahpmaaIvC
import Derived.Test.YtnaegkpaiahpmaaIvD
import Derived.Test.YtnaegkpaiahpmaaIvE
import Derived.Test.YtnaegkpaiahpmaaIvL
import Derived.WalkKit
import Derived.ProofKit
import Derived.OpenShut
namespace Go.Proofs.Ytnaegkpaiahpmaa.Iv
open Go.ChangeShapes Go.WideShapes Go.ChangeAt Go.RowKit Go.Sx Go.Proofs.Ytnaegkpaiahpmaa.Ids
open Go.Proofs.Ytnaegkpaiahpmaa.Tel (telK telK_ok vr_agg2 rowsR rowsO objsO lstR lstO rowsV rowsV_len rowsV_get)
open Go.Proofs.Ytnaegkpaiahpmaa.Draw (K0 fldP0 fldP1 loadS lookN loadP storeP lookW allocP)
set_option linter.unusedVariables false
set_option linter.unusedSimpArgs false

theorem tiSS : tiOf Try.prog 30 = some ⟨.slice 23, 1, 24, .slice none 0 0, true⟩ := by kernel_rfl
theorem aifc_bool {T : TypeId → Option Ti} {op : BinOp} {t : TypeId} {ox oy : Operand} {a b : Bool} : aifc (I := Sy) T op t ox oy (.bool a) (.bool b) = none := rfl
theorem rows_nm (o : Nat) (l : List (List Int)) : isMp (rowsV o l) = false := by
  match l with
  | [] => rfl
  | [x] => rfl
  | x :: y :: r => rfl
/-- A number of a row that a contract has made. -/
theorem row_at {S : Sto Sy} {n : Nat} {l : List (List Int)} (h : ∀ i x, (rowsO l n)[i]? = some x → Go.Sx.look S.obs (n + i) = some x) {i : Nat} {z : List Int} (hz : l[i]? = some z) : aload (tiOf Try.prog) S 23 (.ptr n i) = some (.rsl (n + 1 + i) 0 z.length none) ∧ Go.Sx.look S.obs (n + 1 + i) = some (ints (nums z)) := by
  have a0 : Go.Sx.look S.obs n = some (rowsV (n + 1) l) := h 0 _ rfl
  have a1 := h (i + 1) (ints (nums z)) (by
    show (objsO l)[i]? = _
    unfold objsO
    rw [List.getElem?_map, hz]; rfl)
  rw [show n + (i + 1) = n + 1 + i by omega] at a1
  exact ⟨loadS a0 (by rw [rowsV_get, hz]; rfl) (rows_nm _ _), a1⟩
theorem sumZ_snoc (l : List Int) (x : Int) : sumZ (l ++ [x]) = sumZ l + x := by
  induction l with
  | nil => simp [sumZ]
  | cons a r ih => simp only [List.cons_append, sumZ, ih]; omega
theorem wrapW (a : Int) : IntKind.i64.wrap (IntKind.i64.wrap a) = IntKind.i64.wrap a := wrap_cg (cg_wrap a)
noncomputable def okJs (ops : List Oper) (p : Nat) (ps : List (Nat × Nat)) : Bool := match okDraw ops with
  | some (F, q) => bite (Nat.beq q p) (ps.all fun x => (F.getD x.1 []).contains x.2) false
  | none => false
/-- A region of open order, some operations of whose head are behind others. -/
theorem drawn4 {I : Type} {N : Num I} {T : TypeId → Option Ti} {C : FuncId → List (V I) → Sto I → Option (V I × Sto I)} {nt : Nat} {L : Code → St I → Option (AExit × St I)} {Qn : St I → Prop} {Qx : AExit → St I → Prop}
    {id : Nat} {ops : Array Oper} {st st' : St I} {tm : Tr (V I)} {acc : List (Nat × List (Nat × Ob I))} {nx : Nat} (p : Nat) (ps : List (Nat × Nat)) (h0 : okJs ops.toList p ps = true) (h1 : dstsOk nt (ops.toList.take p) = true)
    (h2 : ∀ F : List (List Nat), (∀ x, x ∈ ps → x.2 ∈ F.getD x.1 []) → dhead N T C nt ops.toList F st.sto 0 st.sto.next (ops.toList.take p) st.tm [] = some (tm, acc, nx)) (h3 : aops N T C nt ops.toList (ops.toList.drop p) ⟨tm, ⟨nx, allN acc ++ st.sto.obs, st.sto.low⟩⟩ = some st') (h : Qn st') :
    Wp N T C nt (adraw N T C nt) L (.region id ops true) st Qn Qx := by
  unfold okJs at h0
  split at h0
  case h_2 => cases h0
  rename_i F q he
  rw [bite_eq] at h0
  split at h0
  case isFalse => cases h0
  rename_i hq
  have hq := Nat.eq_of_beq_eq_true hq
  subst hq
  exact Wp.drawn1 he h1 (h2 F (fun x hx => by
    have := List.all_eq_true.1 h0 x hx
    exact List.contains_iff_mem.1 this)) h3 h
attribute [local simp] aops wants aop apure St.eval setTm_some setTm_none Tr.get_set evals pevals apureB alen tiS tiI tiB tiSS Draw.tiY Draw.tiU abin aint isCmp sym_lt sym_eqs sym_neqs sym_eq sym_neq sym_gtr sym_leq sym_geq sym_add sym_sub sym_mul aeff aeffB idx? ofV aindexAddr aggDesc aifc_int fldP0 fldP1 aun u8s_length aifc_bool
set_option maxRecDepth 10000 in
theorem law_big (bs : List Int) (hbig : (1048576 : Int) < bs.length) : ∃ r, symRun Try.prog (K1 ⟨[], [], .nil, .nil⟩) [] 301 3 [.slice (u8s bs)] ⟨0, [], 0⟩ = some r ∧ r.1 = .bool true := by
  refine own_run2 (n := 300) (hK1 _ _ _) Try.func3 rfl rfl ?_
  simp only [Try.f3]
  repeat' (first | refine Wp.seq ?_ | refine Wp.block ?_ | (apply Wp.region; focus ((try simp [setArgs, hbig]) <;> rfl)) | (refine Wp.cond_t ?_ ?_; focus (simp [setArgs, hbig]; done)) | (refine Wp.cond_f ?_ ?_; focus (simp [setArgs, hbig]; done)) | refine Wp.skip ?_ | refine Wp.ret ?_ | refine Wp.exit ?_ | refine Blk.here ?_ | (refine Blk.past ?_ ?_; focus (simp; done)))
  exact ⟨rfl, answer_trim1 (v := .bool true) (by simp) rfl⟩
set_option maxHeartbeats 6400000 in
set_option maxRecDepth 10000 in
theorem law_iv (bs : List Int) (hbs : ∀ b, b ∈ bs → 0 ≤ b ∧ b < 256) : ∃ P r, symRun Try.prog (K1 P) [] 301 3 [.slice (u8s bs)] ⟨0, [], 0⟩ = some r ∧ r.1 = .bool true := by
  by_cases hbig : (1048576 : Int) < bs.length
  · exact ⟨_, law_big bs hbig⟩
  obtain ⟨⟨v0, S0⟩, h1, h2, v1, v2, q1, q2, g, f, hv0, hqq, hz1, hz2, fz1, fz2⟩ := drawIP bs hbs 101
  simp only at hv0 hz1 hz2 h2
  subst hv0
  obtain ⟨S1, hS1⟩ : ∃ S1 : Sto Sy, S1 = ⟨S0.next, S0.obs, if S0.low < 0 then S0.low else 0⟩ := ⟨_, rfl⟩
  have w1 : Ws S1 := by rw [hS1]; exact ⟨h2, by simp⟩
  have i1 : IsL S1.obs q1 g v1 := by rw [hS1]; exact hz1
  have i2 : IsL S1.obs q2 f v2 := by rw [hS1]; exact hz2
  obtain ⟨P, hP⟩ : ∃ P : Prm, P = ⟨g, f, .agg [v1, v2], .agg [.rsl (S1.next + 1) 0 (cvZ g f).length none, .rsl (S1.next + 1 + 1) 0 (rvZ g f).length none]⟩ := ⟨_, rfl⟩
  refine ⟨P, own_run2 (n := 300) (hK1 _ _ _) Try.func3 rfl rfl ?_⟩
  simp only [Try.f3]
  have e0 : K1 P 5 [.slice (u8s bs)] ⟨(⟨0, [], 0⟩ : Sto Sy).next, (⟨0, [], 0⟩ : Sto Sy).obs, (⟨0, [], 0⟩ : Sto Sy).next⟩ = some (.agg [v1, v2], S0) := by rw [K1_dr]; exact h1
  have hc1 : acallV (symIn Try.prog (K1 P) [] 300) ⟨0, [], 0⟩ (.func 5 [] []) [.slice (u8s bs)] = some (.agg [v1, v2], S1) := by rw [hS1]; exact call_K (P := Try.prog) (n := 299) e0 (by decide)
  clear e0 hS1 hz1 hz2 h1 h2
  have hq1 := w1.desc.look_lt i1.obj
  have hg : Nm g := fz1.wf.1
  have hf : Nm f := fz2.wf.1
  have lg := fz1.wf.2
  have lf := fz2.wf.2
  have kP : ∀ (S : Sto Sy), (∀ k x, Go.Sx.look S1.obs k = some x → Go.Sx.look S.obs k = some x) → IsP ⟨S.next, S.obs, S.next⟩ (.agg [v1, v2]) g f := fun S h => ⟨v1, v2, rfl, isL_consts (S := ⟨S.next, S.obs, S.next⟩) ⟨i1.val, h _ _ i1.obj⟩, isL_consts (S := ⟨S.next, S.obs, S.next⟩) ⟨i2.val, h _ _ i2.obj⟩⟩
  have kD : ∀ (S : Sto Sy), (∀ k x, Go.Sx.look S1.obs k = some x → Go.Sx.look S.obs k = some x) → dP [.agg [v1, v2]] ⟨S.next, S.obs, S.next⟩ = some (g, f) := fun S h => dP_eq (isL_consts (S := ⟨S.next, S.obs, S.next⟩) ⟨i1.val, h _ _ i1.obj⟩) (isL_consts (S := ⟨S.next, S.obs, S.next⟩) ⟨i2.val, h _ _ i2.obj⟩) ⟨⟨lg, hg⟩, lf, hf⟩
  have hPp : P.p = .agg [v1, v2] := by rw [hP]
  have hPg : P.g = g := by rw [hP]
  have hPf : P.f = f := by rw [hP]
  have o1 : v1.oneCell = true := by obtain ⟨c, hv, _⟩ := i1.val; rw [hv]; rfl
  have o2 : v2.oneCell = true := by obtain ⟨c, hv, _⟩ := i2.val; rw [hv]; rfl
  obtain ⟨S2, st2, w2, n2, m2, k2⟩ := cellW w1 o1 o2
  have l2 := loadP m2
  obtain ⟨S3, c3, w3, n3, o3, k3⟩ := telP w2 (K1_ii P) (kD S2 k2) 300 (by omega)
  cases hI : invF g f with
  | none =>
    simp only [hI, prR] at c3
    obtain ⟨S4, st4, w4, n4, m4, k4⟩ := cellW w3 (a := V.nil) (b := V.nil) rfl rfl
    have k14 : ∀ k x, Go.Sx.look S1.obs k = some x → Go.Sx.look S4.obs k = some x := fun k x h => k4 k x (k3 k x (k2 k x h))
    have l4 := loadP (k4 _ _ (k3 _ _ m2))
    obtain ⟨S5, c5, w5, n5, o5, k5⟩ := telP w4 (K1_is P) (kD S4 k14) 300 (by omega)
    simp only [hI, prR] at c5
    obtain ⟨S6, st6, w6, n6, m6, k6⟩ := cellW w5 (a := V.nil) (b := V.nil) rfl rfl
    have l6a := loadP (k6 _ _ (k5 _ _ m4))
    have l6b := loadP m6
    have c7 := boolC (K := K1 P) (k0 := 8) w6.low (K1_ep P) (dEp_eq (sto := ⟨S6.next, S6.obs, S6.next⟩) (x := .nil) (y := .nil) (u := .nil) (v := .nil) (a := []) (b := []) (a' := []) (b' := []) rfl rfl rfl rfl (.inr ⟨rfl, rfl⟩) (.inr ⟨rfl, rfl⟩)) 300 (by omega)
    simp only [and_self, decide_true] at c7
    repeat' (first | refine Wp.seq ?_ | refine Wp.block ?_ | (apply Wp.region; focus ((try simp [setArgs, hbig, hc1, allocP, st2]) <;> rfl)) | (refine Wp.cond_t ?_ ?_; focus (simp [setArgs, hbig, hc1, allocP, st2]; done)) | (refine Wp.cond_f ?_ ?_; focus (simp [setArgs, hbig, hc1, allocP, st2]; done)) | refine Wp.skip ?_ | refine Wp.ret ?_ | refine Wp.exit ?_ | refine Blk.here ?_ | (refine Blk.past ?_ ?_; focus (simp; done)))
    repeat' (first | refine Wp.seq ?_ | refine Wp.block ?_ | (apply Wp.region; focus ((try simp [l2, c3, allocP, st4]) <;> rfl)) | (refine Wp.cond_t ?_ ?_; focus (simp [l2, c3, allocP, st4]; done)) | (refine Wp.cond_f ?_ ?_; focus (simp [l2, c3, allocP, st4]; done)) | refine Wp.skip ?_ | refine Wp.ret ?_ | refine Wp.exit ?_ | refine Blk.here ?_ | (refine Blk.past ?_ ?_; focus (simp; done)))
    repeat' (first | refine Wp.seq ?_ | refine Wp.block ?_ | (apply Wp.region; focus ((try simp [l4, c5, allocP, st6]) <;> rfl)) | (refine Wp.cond_t ?_ ?_; focus (simp [l4, c5, allocP, st6]; done)) | (refine Wp.cond_f ?_ ?_; focus (simp [l4, c5, allocP, st6]; done)) | refine Wp.skip ?_ | refine Wp.ret ?_ | refine Wp.exit ?_ | refine Blk.here ?_ | (refine Blk.past ?_ ?_; focus (simp; done)))
    repeat' (first | refine Wp.seq ?_ | refine Wp.block ?_ | (apply Wp.region; focus ((try simp [l6a, l6b, c7]) <;> rfl)) | (refine Wp.cond_t ?_ ?_; focus (simp [l6a, l6b, c7]; done)) | (refine Wp.cond_f ?_ ?_; focus (simp [l6a, l6b, c7]; done)) | refine Wp.skip ?_ | refine Wp.ret ?_ | refine Wp.exit ?_ | refine Blk.here ?_ | (refine Blk.past ?_ ?_; focus (simp; done)))
    exact ⟨rfl, answer_trim1 (v := .bool true) (by simp) rfl⟩
  | some p =>
    have hV : InvP g f := by
      by_cases h : InvP g f
      · exact h
      · unfold invF at hI; rw [if_neg h] at hI; cases hI
    have hp : p = (cvZ g f, rvZ g f) := by unfold invF at hI; rw [if_pos hV] at hI; exact (Option.some.inj hI).symm
    subst hp
    have hL2 := hV.1.2.2.2.1
    have hL6 := hV.1.1.2.2
    obtain ⟨L1, L2, L3⟩ := inv_len hV.1
    obtain ⟨L, hLL⟩ : ∃ L, g.length = L := ⟨_, rfl⟩
    rw [hLL] at hL2 hL6 L1 L2 L3
    simp only [hI, prR] at c3
    simp only [hI] at o3
    rw [n2] at c3
    have j1 : IsL S3.obs (S1.next + 1) (cvZ g f) (.rsl (S1.next + 1) 0 (cvZ g f).length none) := ⟨⟨none, rfl, .inl rfl⟩, by have := o3 0 _ rfl; rwa [n2] at this⟩
    have j2 : IsL S3.obs (S1.next + 1 + 1) (rvZ g f) (.rsl (S1.next + 1 + 1) 0 (rvZ g f).length none) := ⟨⟨none, rfl, .inl rfl⟩, by have := o3 1 _ rfl; rwa [n2] at this⟩
    have hPq : P.q = .agg [.rsl (S1.next + 1) 0 (cvZ g f).length none, .rsl (S1.next + 1 + 1) 0 (rvZ g f).length none] := by rw [hP]
    have hne : P.q ≠ P.p := by
      rw [hPq, hPp]
      intro e
      obtain ⟨c, hv, _⟩ := i1.val
      rw [hv] at e
      have e := congrArg (fun v : V Sy => match v with | .agg (.rsl o _ _ _ :: _) => o | _ => 0) e
      simp only at e
      omega
    obtain ⟨S4, st4, w4, n4, m4, k4⟩ := cellW w3 (a := .rsl (S1.next + 1) 0 (cvZ g f).length none) (b := .rsl (S1.next + 1 + 1) 0 (rvZ g f).length none) rfl rfl
    have k14 : ∀ k x, Go.Sx.look S1.obs k = some x → Go.Sx.look S4.obs k = some x := fun k x h => k4 k x (k3 k x (k2 k x h))
    have l4 := loadP (k4 _ _ (k3 _ _ m2))
    obtain ⟨S5, c5, w5, n5, o5, k5⟩ := telP w4 (K1_is P) (kD S4 k14) 300 (by omega)
    simp only [hI, prR] at c5
    simp only [hI] at o5
    have j3 : IsL S5.obs S4.next (cvZ g f) (.rsl S4.next 0 (cvZ g f).length none) := ⟨⟨none, rfl, .inl rfl⟩, o5 0 _ rfl⟩
    have j4 : IsL S5.obs (S4.next + 1) (rvZ g f) (.rsl (S4.next + 1) 0 (rvZ g f).length none) := ⟨⟨none, rfl, .inl rfl⟩, o5 1 _ rfl⟩
    obtain ⟨S6, st6, w6, n6, m6, k6⟩ := cellW w5 (a := .rsl S4.next 0 (cvZ g f).length none) (b := .rsl (S4.next + 1) 0 (rvZ g f).length none) rfl rfl
    have l6a := loadP (k6 _ _ (k5 _ _ m4))
    have l6b := loadP m6
    have k36 : ∀ k x, Go.Sx.look S3.obs k = some x → Go.Sx.look S6.obs k = some x := fun k x h => k6 k x (k5 k x (k4 k x h))
    have k16 : ∀ k x, Go.Sx.look S1.obs k = some x → Go.Sx.look S6.obs k = some x := fun k x h => k36 k x (k3 k x (k2 k x h))
    have m26 := k36 _ _ (k3 _ _ m2)
    have m46 := k6 _ _ (k5 _ _ m4)
    have kQ : ∀ (S : Sto Sy), (∀ k x, Go.Sx.look S6.obs k = some x → Go.Sx.look S.obs k = some x) → IsP ⟨S.next, S.obs, S.next⟩ P.q (cvZ g f) (rvZ g f) := fun S h => ⟨_, _, hPq, isL_consts (S := ⟨S.next, S.obs, S.next⟩) ⟨j1.val, h _ _ (k36 _ _ j1.obj)⟩, isL_consts (S := ⟨S.next, S.obs, S.next⟩) ⟨j2.val, h _ _ (k36 _ _ j2.obj)⟩⟩
    have hb1 : Bo (cvZ g f) (cvZ g f) := .inl ⟨⟨by omega, by omega⟩, by omega, by omega⟩
    have hb2 : Bo (rvZ g f) (rvZ g f) := .inl ⟨⟨by omega, by omega⟩, by omega, by omega⟩
    have c7 := boolC (K := K1 P) (k0 := 8) w6.low (K1_ep P) (dEp_eq (isL_consts (S := ⟨S6.next, S6.obs, S6.next⟩) ⟨j1.val, k36 _ _ j1.obj⟩) (isL_consts (S := ⟨S6.next, S6.obs, S6.next⟩) ⟨j2.val, k36 _ _ j2.obj⟩) (isL_consts (S := ⟨S6.next, S6.obs, S6.next⟩) ⟨j3.val, k6 _ _ j3.obj⟩) (isL_consts (S := ⟨S6.next, S6.obs, S6.next⟩) ⟨j4.val, k6 _ _ j4.obj⟩) hb1 hb2) 300 (by omega)
    simp only [and_self, decide_true] at c7
    -- the two arrays
    have l7 := loadP m26
    obtain ⟨S7, c8, w7, n7, o7, k7⟩ := telP (args := [.agg [v1, v2]]) (a := true) w6 (K1_ar P) (by rw [← hPp]; exact dAr_p (by rw [hPg, hPf]; exact hV.1) (by rw [hPp, hPg, hPf]; exact kP S6 k16)) 300 (by omega)
    have e7 : ar2 P true = aZ g f := by show aZ P.g P.f = _; rw [hPg, hPf]
    rw [e7] at c8 o7
    have l8 := loadP (k7 _ _ m46)
    obtain ⟨S8, c9, w8, n8, o8, k8⟩ := telP (args := [.agg [.rsl (S1.next + 1) 0 (cvZ g f).length none, .rsl (S1.next + 1 + 1) 0 (rvZ g f).length none]]) (a := false) w7 (K1_ar P) (by rw [← hPq]; exact dAr_q hne (by rw [hPg, hPf]; exact hV) (by rw [hPg, hPf]; exact kQ S7 k7)) 300 (by omega)
    have e8 : ar2 P false = bZ g f := by show bZ P.g P.f = _; rw [hPg, hPf]
    rw [e8] at c9 o8
    obtain ⟨al1, al2⟩ := aZ_len hV.1
    obtain ⟨bl1, bl2⟩ := bZ_len hV.1
    rw [hLL] at al1 al2 bl1 bl2
    have r7 : rowsR (aZ g f) S6.next = .rsl S6.next 0 L none := by show V.rsl S6.next 0 (aZ g f).length none = _; rw [al1]
    have r8 : rowsR (bZ g f) S7.next = .rsl S7.next 0 L none := by show V.rsl S7.next 0 (bZ g f).length none = _; rw [bl1]
    rw [r7] at c8
    rw [r8] at c9
    have ra : ∀ n, n < L → aload (tiOf Try.prog) ⟨S8.next, S8.obs, S8.next⟩ 23 (.ptr S6.next n) = some (.rsl (S6.next + 1 + n) 0 L none) ∧ ∀ i, i < L → aload (tiOf Try.prog) ⟨S8.next, S8.obs, S8.next⟩ 3 (.ptr (S6.next + 1 + n) i) = some (.int .i64 (.c (((aZ g f).getD n []).getD i 0))) := fun n hn => by
      have hz : (aZ g f)[n]? = some ((aZ g f).getD n []) := by simp [List.getD, show n < (aZ g f).length by omega]
      have hzl := al2 _ (List.mem_of_getElem? hz)
      obtain ⟨x1, x2⟩ := row_at (S := ⟨S8.next, S8.obs, S8.next⟩) (fun i x hx => k8 _ _ (o7 i x hx)) hz
      rw [hzl] at x1
      exact ⟨x1, fun i hi => loadI x2 (get_some (by omega))⟩
    have rb : ∀ n, n < L → aload (tiOf Try.prog) ⟨S8.next, S8.obs, S8.next⟩ 23 (.ptr S7.next n) = some (.rsl (S7.next + 1 + n) 0 L none) ∧ ∀ i, i < L → aload (tiOf Try.prog) ⟨S8.next, S8.obs, S8.next⟩ 3 (.ptr (S7.next + 1 + n) i) = some (.int .i64 (.c (((bZ g f).getD n []).getD i 0))) := fun n hn => by
      have hz : (bZ g f)[n]? = some ((bZ g f).getD n []) := by simp [List.getD, show n < (bZ g f).length by omega]
      have hzl := bl2 _ (List.mem_of_getElem? hz)
      obtain ⟨x1, x2⟩ := row_at (S := ⟨S8.next, S8.obs, S8.next⟩) (fun i x hx => o8 i x hx) hz
      rw [hzl] at x1
      exact ⟨x1, fun i hi => loadI x2 (get_some (by omega))⟩
    have htk : takeNew S8.next S8.obs = [] := takeNew_id w8.desc
    have m28 := k8 _ _ (k7 _ _ m26)
    have m48 := k8 _ _ (k7 _ _ m46)
    have k18 : ∀ k x, Go.Sx.look S1.obs k = some x → Go.Sx.look S8.obs k = some x := fun k x h => k8 k x (k7 k x (k16 k x h))
    have k68 : ∀ k x, Go.Sx.look S6.obs k = some x → Go.Sx.look S8.obs k = some x := fun k x h => k8 k x (k7 k x h)
    repeat' (first | refine Wp.seq ?_ | refine Wp.block ?_ | (apply Wp.region; focus ((try simp [setArgs, hbig, hc1, allocP, st2]) <;> rfl)) | (refine Wp.cond_t ?_ ?_; focus (simp [setArgs, hbig, hc1, allocP, st2]; done)) | (refine Wp.cond_f ?_ ?_; focus (simp [setArgs, hbig, hc1, allocP, st2]; done)) | refine Wp.skip ?_ | refine Wp.ret ?_ | refine Wp.exit ?_ | refine Blk.here ?_ | (refine Blk.past ?_ ?_; focus (simp; done)))
    repeat' (first | refine Wp.seq ?_ | refine Wp.block ?_ | (apply Wp.region; focus ((try simp [l2, c3, allocP, st4]) <;> rfl)) | (refine Wp.cond_t ?_ ?_; focus (simp [l2, c3, allocP, st4]; done)) | (refine Wp.cond_f ?_ ?_; focus (simp [l2, c3, allocP, st4]; done)) | refine Wp.skip ?_ | refine Wp.ret ?_ | refine Wp.exit ?_ | refine Blk.here ?_ | (refine Blk.past ?_ ?_; focus (simp; done)))
    repeat' (first | refine Wp.seq ?_ | refine Wp.block ?_ | (apply Wp.region; focus ((try simp [l4, c5, allocP, st6]) <;> rfl)) | (refine Wp.cond_t ?_ ?_; focus (simp [l4, c5, allocP, st6]; done)) | (refine Wp.cond_f ?_ ?_; focus (simp [l4, c5, allocP, st6]; done)) | refine Wp.skip ?_ | refine Wp.ret ?_ | refine Wp.exit ?_ | refine Blk.here ?_ | (refine Blk.past ?_ ?_; focus (simp; done)))
    repeat' (first | refine Wp.seq ?_ | refine Wp.block ?_ | (apply Wp.region; focus ((try simp [l6a, l6b, c7]) <;> rfl)) | (refine Wp.cond_t ?_ ?_; focus (simp [l6a, l6b, c7]; done)) | (refine Wp.cond_f ?_ ?_; focus (simp [l6a, l6b, c7]; done)) | refine Wp.skip ?_ | refine Wp.ret ?_ | refine Wp.exit ?_ | refine Blk.here ?_ | (refine Blk.past ?_ ?_; focus (simp; done)))
    repeat' (first | refine Wp.seq ?_ | refine Wp.block ?_ | (apply Wp.region; focus ((try simp [l7, c8]) <;> rfl)) | (refine Wp.cond_t ?_ ?_; focus (simp [l7, c8]; done)) | (refine Wp.cond_f ?_ ?_; focus (simp [l7, c8]; done)) | refine Wp.skip ?_ | refine Wp.ret ?_ | refine Wp.exit ?_ | refine Blk.here ?_ | (refine Blk.past ?_ ?_; focus (simp; done)))
    repeat' (first | refine Wp.seq ?_ | refine Wp.block ?_ | (apply Wp.region; focus ((try simp [l8, c9]) <;> rfl)) | (refine Wp.cond_t ?_ ?_; focus (simp [l8, c9]; done)) | (refine Wp.cond_f ?_ ?_; focus (simp [l8, c9]; done)) | refine Wp.skip ?_ | refine Wp.ret ?_ | refine Wp.exit ?_ | refine Blk.here ?_ | (refine Blk.past ?_ ?_; focus (simp; done)))
    refine Wp.loopF rfl rfl (fun n st => st.tm.get .any 3 = .ptr S1.next 0 ∧ st.tm.get .any 4 = .ptr S3.next 0 ∧ st.tm.get .any 8 = .rsl S6.next 0 L none ∧ st.tm.get .any 9 = .rsl S7.next 0 L none ∧ st.tm.get .any 10 = .int .i64 (.c n) ∧ st.sto = S8) L 20 (by omega) ?_ ?_ ?_
    · exact ⟨by simp, by simp, by simp, by simp, by simp, rfl⟩
    · rintro fu n ⟨tm, T⟩ hfu hn ⟨g3, g4, g8, g9, g10, rfl⟩
      simp only at g3 g4 g8 g9 g10
      have hlt : (n : Int) < L := by omega
      have hwn := wrap_in (a := (n : Int) + 1) (by omega) (by omega)
      repeat' (first | refine Wp.seq ?_ | refine Wp.block ?_ | (apply Wp.region; focus ((try simp [g3, g4, g8, g9, g10, hlt]) <;> rfl)) | (refine Wp.cond_t ?_ ?_; focus (simp [g3, g4, g8, g9, g10, hlt]; done)) | (refine Wp.cond_f ?_ ?_; focus (simp [g3, g4, g8, g9, g10, hlt]; done)) | refine Wp.skip ?_ | refine Wp.ret ?_ | refine Wp.exit ?_ | refine Blk.here ?_ | (refine Blk.past ?_ ?_; focus (simp; done)))
      refine Wp.loopF rfl rfl (fun k st => st.tm.get .any 3 = .ptr S1.next 0 ∧ st.tm.get .any 4 = .ptr S3.next 0 ∧ st.tm.get .any 8 = .rsl S6.next 0 L none ∧ st.tm.get .any 9 = .rsl S7.next 0 L none ∧ st.tm.get .any 10 = .int .i64 (.c n) ∧ st.tm.get .any 11 = .int .i64 (.c k) ∧ st.sto = T) L 10 (by omega) ?_ ?_ ?_
      · exact ⟨by simp [g3], by simp [g4], by simp [g8], by simp [g9], by simp [g10], by simp, rfl⟩
      · rintro fu2 k ⟨tm, T⟩ hfu2 hk ⟨g3, g4, g8, g9, g10, g11, rfl⟩
        simp only at g3 g4 g8 g9 g10 g11
        have hltk : (k : Int) < L := by omega
        have hwk := wrap_in (a := (k : Int) + 1) (by omega) (by omega)
        repeat' (first | refine Wp.seq ?_ | refine Wp.block ?_ | (apply Wp.region; focus ((try simp [g3, g4, g8, g9, g10, g11, hltk]) <;> rfl)) | (refine Wp.cond_t ?_ ?_; focus (simp [g3, g4, g8, g9, g10, g11, hltk]; done)) | (refine Wp.cond_f ?_ ?_; focus (simp [g3, g4, g8, g9, g10, g11, hltk]; done)) | refine Wp.skip ?_ | refine Wp.ret ?_ | refine Wp.exit ?_ | refine Blk.here ?_ | (refine Blk.past ?_ ?_; focus (simp; done)))
        refine Wp.loop rfl rfl (fun i st => st.tm.get .any 3 = .ptr S1.next 0 ∧ st.tm.get .any 4 = .ptr S3.next 0 ∧ st.tm.get .any 8 = .rsl S6.next 0 L none ∧ st.tm.get .any 9 = .rsl S7.next 0 L none ∧ st.tm.get .any 10 = .int .i64 (.c n) ∧ st.tm.get .any 11 = .int .i64 (.c k) ∧ st.tm.get .any 13 = .int .i64 (.c i) ∧ st.sto = T ∧ ∃ s, st.tm.get .any 12 = .int .i64 (.c s) ∧ IntKind.i64.wrap s = s ∧ cg s (sumZ ((List.range i).map fun i => ((aZ g f).getD n []).getD i 0 * ((bZ g f).getD i []).getD k 0))) L (by omega) ?_ ?_ ?_
        · exact ⟨by simp [g3], by simp [g4], by simp [g8], by simp [g9], by simp [g10], by simp [g11], by simp, rfl, 0, by simp, by decide, cg.refl _⟩
        · rintro fu3 i ⟨tm, T⟩ hi ⟨g3, g4, g8, g9, g10, g11, g13, rfl, s, g12, hs1, hs2⟩
          simp only at g3 g4 g8 g9 g10 g11 g12 g13
          have hlti : (i : Int) < L := by omega
          have hwi := wrap_in (a := (i : Int) + 1) (by omega) (by omega)
          obtain ⟨ra1, ra2⟩ := ra n hn
          obtain ⟨rb1, rb2⟩ := rb i hi
          have ra2 := ra2 i hi
          have rb2 := rb2 k hk
          have hnext : cg (IntKind.i64.wrap (s + IntKind.i64.wrap (((aZ g f).getD n []).getD i 0 * ((bZ g f).getD i []).getD k 0))) (sumZ ((List.range (i + 1)).map fun i => ((aZ g f).getD n []).getD i 0 * ((bZ g f).getD i []).getD k 0)) := by
            rw [List.range_succ, List.map_append, List.map_cons, List.map_nil, sumZ_snoc]
            exact (cg_wrap _).trans (hs2.add (cg_wrap _))
          generalize ((aZ g f).getD n []).getD i 0 = x at ra2 hnext
          generalize ((bZ g f).getD i []).getD k 0 = y at rb2 hnext
          repeat' (first | refine Wp.seq ?_ | refine Wp.block ?_ | (apply Wp.region; focus ((try simp [g3, g4, g8, g9, g10, g11, g12, g13, hlti]) <;> rfl)) | (refine Wp.cond_t ?_ ?_; focus (simp [g3, g4, g8, g9, g10, g11, g12, g13, hlti]; done)) | (refine Wp.cond_f ?_ ?_; focus (simp [g3, g4, g8, g9, g10, g11, g12, g13, hlti]; done)) | refine Wp.skip ?_ | refine Wp.ret ?_ | refine Wp.exit ?_ | refine Blk.here ?_ | (refine Blk.past ?_ ?_; focus (simp; done)))
          (apply Wp.drawn2 16; (focus kernel_rfl); (focus kernel_rfl); (focus intro F; simp [dhead, seenBy, keepOnly, looks, joinN, addN, bite_eq, Op.operands, htk, Call.operands, g8, g9, g10, g11, g12, g13, hn, hk, hi, hlt, hltk, hlti, ra1, ra2, rb1, rb2]; exact ⟨rfl, rfl, rfl⟩); (focus (try simp [allN, htk, Call.operands, g8, g9, g10, g11, g12, g13, hn, hk, hi, hlt, hltk, hlti, ra1, ra2, rb1, rb2]) <;> rfl))
          repeat' (first | refine Wp.seq ?_ | refine Wp.block ?_ | (apply Wp.region; focus ((try simp [g3, g4, g8, g9, g10, g11, g13, hwi]) <;> rfl)) | (refine Wp.cond_t ?_ ?_; focus (simp [g3, g4, g8, g9, g10, g11, g13, hwi]; done)) | (refine Wp.cond_f ?_ ?_; focus (simp [g3, g4, g8, g9, g10, g11, g13, hwi]; done)) | refine Wp.skip ?_ | refine Wp.ret ?_ | refine Wp.exit ?_ | refine Blk.here ?_ | (refine Blk.past ?_ ?_; focus (simp; done)))
          exact ⟨by simp [g3], by simp [g4], by simp [g8], by simp [g9], by simp [g10], by simp [g11], by simp [hwi], rfl, IntKind.i64.wrap (s + IntKind.i64.wrap (x * y)), by simp, wrapW _, hnext⟩
        · rintro fu3 ⟨tm, T⟩ ⟨g3, g4, g8, g9, g10, g11, g13, rfl, s, g12, hs1, hs2⟩
          simp only at g3 g4 g8 g9 g10 g11 g12 g13
          have hnl : ¬ (L : Int) < L := by omega
          have hmt := mt_cg hV (n := n) (k := k) (by omega) (by omega)
          rw [hLL] at hmt
          have hs3 : s = dl n k := by
            have c := hs2.trans hmt.symm
            have hdn : IntKind.i64.wrap (dl n k) = dl n k := by
              by_cases h : n = k
              · rw [dl_eq h]; decide
              · rw [dl_ne h]; decide
            rw [← hs1, ← hdn]; exact wrap_cg c
          by_cases hnk : n = k
          · rw [dl_eq hnk] at hs3
            subst hs3
            have hb : ((n : Int) == k) = true := by simp [hnk]
            repeat' (first | refine Wp.seq ?_ | refine Wp.block ?_ | (apply Wp.region; focus ((try simp [g3, g4, g8, g9, g10, g11, g12, g13, hnl]) <;> rfl)) | (refine Wp.cond_t ?_ ?_; focus (simp [g3, g4, g8, g9, g10, g11, g12, g13, hnl]; done)) | (refine Wp.cond_f ?_ ?_; focus (simp [g3, g4, g8, g9, g10, g11, g12, g13, hnl]; done)) | refine Wp.skip ?_ | refine Wp.ret ?_ | refine Wp.exit ?_ | refine Blk.here ?_ | (refine Blk.past ?_ ?_; focus (simp; done)))
            repeat' (first | refine Wp.seq ?_ | refine Wp.block ?_ | (apply Wp.region; focus ((try simp [g10, g11, g12, hnk, hb]) <;> rfl)) | (refine Wp.cond_t ?_ ?_; focus (simp [g10, g11, g12, hnk, hb]; done)) | (refine Wp.cond_f ?_ ?_; focus (simp [g10, g11, g12, hnk, hb]; done)) | refine Wp.skip ?_ | refine Wp.ret ?_ | refine Wp.exit ?_ | refine Blk.here ?_ | (refine Blk.past ?_ ?_; focus (simp; done)))
            repeat' (first | refine Wp.seq ?_ | refine Wp.block ?_ | (apply Wp.region; focus ((try simp [g11, hwk]) <;> rfl)) | (refine Wp.cond_t ?_ ?_; focus (simp [g11, hwk]; done)) | (refine Wp.cond_f ?_ ?_; focus (simp [g11, hwk]; done)) | refine Wp.skip ?_ | refine Wp.ret ?_ | refine Wp.exit ?_ | refine Blk.here ?_ | (refine Blk.past ?_ ?_; focus (simp; done)))
            exact ⟨by simp [g3], by simp [g4], by simp [g8], by simp [g9], by simp [g10, hnk], by simp [hwk], rfl⟩
          · rw [dl_ne hnk] at hs3
            subst hs3
            have hb : ((n : Int) == k) = false := by simp; omega
            have hnkI : ¬ (n : Int) = k := by omega
            repeat' (first | refine Wp.seq ?_ | refine Wp.block ?_ | (apply Wp.region; focus ((try simp [g3, g4, g8, g9, g10, g11, g12, g13, hnl]) <;> rfl)) | (refine Wp.cond_t ?_ ?_; focus (simp [g3, g4, g8, g9, g10, g11, g12, g13, hnl]; done)) | (refine Wp.cond_f ?_ ?_; focus (simp [g3, g4, g8, g9, g10, g11, g12, g13, hnl]; done)) | refine Wp.skip ?_ | refine Wp.ret ?_ | refine Wp.exit ?_ | refine Blk.here ?_ | (refine Blk.past ?_ ?_; focus (simp; done)))
            repeat' (first | refine Wp.seq ?_ | refine Wp.block ?_ | (apply Wp.region; focus ((try simp [g10, g11, g12, hnk, hnkI, hb]) <;> rfl)) | (refine Wp.cond_t ?_ ?_; focus (simp [g10, g11, g12, hnk, hnkI, hb]; done)) | (refine Wp.cond_f ?_ ?_; focus (simp [g10, g11, g12, hnk, hnkI, hb]; done)) | refine Wp.skip ?_ | refine Wp.ret ?_ | refine Wp.exit ?_ | refine Blk.here ?_ | (refine Blk.past ?_ ?_; focus (simp; done)))
            repeat' (first | refine Wp.seq ?_ | refine Wp.block ?_ | (apply Wp.region; focus ((try simp [g11, hwk]) <;> rfl)) | (refine Wp.cond_t ?_ ?_; focus (simp [g11, hwk]; done)) | (refine Wp.cond_f ?_ ?_; focus (simp [g11, hwk]; done)) | refine Wp.skip ?_ | refine Wp.ret ?_ | refine Wp.exit ?_ | refine Blk.here ?_ | (refine Blk.past ?_ ?_; focus (simp; done)))
            exact ⟨by simp [g3], by simp [g4], by simp [g8], by simp [g9], by simp [g10], by simp [hwk], rfl⟩
      · rintro fu2 ⟨tm, T⟩ hfu2 ⟨g3, g4, g8, g9, g10, g11, rfl⟩
        simp only at g3 g4 g8 g9 g10 g11
        have hnl : ¬ (L : Int) < L := by omega
        repeat' (first | refine Wp.seq ?_ | refine Wp.block ?_ | (apply Wp.region; focus ((try simp [g3, g4, g8, g9, g10, g11, hnl]) <;> rfl)) | (refine Wp.cond_t ?_ ?_; focus (simp [g3, g4, g8, g9, g10, g11, hnl]; done)) | (refine Wp.cond_f ?_ ?_; focus (simp [g3, g4, g8, g9, g10, g11, hnl]; done)) | refine Wp.skip ?_ | refine Wp.ret ?_ | refine Wp.exit ?_ | refine Blk.here ?_ | (refine Blk.past ?_ ?_; focus (simp; done)))
        repeat' (first | refine Wp.seq ?_ | refine Wp.block ?_ | (apply Wp.region; focus ((try simp [g10, hwn]) <;> rfl)) | (refine Wp.cond_t ?_ ?_; focus (simp [g10, hwn]; done)) | (refine Wp.cond_f ?_ ?_; focus (simp [g10, hwn]; done)) | refine Wp.skip ?_ | refine Wp.ret ?_ | refine Wp.exit ?_ | refine Blk.here ?_ | (refine Blk.past ?_ ?_; focus (simp; done)))
        exact ⟨by simp [g3], by simp [g4], by simp [g8], by simp [g9], by simp [hwn], rfl⟩
    · rintro fu ⟨tm, T⟩ hfu ⟨g3, g4, g8, g9, g10, rfl⟩
      simp only at g3 g4 g8 g9 g10
      have hnl : ¬ (L : Int) < L := by omega
      repeat' (first | refine Wp.seq ?_ | refine Wp.block ?_ | (apply Wp.region; focus ((try simp [g3, g4, g8, g9, g10, hnl]) <;> rfl)) | (refine Wp.cond_t ?_ ?_; focus (simp [g3, g4, g8, g9, g10, hnl]; done)) | (refine Wp.cond_f ?_ ?_; focus (simp [g3, g4, g8, g9, g10, hnl]; done)) | refine Wp.skip ?_ | refine Wp.ret ?_ | refine Wp.exit ?_ | refine Blk.here ?_ | (refine Blk.past ?_ ?_; focus (simp; done)))
      refine Wp.loop rfl rfl (fun k st => st.tm.get .any 3 = .ptr S1.next 0 ∧ st.tm.get .any 4 = .ptr S3.next 0 ∧ st.tm.get .any 8 = .rsl S6.next 0 L none ∧ st.tm.get .any 14 = .int .i64 (.c k) ∧ Ws st.sto ∧ ∀ k x, Go.Sx.look T.obs k = some x → Go.Sx.look st.sto.obs k = some x) L (by omega) ?_ ?_ ?_
      · exact ⟨by simp [g3], by simp [g4], by simp [g8], by simp, w8, fun k x h => h⟩
      · rintro fu2 k ⟨tm, U⟩ hk ⟨g3, g4, g8, g14, wU, kU⟩
        simp only at g3 g4 g8 g14 wU kU
        have hltk : (k : Int) < L := by omega
        have hwk := wrap_in (a := (k : Int) + 1) (by omega) (by omega)
        have lU := loadP (S := ⟨U.next, U.obs, U.next⟩) (kU _ _ m28)
        have htU : takeNew U.next U.obs = [] := takeNew_id wU.desc
        have htU2 : takeNew U.next ((U.next, ints (nums (eZ L k))) :: U.obs) = [(U.next, ints (nums (eZ L k)))] := by
          simp only [takeNew, show Nat.ble U.next U.next = true by rw [Nat.ble_eq]; exact Nat.le_refl _, bite_true, takeNew_id wU.desc]
        have wU1 : Ws ⟨U.next + 1, (U.next, ints (nums (eZ L k))) :: U.obs, U.low⟩ := ⟨⟨Nat.lt_succ_self _, wU.desc⟩, by have := wU.low; show U.low ≤ U.next + 1; omega⟩
        have eK : K1 P 11 [.int .i64 (.c L), .int .i64 (.c k)] ⟨U.next, U.obs, U.next⟩ = some (.rsl U.next 0 L none, ⟨U.next + 1, (U.next, ints (nums (eZ L k))) :: U.obs, U.next⟩) := by
          rw [K1_ln]
          unfold telK
          rw [Nat.beq_refl, bite_true, dLn_eq hL2 hL6 hk]
          simp only [lstR, lstO, objsO, List.map_cons, List.map_nil, numO, List.length_cons, List.length_nil, eZ_len]
        have c10 : acallV (symIn Try.prog (K1 P) [] 300) ⟨U.next, U.obs, U.next⟩ (.func 11 [] []) [.int .i64 (.c L), .int .i64 (.c k)] = some (.rsl U.next 0 L none, ⟨U.next + 1, (U.next, ints (nums (eZ L k))) :: U.obs, U.next⟩) := by
          have := call_K (P := Try.prog) (n := 299) (sto := ⟨U.next, U.obs, U.next⟩) eK (by decide)
          rw [this]
          simp
        have kU1 : ∀ q x, Go.Sx.look U.obs q = some x → Go.Sx.look ((U.next, ints (nums (eZ L k))) :: U.obs) q = some x := fun q x h => by
          rw [look_cons, if_neg (by have := wU.desc.look_lt h; omega)]; exact h
        have iE : IsL ((U.next, ints (nums (eZ L k))) :: U.obs) U.next (eZ L k) (.rsl U.next 0 L none) := ⟨⟨none, by rw [eZ_len], .inl rfl⟩, by rw [look_cons, if_pos rfl]⟩
        have hDt : dTf P [.agg [v1, v2], .rsl U.next 0 L none] ⟨U.next + 1, (U.next, ints (nums (eZ L k))) :: U.obs, U.next + 1⟩ = some (true, k) := by
          rw [← hPp]
          refine dTf_a (k := k) ⟨by rw [hPg, hLL]; exact hk, rfl, by rw [hPg, hPf]; exact hV.1, ?_, ?_⟩
          · rw [hPp, hPg, hPf]
            exact kP ⟨U.next + 1, (U.next, ints (nums (eZ L k))) :: U.obs, U.low⟩ (fun q x h => kU1 q x (kU q x (k18 q x h)))
          · rw [hPg, hLL]
            exact isL_consts (S := ⟨U.next + 1, (U.next, ints (nums (eZ L k))) :: U.obs, U.next + 1⟩) iE
        have e11 : tf2 P (true, k) = tfF g f k := by show tfF P.g P.f k = _; rw [hPg, hPf]
        have htU3 : takeNew (U.next + 1) ((U.next, ints (nums (eZ L k))) :: U.obs) = [] := takeNew_id wU1.desc
        by_cases hv : validP 600 (coZ g f k)
        case neg =>
          have e12 : tfF g f k = none := by unfold tfF; rw [if_neg hv]
          have c11 : acallV (symIn Try.prog (K1 P) [] 300) ⟨U.next + 1, (U.next, ints (nums (eZ L k))) :: U.obs, U.next + 1⟩ (.func 10 [] []) [.agg [v1, v2], .rsl U.next 0 L none] = some (.tup [.nil, .bool false], ⟨U.next + 1, (U.next, ints (nums (eZ L k))) :: U.obs, U.next + 1⟩) := by
            have eT : K1 P 10 [.agg [v1, v2], .rsl U.next 0 L none] ⟨U.next + 1, (U.next, ints (nums (eZ L k))) :: U.obs, U.next + 1⟩ = some (.tup [.nil, .bool false], ⟨U.next + 1, (U.next, ints (nums (eZ L k))) :: U.obs, U.next + 1⟩) := by
              rw [K1_tf]
              unfold telK
              rw [Nat.beq_refl, bite_true, hDt]
              simp only [e11, e12, ansR, ansO, numO, List.length_nil, Nat.add_zero]
            have := call_K (P := Try.prog) (n := 299) (sto := ⟨U.next + 1, (U.next, ints (nums (eZ L k))) :: U.obs, U.next + 1⟩) eT (by decide)
            rw [this]
            simp
          generalize ints (nums (eZ L k)) = ee at *
          repeat' (first | refine Wp.seq ?_ | refine Wp.block ?_ | (apply Wp.region; focus ((try simp [g3, g4, g8, g14, hltk]) <;> rfl)) | (refine Wp.cond_t ?_ ?_; focus (simp [g3, g4, g8, g14, hltk]; done)) | (refine Wp.cond_f ?_ ?_; focus (simp [g3, g4, g8, g14, hltk]; done)) | refine Wp.skip ?_ | refine Wp.ret ?_ | refine Wp.exit ?_ | refine Blk.here ?_ | (refine Blk.past ?_ ?_; focus (simp; done)))
          apply drawn4 10 [(5, 4), (6, 4), (6, 5), (7, 4), (7, 5), (8, 4), (8, 5), (9, 4), (9, 5)]
          focus kernel_rfl
          focus kernel_rfl
          focus
            intro F hF
            simp only [List.mem_cons, List.not_mem_nil, or_false, forall_eq_or_imp, forall_eq] at hF
            obtain ⟨h54, h64, h65, h74, h75, h84, h85, h94, h95⟩ := hF
            simp only [List.getD] at h54 h64 h65 h74 h75 h84 h85 h94 h95
            simp [dhead, seenBy, keepOnly, looks, joinN, addN, bite_eq, Op.operands, h54, h64, h65, h74, h75, h84, h85, h94, h95, htU, htU2, htU3, Call.operands, g3, g8, g14, lU, c10, c11]
            exact ⟨rfl, rfl, rfl⟩
          focus ((try simp [allN]) <;> rfl)
          repeat' (first | refine Wp.seq ?_ | refine Wp.block ?_ | (apply Wp.region; focus ((try simp []) <;> rfl)) | (refine Wp.cond_t ?_ ?_; focus (simp []; done)) | (refine Wp.cond_f ?_ ?_; focus (simp []; done)) | refine Wp.skip ?_ | refine Wp.ret ?_ | refine Wp.exit ?_ | refine Blk.here ?_ | (refine Blk.past ?_ ?_; focus (simp; done)))
          repeat' (first | refine Wp.seq ?_ | refine Wp.block ?_ | (apply Wp.region; focus ((try simp [g14, hwk]) <;> rfl)) | (refine Wp.cond_t ?_ ?_; focus (simp [g14, hwk]; done)) | (refine Wp.cond_f ?_ ?_; focus (simp [g14, hwk]; done)) | refine Wp.skip ?_ | refine Wp.ret ?_ | refine Wp.exit ?_ | refine Blk.here ?_ | (refine Blk.past ?_ ?_; focus (simp; done)))
          refine ⟨by simp [g3], by simp [g4], by simp [g8], by simp [hwk], ?_, ?_⟩
          · exact wU1
          · exact fun q x h => kU1 q x (kU q x h)
        case pos =>
          have e12 : tfF g f k = some (coZ g f k) := by unfold tfF; rw [if_pos hv]
          have c11 : acallV (symIn Try.prog (K1 P) [] 300) ⟨U.next + 1, (U.next, ints (nums (eZ L k))) :: U.obs, U.next + 1⟩ (.func 10 [] []) [.agg [v1, v2], .rsl U.next 0 L none] = some (.tup [.rsl (U.next + 1) 0 (coZ g f k).length none, .bool true], ⟨U.next + 1 + 1, (U.next + 1, ints (nums (coZ g f k))) :: (U.next, ints (nums (eZ L k))) :: U.obs, U.next + 1⟩) := by
            have eT : K1 P 10 [.agg [v1, v2], .rsl U.next 0 L none] ⟨U.next + 1, (U.next, ints (nums (eZ L k))) :: U.obs, U.next + 1⟩ = some (.tup [.rsl (U.next + 1) 0 (coZ g f k).length none, .bool true], ⟨U.next + 1 + 1, (U.next + 1, ints (nums (coZ g f k))) :: (U.next, ints (nums (eZ L k))) :: U.obs, U.next + 1⟩) := by
              rw [K1_tf]
              unfold telK
              rw [Nat.beq_refl, bite_true, hDt]
              simp only [e11, e12, ansR, ansO, numO, List.length_cons, List.length_nil]
            have := call_K (P := Try.prog) (n := 299) (sto := ⟨U.next + 1, (U.next, ints (nums (eZ L k))) :: U.obs, U.next + 1⟩) eT (by decide)
            rw [this]
            simp
          obtain ⟨S9, hS9⟩ : ∃ S9 : Sto Sy, S9 = ⟨U.next + 1 + 1, (U.next + 1, ints (nums (coZ g f k))) :: (U.next, ints (nums (eZ L k))) :: U.obs, U.low⟩ := ⟨_, rfl⟩
          have w9 : Ws S9 := by rw [hS9]; exact ⟨⟨Nat.lt_succ_self _, wU1.desc⟩, by have := wU.low; show U.low ≤ U.next + 1 + 1; omega⟩
          have htU4 : takeNew (U.next + 1) ((U.next + 1, ints (nums (coZ g f k))) :: (U.next, ints (nums (eZ L k))) :: U.obs) = [(U.next + 1, ints (nums (coZ g f k)))] := by
            simp only [takeNew, show Nat.ble (U.next + 1) (U.next + 1) = true by rw [Nat.ble_eq]; exact Nat.le_refl _, bite_true, htU3]
            simpa [takeNew] using htU3
          have k8U : ∀ q x, Go.Sx.look T.obs q = some x → Go.Sx.look S9.obs q = some x := fun q x h => by
            rw [hS9, look_cons, if_neg (by have := wU.desc.look_lt (kU q x h); omega)]
            exact kU1 q x (kU q x h)
          have iC : IsL S9.obs (U.next + 1) (coZ g f k) (.rsl (U.next + 1) 0 (coZ g f k).length none) := ⟨⟨none, rfl, .inl rfl⟩, by rw [hS9, look_cons, if_pos rfl]⟩
          have l9 := loadP (S := S9) (k8U _ _ m48)
          obtain ⟨S10, c12, w10, n10, o10, k10⟩ := telP w9 (K1_tf P) (args := [.agg [.rsl (S1.next + 1) 0 (cvZ g f).length none, .rsl (S1.next + 1 + 1) 0 (rvZ g f).length none], .rsl (U.next + 1) 0 (coZ g f k).length none]) (a := (false, k)) (by
            rw [← hPq]
            refine dTf_b (k := k) hne ⟨by rw [hPg, hLL]; exact hk, rfl, by rw [hPg, hPf]; exact hV, ?_, ?_, by rw [hPg, hPf]; exact hv⟩
            · rw [hPg, hPf]
              exact kQ S9 (fun q x h => k8U q x (k68 q x h))
            · rw [hPg, hPf]
              exact isL_consts (S := ⟨S9.next, S9.obs, S9.next⟩) iC) 300 (by omega)
          have e13 : tf2 P (false, k) = some (eZ L k) := by show some (eZ P.g.length k) = _; rw [hPg, hLL]
          rw [e13] at c12 o10
          simp only [ansR, eZ_len] at c12
          have iB : IsL S10.obs S9.next (eZ L k) (.rsl S9.next 0 L none) := ⟨⟨none, by rw [eZ_len], .inl rfl⟩, o10 0 _ rfl⟩
          obtain ⟨S11, c13, w11, n11, o11, k11⟩ := telP w10 (K1_ln P) (dLn_eq (sto := ⟨S10.next, S10.obs, S10.next⟩) hL2 hL6 hk) 300 (by omega)
          simp only [lstR, eZ_len] at c13
          simp only [lstO] at o11
          have iN : IsL S11.obs S10.next (eZ L k) (.rsl S10.next 0 L none) := ⟨⟨none, by rw [eZ_len], .inl rfl⟩, o11 0 _ rfl⟩
          have hbo : Bo (eZ L k) (eZ L k) := .inl ⟨⟨by rw [eZ_len]; omega, by rw [eZ_len]; omega⟩, by rw [eZ_len]; omega, by rw [eZ_len]; omega⟩
          have c14 := boolC (K := K1 P) (k0 := 12) w11.low (K1_eq P) (dEq_eq (isL_consts (S := ⟨S11.next, S11.obs, S11.next⟩) ⟨iB.val, k11 _ _ iB.obj⟩) (isL_consts (S := ⟨S11.next, S11.obs, S11.next⟩) iN) hbo) 300 (by omega)
          simp only [decide_true] at c14
          have htU5 : takeNew (U.next + 1 + 1) ((U.next + 1, ints (nums (coZ g f k))) :: (U.next, ints (nums (eZ L k))) :: U.obs) = [] := takeNew_id ⟨Nat.lt_succ_self _, wU1.desc⟩
          generalize ints (nums (eZ L k)) = ee at c10 c11 htU2 htU3 htU4 htU5 hS9
          generalize ints (nums (coZ g f k)) = cc at c11 htU4 htU5 hS9
          repeat' (first | refine Wp.seq ?_ | refine Wp.block ?_ | (apply Wp.region; focus ((try simp [g3, g4, g8, g14, hltk]) <;> rfl)) | (refine Wp.cond_t ?_ ?_; focus (simp [g3, g4, g8, g14, hltk]; done)) | (refine Wp.cond_f ?_ ?_; focus (simp [g3, g4, g8, g14, hltk]; done)) | refine Wp.skip ?_ | refine Wp.ret ?_ | refine Wp.exit ?_ | refine Blk.here ?_ | (refine Blk.past ?_ ?_; focus (simp; done)))
          apply drawn4 10 [(5, 4), (6, 4), (6, 5), (7, 4), (7, 5), (8, 4), (8, 5), (9, 4), (9, 5)]
          focus kernel_rfl
          focus kernel_rfl
          focus
            intro F hF
            simp only [List.mem_cons, List.not_mem_nil, or_false, forall_eq_or_imp, forall_eq] at hF
            obtain ⟨h54, h64, h65, h74, h75, h84, h85, h94, h95⟩ := hF
            simp only [List.getD] at h54 h64 h65 h74 h75 h84 h85 h94 h95
            simp [dhead, seenBy, keepOnly, looks, joinN, addN, bite_eq, Op.operands, h54, h64, h65, h74, h75, h84, h85, h94, h95, htU, htU2, htU3, htU4, htU5, Call.operands, g3, g8, g14, lU, c10, c11]
            exact ⟨rfl, rfl, rfl⟩
          focus ((try simp [allN, ← hS9]) <;> rfl)
          repeat' (first | refine Wp.seq ?_ | refine Wp.block ?_ | (apply Wp.region; focus ((try simp []) <;> rfl)) | (refine Wp.cond_t ?_ ?_; focus (simp []; done)) | (refine Wp.cond_f ?_ ?_; focus (simp []; done)) | refine Wp.skip ?_ | refine Wp.ret ?_ | refine Wp.exit ?_ | refine Blk.here ?_ | (refine Blk.past ?_ ?_; focus (simp; done)))
          repeat' (first | refine Wp.seq ?_ | refine Wp.block ?_ | (apply Wp.region; focus ((try simp [g4, l9, c12]) <;> rfl)) | (refine Wp.cond_t ?_ ?_; focus (simp [g4, l9, c12]; done)) | (refine Wp.cond_f ?_ ?_; focus (simp [g4, l9, c12]; done)) | refine Wp.skip ?_ | refine Wp.ret ?_ | refine Wp.exit ?_ | refine Blk.here ?_ | (refine Blk.past ?_ ?_; focus (simp; done)))
          repeat' (first | refine Wp.seq ?_ | refine Wp.block ?_ | (apply Wp.region; focus ((try simp [g8, g14, c13, c14]) <;> rfl)) | (refine Wp.cond_t ?_ ?_; focus (simp [g8, g14, c13, c14]; done)) | (refine Wp.cond_f ?_ ?_; focus (simp [g8, g14, c13, c14]; done)) | refine Wp.skip ?_ | refine Wp.ret ?_ | refine Wp.exit ?_ | refine Blk.here ?_ | (refine Blk.past ?_ ?_; focus (simp; done)))
          repeat' (first | refine Wp.seq ?_ | refine Wp.block ?_ | (apply Wp.region; focus ((try simp [g14, hwk]) <;> rfl)) | (refine Wp.cond_t ?_ ?_; focus (simp [g14, hwk]; done)) | (refine Wp.cond_f ?_ ?_; focus (simp [g14, hwk]; done)) | refine Wp.skip ?_ | refine Wp.ret ?_ | refine Wp.exit ?_ | refine Blk.here ?_ | (refine Blk.past ?_ ?_; focus (simp; done)))
          exact ⟨by simp [g3], by simp [g4], by simp [g8], by simp [hwk], w11, fun q x h => k11 q x (k10 q x (k8U q x h))⟩
      · rintro fu2 ⟨tm, U⟩ ⟨g3, g4, g8, g14, wU, kU⟩
        simp only at g3 g4 g8 g14 wU kU
        have lU := loadP (S := U) (kU _ _ m48)
        have c15 := boolC (K := K1 P) (k0 := 13) (Q := fun _ => true) wU.low (K1_vo P) (args := [.agg [.rsl (S1.next + 1) 0 (cvZ g f).length none, .rsl (S1.next + 1 + 1) 0 (rvZ g f).length none]]) (dVo_eq (P := P) (by rw [hPg, hPf]; exact hV) (by rw [← hPq, hPg, hPf]; exact kQ U (fun q x h => kU q x (k68 q x h)))) 300 (by omega)
        repeat' (first | refine Wp.seq ?_ | refine Wp.block ?_ | (apply Wp.region; focus ((try simp [g3, g4, g8, g14, hnl]) <;> rfl)) | (refine Wp.cond_t ?_ ?_; focus (simp [g3, g4, g8, g14, hnl]; done)) | (refine Wp.cond_f ?_ ?_; focus (simp [g3, g4, g8, g14, hnl]; done)) | refine Wp.skip ?_ | refine Wp.ret ?_ | refine Wp.exit ?_ | refine Blk.here ?_ | (refine Blk.past ?_ ?_; focus (simp; done)))
        repeat' (first | refine Wp.seq ?_ | refine Wp.block ?_ | (apply Wp.region; focus ((try simp [g4, lU, c15]) <;> rfl)) | (refine Wp.cond_t ?_ ?_; focus (simp [g4, lU, c15]; done)) | (refine Wp.cond_f ?_ ?_; focus (simp [g4, lU, c15]; done)) | refine Wp.skip ?_ | refine Wp.ret ?_ | refine Wp.exit ?_ | refine Blk.here ?_ | (refine Blk.past ?_ ?_; focus (simp; done)))
        exact ⟨rfl, answer_trim1 (v := .bool true) (by simp) rfl⟩
end Go.Proofs.Ytnaegkpaiahpmaa.Iv

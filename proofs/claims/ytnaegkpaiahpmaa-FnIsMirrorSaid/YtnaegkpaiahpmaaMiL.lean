/-
  Mirrors: the law, by a run by hand. No condition.
-/
import Derived.Test.YtnaegkpaiahpmaaRows
import Derived.Test.YtnaegkpaiahpmaaSym
import Derived.Test.YtnaegkpaiahpmaaSymD
import Derived.Test.YtnaegkpaiahpmaaSymE
import Derived.Test.YtnaegkpaiahpmaaSymF
import Derived.Test.YtnaegkpaiahpmaaSymG
import Derived.Test.YtnaegkpaiahpmaaIds
import Derived.Test.YtnaegkpaiahpmaaTel
import Derived.Test.YtnaegkpaiahpmaaIv
import Derived.Test.YtnaegkpaiahpmaaDraw
import Derived.Test.YtnaegkpaiahpmaaDrawC
import Derived.Test.YtnaegkpaiahpmaaDrawD
import Derived.Test.YtnaegkpaiahpmaaIvB
import Derived.Test.YtnaegkpaiahpmaaIvC
import Derived.Test.YtnaegkpaiahpmaaIvE
import Derived.Test.YtnaegkpaiahpmaaMi
import Derived.Test.YtnaegkpaiahpmaaMiC
import Derived.Test.YtnaegkpaiahpmaaMiD
import Derived.Test.YtnaegkpaiahpmaaMiG
import Derived.Test.YtnaegkpaiahpmaaMiH
import Derived.WalkKit
import Derived.ProofKit
import Derived.OpenShut
namespace Go.Proofs.Ytnaegkpaiahpmaa.Mi
open Go.ChangeShapes Go.WideShapes Go.ChangeAt Go.RowKit Go.Sx Go.Proofs.Ytnaegkpaiahpmaa.Ids
open Go.Proofs.Ytnaegkpaiahpmaa.Iv (Ws cellW telP boolC PairV InvP invF cvZ rvZ dP dP_eq prR prO invK invKI_ok vpK vpKI_ok dEp dEp_eq eqpK eqpK_ok Bo isL_consts inv_len Nm swK swK_ok swK_at swK_ne)
open Go.Proofs.Ytnaegkpaiahpmaa.Tel (telK)
open Go.Proofs.Ytnaegkpaiahpmaa.Draw (fldP0 fldP1 loadS lookN loadP storeP lookW allocP)
set_option linter.unusedVariables false
set_option linter.unusedSimpArgs false

noncomputable def dmK : Ctr := fun k args sto => symRun Try.prog K2 [] 200 k args sto
theorem dmK_ok (ρ : Nat → Int) (s : Sms) (B : Nat) : COk Try.prog ⟨Sy.den ρ, s⟩ B dmK := fun k args sto r sto' h =>
  symRun_ok noCount mixed (Γ := []) (fun f hf => by cases hf) (K2_ok ρ s B) 200 k args sto r sto' h
noncomputable def K3 : Ctr := swK 14 dmK (swK 15 (miK 15) (swK 16 (miK 16) (swK 13 (vpK 13) (swK 6 (invK 6) (swK 8 eqpK noK)))))
theorem K3_ok (ρ : Nat → Int) (s : Sms) (B : Nat) : COk Try.prog ⟨Sy.den ρ, s⟩ B K3 :=
  swK_ok (dmK_ok _ _ _) (swK_ok (miKI_ok _ _ _) (swK_ok (miKS_ok _ _ _) (swK_ok (vpKI_ok _ _ _) (swK_ok (invKI_ok _ _ _) (swK_ok (eqpK_ok _ _ _) noK_ok)))))
section
variable (args : List (V Sy)) (sto : Sto Sy)
theorem K3_dr : K3 14 args sto = symRun Try.prog K2 [] 200 14 args sto := by
  unfold K3; rw [swK_at]; rfl
theorem K3_mi : K3 15 args sto = telK 15 dP (fun p _ => .bool (miB p)) (fun _ _ => []) 15 args sto := by
  unfold K3; rw [swK_ne (by decide), swK_at]; rfl
theorem K3_ms : K3 16 args sto = telK 16 dP (fun p _ => .bool (miB p)) (fun _ _ => []) 16 args sto := by
  unfold K3; rw [swK_ne (by decide), swK_ne (by decide), swK_at]; rfl
theorem K3_vp : K3 13 args sto = telK 13 dP (fun p _ => .bool (decide (PairV p.1 p.2))) (fun _ _ => []) 13 args sto := by
  unfold K3; rw [swK_ne (by decide), swK_ne (by decide), swK_ne (by decide), swK_at]; rfl
theorem K3_ii : K3 6 args sto = telK 6 dP (fun p => prR (invF p.1 p.2)) (fun p => prO (invF p.1 p.2)) 6 args sto := by
  unfold K3; rw [swK_ne (by decide), swK_ne (by decide), swK_ne (by decide), swK_ne (by decide), swK_at]; rfl
theorem K3_ep : K3 8 args sto = telK 8 dEp (fun p _ => .bool (decide (p.1.1 = p.2.1 ∧ p.1.2 = p.2.2))) (fun _ _ => []) 8 args sto := by
  unfold K3; rw [swK_ne (by decide), swK_ne (by decide), swK_ne (by decide), swK_ne (by decide), swK_ne (by decide), swK_at]; rfl
theorem hK3 : K3 4 args sto = none := by
  unfold K3; rw [swK_ne (by decide), swK_ne (by decide), swK_ne (by decide), swK_ne (by decide), swK_ne (by decide), swK_ne (by decide)]; rfl
end
theorem aifc_bool {T : TypeId → Option Ti} {op : BinOp} {t : TypeId} {ox oy : Operand} {a b : Bool} : aifc (I := Sy) T op t ox oy (.bool a) (.bool b) = none := rfl
attribute [local simp] aops wants aop apure St.eval setTm_some setTm_none Tr.get_set evals pevals apureB alen tiS tiI tiB Draw.tiY Draw.tiU abin aint isCmp sym_lt sym_eqs sym_neqs sym_eq sym_neq sym_gtr sym_leq sym_geq sym_add sym_sub sym_mul aeff aeffB idx? ofV aindexAddr aggDesc aifc_int fldP0 fldP1 aun u8s_length aifc_bool
set_option maxRecDepth 10000 in
theorem law_big (bs : List Int) (hbig : (1048576 : Int) < bs.length) : ∃ r, symRun Try.prog K3 [] 301 4 [.slice (u8s bs)] ⟨0, [], 0⟩ = some r ∧ r.1 = .bool true := by
  refine own_run2 (n := 300) (hK3 _ _) Try.func4 rfl rfl ?_
  simp only [Try.f4]
  repeat' (first | refine Wp.seq ?_ | refine Wp.block ?_ | (apply Wp.region; focus ((try simp [setArgs, hbig]) <;> rfl)) | (refine Wp.cond_t ?_ ?_; focus (simp [setArgs, hbig]; done)) | (refine Wp.cond_f ?_ ?_; focus (simp [setArgs, hbig]; done)) | refine Wp.skip ?_ | refine Wp.ret ?_ | refine Wp.exit ?_ | refine Blk.here ?_ | (refine Blk.past ?_ ?_; focus (simp; done)))
  exact ⟨rfl, answer_trim1 (v := .bool true) (by simp) rfl⟩
set_option maxHeartbeats 6400000 in
set_option maxRecDepth 10000 in
theorem law_mi (bs : List Int) (hbs : ∀ b, b ∈ bs → 0 ≤ b ∧ b < 256) : ∃ r, symRun Try.prog K3 [] 301 4 [.slice (u8s bs)] ⟨0, [], 0⟩ = some r ∧ r.1 = .bool true := by
  by_cases hbig : (1048576 : Int) < bs.length
  · exact law_big bs hbig
  obtain ⟨⟨v0, S0⟩, h1, h2, v1, v2, q1, q2, g, f, hv0, hz1, hz2, fz1, fz2⟩ := drawIM bs hbs
  simp only at hv0 hz1 hz2 h2
  subst hv0
  obtain ⟨S1, hS1⟩ : ∃ S1 : Sto Sy, S1 = ⟨S0.next, S0.obs, if S0.low < 0 then S0.low else 0⟩ := ⟨_, rfl⟩
  have w1 : Ws S1 := by rw [hS1]; exact ⟨h2, by simp⟩
  have i1 : IsL S1.obs q1 g v1 := by rw [hS1]; exact hz1
  have i2 : IsL S1.obs q2 f v2 := by rw [hS1]; exact hz2
  refine own_run2 (n := 300) (hK3 _ _) Try.func4 rfl rfl ?_
  simp only [Try.f4]
  have e0 : K3 14 [.slice (u8s bs)] ⟨(⟨0, [], 0⟩ : Sto Sy).next, (⟨0, [], 0⟩ : Sto Sy).obs, (⟨0, [], 0⟩ : Sto Sy).next⟩ = some (.agg [v1, v2], S0) := by rw [K3_dr]; exact h1
  have hc1 : acallV (symIn Try.prog K3 [] 300) ⟨0, [], 0⟩ (.func 14 [] []) [.slice (u8s bs)] = some (.agg [v1, v2], S1) := by rw [hS1]; exact call_K (P := Try.prog) (n := 299) e0 (by decide)
  clear e0 hS1 hz1 hz2 h1 h2
  have hg : Nm g := fz1.wf.1
  have hf : Nm f := fz2.wf.1
  have lg := fz1.wf.2
  have lf := fz2.wf.2
  have kD : ∀ (S : Sto Sy), (∀ k x, Go.Sx.look S1.obs k = some x → Go.Sx.look S.obs k = some x) → dP [.agg [v1, v2]] ⟨S.next, S.obs, S.next⟩ = some (g, f) := fun S h => dP_eq (isL_consts (S := ⟨S.next, S.obs, S.next⟩) ⟨i1.val, h _ _ i1.obj⟩) (isL_consts (S := ⟨S.next, S.obs, S.next⟩) ⟨i2.val, h _ _ i2.obj⟩) ⟨⟨lg, hg⟩, lf, hf⟩
  have o1 : v1.oneCell = true := by obtain ⟨c, hv, _⟩ := i1.val; rw [hv]; rfl
  have o2 : v2.oneCell = true := by obtain ⟨c, hv, _⟩ := i2.val; rw [hv]; rfl
  obtain ⟨S2, st2, w2, n2, m2, k2⟩ := cellW w1 o1 o2
  have l2 := loadP m2
  have c3 := boolC w2.low K3_mi (kD S2 k2) 300 (by omega)
  have c4 := boolC w2.low K3_ms (kD S2 k2) 300 (by omega)
  have c5 := boolC w2.low K3_vp (kD S2 k2) 300 (by omega)
  simp only at c5
  by_cases hP : PairV g f
  case neg =>
    have e3 : miB (g, f) = false := decide_eq_false (fun h => hP h.1)
    rw [e3] at c3 c4
    rw [decide_eq_false hP] at c5
    repeat' (first | refine Wp.seq ?_ | refine Wp.block ?_ | (apply Wp.region; focus ((try simp [setArgs, hbig, hc1, allocP, st2, l2, c3, c4, c5]) <;> rfl)) | (refine Wp.cond_t ?_ ?_; focus (simp [setArgs, hbig, hc1, allocP, st2, l2, c3, c4, c5]; done)) | (refine Wp.cond_f ?_ ?_; focus (simp [setArgs, hbig, hc1, allocP, st2, l2, c3, c4, c5]; done)) | refine Wp.skip ?_ | refine Wp.ret ?_ | refine Wp.exit ?_ | refine Blk.here ?_ | (refine Blk.past ?_ ?_; focus (simp; done)))
    exact ⟨rfl, answer_trim1 (v := .bool true) (by simp) rfl⟩
  case pos =>
    rw [decide_eq_true hP] at c5
    obtain ⟨S3, c6, w3, n3, o3, k3⟩ := telP w2 K3_ii (kD S2 k2) 300 (by omega)
    cases hI : invF g f with
    | none =>
      have hV : ¬ InvP g f := fun h => by unfold invF at hI; rw [if_pos h] at hI; cases hI
      have e3 : miB (g, f) = false := decide_eq_false (fun h => hV ((mirror_iff hP).1 h).1)
      rw [e3] at c3 c4
      simp only [hI, prR] at c6
      obtain ⟨S4, st4, w4, n4, m4, k4⟩ := cellW w3 (a := V.nil) (b := V.nil) rfl rfl
      repeat' (first | refine Wp.seq ?_ | refine Wp.block ?_ | (apply Wp.region; focus ((try simp [setArgs, hbig, hc1, allocP, st2, l2, c3, c4, c5]) <;> rfl)) | (refine Wp.cond_t ?_ ?_; focus (simp [setArgs, hbig, hc1, allocP, st2, l2, c3, c4, c5]; done)) | (refine Wp.cond_f ?_ ?_; focus (simp [setArgs, hbig, hc1, allocP, st2, l2, c3, c4, c5]; done)) | refine Wp.skip ?_ | refine Wp.ret ?_ | refine Wp.exit ?_ | refine Blk.here ?_ | (refine Blk.past ?_ ?_; focus (simp; done)))
      repeat' (first | refine Wp.seq ?_ | refine Wp.block ?_ | (apply Wp.region; focus ((try simp [l2, c6, allocP, st4]) <;> rfl)) | (refine Wp.cond_t ?_ ?_; focus (simp [l2, c6, allocP, st4]; done)) | (refine Wp.cond_f ?_ ?_; focus (simp [l2, c6, allocP, st4]; done)) | refine Wp.skip ?_ | refine Wp.ret ?_ | refine Wp.exit ?_ | refine Blk.here ?_ | (refine Blk.past ?_ ?_; focus (simp; done)))
      exact ⟨rfl, answer_trim1 (v := .bool true) (by simp) rfl⟩
    | some p =>
      have hV : InvP g f := by
        by_cases h : InvP g f
        · exact h
        · unfold invF at hI; rw [if_neg h] at hI; cases hI
      have hp : p = (cvZ g f, rvZ g f) := by unfold invF at hI; rw [if_pos hV] at hI; exact (Option.some.inj hI).symm
      subst hp
      have hL2 := hP.2.2.2.1
      have hL6 := hP.1.2.2
      have hlf := hP.2.2.1
      obtain ⟨L1, L2, L3⟩ := inv_len hP
      simp only [hI, prR] at c6
      simp only [hI] at o3
      have j1 : IsL S3.obs S2.next (cvZ g f) (.rsl S2.next 0 (cvZ g f).length none) := ⟨⟨none, rfl, .inl rfl⟩, o3 0 _ rfl⟩
      have j2 : IsL S3.obs (S2.next + 1) (rvZ g f) (.rsl (S2.next + 1) 0 (rvZ g f).length none) := ⟨⟨none, rfl, .inl rfl⟩, o3 1 _ rfl⟩
      obtain ⟨S4, st4, w4, n4, m4, k4⟩ := cellW w3 (a := .rsl S2.next 0 (cvZ g f).length none) (b := .rsl (S2.next + 1) 0 (rvZ g f).length none) rfl rfl
      have l4a := loadP m4
      have l4b := loadP (k4 _ _ (k3 _ _ m2))
      have hb1 : Bo (cvZ g f) g := .inl ⟨⟨by omega, by omega⟩, by omega, by omega⟩
      have hb2 : Bo (rvZ g f) f := .inl ⟨⟨by omega, by omega⟩, by omega, by omega⟩
      have c7 := boolC (K := K3) (k0 := 8) w4.low K3_ep (dEp_eq (isL_consts (S := ⟨S4.next, S4.obs, S4.next⟩) ⟨j1.val, k4 _ _ j1.obj⟩) (isL_consts (S := ⟨S4.next, S4.obs, S4.next⟩) ⟨j2.val, k4 _ _ j2.obj⟩) (isL_consts (S := ⟨S4.next, S4.obs, S4.next⟩) ⟨i1.val, k4 _ _ (k3 _ _ (k2 _ _ i1.obj))⟩) (isL_consts (S := ⟨S4.next, S4.obs, S4.next⟩) ⟨i2.val, k4 _ _ (k3 _ _ (k2 _ _ i2.obj))⟩) hb1 hb2) 300 (by omega)
      simp only at c7
      have e3 : miB (g, f) = decide (cvZ g f = g ∧ rvZ g f = f) := by
        unfold miB
        by_cases h : cvZ g f = g ∧ rvZ g f = f
        · rw [decide_eq_true h]; exact decide_eq_true ((mirror_iff hP).2 ⟨hV, h⟩)
        · rw [decide_eq_false h]; exact decide_eq_false (fun hm => h ((mirror_iff hP).1 hm).2)
      rw [e3] at c3 c4
      generalize decide (cvZ g f = g ∧ rvZ g f = f) = b at c3 c4 c7
      generalize (cvZ g f).length = l1 at *
      generalize (rvZ g f).length = l2' at *
      cases b
      · repeat' (first | refine Wp.seq ?_ | refine Wp.block ?_ | (apply Wp.region; focus ((try simp [setArgs, hbig, hc1, allocP, st2, l2, c3, c4, c5]) <;> rfl)) | (refine Wp.cond_t ?_ ?_; focus (simp [setArgs, hbig, hc1, allocP, st2, l2, c3, c4, c5]; done)) | (refine Wp.cond_f ?_ ?_; focus (simp [setArgs, hbig, hc1, allocP, st2, l2, c3, c4, c5]; done)) | refine Wp.skip ?_ | refine Wp.ret ?_ | refine Wp.exit ?_ | refine Blk.here ?_ | (refine Blk.past ?_ ?_; focus (simp; done)))
        repeat' (first | refine Wp.seq ?_ | refine Wp.block ?_ | (apply Wp.region; focus ((try simp [l2, c6, allocP, st4]) <;> rfl)) | (refine Wp.cond_t ?_ ?_; focus (simp [l2, c6, allocP, st4]; done)) | (refine Wp.cond_f ?_ ?_; focus (simp [l2, c6, allocP, st4]; done)) | refine Wp.skip ?_ | refine Wp.ret ?_ | refine Wp.exit ?_ | refine Blk.here ?_ | (refine Blk.past ?_ ?_; focus (simp; done)))
        repeat' (first | refine Wp.seq ?_ | refine Wp.block ?_ | (apply Wp.region; focus ((try simp [l4a, l4b, c7]) <;> rfl)) | (refine Wp.cond_t ?_ ?_; focus (simp [l4a, l4b, c7]; done)) | (refine Wp.cond_f ?_ ?_; focus (simp [l4a, l4b, c7]; done)) | refine Wp.skip ?_ | refine Wp.ret ?_ | refine Wp.exit ?_ | refine Blk.here ?_ | (refine Blk.past ?_ ?_; focus (simp; done)))
        exact ⟨rfl, answer_trim1 (v := .bool true) (by simp) rfl⟩
      · repeat' (first | refine Wp.seq ?_ | refine Wp.block ?_ | (apply Wp.region; focus ((try simp [setArgs, hbig, hc1, allocP, st2, l2, c3, c4, c5]) <;> rfl)) | (refine Wp.cond_t ?_ ?_; focus (simp [setArgs, hbig, hc1, allocP, st2, l2, c3, c4, c5]; done)) | (refine Wp.cond_f ?_ ?_; focus (simp [setArgs, hbig, hc1, allocP, st2, l2, c3, c4, c5]; done)) | refine Wp.skip ?_ | refine Wp.ret ?_ | refine Wp.exit ?_ | refine Blk.here ?_ | (refine Blk.past ?_ ?_; focus (simp; done)))
        repeat' (first | refine Wp.seq ?_ | refine Wp.block ?_ | (apply Wp.region; focus ((try simp [l2, c6, allocP, st4]) <;> rfl)) | (refine Wp.cond_t ?_ ?_; focus (simp [l2, c6, allocP, st4]; done)) | (refine Wp.cond_f ?_ ?_; focus (simp [l2, c6, allocP, st4]; done)) | refine Wp.skip ?_ | refine Wp.ret ?_ | refine Wp.exit ?_ | refine Blk.here ?_ | (refine Blk.past ?_ ?_; focus (simp; done)))
        repeat' (first | refine Wp.seq ?_ | refine Wp.block ?_ | (apply Wp.region; focus ((try simp [l4a, l4b, c7]) <;> rfl)) | (refine Wp.cond_t ?_ ?_; focus (simp [l4a, l4b, c7]; done)) | (refine Wp.cond_f ?_ ?_; focus (simp [l4a, l4b, c7]; done)) | refine Wp.skip ?_ | refine Wp.ret ?_ | refine Wp.exit ?_ | refine Blk.here ?_ | (refine Blk.past ?_ ?_; focus (simp; done)))
        exact ⟨rfl, answer_trim1 (v := .bool true) (by simp) rfl⟩
end Go.Proofs.Ytnaegkpaiahpmaa.Mi

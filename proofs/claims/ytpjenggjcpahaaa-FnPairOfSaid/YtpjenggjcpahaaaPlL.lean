import Derived.Test.YtpjenggjcpahaaaRows
import Derived.Test.YtpjenggjcpahaaaSym
import Derived.Test.YtpjenggjcpahaaaSymD
import Derived.Test.YtpjenggjcpahaaaSymE
import Derived.Test.YtpjenggjcpahaaaSymF
import Derived.Test.YtpjenggjcpahaaaIds
import Derived.Test.YtpjenggjcpahaaaNp
import Derived.Test.YtpjenggjcpahaaaSeq
import Derived.Test.YtpjenggjcpahaaaSeqG
import Derived.Test.YtpjenggjcpahaaaPr
import Derived.Test.YtpjenggjcpahaaaPrM
import Derived.Test.YtpjenggjcpahaaaPrF
import Derived.Test.YtpjenggjcpahaaaPrG
import Derived.Test.YtpjenggjcpahaaaPrH
import Derived.Test.YtpjenggjcpahaaaPrN
import Derived.Test.YtpjenggjcpahaaaPl
import Derived.Test.YtpjenggjcpahaaaPlB
import Derived.Test.YtpjenggjcpahaaaTel
import Derived.Test.YtpjenggjcpahaaaTelC
import Derived.Test.YtpjenggjcpahaaaTelD
import Derived.Test.YtpjenggjcpahaaaDraw
import Derived.Test.YtpjenggjcpahaaaDrawC
import Derived.Test.YtpjenggjcpahaaaDrawD
import Derived.Test.YtpjenggjcpahaaaDrawE
import Derived.Test.YtpjenggjcpahaaaDrawF
import Derived.Test.YtpjenggjcpahaaaDrawG
import Derived.Test.YtpjenggjcpahaaaDrawH
import Derived.Test.YtpjenggjcpahaaaDrawI
import Derived.Test.YtpjenggjcpahaaaVsT
import Derived.WalkKit
import Derived.ProofKit
import Derived.OpenShut
namespace Go.Proofs.Ytpjenggjcpahaaa.Pl
open Go.ChangeShapes Go.WideShapes Go.ChangeAt Go.RowKit Go.Sx Go.Proofs.Ytpjenggjcpahaaa.Ids Go.Proofs.Ytpjenggjcpahaaa.Seq Go.Proofs.Ytpjenggjcpahaaa.Tel Go.Proofs.Ytpjenggjcpahaaa.Draw
open Go.Proofs.Ytpjenggjcpahaaa.Pr (Sq col quo col_len quo_len PairP pF pairR pairO pF_yes pF_no implPair_tells specPair_tells)
set_option linter.unusedVariables false
set_option linter.unusedSimpArgs false

section
variable {S S' : Sto Sy} (hk : ∀ k x, Go.Sx.look S.obs k = some x → Go.Sx.look S'.obs k = some x)
include hk
theorem elems_keep {v : V Sy} {xs : List (V Sy)} (h : S.elems v = some xs) : S'.elems v = some xs := by
  cases v with
  | rsl o off len cap =>
    simp only [Sto.elems, Sto.cells] at h ⊢
    cases hl : lookC S.obs o with
    | none => rw [hl] at h; cases h
    | some b =>
      rw [hl] at h
      have : lookC S'.obs o = some b := by
        unfold lookC at hl ⊢
        cases hx : Go.Sx.look S.obs o with
        | none => rw [hx] at hl; cases hl
        | some y => rw [hx] at hl; rw [hk o y hx]; exact hl
      rw [this]; exact h
  | nil => exact h
  | emp => exact h
  | slice ys => exact h
  | _ => cases h
theorem consts_keep {v : V Sy} {zs : List Int} (h : constsOf S v = some zs) : constsOf S' v = some zs := by
  unfold constsOf at h ⊢
  cases he : S.elems v with
  | none => rw [he] at h; cases h
  | some xs => rw [he] at h; rw [elems_keep hk he]; exact h
theorem rowsFrom_keep : ∀ {xs : List (V Sy)} {zss : List (List Int)}, rowsFrom S xs = some zss → rowsFrom S' xs = some zss
  | [], _, h => h
  | x :: r, zss, h => by
    simp only [rowsFrom] at h ⊢
    cases he : constsOf S x with
    | none => rw [he] at h; cases h
    | some zs =>
      rw [he] at h
      rw [consts_keep hk he]
      cases hr : rowsFrom S r with
      | none => rw [hr] at h; cases h
      | some l => rw [hr] at h; rw [rowsFrom_keep hr]; exact h
theorem rowsOf_keep {v : V Sy} {zss : List (List Int)} (h : rowsOf S v = some zss) : rowsOf S' v = some zss := by
  unfold rowsOf at h ⊢
  cases he : S.elems v with
  | none => rw [he] at h; cases h
  | some xs =>
    rw [he] at h
    rw [elems_keep hk he]
    simp only [bite_eq] at h ⊢
    split at h
    · rename_i hc
      rw [if_pos hc]; exact rowsFrom_keep hk h
    · cases h
end

noncomputable def drK : Ctr := fun k args sto => bite (Nat.beq k 11) (symRun Try.prog K0 [] 201 k args sto) none
theorem drK_ok (ρ : Nat → Int) (s : Sms) (B : Nat) : COk Try.prog ⟨Sy.den ρ, s⟩ B drK := by
  intro k args sto r sto' h
  unfold drK at h
  rw [bite_eq] at h
  split at h
  · exact symRun_ok noCount mixed (Γ := []) (fun f hf => by cases hf) (K0_ok ρ s B) 201 k args sto r sto' h
  · cases h
noncomputable def K1 : Ctr := orK drK (orK (poK 12) (orK (poK 13) (orK eqpK (orK eqnK (orK arK (orK vaK eqlK2))))))
theorem K1_ok (ρ : Nat → Int) (s : Sms) (B : Nat) : COk Try.prog ⟨Sy.den ρ, s⟩ B K1 :=
  orK_ok (drK_ok _ _ _) (orK_ok (poK_ok (body_of Try.func12 rfl) (fun zss h1 h2 => implPair_tells h1 h2) _ _ _) (orK_ok (poK_ok (body_of Try.func13 rfl) (fun zss h1 h2 => specPair_tells h1 h2) _ _ _) (orK_ok (eqpK_ok _ _ _) (orK_ok (eqnK_ok _ _ _) (orK_ok (arK_ok _ _ _) (orK_ok (vaK_ok _ _ _) (eqlK2_ok _ _ _)))))))
theorem drK_no {k : FuncId} (h : ¬ Nat.beq k 11 = true) (args : List (V Sy)) (sto : Sto Sy) : drK k args sto = none := by
  unfold drK
  rw [bite_eq, if_neg h]
theorem or_same {K1 K2 : Ctr} {k : FuncId} {args : List (V Sy)} {sto : Sto Sy} (h : K2 k args sto = none) : orK K1 K2 k args sto = K1 k args sto := by
  cases e : K1 k args sto with
  | some r => exact orK_yes e
  | none => rw [orK_no e, h]
theorem K1_dr (args : List (V Sy)) (sto : Sto Sy) : K1 11 args sto = symRun Try.prog K0 [] 201 11 args sto := by
  unfold K1 poK eqpK eqnK arK vaK eqlK2
  rw [or_same (by rw [orK_no (telK_no (by decide) _ _), orK_no (telK_no (by decide) _ _), orK_no (telK_no (by decide) _ _), orK_no (telK_no (by decide) _ _), orK_no (telK_no (by decide) _ _), orK_no (telK_no (by decide) _ _), telK_no (by decide)])]
  unfold drK
  rw [bite_eq, if_pos (by decide)]
theorem K1_ipo (args : List (V Sy)) (sto : Sto Sy) : K1 12 args sto = telK 12 dAny (fun zss => pairR (pF zss)) (fun zss => pairO (pF zss)) 12 args sto := by
  unfold K1 poK eqpK eqnK arK vaK eqlK2
  rw [orK_no (drK_no (by decide) _ _), or_same (by rw [orK_no (telK_no (by decide) _ _), orK_no (telK_no (by decide) _ _), orK_no (telK_no (by decide) _ _), orK_no (telK_no (by decide) _ _), orK_no (telK_no (by decide) _ _), telK_no (by decide)])]
theorem K1_spo (args : List (V Sy)) (sto : Sto Sy) : K1 13 args sto = telK 13 dAny (fun zss => pairR (pF zss)) (fun zss => pairO (pF zss)) 13 args sto := by
  unfold K1 poK eqpK eqnK arK vaK eqlK2
  rw [orK_no (drK_no (by decide) _ _), orK_no (telK_no (by decide) _ _), or_same (by rw [orK_no (telK_no (by decide) _ _), orK_no (telK_no (by decide) _ _), orK_no (telK_no (by decide) _ _), orK_no (telK_no (by decide) _ _), telK_no (by decide)])]
theorem K1_eqp {args : List (V Sy)} {sto : Sto Sy} {p : List Int × List Int} (h : dEqp args sto = some p) : K1 14 args sto = some (.bool true, sto) := by
  unfold K1 poK
  rw [orK_no (drK_no (by decide) _ _), orK_no (telK_no (by decide) _ _), orK_no (telK_no (by decide) _ _)]
  refine orK_yes ?_
  unfold eqpK telK
  rw [Nat.beq_refl, bite_true, h]
  rfl
theorem K1_eqn (sto : Sto Sy) : K1 14 [.agg [.nil, .nil], .agg [.nil, .nil]] sto = some (.bool true, sto) := by
  unfold K1 poK
  rw [orK_no (drK_no (by decide) _ _), orK_no (telK_no (by decide) _ _), orK_no (telK_no (by decide) _ _)]
  have h2 : eqnK 14 [.agg [.nil, .nil], .agg [.nil, .nil]] sto = some (.bool true, sto) := by
    unfold eqnK telK
    rw [Nat.beq_refl, bite_true]
    rfl
  have h1 : eqpK 14 [.agg [.nil, .nil], .agg [.nil, .nil]] sto = none := by
    unfold eqpK telK
    rw [Nat.beq_refl, bite_true]
    have : dEqp [.agg [.nil, .nil], .agg [.nil, .nil]] sto = none := by
      have e : constsOf sto .nil = some [] := rfl
      simp only [dEqp, e]
      rw [if_neg]
      intro h
      have := h.1.2.1
      simp at this
    rw [this]
  rw [orK_no h1]
  exact orK_yes h2
theorem K1_ar (args : List (V Sy)) (sto : Sto Sy) : K1 16 args sto = telK 16 dCol (fun zss => rowsR zss) (fun zss => rowsO zss) 16 args sto := by
  unfold K1 poK eqpK eqnK arK vaK eqlK2
  rw [orK_no (drK_no (by decide) _ _), orK_no (telK_no (by decide) _ _), orK_no (telK_no (by decide) _ _), orK_no (telK_no (by decide) _ _), orK_no (telK_no (by decide) _ _), or_same (by rw [orK_no (telK_no (by decide) _ _), telK_no (by decide)])]
theorem K1_va (args : List (V Sy)) (sto : Sto Sy) : K1 17 args sto = telK 17 dCol (fun zss _ => .bool true) (fun zss _ => []) 17 args sto := by
  unfold K1 poK eqpK eqnK arK vaK eqlK2
  rw [orK_no (drK_no (by decide) _ _), orK_no (telK_no (by decide) _ _), orK_no (telK_no (by decide) _ _), orK_no (telK_no (by decide) _ _), orK_no (telK_no (by decide) _ _), orK_no (telK_no (by decide) _ _), or_same (telK_no (by decide) _ _)]
theorem K1_el (args : List (V Sy)) (sto : Sto Sy) : K1 15 args sto = telK 15 dRr (fun _ _ => .bool true) (fun _ _ => []) 15 args sto := by
  unfold K1 poK eqpK eqnK arK vaK eqlK2
  rw [orK_no (drK_no (by decide) _ _), orK_no (telK_no (by decide) _ _), orK_no (telK_no (by decide) _ _), orK_no (telK_no (by decide) _ _), orK_no (telK_no (by decide) _ _), orK_no (telK_no (by decide) _ _), orK_no (telK_no (by decide) _ _)]
theorem hK1 {args : List (V Sy)} {sto : Sto Sy} : K1 3 args sto = none := by
  unfold K1 poK eqpK eqnK arK vaK eqlK2
  rw [orK_no (drK_no (by decide) _ _), orK_no (telK_no (by decide) _ _), orK_no (telK_no (by decide) _ _), orK_no (telK_no (by decide) _ _), orK_no (telK_no (by decide) _ _), orK_no (telK_no (by decide) _ _), orK_no (telK_no (by decide) _ _), telK_no (by decide)]
theorem telP {α : Type} {k0 : FuncId} {D : List (V Sy) → Sto Sy → Option α} {R : α → Nat → V Sy} {O : α → Nat → List (Ob Sy)} {args : List (V Sy)} {S : Sto Sy} {a : α} (h : Ws S) (hk : ∀ args sto, K1 k0 args sto = telK k0 D R O k0 args sto) (hD : D args ⟨S.next, S.obs, S.next⟩ = some a) (f : Nat) (hf : 1 ≤ f) (hk9 : (k0 : Nat) < 1000000 := by decide) :
    ∃ S1, acallV (symIn Try.prog K1 [] f) S (.func k0 [] []) args = some (R a S.next, S1) ∧ Ws S1 ∧ S1.next = S.next + (O a S.next).length ∧ (∀ i x, (O a S.next)[i]? = some x → Go.Sx.look S1.obs (S.next + i) = some x) ∧ ∀ k x, Go.Sx.look S.obs k = some x → Go.Sx.look S1.obs k = some x := by
  obtain ⟨g, rfl⟩ : ∃ g, f = g + 1 := ⟨f - 1, by omega⟩
  have e : K1 k0 args ⟨S.next, S.obs, S.next⟩ = some (R a S.next, ⟨S.next + (O a S.next).length, numO S.next (O a S.next) S.obs, S.next⟩) := by
    rw [hk]
    unfold telK
    rw [Nat.beq_refl, bite_true, hD]
  have hlow := h.low
  refine ⟨_, call_K (n := g) e hk9, ⟨desc_numO _ _ _ h.desc, ?_⟩, rfl, fun i x hx => numO_get _ _ _ _ _ hx, fun k x hx => ?_⟩
  · simp only
    split <;> omega
  · rw [numO_get.numO_old _ _ _ _ (h.desc.look_lt hx)]; exact hx
theorem sameP {k0 : FuncId} {args : List (V Sy)} {S : Sto Sy} {b : V Sy} (h : Ws S) (e : K1 k0 args ⟨S.next, S.obs, S.next⟩ = some (b, ⟨S.next, S.obs, S.next⟩)) (f : Nat) (hf : 1 ≤ f) (hk9 : (k0 : Nat) < 1000000 := by decide) : acallV (symIn Try.prog K1 [] f) S (.func k0 [] []) args = some (b, S) := by
  obtain ⟨g, rfl⟩ : ∃ g, f = g + 1 := ⟨f - 1, by omega⟩
  rw [call_K (n := g) e hk9]
  have hlow := h.low
  obtain ⟨n, ob, l⟩ := S
  simp only at hlow ⊢
  have : (if n < l then n else l) = l := by split <;> omega
  rw [this]
theorem cellW {S : Sto Sy} (h : Ws S) {a b : V Sy} (ha : a.oneCell = true) (hb : b.oneCell = true) : ∃ S', astore (tiOf Try.prog) (S.new [V.nil, V.nil]) 27 (.ptr S.next 0) (.agg [a, b]) = some S' ∧ Ws S' ∧ S'.next = S.next + 1 ∧ Go.Sx.look S'.obs S.next = some [a, b] ∧ ∀ k x, Go.Sx.look S.obs k = some x → Go.Sx.look S'.obs k = some x := by
  refine ⟨(S.new [V.nil, V.nil]).write S.next [a, b], storeP (lookN S V.nil V.nil) ha hb, ⟨Desc.put _ _ (show Desc (S.next + 1) ((S.next, noBc [V.nil, V.nil]) :: S.obs) from ⟨Nat.lt_succ_self _, h.desc⟩), ?_⟩, rfl, lookW (lookN S V.nil V.nil), fun k x hx => ?_⟩
  · show (if Nat.blt S.next S.low then S.next else S.low) ≤ S.next + 1
    have := h.low
    split <;> omega
  · have := h.desc.look_lt hx
    show Go.Sx.look (put (S.new [V.nil, V.nil]).obs S.next _) k = _
    rw [look_put_ne (by omega)]
    show Go.Sx.look ((S.next, noBc [V.nil, V.nil]) :: S.obs) k = _
    rw [look_cons, if_neg (by omega)]; exact hx
theorem aifc_bool {T : TypeId → Option Ti} {op : BinOp} {t : TypeId} {ox oy : Operand} {a b : Bool} : aifc (I := Sy) T op t ox oy (.bool a) (.bool b) = none := rfl
attribute [local simp] aops wants aop apure St.eval setTm_some setTm_none Tr.get_set evals pevals apureB alen tiS tiI tiB tiY tiU tiSs tiSr Draw.tiSS abin aint isCmp sym_lt sym_eqs sym_neqs sym_eq sym_neq sym_gtr sym_leq sym_geq sym_add sym_sub sym_mul aeff aeffB idx? ofV aindexAddr aggDesc aifc_int fldP0 fldP1 aun u8s_length aifc_bool
set_option maxRecDepth 10000 in
theorem law_po (bs : List Int) (hbs : ∀ b, b ∈ bs → 0 ≤ b ∧ b < 256) : ∃ r, symRun Try.prog K1 [] 301 3 [.slice (u8s bs)] ⟨0, [], 0⟩ = some r ∧ r.1 = .bool true := by
  refine own_run2 (n := 300) hK1 Try.func3 rfl rfl ?_
  simp only [Try.f3]
  by_cases hbig : (1048576 : Int) < bs.length
  · repeat' (first | refine Wp.seq ?_ | refine Wp.block ?_ | (apply Wp.region; focus ((try simp [setArgs, hbig]) <;> rfl)) | (refine Wp.cond_t ?_ ?_; focus (simp [setArgs, hbig]; done)) | (refine Wp.cond_f ?_ ?_; focus (simp [setArgs, hbig]; done)) | refine Wp.skip ?_ | refine Wp.ret ?_ | refine Wp.exit ?_ | refine Blk.here ?_ | (refine Blk.past ?_ ?_; focus (simp; done)))
    exact ⟨rfl, answer_trim1 (v := .bool true) (by simp) rfl⟩
  obtain ⟨⟨v, S0⟩, h1, h2, zss, hr0, hl0, hlr, hnr⟩ := drawPO_run bs hbs 101
  have e0 : K1 11 [.slice (u8s bs)] ⟨(⟨0, [], 0⟩ : Sto Sy).next, (⟨0, [], 0⟩ : Sto Sy).obs, (⟨0, [], 0⟩ : Sto Sy).next⟩ = some (v, S0) := by rw [K1_dr]; exact h1
  obtain ⟨S1, hS1⟩ : ∃ S1 : Sto Sy, S1 = ⟨S0.next, S0.obs, if S0.low < 0 then S0.low else 0⟩ := ⟨_, rfl⟩
  have hc1 : acallV (symIn Try.prog K1 [] 300) ⟨0, [], 0⟩ (.func 11 [] []) [.slice (u8s bs)] = some (v, S1) := by rw [hS1]; exact call_K (P := Try.prog) (n := 299) e0 (by decide)
  have w1 : Ws S1 := by rw [hS1]; exact ⟨h2.desc, by simp⟩
  have hr1 : rowsOf S1 v = some zss := rowsOf_keep (S := S0) (fun k x h => by rw [hS1]; exact h) hr0
  have kk : ∀ (S : Sto Sy), (∀ k x, Go.Sx.look S1.obs k = some x → Go.Sx.look S.obs k = some x) → rowsOf ⟨S.next, S.obs, S.next⟩ v = some zss := fun S h => rowsOf_keep (S' := ⟨S.next, S.obs, S.next⟩) h hr1
  obtain ⟨S2, c2, w2, n2, o2, k2⟩ := telP w1 K1_ipo (dAny_eq (kk S1 (fun k x h => h)) ⟨hl0, hlr, hnr⟩) 300 (by omega)
  cases hF : pF zss with
  | none =>
    rw [hF] at c2
    simp only [pairR] at c2
    obtain ⟨S3, st3, w3, n3, m3, k3⟩ := cellW w2 (a := V.nil) (b := V.nil) rfl rfl
    have k13 := fun k x h => k3 k x (k2 k x h)
    obtain ⟨S4, c4, w4, n4, o4, k4⟩ := telP w3 K1_spo (dAny_eq (kk S3 k13) ⟨hl0, hlr, hnr⟩) 300 (by omega)
    rw [hF] at c4
    simp only [pairR] at c4
    obtain ⟨S5, st5, w5, n5, m5, k5⟩ := cellW w4 (a := V.nil) (b := V.nil) rfl rfl
    have l1 := loadP (k5 _ _ (k4 _ _ m3))
    have l2 := loadP m5
    have c6 := sameP w5 (K1_eqn _) 300 (by omega)
    repeat' (first | refine Wp.seq ?_ | refine Wp.block ?_ | (apply Wp.region; focus ((try simp [setArgs, hbig, hc1, c2, allocP, st3, c4, st5, l1, l2, c6]) <;> rfl)) | (refine Wp.cond_t ?_ ?_; focus (simp [setArgs, hbig, hc1, c2, allocP, st3, c4, st5, l1, l2, c6]; done)) | (refine Wp.cond_f ?_ ?_; focus (simp [setArgs, hbig, hc1, c2, allocP, st3, c4, st5, l1, l2, c6]; done)) | refine Wp.skip ?_ | refine Wp.ret ?_ | refine Wp.exit ?_ | refine Blk.here ?_ | (refine Blk.past ?_ ?_; focus (simp; done)))
    exact ⟨rfl, answer_trim1 (v := .bool true) (by simp) rfl⟩
  | some p =>
    have hP : PairP zss := by
      by_cases hP : PairP zss
      · exact hP
      · rw [pF_no hP] at hF; cases hF
    rw [pF_yes hP] at hF
    cases hF
    have hN : PairN zss := ⟨hP, hnr⟩
    have hsq := hN.sq
    have hFy := pF_yes hP
    have hpl : PairL (col zss 0) (quo zss) := by
      refine ⟨by rw [col_len, quo_len], by rw [col_len]; exact hsq.lo, by rw [col_len]; exact hsq.hi, fun z hz => ?_, fun z hz => ?_⟩
      · have := hP.2.2.2.2.1.1 z hz
        exact wrap_in (by omega) (by omega)
      · have := hP.2.2.2.2.2.1.1 z hz
        exact wrap_in (by omega) (by omega)
    rw [hFy] at c2 o2 n2
    simp only [pairR] at c2
    have i2a : IsL S2.obs S1.next (col zss 0) (.rsl S1.next 0 (col zss 0).length none) := ⟨⟨none, rfl, .inl rfl⟩, o2 0 _ rfl⟩
    have i2b : IsL S2.obs (S1.next + 1) (quo zss) (.rsl (S1.next + 1) 0 (quo zss).length none) := ⟨⟨none, rfl, .inl rfl⟩, o2 1 _ rfl⟩
    obtain ⟨S3, st3, w3, n3, m3, k3⟩ := cellW w2 (a := .rsl S1.next 0 (col zss 0).length none) (b := .rsl (S1.next + 1) 0 (quo zss).length none) rfl rfl
    have k13 := fun k x h => k3 k x (k2 k x h)
    obtain ⟨S4, c4, w4, n4, o4, k4⟩ := telP w3 K1_spo (dAny_eq (kk S3 k13) ⟨hl0, hlr, hnr⟩) 300 (by omega)
    rw [hFy] at c4 o4
    simp only [pairR] at c4
    have i4a : IsL S4.obs S3.next (col zss 0) (.rsl S3.next 0 (col zss 0).length none) := ⟨⟨none, rfl, .inl rfl⟩, o4 0 _ rfl⟩
    have i4b : IsL S4.obs (S3.next + 1) (quo zss) (.rsl (S3.next + 1) 0 (quo zss).length none) := ⟨⟨none, rfl, .inl rfl⟩, o4 1 _ rfl⟩
    obtain ⟨S5, st5, w5, n5, m5, k5⟩ := cellW w4 (a := .rsl S3.next 0 (col zss 0).length none) (b := .rsl (S3.next + 1) 0 (quo zss).length none) rfl rfl
    have k25 := fun k x (h : Go.Sx.look S2.obs k = some x) => k5 k x (k4 k x (k3 k x h))
    have m35 := k5 _ _ (k4 _ _ m3)
    have l1 := loadP m35
    have l2 := loadP m5
    have x1 := isL_consts (S := ⟨S5.next, S5.obs, S5.next⟩) ⟨i2a.val, k25 _ _ i2a.obj⟩
    have x2 := isL_consts (S := ⟨S5.next, S5.obs, S5.next⟩) ⟨i2b.val, k25 _ _ i2b.obj⟩
    have x3 := isL_consts (S := ⟨S5.next, S5.obs, S5.next⟩) ⟨i4a.val, k5 _ _ i4a.obj⟩
    have x4 := isL_consts (S := ⟨S5.next, S5.obs, S5.next⟩) ⟨i4b.val, k5 _ _ i4b.obj⟩
    have c6 := sameP w5 (K1_eqp (dEqp_eq x1 x2 x3 x4 hpl)) 300 (by omega)
    obtain ⟨S6, c7, w6, n6, o6, k6⟩ := telP w5 K1_ar (dCol_eq x1 x2 hN) 300 (by omega)
    have z6 := (isR_tel o6).rows (S := ⟨S6.next, S6.obs, S6.next⟩)
    rw [rwsN_nums] at z6
    have k16 := fun k x h => k6 k x (k5 k x (k4 k x (k13 k x h)))
    obtain ⟨S7, c8, w7, n7, o7, k7⟩ := telP w6 K1_el (dRr_eq z6 (kk S6 k16) hsq) 300 (by omega)
    have l3 := loadP (k7 _ _ (k6 _ _ m35))
    have k27 := fun k x (h : Go.Sx.look S2.obs k = some x) => k7 k x (k6 k x (k25 k x h))
    obtain ⟨S8, c9, w8, n8, o8, k8⟩ := telP w7 K1_va (dCol_eq (isL_consts (S := ⟨S7.next, S7.obs, S7.next⟩) ⟨i2a.val, k27 _ _ i2a.obj⟩) (isL_consts (S := ⟨S7.next, S7.obs, S7.next⟩) ⟨i2b.val, k27 _ _ i2b.obj⟩) hN) 300 (by omega)
    repeat' (first | refine Wp.seq ?_ | refine Wp.block ?_ | (apply Wp.region; focus ((try simp [setArgs, hbig, hc1, c2, allocP, st3, c4, st5, l1, l2, c6, c7, c8, l3, c9]) <;> rfl)) | (refine Wp.cond_t ?_ ?_; focus (simp [setArgs, hbig, hc1, c2, allocP, st3, c4, st5, l1, l2, c6, c7, c8, l3, c9]; done)) | (refine Wp.cond_f ?_ ?_; focus (simp [setArgs, hbig, hc1, c2, allocP, st3, c4, st5, l1, l2, c6, c7, c8, l3, c9]; done)) | refine Wp.skip ?_ | refine Wp.ret ?_ | refine Wp.exit ?_ | refine Blk.here ?_ | (refine Blk.past ?_ ?_; focus (simp; done)))
    exact ⟨rfl, answer_trim1 (v := .bool true) (by simp) rfl⟩
end Go.Proofs.Ytpjenggjcpahaaa.Pl

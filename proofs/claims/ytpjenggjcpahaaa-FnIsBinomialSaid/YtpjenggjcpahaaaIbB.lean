import Derived.Test.YtpjenggjcpahaaaBin
import Derived.Test.YtpjenggjcpahaaaBinF
import Derived.Test.YtpjenggjcpahaaaPr
import Derived.Test.YtpjenggjcpahaaaPrM
import Derived.Test.YtpjenggjcpahaaaPrF
import Derived.Test.YtpjenggjcpahaaaTelC
import Derived.Test.YtpjenggjcpahaaaIb
namespace Go.Proofs.Ytpjenggjcpahaaa.Ib
open Go.ChangeShapes Go.WideShapes Go.ChangeAt Go.RowKit Go.Sx Go.Proofs.Ytpjenggjcpahaaa.Ids Go.Proofs.Ytpjenggjcpahaaa.Seq Go.Proofs.Ytpjenggjcpahaaa.Rep Go.Proofs.Ytpjenggjcpahaaa.Bin
open Go.Proofs.Ytpjenggjcpahaaa.Pr (arrQ gS fS rhoQ col quo PairP Sq getD_den col_len col_get)
open Go.Proofs.Ytpjenggjcpahaaa.Tel (e0 e0_len)
set_option linter.unusedVariables false
set_option linter.unusedSimpArgs false

variable {zss : List (List Int)}
def zz (zss : List (List Int)) (n i : Nat) : Int := (zss.getD n []).getD i 0
theorem ent_den (h : SeqP zss) {k i : Nat} (hk : k < zss.length) (hi : i < zss.length) : (ent k i).den (rhoR [] zss) = zz zss k i := by
  have e := rowS_den (zs := []) (by simp) h hk
  simp only [List.length_nil] at e
  have e2 := congrArg (fun l => l.getD i 0) e
  unfold zz
  rw [← e2]
  simp only [rowS, List.getD, List.getElem?_map, List.getElem?_range hi, Option.map_some, Option.getD_some]
  unfold ent
  rw [show Nat.add 0 (Nat.div (Nat.mul k (Nat.add k 1)) 2) = Nat.div (Nat.mul k (Nat.add k 1)) 2 from Nat.zero_add _]
theorem eQ_den {a b : Int} {l : List (List Sy)} (hl : arrQ zss.length a b = some l) (he : l.map (fun ps => ps.map (Sy.den (rhoQ zss))) = zss) (n i : Nat) : (eQ zss.length a b n i).den (rhoQ zss) = zz zss n i := by
  unfold eQ zz
  rw [hl, Option.getD_some, getD_den]
  congr 1
  have e2 := congrArg (fun l => l.getD n []) he
  rw [← e2]
  simp only [List.getD, List.getElem?_map]
  cases l[n]? <;> rfl
theorem aZ_congr {e e' : Nat → Nat → Int} {n i j : Nat} (h : ∀ k i, k ≤ n → i ≤ n → e k i = e' k i) (hi : i ≤ n) (hj : j ≤ n) : aZ e n i j = aZ e' n i j := by
  unfold aZ
  refine sumZ_congr _ (fun k hk => ?_)
  rw [List.mem_range] at hk
  rw [h k i (by omega) hi, h (n - k) j (by omega) hj]
theorem wrapW (a : Int) : IntKind.i64.wrap (IntKind.i64.wrap a) = IntKind.i64.wrap a := wrap_cg (cg_wrap a)
theorem aO_wrap {ρ : Nat → Int} {E : Nat → Nat → Sy} {n i j : Nat} {s : Sy} (h : aO E n i j = some s) : IntKind.i64.wrap (s.den ρ) = s.den ρ := by
  unfold aO at h
  rw [List.range_succ_eq_map, List.map_cons] at h
  simp only [sumO] at h
  split at h
  · cases h
    rw [plusS_den, wrapW]
  · cases h
theorem bO_wrap {ρ : Nat → Int} {E : Nat → Nat → Sy} {n i j : Nat} {s : Sy} (h : bO E n i j = some s) : IntKind.i64.wrap (s.den ρ) = s.den ρ := by
  have e := (Option.some.inj (symArith_ok (ρ := ρ) h)).symm
  rw [e]; exact wrapW _
theorem binP_iff (h : SeqP zss) : BinP zss ↔ ∀ n, n < zss.length → ∀ i, i < n + 1 → ∀ j, j < n + 1 - i → cg (aZ (zz zss) n i j) ((chs (i + j) i : Nat) * zz zss n (i + j)) := by
  have h6 := h.2.1
  have key : ∀ n, n < zss.length → ∀ i, i < n + 1 → ∀ j, j < n + 1 - i → cg ((aI n i j).den (rhoR [] zss)) (aZ (zz zss) n i j) ∧ cg ((bI n i j).den (rhoR [] zss)) ((chs (i + j) i : Nat) * zz zss n (i + j)) ∧ IntKind.i64.wrap ((aI n i j).den (rhoR [] zss)) = (aI n i j).den (rhoR [] zss) ∧ IntKind.i64.wrap ((bI n i j).den (rhoR [] zss)) = (bI n i j).den (rhoR [] zss) := by
    intro n hn i hi j hj
    obtain ⟨h1, h2⟩ := ent_at (show n < 6 by omega) hi hj
    have c1 := aO_cg (ρ := rhoR [] zss) h1
    have c2 := bO_cg (ρ := rhoR [] zss) h2
    rw [aZ_congr (e' := zz zss) (fun k i hk hi => ent_den h (by omega) (by omega)) (by omega) (by omega)] at c1
    rw [ent_den h hn (by omega)] at c2
    exact ⟨c1, c2, aO_wrap h1, bO_wrap h2⟩
  constructor
  · intro hb n hn i hi j hj
    obtain ⟨k1, k2, _⟩ := key n hn i hi j hj
    rw [hb n hn i hi j hj] at k1
    exact k1.symm.trans k2
  · intro hb n hn i hi j hj
    obtain ⟨k1, k2, k3, k4⟩ := key n hn i hi j hj
    rw [← k3, ← k4]
    exact wrap_cg (k1.trans ((hb n hn i hi j hj).trans k2.symm))
theorem all_at {L : Nat} (h2 : 2 ≤ L) (h6 : L ≤ 6) {b : Int} (hb : b = 1 ∨ b = -1) : bwd L b = true ∧ fwd L b = true ∧ neg1 L b = true := by
  have h := allTo_ok all_ok (L - 2) (by omega)
  rw [show L - 2 + 2 = L by omega] at h
  have h' : allL L b = true := by
    rw [bite_eq] at h
    split at h
    case isFalse => cases h
    rename_i h1
    rcases hb with rfl | rfl
    · exact h1
    · exact h
  unfold allL at h'
  simp only [bite_eq] at h'
  split at h'
  case isFalse => cases h'
  rename_i h1
  split at h'
  case isFalse => cases h'
  rename_i h2
  exact ⟨h1, h2, h'⟩
theorem ev_zero (ρ : Nat → Int) : ev ρ 0 = 1 := by
  have : ∀ f i, evm ρ f i 0 = 1 := by
    intro f
    induction f with
    | zero => intro i; rfl
    | succ f ih => intro i; simp only [evm]; rw [show 0 % 256 = 0 from rfl, show 0 / 256 = 0 from rfl, ih]; simp
  exact this 40 0
theorem bin_iff (hn : ∀ r, r ∈ zss → ∀ z, z ∈ r → IntKind.i64.wrap z = z) (hp : PairP zss) (hs : SeqP zss) : BinP zss ↔ col zss 0 = e0 zss.length := by
  rw [binP_iff hs]
  obtain ⟨h2, h6, hrow, hu, hvg, hvf, hf0, hf1, l, hl, he⟩ := hp
  obtain ⟨a, ha⟩ : ∃ a, (col zss 0).getD 0 0 = a := ⟨_, rfl⟩
  obtain ⟨b, hb⟩ : ∃ b, (quo zss).getD 1 0 = b := ⟨_, rfl⟩
  rw [ha, hb] at hl
  rw [ha] at hu
  rw [hb] at hf1
  obtain ⟨A1, A2, A3⟩ := all_at h2 h6 hf1
  have hE := eQ_den hl he
  have hcl := col_len (zss := zss) 0
  have hρ : ∀ i, i < 6 → rhoQ zss i = (col zss 0).getD i 0 := fun i hi => by unfold rhoQ; rw [if_pos hi]
  have cA : ∀ {n i j : Nat} {x : Sy}, aO (eQ zss.length a b) n i j = some x → cg (peval (rhoQ zss) x.poly) (aZ (zz zss) n i j) := fun {n i j x} h => by
    have := aO_cg (ρ := rhoQ zss) h
    rw [show (fun k i => (eQ zss.length a b k i).den (rhoQ zss)) = zz zss from funext fun k => funext fun i => hE k i] at this
    exact (poly_den _ _).trans this
  have cB : ∀ {n i j : Nat} {y : Sy}, bO (eQ zss.length a b) n i j = some y → cg (peval (rhoQ zss) y.poly) ((chs (i + j) i : Nat) * zz zss n (i + j)) := fun {n i j y} h => by
    have := bO_cg (ρ := rhoQ zss) h
    rw [hE] at this
    exact (poly_den _ _).trans this
  rcases hu with rfl | rfl
  · constructor
    · intro hall
      have key : ∀ m, m < zss.length → ∀ i, 1 ≤ i → i ≤ m → (col zss 0).getD i 0 = 0 := by
        intro m
        induction m with
        | zero => intro _ i h1 hi; omega
        | succ m ih =>
          intro hm i h1 hi
          by_cases hlt : i ≤ m
          · exact ih (by omega) i h1 hlt
          have e : i = m + 1 := by omega
          subst e
          have h0 : ∀ i, 1 ≤ i → i ≤ m → rhoQ zss i = 0 := fun i h1 hi => by rw [hρ i (by omega)]; exact ih (by omega) i h1 hi
          have h := allTo_ok A2 m (by omega)
          split at h
          case h_2 => cases h
          rename_i x y hx hy
          rw [bite_eq] at h
          split at h
          case isFalse => cases h
          rename_i e1
          have e1 := eqP_ok e1
          have e2 := eqP_ok h
          have k1 := killP_ok (ρ := rhoQ zss) (m := m) (by omega) h0 x.poly
          have k2 := killP_ok (ρ := rhoQ zss) (m := m) (by omega) h0 y.poly
          have c1 := cA hx
          have c2 := cB hy
          rw [e1] at k1
          rw [e2] at k2
          rw [← k1] at c1
          rw [← k2] at c2
          have c := c1.trans ((hall (m + 1) (by omega) 0 (by omega) 0 (by omega)).trans c2.symm)
          have ev1 : ev (rhoQ zss) (Nat.pow 256 (Nat.succ m)) = (col zss 0).getD (m + 1) 0 := by
            have := evm_var (rhoQ zss) 40 0 (m + 1) (by omega)
            rw [Nat.zero_add, hρ _ (by omega)] at this
            exact this
          simp only [peval, ev1] at c
          have hm2 : (col zss 0).getD (m + 1) 0 ∈ col zss 0 := by
            have : m + 1 < (col zss 0).length := by omega
            simp [List.getD, this]
          have hbd := hvg.1 _ hm2
          generalize (col zss 0).getD (m + 1) 0 = g at c hbd ⊢
          obtain ⟨k, hk⟩ := c
          omega
      apply List.ext_getElem?
      intro i
      rcases Nat.lt_or_ge i zss.length with hi | hi
      · have h3 : (col zss 0)[i]? = some ((col zss 0).getD i 0) := by
          have : i < (col zss 0).length := by omega
          simp [List.getD, this]
        have h4 : (e0 zss.length)[i]? = some ((e0 zss.length).getD i 0) := by
          have : i < (e0 zss.length).length := by rw [e0_len (by omega)]; exact hi
          simp [List.getD, this]
        rw [h3, h4]
        cases i with
        | zero => rw [ha]; rfl
        | succ i =>
          rw [key (i + 1) hi (i + 1) (by omega) (Nat.le_refl _)]
          simp only [e0, List.getD, List.getElem?_cons_succ, List.getElem?_replicate]
          split <;> rfl
      · rw [List.getElem?_eq_none (by omega), List.getElem?_eq_none (by rw [e0_len (by omega)]; exact hi)]
    · intro hc n hnl i hi j hj
      have h0 : ∀ i, 1 ≤ i → i ≤ zss.length - 1 → rhoQ zss i = 0 := fun i h1 hi => by
        rw [hρ i (by omega), hc]
        obtain ⟨k, rfl⟩ : ∃ k, i = k + 1 := ⟨i - 1, by omega⟩
        simp only [e0, List.getD, List.getElem?_cons_succ, List.getElem?_replicate]
        split <;> rfl
      have h := allTo_ok (allTo_ok (allTo_ok A1 n hnl) i hi) j hj
      split at h
      case h_2 => cases h
      rename_i x y hx hy
      have e := eqP_ok h
      have k1 := killP_ok (ρ := rhoQ zss) (m := zss.length - 1) (by omega) h0 x.poly
      have k2 := killP_ok (ρ := rhoQ zss) (m := zss.length - 1) (by omega) h0 y.poly
      rw [e] at k1
      exact (cA hx).symm.trans (by rw [← k1, k2]; exact cB hy)
  · refine ⟨fun hall => ?_, fun hc => ?_⟩
    · exfalso
      unfold neg1 at A3
      split at A3
      case h_2 => cases A3
      rename_i x y hx hy
      rw [bite_eq] at A3
      split at A3
      case isFalse => cases A3
      rename_i h1
      have c1 := cA hx
      have c2 := cB hy
      rw [eqP_ok h1] at c1
      rw [eqP_ok A3] at c2
      have c := c1.trans ((hall 0 (by omega) 0 (by omega) 0 (by omega)).trans c2.symm)
      simp only [peval, ev_zero] at c
      obtain ⟨k, hk⟩ := c
      omega
    · rw [hc] at ha
      simp [e0, List.getD] at ha
end Go.Proofs.Ytpjenggjcpahaaa.Ib

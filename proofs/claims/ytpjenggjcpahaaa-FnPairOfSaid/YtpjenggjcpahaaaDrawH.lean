import Derived.Test.YtpjenggjcpahaaaRows
import Derived.Test.YtpjenggjcpahaaaSym
import Derived.Test.YtpjenggjcpahaaaSymD
import Derived.Test.YtpjenggjcpahaaaSymE
import Derived.Test.YtpjenggjcpahaaaSymF
import Derived.Test.YtpjenggjcpahaaaIds
import Derived.Test.YtpjenggjcpahaaaNp
import Derived.Test.YtpjenggjcpahaaaSeq
import Derived.Test.YtpjenggjcpahaaaSeqG
import Derived.Test.YtpjenggjcpahaaaTel
import Derived.Test.YtpjenggjcpahaaaTelB
import Derived.Test.YtpjenggjcpahaaaTelC
import Derived.Test.YtpjenggjcpahaaaTelD
import Derived.Test.YtpjenggjcpahaaaDraw
import Derived.Test.YtpjenggjcpahaaaDrawC
import Derived.Test.YtpjenggjcpahaaaDrawD
import Derived.Test.YtpjenggjcpahaaaDrawE
import Derived.Test.YtpjenggjcpahaaaDrawF
import Derived.Test.YtpjenggjcpahaaaDrawG
import Derived.Test.YtpjenggjcpahaaaVsT
import Derived.WalkKit
import Derived.ProofKit
import Derived.OpenShut
namespace Go.Proofs.Ytpjenggjcpahaaa.Draw
open Go.ChangeShapes Go.WideShapes Go.ChangeAt Go.RowKit Go.Sx Go.Proofs.Ytpjenggjcpahaaa.Ids Go.Proofs.Ytpjenggjcpahaaa.Seq Go.Proofs.Ytpjenggjcpahaaa.Tel
set_option linter.unusedVariables false
set_option linter.unusedSimpArgs false

section
variable {S S' : Sto Sy}
theorem elems_keepR {v : V Sy} {xs : List (V Sy)} (hk : ∀ k, k ∈ v.refs → ∀ x, Go.Sx.look S.obs k = some x → Go.Sx.look S'.obs k = some x) (h : S.elems v = some xs) : S'.elems v = some xs := by
  cases v with
  | rsl o off len cap =>
    simp only [Sto.elems, Sto.cells] at h ⊢
    cases hl : lookC S.obs o with
    | none => rw [hl] at h; cases h
    | some b =>
      rw [hl] at h
      have : lookC S'.obs o = some b := by
        unfold lookC at hl ⊢
        cases hx : Go.Sx.look S.obs o with
        | none => rw [hx] at hl; cases hl
        | some y => rw [hx] at hl; rw [hk o (by simp [V.refs]) y hx]; exact hl
      rw [this]; exact h
  | nil => exact h
  | emp => exact h
  | slice ys => exact h
  | _ => cases h
theorem consts_keepR {v : V Sy} {zs : List Int} (hk : ∀ k, k ∈ v.refs → ∀ x, Go.Sx.look S.obs k = some x → Go.Sx.look S'.obs k = some x) (h : constsOf S v = some zs) : constsOf S' v = some zs := by
  unfold constsOf at h ⊢
  cases he : S.elems v with
  | none => rw [he] at h; cases h
  | some xs => rw [he] at h; rw [elems_keepR hk he]; exact h
theorem rowsFrom_keepR : ∀ {xs : List (V Sy)} {zss : List (List Int)}, (∀ v, v ∈ xs → ∀ k, k ∈ v.refs → ∀ x, Go.Sx.look S.obs k = some x → Go.Sx.look S'.obs k = some x) → rowsFrom S xs = some zss → rowsFrom S' xs = some zss
  | [], _, _, h => h
  | x :: r, zss, hk, h => by
    simp only [rowsFrom] at h ⊢
    cases he : constsOf S x with
    | none => rw [he] at h; cases h
    | some zs =>
      rw [he] at h
      rw [consts_keepR (hk x (by simp)) he]
      cases hr : rowsFrom S r with
      | none => rw [hr] at h; cases h
      | some l => rw [hr] at h; rw [rowsFrom_keepR (fun v hv => hk v (by simp [hv])) hr]; exact h
end
theorem refsL_mem : ∀ {cs : List (V Sy)} {x : V Sy} {k : Nat}, x ∈ cs → k ∈ x.refs → k ∈ refsL cs
  | y :: r, x, k, h, hk => by
    simp only [refsL]
    rcases List.mem_cons.1 h with rfl | h
    · exact List.mem_append.2 (.inl hk)
    · exact List.mem_append.2 (.inr (refsL_mem h hk))
theorem rowsOf_trim {S : Sto Sy} {q off len : Nat} {cp : Option Nat} {zss : List (List Int)} {n0 : Nat} (h : rowsOf S (.rsl q off len cp) = some zss) : rowsOf (S.trim n0 (.rsl q off len cp)) (.rsl q off len cp) = some zss := by
  unfold rowsOf at h ⊢
  cases he : S.elems (.rsl q off len cp) with
  | none => rw [he] at h; cases h
  | some xs =>
    rw [he] at h
    have he' : (S.trim n0 (.rsl q off len cp)).elems (.rsl q off len cp) = some xs := elems_keepR (fun k hk x hx => by rw [trim_look hk]; exact hx) he
    rw [he']
    simp only [bite_eq] at h ⊢
    split at h
    case isFalse => cases h
    rename_i hc
    rw [if_pos hc]
    refine rowsFrom_keepR (fun v hv k hk x hx => ?_) h
    simp only [Sto.elems, Sto.cells] at he
    split at he
    case h_2 => cases he
    rename_i cs hcs
    split at he
    case isFalse => cases he
    cases he
    have hvc : v ∈ cs := List.mem_of_mem_drop (List.mem_of_mem_take hv)
    have hq : Go.Sx.look S.obs q = some cs := by
      unfold lookC at hcs
      cases hx' : Go.Sx.look S.obs q with
      | none => rw [hx'] at hcs; cases hcs
      | some y =>
        rw [hx'] at hcs
        simp only at hcs
        split at hcs
        · cases hcs
        · cases hcs; rfl
    rw [trim_look2 (by simp only [V.refs, deeper, hq, List.append_nil]; exact refsL_mem hvc hk)]
    exact hx

theorem rowsFrom_of {S : Sto Sy} : ∀ (ps : List (V Sy × List Int)), (∀ p, p ∈ ps → constsOf S p.1 = some p.2) → rowsFrom S (ps.map (·.1)) = some (ps.map (·.2))
  | [], _ => rfl
  | p :: r, h => by
    simp only [List.map_cons, rowsFrom]
    rw [h p (by simp), rowsFrom_of r (fun q hq => h q (by simp [hq]))]
theorem rowsOf_mk {S : Sto Sy} {q off len : Nat} {cp : Option Nat} {cs : List (V Sy)} {ps : List (V Sy × List Int)} (h : Go.Sx.look S.obs q = some cs) (hm : isMp cs = false) (hle : off + len ≤ cs.length) (hx : (cs.drop off).take len = ps.map (·.1)) (hc : capOk (.rsl q off len cp : V Sy) = true) (hz : ∀ p, p ∈ ps → constsOf S p.1 = some p.2) : rowsOf S (.rsl q off len cp) = some (ps.map (·.2)) := by
  unfold rowsOf
  have he : S.elems (.rsl q off len cp) = some (ps.map (·.1)) := by
    have ho : lookC S.obs q = some cs := by simp only [lookC, h, hm]; rfl
    simp only [Sto.elems, Sto.cells, ho]
    rw [if_pos hle, hx]
  rw [he]
  simp only [hc, bite_true]
  exact rowsFrom_of ps hz
def Dn (S : Sto Sy) (v : V Sy) : Prop := ∃ zss, rowsOf S v = some zss ∧ zss.length ≤ 6 ∧ (∀ r, r ∈ zss → r.length ≤ 6) ∧ ∀ r, r ∈ zss → ∀ z, z ∈ r → IntKind.i64.wrap z = z

noncomputable def nrmS : Sy → Bool
  | .p _ => true
  | .c n => ieq (IntKind.i64.wrap n) n
noncomputable def nrmC (n : Nat) : Bool := (rowsAt (arrR n)).all fun ps => ps.all nrmS
set_option maxRecDepth 1000000 in
theorem nrmC_ok : allTo (fun i => nrmC (i + 2)) 5 = true := by kernel_rfl
theorem nrmS_ok {s : Sy} (h : nrmS s = true) (ρ : Nat → Int) : IntKind.i64.wrap (s.den ρ) = s.den ρ := by
  cases s with
  | c n =>
    have h' : ieq (IntKind.i64.wrap n) n = true := h
    rw [ieq_eq] at h'
    exact eq_of_beq h'
  | p l => simp only [Sy.den]; exact wrap_cg (cg_wrap _)
theorem arrF_nrm {p : List Int × List Int} (h : PairL p.1 p.2) : ∀ r, r ∈ arrF p → ∀ z, z ∈ r → IntKind.i64.wrap z = z := by
  intro r hr z hz
  have hC := allTo_ok nrmC_ok (p.1.length - 2) (by have := h.2.2.1; have := h.2.1; omega)
  rw [show p.1.length - 2 + 2 = p.1.length by have := h.2.1; omega] at hC
  obtain ⟨ps, hps, rfl⟩ := List.mem_map.1 hr
  obtain ⟨s, hs, rfl⟩ := List.mem_map.1 hz
  exact nrmS_ok (List.all_eq_true.1 (List.all_eq_true.1 hC ps hps) s hs) _
end Go.Proofs.Ytpjenggjcpahaaa.Draw

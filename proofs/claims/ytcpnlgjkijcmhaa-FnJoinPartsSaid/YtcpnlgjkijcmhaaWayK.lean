/-
  What is known of functions of lists that are known. No condition.
-/
import Derived.Test.YtcpnlgjkijcmhaaRows
import Derived.Test.YtcpnlgjkijcmhaaSym
import Derived.Test.YtcpnlgjkijcmhaaIds
import Derived.Test.YtcpnlgjkijcmhaaWayM
import Derived.WalkKit
import Derived.ProofKit
import Derived.OpenShut
namespace Go.Proofs.Ytcpnlgjkijcmhaa.Way
open Go.ChangeShapes Go.WideShapes Go.ChangeAt Go.RowKit Go.Sx Go.Proofs.Ytcpnlgjkijcmhaa.Ids
set_option linter.unusedVariables false
set_option linter.unusedSimpArgs false

noncomputable def K1 : Ctr := orK (oneK 25 (fun zs => some zs)) (orK (eqK 26) (orK (oneK 37 (fun zs => some (tidyL zs))) (twoK 33 meetF)))
theorem K1_ok (ρ : Nat → Int) (s : Sms) (B : Nat) : COk Try.prog ⟨Sy.den ρ, s⟩ B K1 := by
  refine orK_ok (oneK_ok noCount mixed (body_of Try.func25 rfl) (fun zs ys h hl hne => ?_)) (orK_ok (eqK_ok noCount mixed (body_of Try.func26 rfl) (fun zs hl => ?_)) (orK_ok (oneK_ok noCount mixed (body_of Try.func37 rfl) (fun zs ys h hl hne => ?_)) (twoK_ok noCount mixed (body_of Try.func33 rfl) (fun zs us ys h hl hl' hne hne' => ?_))))
  · cases h
    refine oneOk_run (q := 0) (zs := zs) (toIntS (nums zs) (by simp; omega) 1048577 (by simp; omega)) ⟨⟨some zs.length, by simp, .inr rfl⟩, by simp [look_cons]⟩
  · exact ⟨_, _, eqIntS (nums zs) (by simp; omega) 1048577 (by simp; omega)⟩
  · cases h
    obtain ⟨r, h1, q, h2⟩ := tidyS zs hl 3001 (by omega)
    exact oneOk_run h1 h2
  · unfold meetF at h
    rw [bite_eq] at h
    split at h
    · rename_i hs
      cases h
      obtain ⟨r, h1, q, h2⟩ := meetS zs us (sameLen_eq hs) hl 3001 (by omega)
      exact oneOk_run h1 h2
    · cases h
end Go.Proofs.Ytcpnlgjkijcmhaa.Way

/-
  Pairs of arrays: what the code answers, a run for each case. No condition.
-/
import Derived.Test.YtobdnpnohaonkaaPr
namespace Go.Proofs.Ytobdnpnohaonkaa.Pr
open Go.ChangeShapes Go.WideShapes Go.ChangeAt Go.RowKit Go.Sx Go.Proofs.Ytobdnpnohaonkaa.Ids
set_option linter.unusedVariables false
set_option linter.unusedSimpArgs false

set_option maxRecDepth 1000000 in
theorem iZ_2_true : iZ 2 true = true := by kernel_rfl
set_option maxRecDepth 1000000 in
theorem iZ_2_false : iZ 2 false = true := by kernel_rfl
set_option maxRecDepth 1000000 in
theorem iA_2_p : iA 2 1 = true := by kernel_rfl
set_option maxRecDepth 1000000 in
theorem iB_2_p : iBs 2 1 = true := by kernel_rfl
set_option maxRecDepth 1000000 in
theorem iC_2_p : iC 2 1 = true := by kernel_rfl
set_option maxRecDepth 1000000 in
theorem iD_2_pp_0 : iD 2 1 1 0 = true := by kernel_rfl
set_option maxRecDepth 1000000 in
theorem iD_2_pp_1 : iD 2 1 1 1 = true := by kernel_rfl
set_option maxRecDepth 1000000 in
theorem iD_2_pp_2 : iD 2 1 1 2 = true := by kernel_rfl
set_option maxRecDepth 1000000 in
theorem iD_2_pm_0 : iD 2 1 (-1) 0 = true := by kernel_rfl
set_option maxRecDepth 1000000 in
theorem iD_2_pm_1 : iD 2 1 (-1) 1 = true := by kernel_rfl
set_option maxRecDepth 1000000 in
theorem iD_2_pm_2 : iD 2 1 (-1) 2 = true := by kernel_rfl
set_option maxRecDepth 1000000 in
theorem iA_2_m : iA 2 (-1) = true := by kernel_rfl
set_option maxRecDepth 1000000 in
theorem iB_2_m : iBs 2 (-1) = true := by kernel_rfl
set_option maxRecDepth 1000000 in
theorem iC_2_m : iC 2 (-1) = true := by kernel_rfl
set_option maxRecDepth 1000000 in
theorem iD_2_mp_0 : iD 2 (-1) 1 0 = true := by kernel_rfl
set_option maxRecDepth 1000000 in
theorem iD_2_mp_1 : iD 2 (-1) 1 1 = true := by kernel_rfl
set_option maxRecDepth 1000000 in
theorem iD_2_mp_2 : iD 2 (-1) 1 2 = true := by kernel_rfl
set_option maxRecDepth 1000000 in
theorem iD_2_mm_0 : iD 2 (-1) (-1) 0 = true := by kernel_rfl
set_option maxRecDepth 1000000 in
theorem iD_2_mm_1 : iD 2 (-1) (-1) 1 = true := by kernel_rfl
set_option maxRecDepth 1000000 in
theorem iD_2_mm_2 : iD 2 (-1) (-1) 2 = true := by kernel_rfl
set_option maxRecDepth 1000000 in
theorem iZ_3_true : iZ 3 true = true := by kernel_rfl
set_option maxRecDepth 1000000 in
theorem iZ_3_false : iZ 3 false = true := by kernel_rfl
set_option maxRecDepth 1000000 in
theorem iA_3_p : iA 3 1 = true := by kernel_rfl
set_option maxRecDepth 1000000 in
theorem iB_3_p : iBs 3 1 = true := by kernel_rfl
set_option maxRecDepth 1000000 in
theorem iC_3_p : iC 3 1 = true := by kernel_rfl
set_option maxRecDepth 1000000 in
theorem iD_3_pp_0 : iD 3 1 1 0 = true := by kernel_rfl
set_option maxRecDepth 1000000 in
theorem iD_3_pp_1 : iD 3 1 1 1 = true := by kernel_rfl
set_option maxRecDepth 1000000 in
theorem iD_3_pp_2 : iD 3 1 1 2 = true := by kernel_rfl
set_option maxRecDepth 1000000 in
theorem iD_3_pp_3 : iD 3 1 1 3 = true := by kernel_rfl
set_option maxRecDepth 1000000 in
theorem iD_3_pm_0 : iD 3 1 (-1) 0 = true := by kernel_rfl
set_option maxRecDepth 1000000 in
theorem iD_3_pm_1 : iD 3 1 (-1) 1 = true := by kernel_rfl
set_option maxRecDepth 1000000 in
theorem iD_3_pm_2 : iD 3 1 (-1) 2 = true := by kernel_rfl
set_option maxRecDepth 1000000 in
theorem iD_3_pm_3 : iD 3 1 (-1) 3 = true := by kernel_rfl
set_option maxRecDepth 1000000 in
theorem iA_3_m : iA 3 (-1) = true := by kernel_rfl
set_option maxRecDepth 1000000 in
theorem iB_3_m : iBs 3 (-1) = true := by kernel_rfl
set_option maxRecDepth 1000000 in
theorem iC_3_m : iC 3 (-1) = true := by kernel_rfl
set_option maxRecDepth 1000000 in
theorem iD_3_mp_0 : iD 3 (-1) 1 0 = true := by kernel_rfl
set_option maxRecDepth 1000000 in
theorem iD_3_mp_1 : iD 3 (-1) 1 1 = true := by kernel_rfl
set_option maxRecDepth 1000000 in
theorem iD_3_mp_2 : iD 3 (-1) 1 2 = true := by kernel_rfl
set_option maxRecDepth 1000000 in
theorem iD_3_mp_3 : iD 3 (-1) 1 3 = true := by kernel_rfl
set_option maxRecDepth 1000000 in
theorem iD_3_mm_0 : iD 3 (-1) (-1) 0 = true := by kernel_rfl
set_option maxRecDepth 1000000 in
theorem iD_3_mm_1 : iD 3 (-1) (-1) 1 = true := by kernel_rfl
set_option maxRecDepth 1000000 in
theorem iD_3_mm_2 : iD 3 (-1) (-1) 2 = true := by kernel_rfl
set_option maxRecDepth 1000000 in
theorem iD_3_mm_3 : iD 3 (-1) (-1) 3 = true := by kernel_rfl
set_option maxRecDepth 1000000 in
theorem iZ_4_true : iZ 4 true = true := by kernel_rfl
set_option maxRecDepth 1000000 in
theorem iZ_4_false : iZ 4 false = true := by kernel_rfl
set_option maxRecDepth 1000000 in
theorem iA_4_p : iA 4 1 = true := by kernel_rfl
set_option maxRecDepth 1000000 in
theorem iB_4_p : iBs 4 1 = true := by kernel_rfl
set_option maxRecDepth 1000000 in
theorem iC_4_p : iC 4 1 = true := by kernel_rfl
set_option maxRecDepth 1000000 in
theorem iD_4_pp_0 : iD 4 1 1 0 = true := by kernel_rfl
set_option maxRecDepth 1000000 in
theorem iD_4_pp_1 : iD 4 1 1 1 = true := by kernel_rfl
set_option maxRecDepth 1000000 in
theorem iD_4_pp_2 : iD 4 1 1 2 = true := by kernel_rfl
set_option maxRecDepth 1000000 in
theorem iD_4_pp_3 : iD 4 1 1 3 = true := by kernel_rfl
set_option maxRecDepth 1000000 in
theorem iD_4_pp_4 : iD 4 1 1 4 = true := by kernel_rfl
set_option maxRecDepth 1000000 in
theorem iD_4_pm_0 : iD 4 1 (-1) 0 = true := by kernel_rfl
set_option maxRecDepth 1000000 in
theorem iD_4_pm_1 : iD 4 1 (-1) 1 = true := by kernel_rfl
set_option maxRecDepth 1000000 in
theorem iD_4_pm_2 : iD 4 1 (-1) 2 = true := by kernel_rfl
set_option maxRecDepth 1000000 in
theorem iD_4_pm_3 : iD 4 1 (-1) 3 = true := by kernel_rfl
set_option maxRecDepth 1000000 in
theorem iD_4_pm_4 : iD 4 1 (-1) 4 = true := by kernel_rfl
set_option maxRecDepth 1000000 in
theorem iA_4_m : iA 4 (-1) = true := by kernel_rfl
set_option maxRecDepth 1000000 in
theorem iB_4_m : iBs 4 (-1) = true := by kernel_rfl
set_option maxRecDepth 1000000 in
theorem iC_4_m : iC 4 (-1) = true := by kernel_rfl
set_option maxRecDepth 1000000 in
theorem iD_4_mp_0 : iD 4 (-1) 1 0 = true := by kernel_rfl
set_option maxRecDepth 1000000 in
theorem iD_4_mp_1 : iD 4 (-1) 1 1 = true := by kernel_rfl
set_option maxRecDepth 1000000 in
theorem iD_4_mp_2 : iD 4 (-1) 1 2 = true := by kernel_rfl
set_option maxRecDepth 1000000 in
theorem iD_4_mp_3 : iD 4 (-1) 1 3 = true := by kernel_rfl
set_option maxRecDepth 1000000 in
theorem iD_4_mp_4 : iD 4 (-1) 1 4 = true := by kernel_rfl
set_option maxRecDepth 1000000 in
theorem iD_4_mm_0 : iD 4 (-1) (-1) 0 = true := by kernel_rfl
set_option maxRecDepth 1000000 in
theorem iD_4_mm_1 : iD 4 (-1) (-1) 1 = true := by kernel_rfl
set_option maxRecDepth 1000000 in
theorem iD_4_mm_2 : iD 4 (-1) (-1) 2 = true := by kernel_rfl
set_option maxRecDepth 1000000 in
theorem iD_4_mm_3 : iD 4 (-1) (-1) 3 = true := by kernel_rfl
set_option maxRecDepth 1000000 in
theorem iD_4_mm_4 : iD 4 (-1) (-1) 4 = true := by kernel_rfl
set_option maxRecDepth 1000000 in
theorem iZ_5_true : iZ 5 true = true := by kernel_rfl
set_option maxRecDepth 1000000 in
theorem iZ_5_false : iZ 5 false = true := by kernel_rfl
set_option maxRecDepth 1000000 in
theorem iA_5_p : iA 5 1 = true := by kernel_rfl
set_option maxRecDepth 1000000 in
theorem iB_5_p : iBs 5 1 = true := by kernel_rfl
set_option maxRecDepth 1000000 in
theorem iC_5_p : iC 5 1 = true := by kernel_rfl
set_option maxRecDepth 1000000 in
theorem iD_5_pp_0 : iD 5 1 1 0 = true := by kernel_rfl
set_option maxRecDepth 1000000 in
theorem iD_5_pp_1 : iD 5 1 1 1 = true := by kernel_rfl
set_option maxRecDepth 1000000 in
theorem iD_5_pp_2 : iD 5 1 1 2 = true := by kernel_rfl
set_option maxRecDepth 1000000 in
theorem iD_5_pp_3 : iD 5 1 1 3 = true := by kernel_rfl
set_option maxRecDepth 1000000 in
theorem iD_5_pp_4 : iD 5 1 1 4 = true := by kernel_rfl
set_option maxRecDepth 1000000 in
theorem iD_5_pp_5 : iD 5 1 1 5 = true := by kernel_rfl
set_option maxRecDepth 1000000 in
theorem iD_5_pm_0 : iD 5 1 (-1) 0 = true := by kernel_rfl
set_option maxRecDepth 1000000 in
theorem iD_5_pm_1 : iD 5 1 (-1) 1 = true := by kernel_rfl
set_option maxRecDepth 1000000 in
theorem iD_5_pm_2 : iD 5 1 (-1) 2 = true := by kernel_rfl
set_option maxRecDepth 1000000 in
theorem iD_5_pm_3 : iD 5 1 (-1) 3 = true := by kernel_rfl
set_option maxRecDepth 1000000 in
theorem iD_5_pm_4 : iD 5 1 (-1) 4 = true := by kernel_rfl
set_option maxRecDepth 1000000 in
theorem iD_5_pm_5 : iD 5 1 (-1) 5 = true := by kernel_rfl
set_option maxRecDepth 1000000 in
theorem iA_5_m : iA 5 (-1) = true := by kernel_rfl
set_option maxRecDepth 1000000 in
theorem iB_5_m : iBs 5 (-1) = true := by kernel_rfl
set_option maxRecDepth 1000000 in
theorem iC_5_m : iC 5 (-1) = true := by kernel_rfl
set_option maxRecDepth 1000000 in
theorem iD_5_mp_0 : iD 5 (-1) 1 0 = true := by kernel_rfl
set_option maxRecDepth 1000000 in
theorem iD_5_mp_1 : iD 5 (-1) 1 1 = true := by kernel_rfl
set_option maxRecDepth 1000000 in
theorem iD_5_mp_2 : iD 5 (-1) 1 2 = true := by kernel_rfl
set_option maxRecDepth 1000000 in
theorem iD_5_mp_3 : iD 5 (-1) 1 3 = true := by kernel_rfl
set_option maxRecDepth 1000000 in
theorem iD_5_mp_4 : iD 5 (-1) 1 4 = true := by kernel_rfl
set_option maxRecDepth 1000000 in
theorem iD_5_mp_5 : iD 5 (-1) 1 5 = true := by kernel_rfl
set_option maxRecDepth 1000000 in
theorem iD_5_mm_0 : iD 5 (-1) (-1) 0 = true := by kernel_rfl
set_option maxRecDepth 1000000 in
theorem iD_5_mm_1 : iD 5 (-1) (-1) 1 = true := by kernel_rfl
set_option maxRecDepth 1000000 in
theorem iD_5_mm_2 : iD 5 (-1) (-1) 2 = true := by kernel_rfl
set_option maxRecDepth 1000000 in
theorem iD_5_mm_3 : iD 5 (-1) (-1) 3 = true := by kernel_rfl
set_option maxRecDepth 1000000 in
theorem iD_5_mm_4 : iD 5 (-1) (-1) 4 = true := by kernel_rfl
set_option maxRecDepth 1000000 in
theorem iD_5_mm_5 : iD 5 (-1) (-1) 5 = true := by kernel_rfl
set_option maxRecDepth 1000000 in
theorem iZ_6_true : iZ 6 true = true := by kernel_rfl
set_option maxRecDepth 1000000 in
theorem iZ_6_false : iZ 6 false = true := by kernel_rfl
set_option maxRecDepth 1000000 in
theorem iA_6_p : iA 6 1 = true := by kernel_rfl
set_option maxRecDepth 1000000 in
theorem iB_6_p : iBs 6 1 = true := by kernel_rfl
set_option maxRecDepth 1000000 in
theorem iC_6_p : iC 6 1 = true := by kernel_rfl
set_option maxRecDepth 1000000 in
theorem iD_6_pp_0 : iD 6 1 1 0 = true := by kernel_rfl
set_option maxRecDepth 1000000 in
theorem iD_6_pp_1 : iD 6 1 1 1 = true := by kernel_rfl
set_option maxRecDepth 1000000 in
theorem iD_6_pp_2 : iD 6 1 1 2 = true := by kernel_rfl
set_option maxRecDepth 1000000 in
theorem iD_6_pp_3 : iD 6 1 1 3 = true := by kernel_rfl
set_option maxRecDepth 1000000 in
theorem iD_6_pp_4 : iD 6 1 1 4 = true := by kernel_rfl
set_option maxRecDepth 1000000 in
theorem iD_6_pp_5 : iD 6 1 1 5 = true := by kernel_rfl
set_option maxRecDepth 1000000 in
theorem iD_6_pp_6 : iD 6 1 1 6 = true := by kernel_rfl
set_option maxRecDepth 1000000 in
theorem iD_6_pm_0 : iD 6 1 (-1) 0 = true := by kernel_rfl
set_option maxRecDepth 1000000 in
theorem iD_6_pm_1 : iD 6 1 (-1) 1 = true := by kernel_rfl
set_option maxRecDepth 1000000 in
theorem iD_6_pm_2 : iD 6 1 (-1) 2 = true := by kernel_rfl
set_option maxRecDepth 1000000 in
theorem iD_6_pm_3 : iD 6 1 (-1) 3 = true := by kernel_rfl
set_option maxRecDepth 1000000 in
theorem iD_6_pm_4 : iD 6 1 (-1) 4 = true := by kernel_rfl
set_option maxRecDepth 1000000 in
theorem iD_6_pm_5 : iD 6 1 (-1) 5 = true := by kernel_rfl
set_option maxRecDepth 1000000 in
theorem iD_6_pm_6 : iD 6 1 (-1) 6 = true := by kernel_rfl
set_option maxRecDepth 1000000 in
theorem iA_6_m : iA 6 (-1) = true := by kernel_rfl
set_option maxRecDepth 1000000 in
theorem iB_6_m : iBs 6 (-1) = true := by kernel_rfl
set_option maxRecDepth 1000000 in
theorem iC_6_m : iC 6 (-1) = true := by kernel_rfl
set_option maxRecDepth 1000000 in
theorem iD_6_mp_0 : iD 6 (-1) 1 0 = true := by kernel_rfl
set_option maxRecDepth 1000000 in
theorem iD_6_mp_1 : iD 6 (-1) 1 1 = true := by kernel_rfl
set_option maxRecDepth 1000000 in
theorem iD_6_mp_2 : iD 6 (-1) 1 2 = true := by kernel_rfl
set_option maxRecDepth 1000000 in
theorem iD_6_mp_3 : iD 6 (-1) 1 3 = true := by kernel_rfl
set_option maxRecDepth 1000000 in
theorem iD_6_mp_4 : iD 6 (-1) 1 4 = true := by kernel_rfl
set_option maxRecDepth 1000000 in
theorem iD_6_mp_5 : iD 6 (-1) 1 5 = true := by kernel_rfl
set_option maxRecDepth 1000000 in
theorem iD_6_mp_6 : iD 6 (-1) 1 6 = true := by kernel_rfl
set_option maxRecDepth 1000000 in
theorem iD_6_mm_0 : iD 6 (-1) (-1) 0 = true := by kernel_rfl
set_option maxRecDepth 1000000 in
theorem iD_6_mm_1 : iD 6 (-1) (-1) 1 = true := by kernel_rfl
set_option maxRecDepth 1000000 in
theorem iD_6_mm_2 : iD 6 (-1) (-1) 2 = true := by kernel_rfl
set_option maxRecDepth 1000000 in
theorem iD_6_mm_3 : iD 6 (-1) (-1) 3 = true := by kernel_rfl
set_option maxRecDepth 1000000 in
theorem iD_6_mm_4 : iD 6 (-1) (-1) 4 = true := by kernel_rfl
set_option maxRecDepth 1000000 in
theorem iD_6_mm_5 : iD 6 (-1) (-1) 5 = true := by kernel_rfl
set_option maxRecDepth 1000000 in
theorem iD_6_mm_6 : iD 6 (-1) (-1) 6 = true := by kernel_rfl
end Go.Proofs.Ytobdnpnohaonkaa.Pr

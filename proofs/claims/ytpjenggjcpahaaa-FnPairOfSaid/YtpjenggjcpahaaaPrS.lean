import Derived.Test.YtpjenggjcpahaaaPr
namespace Go.Proofs.Ytpjenggjcpahaaa.Pr
open Go.ChangeShapes Go.WideShapes Go.ChangeAt Go.RowKit Go.Sx Go.Proofs.Ytpjenggjcpahaaa.Ids
set_option linter.unusedVariables false
set_option maxRecDepth 1000000
set_option linter.unusedSimpArgs false

theorem sZ_2 : sZ 2 = true := by kernel_rfl
theorem sA_2_p : sA 2 1 = true := by kernel_rfl
theorem sB_2_p : sBs 2 1 = true := by kernel_rfl
theorem sC_2_p : sC 2 1 = true := by kernel_rfl
theorem sD_2_pp_0 : sD 2 1 1 0 = true := by kernel_rfl
theorem sD_2_pp_1 : sD 2 1 1 1 = true := by kernel_rfl
theorem sD_2_pp_2 : sD 2 1 1 2 = true := by kernel_rfl
theorem sD_2_pm_0 : sD 2 1 (-1) 0 = true := by kernel_rfl
theorem sD_2_pm_1 : sD 2 1 (-1) 1 = true := by kernel_rfl
theorem sD_2_pm_2 : sD 2 1 (-1) 2 = true := by kernel_rfl
theorem sA_2_m : sA 2 (-1) = true := by kernel_rfl
theorem sB_2_m : sBs 2 (-1) = true := by kernel_rfl
theorem sC_2_m : sC 2 (-1) = true := by kernel_rfl
theorem sD_2_mp_0 : sD 2 (-1) 1 0 = true := by kernel_rfl
theorem sD_2_mp_1 : sD 2 (-1) 1 1 = true := by kernel_rfl
theorem sD_2_mp_2 : sD 2 (-1) 1 2 = true := by kernel_rfl
theorem sD_2_mm_0 : sD 2 (-1) (-1) 0 = true := by kernel_rfl
theorem sD_2_mm_1 : sD 2 (-1) (-1) 1 = true := by kernel_rfl
theorem sD_2_mm_2 : sD 2 (-1) (-1) 2 = true := by kernel_rfl
theorem sZ_3 : sZ 3 = true := by kernel_rfl
theorem sA_3_p : sA 3 1 = true := by kernel_rfl
theorem sB_3_p : sBs 3 1 = true := by kernel_rfl
theorem sC_3_p : sC 3 1 = true := by kernel_rfl
theorem sD_3_pp_0 : sD 3 1 1 0 = true := by kernel_rfl
theorem sD_3_pp_1 : sD 3 1 1 1 = true := by kernel_rfl
theorem sD_3_pp_2 : sD 3 1 1 2 = true := by kernel_rfl
theorem sD_3_pp_3 : sD 3 1 1 3 = true := by kernel_rfl
theorem sD_3_pm_0 : sD 3 1 (-1) 0 = true := by kernel_rfl
theorem sD_3_pm_1 : sD 3 1 (-1) 1 = true := by kernel_rfl
theorem sD_3_pm_2 : sD 3 1 (-1) 2 = true := by kernel_rfl
theorem sD_3_pm_3 : sD 3 1 (-1) 3 = true := by kernel_rfl
theorem sA_3_m : sA 3 (-1) = true := by kernel_rfl
theorem sB_3_m : sBs 3 (-1) = true := by kernel_rfl
theorem sC_3_m : sC 3 (-1) = true := by kernel_rfl
theorem sD_3_mp_0 : sD 3 (-1) 1 0 = true := by kernel_rfl
theorem sD_3_mp_1 : sD 3 (-1) 1 1 = true := by kernel_rfl
theorem sD_3_mp_2 : sD 3 (-1) 1 2 = true := by kernel_rfl
theorem sD_3_mp_3 : sD 3 (-1) 1 3 = true := by kernel_rfl
theorem sD_3_mm_0 : sD 3 (-1) (-1) 0 = true := by kernel_rfl
theorem sD_3_mm_1 : sD 3 (-1) (-1) 1 = true := by kernel_rfl
theorem sD_3_mm_2 : sD 3 (-1) (-1) 2 = true := by kernel_rfl
theorem sD_3_mm_3 : sD 3 (-1) (-1) 3 = true := by kernel_rfl
theorem sZ_4 : sZ 4 = true := by kernel_rfl
theorem sA_4_p : sA 4 1 = true := by kernel_rfl
theorem sB_4_p : sBs 4 1 = true := by kernel_rfl
theorem sC_4_p : sC 4 1 = true := by kernel_rfl
theorem sD_4_pp_0 : sD 4 1 1 0 = true := by kernel_rfl
theorem sD_4_pp_1 : sD 4 1 1 1 = true := by kernel_rfl
theorem sD_4_pp_2 : sD 4 1 1 2 = true := by kernel_rfl
theorem sD_4_pp_3 : sD 4 1 1 3 = true := by kernel_rfl
theorem sD_4_pp_4 : sD 4 1 1 4 = true := by kernel_rfl
theorem sD_4_pm_0 : sD 4 1 (-1) 0 = true := by kernel_rfl
theorem sD_4_pm_1 : sD 4 1 (-1) 1 = true := by kernel_rfl
theorem sD_4_pm_2 : sD 4 1 (-1) 2 = true := by kernel_rfl
theorem sD_4_pm_3 : sD 4 1 (-1) 3 = true := by kernel_rfl
theorem sD_4_pm_4 : sD 4 1 (-1) 4 = true := by kernel_rfl
theorem sA_4_m : sA 4 (-1) = true := by kernel_rfl
theorem sB_4_m : sBs 4 (-1) = true := by kernel_rfl
theorem sC_4_m : sC 4 (-1) = true := by kernel_rfl
theorem sD_4_mp_0 : sD 4 (-1) 1 0 = true := by kernel_rfl
theorem sD_4_mp_1 : sD 4 (-1) 1 1 = true := by kernel_rfl
theorem sD_4_mp_2 : sD 4 (-1) 1 2 = true := by kernel_rfl
theorem sD_4_mp_3 : sD 4 (-1) 1 3 = true := by kernel_rfl
theorem sD_4_mp_4 : sD 4 (-1) 1 4 = true := by kernel_rfl
theorem sD_4_mm_0 : sD 4 (-1) (-1) 0 = true := by kernel_rfl
theorem sD_4_mm_1 : sD 4 (-1) (-1) 1 = true := by kernel_rfl
theorem sD_4_mm_2 : sD 4 (-1) (-1) 2 = true := by kernel_rfl
theorem sD_4_mm_3 : sD 4 (-1) (-1) 3 = true := by kernel_rfl
theorem sD_4_mm_4 : sD 4 (-1) (-1) 4 = true := by kernel_rfl
theorem sZ_5 : sZ 5 = true := by kernel_rfl
theorem sA_5_p : sA 5 1 = true := by kernel_rfl
theorem sB_5_p : sBs 5 1 = true := by kernel_rfl
theorem sC_5_p : sC 5 1 = true := by kernel_rfl
theorem sD_5_pp_0 : sD 5 1 1 0 = true := by kernel_rfl
theorem sD_5_pp_1 : sD 5 1 1 1 = true := by kernel_rfl
theorem sD_5_pp_2 : sD 5 1 1 2 = true := by kernel_rfl
theorem sD_5_pp_3 : sD 5 1 1 3 = true := by kernel_rfl
theorem sD_5_pp_4 : sD 5 1 1 4 = true := by kernel_rfl
theorem sD_5_pp_5 : sD 5 1 1 5 = true := by kernel_rfl
theorem sD_5_pm_0 : sD 5 1 (-1) 0 = true := by kernel_rfl
theorem sD_5_pm_1 : sD 5 1 (-1) 1 = true := by kernel_rfl
theorem sD_5_pm_2 : sD 5 1 (-1) 2 = true := by kernel_rfl
theorem sD_5_pm_3 : sD 5 1 (-1) 3 = true := by kernel_rfl
theorem sD_5_pm_4 : sD 5 1 (-1) 4 = true := by kernel_rfl
theorem sD_5_pm_5 : sD 5 1 (-1) 5 = true := by kernel_rfl
theorem sA_5_m : sA 5 (-1) = true := by kernel_rfl
theorem sB_5_m : sBs 5 (-1) = true := by kernel_rfl
theorem sC_5_m : sC 5 (-1) = true := by kernel_rfl
theorem sD_5_mp_0 : sD 5 (-1) 1 0 = true := by kernel_rfl
theorem sD_5_mp_1 : sD 5 (-1) 1 1 = true := by kernel_rfl
theorem sD_5_mp_2 : sD 5 (-1) 1 2 = true := by kernel_rfl
theorem sD_5_mp_3 : sD 5 (-1) 1 3 = true := by kernel_rfl
theorem sD_5_mp_4 : sD 5 (-1) 1 4 = true := by kernel_rfl
theorem sD_5_mp_5 : sD 5 (-1) 1 5 = true := by kernel_rfl
theorem sD_5_mm_0 : sD 5 (-1) (-1) 0 = true := by kernel_rfl
theorem sD_5_mm_1 : sD 5 (-1) (-1) 1 = true := by kernel_rfl
theorem sD_5_mm_2 : sD 5 (-1) (-1) 2 = true := by kernel_rfl
theorem sD_5_mm_3 : sD 5 (-1) (-1) 3 = true := by kernel_rfl
theorem sD_5_mm_4 : sD 5 (-1) (-1) 4 = true := by kernel_rfl
theorem sD_5_mm_5 : sD 5 (-1) (-1) 5 = true := by kernel_rfl
theorem sZ_6 : sZ 6 = true := by kernel_rfl
theorem sA_6_p : sA 6 1 = true := by kernel_rfl
theorem sB_6_p : sBs 6 1 = true := by kernel_rfl
theorem sC_6_p : sC 6 1 = true := by kernel_rfl
theorem sD_6_pp_0 : sD 6 1 1 0 = true := by kernel_rfl
theorem sD_6_pp_1 : sD 6 1 1 1 = true := by kernel_rfl
theorem sD_6_pp_2 : sD 6 1 1 2 = true := by kernel_rfl
theorem sD_6_pp_3 : sD 6 1 1 3 = true := by kernel_rfl
theorem sD_6_pp_4 : sD 6 1 1 4 = true := by kernel_rfl
theorem sD_6_pp_5 : sD 6 1 1 5 = true := by kernel_rfl
theorem sD_6_pp_6 : sD 6 1 1 6 = true := by kernel_rfl
theorem sD_6_pm_0 : sD 6 1 (-1) 0 = true := by kernel_rfl
theorem sD_6_pm_1 : sD 6 1 (-1) 1 = true := by kernel_rfl
theorem sD_6_pm_2 : sD 6 1 (-1) 2 = true := by kernel_rfl
theorem sD_6_pm_3 : sD 6 1 (-1) 3 = true := by kernel_rfl
theorem sD_6_pm_4 : sD 6 1 (-1) 4 = true := by kernel_rfl
theorem sD_6_pm_5 : sD 6 1 (-1) 5 = true := by kernel_rfl
theorem sD_6_pm_6 : sD 6 1 (-1) 6 = true := by kernel_rfl
theorem sA_6_m : sA 6 (-1) = true := by kernel_rfl
theorem sB_6_m : sBs 6 (-1) = true := by kernel_rfl
theorem sC_6_m : sC 6 (-1) = true := by kernel_rfl
theorem sD_6_mp_0 : sD 6 (-1) 1 0 = true := by kernel_rfl
theorem sD_6_mp_1 : sD 6 (-1) 1 1 = true := by kernel_rfl
theorem sD_6_mp_2 : sD 6 (-1) 1 2 = true := by kernel_rfl
theorem sD_6_mp_3 : sD 6 (-1) 1 3 = true := by kernel_rfl
theorem sD_6_mp_4 : sD 6 (-1) 1 4 = true := by kernel_rfl
theorem sD_6_mp_5 : sD 6 (-1) 1 5 = true := by kernel_rfl
theorem sD_6_mp_6 : sD 6 (-1) 1 6 = true := by kernel_rfl
theorem sD_6_mm_0 : sD 6 (-1) (-1) 0 = true := by kernel_rfl
theorem sD_6_mm_1 : sD 6 (-1) (-1) 1 = true := by kernel_rfl
theorem sD_6_mm_2 : sD 6 (-1) (-1) 2 = true := by kernel_rfl
theorem sD_6_mm_3 : sD 6 (-1) (-1) 3 = true := by kernel_rfl
theorem sD_6_mm_4 : sD 6 (-1) (-1) 4 = true := by kernel_rfl
theorem sD_6_mm_5 : sD 6 (-1) (-1) 5 = true := by kernel_rfl
theorem sD_6_mm_6 : sD 6 (-1) (-1) 6 = true := by kernel_rfl
end Go.Proofs.Ytpjenggjcpahaaa.Pr

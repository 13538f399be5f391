/-
  Mirrors: the runs. No condition.
-/
import Derived.Test.YtnaegkpaiahpmaaMi
namespace Go.Proofs.Ytnaegkpaiahpmaa.Mi
open Go.ChangeShapes Go.WideShapes Go.ChangeAt Go.RowKit Go.Sx Go.Proofs.Ytnaegkpaiahpmaa.Ids
open Go.Proofs.Ytnaegkpaiahpmaa.Iv
set_option linter.unusedVariables false
set_option linter.unusedSimpArgs false

set_option maxRecDepth 1000000 in
theorem hd_2 : all4 (headC 2) = true := by kernel_rfl
set_option maxRecDepth 1000000 in
theorem mi_2_pp : mirAll 15 xsI 2 1 1 = true := by kernel_rfl
set_option maxRecDepth 1000000 in
theorem ms_2_pp : mirAll 16 xsS 2 1 1 = true := by kernel_rfl
set_option maxRecDepth 1000000 in
theorem mi_2_pm : mirAll 15 xsI 2 1 (-1) = true := by kernel_rfl
set_option maxRecDepth 1000000 in
theorem ms_2_pm : mirAll 16 xsS 2 1 (-1) = true := by kernel_rfl
set_option maxRecDepth 1000000 in
theorem mi_2_mp : mirAll 15 xsI 2 (-1) 1 = true := by kernel_rfl
set_option maxRecDepth 1000000 in
theorem ms_2_mp : mirAll 16 xsS 2 (-1) 1 = true := by kernel_rfl
set_option maxRecDepth 1000000 in
theorem mi_2_mm : mirAll 15 xsI 2 (-1) (-1) = true := by kernel_rfl
set_option maxRecDepth 1000000 in
theorem ms_2_mm : mirAll 16 xsS 2 (-1) (-1) = true := by kernel_rfl
set_option maxRecDepth 1000000 in
theorem hd_3 : all4 (headC 3) = true := by kernel_rfl
set_option maxRecDepth 1000000 in
theorem mi_3_pp : mirAll 15 xsI 3 1 1 = true := by kernel_rfl
set_option maxRecDepth 1000000 in
theorem ms_3_pp : mirAll 16 xsS 3 1 1 = true := by kernel_rfl
set_option maxRecDepth 1000000 in
theorem mi_3_pm : mirAll 15 xsI 3 1 (-1) = true := by kernel_rfl
set_option maxRecDepth 1000000 in
theorem ms_3_pm : mirAll 16 xsS 3 1 (-1) = true := by kernel_rfl
set_option maxRecDepth 1000000 in
theorem mi_3_mp : mirAll 15 xsI 3 (-1) 1 = true := by kernel_rfl
set_option maxRecDepth 1000000 in
theorem ms_3_mp : mirAll 16 xsS 3 (-1) 1 = true := by kernel_rfl
set_option maxRecDepth 1000000 in
theorem mi_3_mm : mirAll 15 xsI 3 (-1) (-1) = true := by kernel_rfl
set_option maxRecDepth 1000000 in
theorem ms_3_mm : mirAll 16 xsS 3 (-1) (-1) = true := by kernel_rfl
set_option maxRecDepth 1000000 in
theorem hd_4 : all4 (headC 4) = true := by kernel_rfl
set_option maxRecDepth 1000000 in
theorem mi_4_pp : mirAll 15 xsI 4 1 1 = true := by kernel_rfl
set_option maxRecDepth 1000000 in
theorem ms_4_pp : mirAll 16 xsS 4 1 1 = true := by kernel_rfl
set_option maxRecDepth 1000000 in
theorem mi_4_pm : mirAll 15 xsI 4 1 (-1) = true := by kernel_rfl
set_option maxRecDepth 1000000 in
theorem ms_4_pm : mirAll 16 xsS 4 1 (-1) = true := by kernel_rfl
set_option maxRecDepth 1000000 in
theorem mi_4_mp : mirAll 15 xsI 4 (-1) 1 = true := by kernel_rfl
set_option maxRecDepth 1000000 in
theorem ms_4_mp : mirAll 16 xsS 4 (-1) 1 = true := by kernel_rfl
set_option maxRecDepth 1000000 in
theorem mi_4_mm : mirAll 15 xsI 4 (-1) (-1) = true := by kernel_rfl
set_option maxRecDepth 1000000 in
theorem ms_4_mm : mirAll 16 xsS 4 (-1) (-1) = true := by kernel_rfl
set_option maxRecDepth 1000000 in
theorem hd_5 : all4 (headC 5) = true := by kernel_rfl
set_option maxRecDepth 1000000 in
theorem mi_5_pp : mirAll 15 xsI 5 1 1 = true := by kernel_rfl
set_option maxRecDepth 1000000 in
theorem ms_5_pp : mirAll 16 xsS 5 1 1 = true := by kernel_rfl
set_option maxRecDepth 1000000 in
theorem mi_5_pm : mirAll 15 xsI 5 1 (-1) = true := by kernel_rfl
set_option maxRecDepth 1000000 in
theorem ms_5_pm : mirAll 16 xsS 5 1 (-1) = true := by kernel_rfl
set_option maxRecDepth 1000000 in
theorem mi_5_mp : mirAll 15 xsI 5 (-1) 1 = true := by kernel_rfl
set_option maxRecDepth 1000000 in
theorem ms_5_mp : mirAll 16 xsS 5 (-1) 1 = true := by kernel_rfl
set_option maxRecDepth 1000000 in
theorem mi_5_mm : mirAll 15 xsI 5 (-1) (-1) = true := by kernel_rfl
set_option maxRecDepth 1000000 in
theorem ms_5_mm : mirAll 16 xsS 5 (-1) (-1) = true := by kernel_rfl
set_option maxRecDepth 1000000 in
theorem hd_6 : all4 (headC 6) = true := by kernel_rfl
set_option maxRecDepth 1000000 in
theorem mi_6_pp : mirAll 15 xsI 6 1 1 = true := by kernel_rfl
set_option maxRecDepth 1000000 in
theorem ms_6_pp : mirAll 16 xsS 6 1 1 = true := by kernel_rfl
set_option maxRecDepth 1000000 in
theorem mi_6_pm : mirAll 15 xsI 6 1 (-1) = true := by kernel_rfl
set_option maxRecDepth 1000000 in
theorem ms_6_pm : mirAll 16 xsS 6 1 (-1) = true := by kernel_rfl
set_option maxRecDepth 1000000 in
theorem mi_6_mp : mirAll 15 xsI 6 (-1) 1 = true := by kernel_rfl
set_option maxRecDepth 1000000 in
theorem ms_6_mp : mirAll 16 xsS 6 (-1) 1 = true := by kernel_rfl
set_option maxRecDepth 1000000 in
theorem mi_6_mm : mirAll 15 xsI 6 (-1) (-1) = true := by kernel_rfl
set_option maxRecDepth 1000000 in
theorem ms_6_mm : mirAll 16 xsS 6 (-1) (-1) = true := by kernel_rfl
end Go.Proofs.Ytnaegkpaiahpmaa.Mi

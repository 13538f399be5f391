/-
  Mirrors: series of series, as polynomials. No condition.
-/
import Derived.Test.YtnaegkpaiahpmaaMiE
namespace Go.Proofs.Ytnaegkpaiahpmaa.Mi
open Go.ChangeShapes Go.WideShapes Go.ChangeAt Go.RowKit Go.Sx Go.Proofs.Ytnaegkpaiahpmaa.Ids
open Go.Proofs.Ytnaegkpaiahpmaa.Iv
set_option linter.unusedVariables false
set_option linter.unusedSimpArgs false

set_option maxRecDepth 1000000 in
theorem id_2_pp : idAll 2 1 1 = true := by kernel_rfl
set_option maxRecDepth 1000000 in
theorem id_2_pm : idAll 2 1 (-1) = true := by kernel_rfl
set_option maxRecDepth 1000000 in
theorem id_2_mp : idAll 2 (-1) 1 = true := by kernel_rfl
set_option maxRecDepth 1000000 in
theorem id_2_mm : idAll 2 (-1) (-1) = true := by kernel_rfl
set_option maxRecDepth 1000000 in
theorem id_3_pp : idAll 3 1 1 = true := by kernel_rfl
set_option maxRecDepth 1000000 in
theorem id_3_pm : idAll 3 1 (-1) = true := by kernel_rfl
set_option maxRecDepth 1000000 in
theorem id_3_mp : idAll 3 (-1) 1 = true := by kernel_rfl
set_option maxRecDepth 1000000 in
theorem id_3_mm : idAll 3 (-1) (-1) = true := by kernel_rfl
set_option maxRecDepth 1000000 in
theorem id_4_pp : idAll 4 1 1 = true := by kernel_rfl
set_option maxRecDepth 1000000 in
theorem id_4_pm : idAll 4 1 (-1) = true := by kernel_rfl
set_option maxRecDepth 1000000 in
theorem id_4_mp : idAll 4 (-1) 1 = true := by kernel_rfl
set_option maxRecDepth 1000000 in
theorem id_4_mm : idAll 4 (-1) (-1) = true := by kernel_rfl
set_option maxRecDepth 1000000 in
theorem id_5_pp : idAll 5 1 1 = true := by kernel_rfl
set_option maxRecDepth 1000000 in
theorem id_5_pm : idAll 5 1 (-1) = true := by kernel_rfl
set_option maxRecDepth 1000000 in
theorem id_5_mp : idAll 5 (-1) 1 = true := by kernel_rfl
set_option maxRecDepth 1000000 in
theorem id_5_mm : idAll 5 (-1) (-1) = true := by kernel_rfl
set_option maxRecDepth 1000000 in
theorem id_6_pp : idAll 6 1 1 = true := by kernel_rfl
set_option maxRecDepth 1000000 in
theorem id_6_pm : idAll 6 1 (-1) = true := by kernel_rfl
set_option maxRecDepth 1000000 in
theorem id_6_mp : idAll 6 (-1) 1 = true := by kernel_rfl
set_option maxRecDepth 1000000 in
theorem id_6_mm : idAll 6 (-1) (-1) = true := by kernel_rfl
end Go.Proofs.Ytnaegkpaiahpmaa.Mi

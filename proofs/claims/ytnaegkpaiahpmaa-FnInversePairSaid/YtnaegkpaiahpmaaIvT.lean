/-
  Columns of arrays of pairs: the runs. No condition.
-/
import Derived.Test.YtnaegkpaiahpmaaIv
namespace Go.Proofs.Ytnaegkpaiahpmaa.Iv
open Go.ChangeShapes Go.WideShapes Go.ChangeAt Go.RowKit Go.Sx Go.Proofs.Ytnaegkpaiahpmaa.Ids
set_option linter.unusedVariables false
set_option linter.unusedSimpArgs false

set_option maxRecDepth 1000000 in
theorem tf_2_0 : all4 (fun a b => tfOk 2 a b 0) = true := by kernel_rfl
set_option maxRecDepth 1000000 in
theorem tf_2_1 : all4 (fun a b => tfOk 2 a b 1) = true := by kernel_rfl
set_option maxRecDepth 1000000 in
theorem tf_3_0 : all4 (fun a b => tfOk 3 a b 0) = true := by kernel_rfl
set_option maxRecDepth 1000000 in
theorem tf_3_1 : all4 (fun a b => tfOk 3 a b 1) = true := by kernel_rfl
set_option maxRecDepth 1000000 in
theorem tf_3_2 : all4 (fun a b => tfOk 3 a b 2) = true := by kernel_rfl
set_option maxRecDepth 1000000 in
theorem tf_4_0_pp : tfOk 4 1 1 0 = true := by kernel_rfl
set_option maxRecDepth 1000000 in
theorem tf_4_0_pm : tfOk 4 1 (-1) 0 = true := by kernel_rfl
set_option maxRecDepth 1000000 in
theorem tf_4_0_mp : tfOk 4 (-1) 1 0 = true := by kernel_rfl
set_option maxRecDepth 1000000 in
theorem tf_4_0_mm : tfOk 4 (-1) (-1) 0 = true := by kernel_rfl
set_option maxRecDepth 1000000 in
theorem tf_4_1_pp : tfOk 4 1 1 1 = true := by kernel_rfl
set_option maxRecDepth 1000000 in
theorem tf_4_1_pm : tfOk 4 1 (-1) 1 = true := by kernel_rfl
set_option maxRecDepth 1000000 in
theorem tf_4_1_mp : tfOk 4 (-1) 1 1 = true := by kernel_rfl
set_option maxRecDepth 1000000 in
theorem tf_4_1_mm : tfOk 4 (-1) (-1) 1 = true := by kernel_rfl
set_option maxRecDepth 1000000 in
theorem tf_4_2_pp : tfOk 4 1 1 2 = true := by kernel_rfl
set_option maxRecDepth 1000000 in
theorem tf_4_2_pm : tfOk 4 1 (-1) 2 = true := by kernel_rfl
set_option maxRecDepth 1000000 in
theorem tf_4_2_mp : tfOk 4 (-1) 1 2 = true := by kernel_rfl
set_option maxRecDepth 1000000 in
theorem tf_4_2_mm : tfOk 4 (-1) (-1) 2 = true := by kernel_rfl
set_option maxRecDepth 1000000 in
theorem tf_4_3_pp : tfOk 4 1 1 3 = true := by kernel_rfl
set_option maxRecDepth 1000000 in
theorem tf_4_3_pm : tfOk 4 1 (-1) 3 = true := by kernel_rfl
set_option maxRecDepth 1000000 in
theorem tf_4_3_mp : tfOk 4 (-1) 1 3 = true := by kernel_rfl
set_option maxRecDepth 1000000 in
theorem tf_4_3_mm : tfOk 4 (-1) (-1) 3 = true := by kernel_rfl
set_option maxRecDepth 1000000 in
theorem tf_5_0_pp : tfOk 5 1 1 0 = true := by kernel_rfl
set_option maxRecDepth 1000000 in
theorem tf_5_0_pm : tfOk 5 1 (-1) 0 = true := by kernel_rfl
set_option maxRecDepth 1000000 in
theorem tf_5_0_mp : tfOk 5 (-1) 1 0 = true := by kernel_rfl
set_option maxRecDepth 1000000 in
theorem tf_5_0_mm : tfOk 5 (-1) (-1) 0 = true := by kernel_rfl
set_option maxRecDepth 1000000 in
theorem tf_5_1_pp : tfOk 5 1 1 1 = true := by kernel_rfl
set_option maxRecDepth 1000000 in
theorem tf_5_1_pm : tfOk 5 1 (-1) 1 = true := by kernel_rfl
set_option maxRecDepth 1000000 in
theorem tf_5_1_mp : tfOk 5 (-1) 1 1 = true := by kernel_rfl
set_option maxRecDepth 1000000 in
theorem tf_5_1_mm : tfOk 5 (-1) (-1) 1 = true := by kernel_rfl
set_option maxRecDepth 1000000 in
theorem tf_5_2_pp : tfOk 5 1 1 2 = true := by kernel_rfl
set_option maxRecDepth 1000000 in
theorem tf_5_2_pm : tfOk 5 1 (-1) 2 = true := by kernel_rfl
set_option maxRecDepth 1000000 in
theorem tf_5_2_mp : tfOk 5 (-1) 1 2 = true := by kernel_rfl
set_option maxRecDepth 1000000 in
theorem tf_5_2_mm : tfOk 5 (-1) (-1) 2 = true := by kernel_rfl
set_option maxRecDepth 1000000 in
theorem tf_5_3_pp : tfOk 5 1 1 3 = true := by kernel_rfl
set_option maxRecDepth 1000000 in
theorem tf_5_3_pm : tfOk 5 1 (-1) 3 = true := by kernel_rfl
set_option maxRecDepth 1000000 in
theorem tf_5_3_mp : tfOk 5 (-1) 1 3 = true := by kernel_rfl
set_option maxRecDepth 1000000 in
theorem tf_5_3_mm : tfOk 5 (-1) (-1) 3 = true := by kernel_rfl
set_option maxRecDepth 1000000 in
theorem tf_5_4_pp : tfOk 5 1 1 4 = true := by kernel_rfl
set_option maxRecDepth 1000000 in
theorem tf_5_4_pm : tfOk 5 1 (-1) 4 = true := by kernel_rfl
set_option maxRecDepth 1000000 in
theorem tf_5_4_mp : tfOk 5 (-1) 1 4 = true := by kernel_rfl
set_option maxRecDepth 1000000 in
theorem tf_5_4_mm : tfOk 5 (-1) (-1) 4 = true := by kernel_rfl
end Go.Proofs.Ytnaegkpaiahpmaa.Iv

/-
  Columns of arrays of pairs of six numbers: the runs. No condition.
-/
import Derived.Test.YtnaegkpaiahpmaaIv
namespace Go.Proofs.Ytnaegkpaiahpmaa.Iv
open Go.ChangeShapes Go.WideShapes Go.ChangeAt Go.RowKit Go.Sx Go.Proofs.Ytnaegkpaiahpmaa.Ids
set_option linter.unusedVariables false
set_option linter.unusedSimpArgs false

set_option maxRecDepth 1000000 in
theorem tf_6_0_pp : tfOk 6 1 1 0 = true := by kernel_rfl
set_option maxRecDepth 1000000 in
theorem tf_6_0_pm : tfOk 6 1 (-1) 0 = true := by kernel_rfl
set_option maxRecDepth 1000000 in
theorem tf_6_0_mp : tfOk 6 (-1) 1 0 = true := by kernel_rfl
set_option maxRecDepth 1000000 in
theorem tf_6_0_mm : tfOk 6 (-1) (-1) 0 = true := by kernel_rfl
set_option maxRecDepth 1000000 in
theorem tf_6_1_pp : tfOk 6 1 1 1 = true := by kernel_rfl
set_option maxRecDepth 1000000 in
theorem tf_6_1_pm : tfOk 6 1 (-1) 1 = true := by kernel_rfl
set_option maxRecDepth 1000000 in
theorem tf_6_1_mp : tfOk 6 (-1) 1 1 = true := by kernel_rfl
set_option maxRecDepth 1000000 in
theorem tf_6_1_mm : tfOk 6 (-1) (-1) 1 = true := by kernel_rfl
set_option maxRecDepth 1000000 in
theorem tf_6_2_pp : tfOk 6 1 1 2 = true := by kernel_rfl
set_option maxRecDepth 1000000 in
theorem tf_6_2_pm : tfOk 6 1 (-1) 2 = true := by kernel_rfl
set_option maxRecDepth 1000000 in
theorem tf_6_2_mp : tfOk 6 (-1) 1 2 = true := by kernel_rfl
set_option maxRecDepth 1000000 in
theorem tf_6_2_mm : tfOk 6 (-1) (-1) 2 = true := by kernel_rfl
set_option maxRecDepth 1000000 in
theorem tf_6_3_pp : tfOk 6 1 1 3 = true := by kernel_rfl
set_option maxRecDepth 1000000 in
theorem tf_6_3_pm : tfOk 6 1 (-1) 3 = true := by kernel_rfl
set_option maxRecDepth 1000000 in
theorem tf_6_3_mp : tfOk 6 (-1) 1 3 = true := by kernel_rfl
set_option maxRecDepth 1000000 in
theorem tf_6_3_mm : tfOk 6 (-1) (-1) 3 = true := by kernel_rfl
set_option maxRecDepth 1000000 in
theorem tf_6_4_pp : tfOk 6 1 1 4 = true := by kernel_rfl
set_option maxRecDepth 1000000 in
theorem tf_6_4_pm : tfOk 6 1 (-1) 4 = true := by kernel_rfl
set_option maxRecDepth 1000000 in
theorem tf_6_4_mp : tfOk 6 (-1) 1 4 = true := by kernel_rfl
set_option maxRecDepth 1000000 in
theorem tf_6_4_mm : tfOk 6 (-1) (-1) 4 = true := by kernel_rfl
set_option maxRecDepth 1000000 in
theorem tf_6_5_pp : tfOk 6 1 1 5 = true := by kernel_rfl
set_option maxRecDepth 1000000 in
theorem tf_6_5_pm : tfOk 6 1 (-1) 5 = true := by kernel_rfl
set_option maxRecDepth 1000000 in
theorem tf_6_5_mp : tfOk 6 (-1) 1 5 = true := by kernel_rfl
set_option maxRecDepth 1000000 in
theorem tf_6_5_mm : tfOk 6 (-1) (-1) 5 = true := by kernel_rfl
end Go.Proofs.Ytnaegkpaiahpmaa.Iv

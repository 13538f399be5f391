/-
  Columns undone, of six numbers: the runs. No condition.
-/
import Derived.Test.YtnaegkpaiahpmaaIv
namespace Go.Proofs.Ytnaegkpaiahpmaa.Iv
open Go.ChangeShapes Go.WideShapes Go.ChangeAt Go.RowKit Go.Sx Go.Proofs.Ytnaegkpaiahpmaa.Ids
set_option linter.unusedVariables false
set_option linter.unusedSimpArgs false

set_option maxRecDepth 1000000 in
theorem tb_6_0_pp : tbOk 6 1 1 0 = true := by kernel_rfl
set_option maxRecDepth 1000000 in
theorem tb_6_0_pm : tbOk 6 1 (-1) 0 = true := by kernel_rfl
set_option maxRecDepth 1000000 in
theorem tb_6_0_mp : tbOk 6 (-1) 1 0 = true := by kernel_rfl
set_option maxRecDepth 1000000 in
theorem tb_6_0_mm : tbOk 6 (-1) (-1) 0 = true := by kernel_rfl
set_option maxRecDepth 1000000 in
theorem tb_6_1_pp : tbOk 6 1 1 1 = true := by kernel_rfl
set_option maxRecDepth 1000000 in
theorem tb_6_1_pm : tbOk 6 1 (-1) 1 = true := by kernel_rfl
set_option maxRecDepth 1000000 in
theorem tb_6_1_mp : tbOk 6 (-1) 1 1 = true := by kernel_rfl
set_option maxRecDepth 1000000 in
theorem tb_6_1_mm : tbOk 6 (-1) (-1) 1 = true := by kernel_rfl
set_option maxRecDepth 1000000 in
theorem tb_6_2_pp : tbOk 6 1 1 2 = true := by kernel_rfl
set_option maxRecDepth 1000000 in
theorem tb_6_2_pm : tbOk 6 1 (-1) 2 = true := by kernel_rfl
set_option maxRecDepth 1000000 in
theorem tb_6_2_mp : tbOk 6 (-1) 1 2 = true := by kernel_rfl
set_option maxRecDepth 1000000 in
theorem tb_6_2_mm : tbOk 6 (-1) (-1) 2 = true := by kernel_rfl
set_option maxRecDepth 1000000 in
theorem tb_6_3_pp : tbOk 6 1 1 3 = true := by kernel_rfl
set_option maxRecDepth 1000000 in
theorem tb_6_3_pm : tbOk 6 1 (-1) 3 = true := by kernel_rfl
set_option maxRecDepth 1000000 in
theorem tb_6_3_mp : tbOk 6 (-1) 1 3 = true := by kernel_rfl
set_option maxRecDepth 1000000 in
theorem tb_6_3_mm : tbOk 6 (-1) (-1) 3 = true := by kernel_rfl
set_option maxRecDepth 1000000 in
theorem tb_6_4_pp : tbOk 6 1 1 4 = true := by kernel_rfl
set_option maxRecDepth 1000000 in
theorem tb_6_4_pm : tbOk 6 1 (-1) 4 = true := by kernel_rfl
set_option maxRecDepth 1000000 in
theorem tb_6_4_mp : tbOk 6 (-1) 1 4 = true := by kernel_rfl
set_option maxRecDepth 1000000 in
theorem tb_6_4_mm : tbOk 6 (-1) (-1) 4 = true := by kernel_rfl
set_option maxRecDepth 1000000 in
theorem tb_6_5_pp : tbOk 6 1 1 5 = true := by kernel_rfl
set_option maxRecDepth 1000000 in
theorem tb_6_5_pm : tbOk 6 1 (-1) 5 = true := by kernel_rfl
set_option maxRecDepth 1000000 in
theorem tb_6_5_mp : tbOk 6 (-1) 1 5 = true := by kernel_rfl
set_option maxRecDepth 1000000 in
theorem tb_6_5_mm : tbOk 6 (-1) (-1) 5 = true := by kernel_rfl
end Go.Proofs.Ytnaegkpaiahpmaa.Iv

/-
  Columns undone: the runs. No condition.
-/
import Derived.Test.YtnaegkpaiahpmaaIv
namespace Go.Proofs.Ytnaegkpaiahpmaa.Iv
open Go.ChangeShapes Go.WideShapes Go.ChangeAt Go.RowKit Go.Sx Go.Proofs.Ytnaegkpaiahpmaa.Ids
set_option linter.unusedVariables false
set_option linter.unusedSimpArgs false

set_option maxRecDepth 1000000 in
theorem tb_2_0 : all4 (fun a b => tbOk 2 a b 0) = true := by kernel_rfl
set_option maxRecDepth 1000000 in
theorem tb_2_1 : all4 (fun a b => tbOk 2 a b 1) = true := by kernel_rfl
set_option maxRecDepth 1000000 in
theorem tb_3_0 : all4 (fun a b => tbOk 3 a b 0) = true := by kernel_rfl
set_option maxRecDepth 1000000 in
theorem tb_3_1 : all4 (fun a b => tbOk 3 a b 1) = true := by kernel_rfl
set_option maxRecDepth 1000000 in
theorem tb_3_2 : all4 (fun a b => tbOk 3 a b 2) = true := by kernel_rfl
set_option maxRecDepth 1000000 in
theorem tb_4_0 : all4 (fun a b => tbOk 4 a b 0) = true := by kernel_rfl
set_option maxRecDepth 1000000 in
theorem tb_4_1 : all4 (fun a b => tbOk 4 a b 1) = true := by kernel_rfl
set_option maxRecDepth 1000000 in
theorem tb_4_2 : all4 (fun a b => tbOk 4 a b 2) = true := by kernel_rfl
set_option maxRecDepth 1000000 in
theorem tb_4_3 : all4 (fun a b => tbOk 4 a b 3) = true := by kernel_rfl
set_option maxRecDepth 1000000 in
theorem tb_5_0 : all4 (fun a b => tbOk 5 a b 0) = true := by kernel_rfl
set_option maxRecDepth 1000000 in
theorem tb_5_1 : all4 (fun a b => tbOk 5 a b 1) = true := by kernel_rfl
set_option maxRecDepth 1000000 in
theorem tb_5_2 : all4 (fun a b => tbOk 5 a b 2) = true := by kernel_rfl
set_option maxRecDepth 1000000 in
theorem tb_5_3 : all4 (fun a b => tbOk 5 a b 3) = true := by kernel_rfl
set_option maxRecDepth 1000000 in
theorem tb_5_4 : all4 (fun a b => tbOk 5 a b 4) = true := by kernel_rfl
end Go.Proofs.Ytnaegkpaiahpmaa.Iv

/-
  Arrays of pairs and of their inverses: the runs. No condition.
-/
import Derived.Test.YtnaegkpaiahpmaaIv
namespace Go.Proofs.Ytnaegkpaiahpmaa.Iv
open Go.ChangeShapes Go.WideShapes Go.ChangeAt Go.RowKit Go.Sx Go.Proofs.Ytnaegkpaiahpmaa.Ids
set_option linter.unusedVariables false
set_option linter.unusedSimpArgs false

set_option maxRecDepth 1000000 in
theorem ar_2 : all4 (arAll 2) = true := by kernel_rfl
set_option maxRecDepth 1000000 in
theorem mt_2 : all4 (mtOk 2) = true := by kernel_rfl
set_option maxRecDepth 1000000 in
theorem ar_3 : all4 (arAll 3) = true := by kernel_rfl
set_option maxRecDepth 1000000 in
theorem mt_3 : all4 (mtOk 3) = true := by kernel_rfl
set_option maxRecDepth 1000000 in
theorem ar_4 : all4 (arAll 4) = true := by kernel_rfl
set_option maxRecDepth 1000000 in
theorem mt_4 : all4 (mtOk 4) = true := by kernel_rfl
set_option maxRecDepth 1000000 in
theorem ar_5 : all4 (arAll 5) = true := by kernel_rfl
set_option maxRecDepth 1000000 in
theorem mt_5 : all4 (mtOk 5) = true := by kernel_rfl
set_option maxRecDepth 1000000 in
theorem ar_6 : all4 (arAll 6) = true := by kernel_rfl
set_option maxRecDepth 1000000 in
theorem mt_6 : all4 (mtOk 6) = true := by kernel_rfl
end Go.Proofs.Ytnaegkpaiahpmaa.Iv

/-
  Inverses of pairs: the runs. No condition.
-/
import Derived.Test.YtnaegkpaiahpmaaIv
namespace Go.Proofs.Ytnaegkpaiahpmaa.Iv
open Go.ChangeShapes Go.WideShapes Go.ChangeAt Go.RowKit Go.Sx Go.Proofs.Ytnaegkpaiahpmaa.Ids
set_option linter.unusedVariables false
set_option linter.unusedSimpArgs false

set_option maxRecDepth 1000000 in
theorem ii_2 : all4 (invAll 6 2) = true := by kernel_rfl
set_option maxRecDepth 1000000 in
theorem is_2 : all4 (invAll 7 2) = true := by kernel_rfl
set_option maxRecDepth 1000000 in
theorem vi_2 : vpC 13 2 = true := by kernel_rfl
set_option maxRecDepth 1000000 in
theorem vs_2 : vpC 22 2 = true := by kernel_rfl
set_option maxRecDepth 1000000 in
theorem ii_3 : all4 (invAll 6 3) = true := by kernel_rfl
set_option maxRecDepth 1000000 in
theorem is_3 : all4 (invAll 7 3) = true := by kernel_rfl
set_option maxRecDepth 1000000 in
theorem vi_3 : vpC 13 3 = true := by kernel_rfl
set_option maxRecDepth 1000000 in
theorem vs_3 : vpC 22 3 = true := by kernel_rfl
set_option maxRecDepth 1000000 in
theorem ii_4 : all4 (invAll 6 4) = true := by kernel_rfl
set_option maxRecDepth 1000000 in
theorem is_4 : all4 (invAll 7 4) = true := by kernel_rfl
set_option maxRecDepth 1000000 in
theorem vi_4 : vpC 13 4 = true := by kernel_rfl
set_option maxRecDepth 1000000 in
theorem vs_4 : vpC 22 4 = true := by kernel_rfl
set_option maxRecDepth 1000000 in
theorem ii_5 : all4 (invAll 6 5) = true := by kernel_rfl
set_option maxRecDepth 1000000 in
theorem is_5 : all4 (invAll 7 5) = true := by kernel_rfl
set_option maxRecDepth 1000000 in
theorem vi_5 : vpC 13 5 = true := by kernel_rfl
set_option maxRecDepth 1000000 in
theorem vs_5 : vpC 22 5 = true := by kernel_rfl
set_option maxRecDepth 1000000 in
theorem ii_6 : all4 (invAll 6 6) = true := by kernel_rfl
set_option maxRecDepth 1000000 in
theorem is_6 : all4 (invAll 7 6) = true := by kernel_rfl
set_option maxRecDepth 1000000 in
theorem vi_6 : vpC 13 6 = true := by kernel_rfl
set_option maxRecDepth 1000000 in
theorem vs_6 : vpC 22 6 = true := by kernel_rfl
end Go.Proofs.Ytnaegkpaiahpmaa.Iv

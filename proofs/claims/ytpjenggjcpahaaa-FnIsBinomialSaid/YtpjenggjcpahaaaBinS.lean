/-
  Binomial sequences: what the document's model answers, a run for each case. No condition.
-/
import Derived.Test.YtpjenggjcpahaaaBin
namespace Go.Proofs.Ytpjenggjcpahaaa.Bin
open Go.ChangeShapes Go.WideShapes Go.ChangeAt Go.RowKit Go.Sx Go.Proofs.Ytpjenggjcpahaaa.Ids Go.Proofs.Ytpjenggjcpahaaa.Rep
set_option linter.unusedVariables false
set_option linter.unusedSimpArgs false

set_option maxRecDepth 1000000 in
theorem s_1_0 : sbinAt 26 1 0 = true := by kernel_rfl
set_option maxRecDepth 1000000 in
theorem s_1_1 : sbinAt 26 1 1 = true := by kernel_rfl
set_option maxRecDepth 1000000 in
theorem s_2_0 : sbinAt 26 2 0 = true := by kernel_rfl
set_option maxRecDepth 1000000 in
theorem s_2_1 : sbinAt 26 2 1 = true := by kernel_rfl
set_option maxRecDepth 1000000 in
theorem s_2_2 : sbinAt 26 2 2 = true := by kernel_rfl
set_option maxRecDepth 1000000 in
theorem s_2_3 : sbinAt 26 2 3 = true := by kernel_rfl
set_option maxRecDepth 1000000 in
theorem s_3_0 : sbinAt 26 3 0 = true := by kernel_rfl
set_option maxRecDepth 1000000 in
theorem s_3_1 : sbinAt 26 3 1 = true := by kernel_rfl
set_option maxRecDepth 1000000 in
theorem s_3_2 : sbinAt 26 3 2 = true := by kernel_rfl
set_option maxRecDepth 1000000 in
theorem s_3_3 : sbinAt 26 3 3 = true := by kernel_rfl
set_option maxRecDepth 1000000 in
theorem s_3_4 : sbinAt 26 3 4 = true := by kernel_rfl
set_option maxRecDepth 1000000 in
theorem s_3_5 : sbinAt 26 3 5 = true := by kernel_rfl
set_option maxRecDepth 1000000 in
theorem s_3_6 : sbinAt 26 3 6 = true := by kernel_rfl
set_option maxRecDepth 1000000 in
theorem s_4_0 : sbinAt 26 4 0 = true := by kernel_rfl
set_option maxRecDepth 1000000 in
theorem s_4_1 : sbinAt 26 4 1 = true := by kernel_rfl
set_option maxRecDepth 1000000 in
theorem s_4_2 : sbinAt 26 4 2 = true := by kernel_rfl
set_option maxRecDepth 1000000 in
theorem s_4_3 : sbinAt 26 4 3 = true := by kernel_rfl
set_option maxRecDepth 1000000 in
theorem s_4_4 : sbinAt 26 4 4 = true := by kernel_rfl
set_option maxRecDepth 1000000 in
theorem s_4_5 : sbinAt 26 4 5 = true := by kernel_rfl
set_option maxRecDepth 1000000 in
theorem s_4_6 : sbinAt 26 4 6 = true := by kernel_rfl
set_option maxRecDepth 1000000 in
theorem s_4_7 : sbinAt 26 4 7 = true := by kernel_rfl
set_option maxRecDepth 1000000 in
theorem s_4_8 : sbinAt 26 4 8 = true := by kernel_rfl
set_option maxRecDepth 1000000 in
theorem s_4_9 : sbinAt 26 4 9 = true := by kernel_rfl
set_option maxRecDepth 1000000 in
theorem s_4_10 : sbinAt 26 4 10 = true := by kernel_rfl
set_option maxRecDepth 1000000 in
theorem s_5_0 : sbinAt 26 5 0 = true := by kernel_rfl
set_option maxRecDepth 1000000 in
theorem s_5_1 : sbinAt 26 5 1 = true := by kernel_rfl
set_option maxRecDepth 1000000 in
theorem s_5_2 : sbinAt 26 5 2 = true := by kernel_rfl
set_option maxRecDepth 1000000 in
theorem s_5_3 : sbinAt 26 5 3 = true := by kernel_rfl
set_option maxRecDepth 1000000 in
theorem s_5_4 : sbinAt 26 5 4 = true := by kernel_rfl
set_option maxRecDepth 1000000 in
theorem s_5_5 : sbinAt 26 5 5 = true := by kernel_rfl
set_option maxRecDepth 1000000 in
theorem s_5_6 : sbinAt 26 5 6 = true := by kernel_rfl
set_option maxRecDepth 1000000 in
theorem s_5_7 : sbinAt 26 5 7 = true := by kernel_rfl
set_option maxRecDepth 1000000 in
theorem s_5_8 : sbinAt 26 5 8 = true := by kernel_rfl
set_option maxRecDepth 1000000 in
theorem s_5_9 : sbinAt 26 5 9 = true := by kernel_rfl
set_option maxRecDepth 1000000 in
theorem s_5_10 : sbinAt 26 5 10 = true := by kernel_rfl
set_option maxRecDepth 1000000 in
theorem s_5_11 : sbinAt 26 5 11 = true := by kernel_rfl
set_option maxRecDepth 1000000 in
theorem s_5_12 : sbinAt 26 5 12 = true := by kernel_rfl
set_option maxRecDepth 1000000 in
theorem s_5_13 : sbinAt 26 5 13 = true := by kernel_rfl
set_option maxRecDepth 1000000 in
theorem s_5_14 : sbinAt 26 5 14 = true := by kernel_rfl
set_option maxRecDepth 1000000 in
theorem s_5_15 : sbinAt 26 5 15 = true := by kernel_rfl
end Go.Proofs.Ytpjenggjcpahaaa.Bin

/-
  Binomial sequences: what the document's model answers, a run for each case. No condition.
-/
import Derived.Test.YtpjenggjcpahaaaBin
namespace Go.Proofs.Ytpjenggjcpahaaa.Bin
open Go.ChangeShapes Go.WideShapes Go.ChangeAt Go.RowKit Go.Sx Go.Proofs.Ytpjenggjcpahaaa.Ids Go.Proofs.Ytpjenggjcpahaaa.Rep
set_option linter.unusedVariables false
set_option linter.unusedSimpArgs false

set_option maxRecDepth 1000000 in
theorem s_6_0 : sbinAt 26 6 0 = true := by kernel_rfl
set_option maxRecDepth 1000000 in
theorem s_6_1 : sbinAt 26 6 1 = true := by kernel_rfl
set_option maxRecDepth 1000000 in
theorem s_6_2 : sbinAt 26 6 2 = true := by kernel_rfl
set_option maxRecDepth 1000000 in
theorem s_6_3 : sbinAt 26 6 3 = true := by kernel_rfl
set_option maxRecDepth 1000000 in
theorem s_6_4 : sbinAt 26 6 4 = true := by kernel_rfl
set_option maxRecDepth 1000000 in
theorem s_6_5 : sbinAt 26 6 5 = true := by kernel_rfl
set_option maxRecDepth 1000000 in
theorem s_6_6 : sbinAt 26 6 6 = true := by kernel_rfl
set_option maxRecDepth 1000000 in
theorem s_6_7 : sbinAt 26 6 7 = true := by kernel_rfl
set_option maxRecDepth 1000000 in
theorem s_6_8 : sbinAt 26 6 8 = true := by kernel_rfl
set_option maxRecDepth 1000000 in
theorem s_6_9 : sbinAt 26 6 9 = true := by kernel_rfl
set_option maxRecDepth 1000000 in
theorem s_6_10 : sbinAt 26 6 10 = true := by kernel_rfl
set_option maxRecDepth 1000000 in
theorem s_6_11 : sbinAt 26 6 11 = true := by kernel_rfl
set_option maxRecDepth 1000000 in
theorem s_6_12 : sbinAt 26 6 12 = true := by kernel_rfl
set_option maxRecDepth 1000000 in
theorem s_6_13 : sbinAt 26 6 13 = true := by kernel_rfl
set_option maxRecDepth 1000000 in
theorem s_6_14 : sbinAt 26 6 14 = true := by kernel_rfl
set_option maxRecDepth 1000000 in
theorem s_6_15 : sbinAt 26 6 15 = true := by kernel_rfl
set_option maxRecDepth 1000000 in
theorem s_6_16 : sbinAt 26 6 16 = true := by kernel_rfl
set_option maxRecDepth 1000000 in
theorem s_6_17 : sbinAt 26 6 17 = true := by kernel_rfl
set_option maxRecDepth 1000000 in
theorem s_6_18 : sbinAt 26 6 18 = true := by kernel_rfl
set_option maxRecDepth 1000000 in
theorem s_6_19 : sbinAt 26 6 19 = true := by kernel_rfl
set_option maxRecDepth 1000000 in
theorem s_6_20 : sbinAt 26 6 20 = true := by kernel_rfl
set_option maxRecDepth 1000000 in
theorem s_6_21 : sbinAt 26 6 21 = true := by kernel_rfl
end Go.Proofs.Ytpjenggjcpahaaa.Bin

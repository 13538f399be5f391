/-
  Binomial sequences: what the code answers, a run for each case. No condition.
-/
import Derived.Test.YtpjenggjcpahaaaBin
namespace Go.Proofs.Ytpjenggjcpahaaa.Bin
open Go.ChangeShapes Go.WideShapes Go.ChangeAt Go.RowKit Go.Sx Go.Proofs.Ytpjenggjcpahaaa.Ids Go.Proofs.Ytpjenggjcpahaaa.Rep
set_option linter.unusedVariables false
set_option linter.unusedSimpArgs false

set_option maxRecDepth 1000000 in
theorem i_1_0 : binAt 25 prsI 1 0 = true := by kernel_rfl
set_option maxRecDepth 1000000 in
theorem i_1_1 : binAt 25 prsI 1 1 = true := by kernel_rfl
set_option maxRecDepth 1000000 in
theorem i_2_0 : binAt 25 prsI 2 0 = true := by kernel_rfl
set_option maxRecDepth 1000000 in
theorem i_2_1 : binAt 25 prsI 2 1 = true := by kernel_rfl
set_option maxRecDepth 1000000 in
theorem i_2_2 : binAt 25 prsI 2 2 = true := by kernel_rfl
set_option maxRecDepth 1000000 in
theorem i_2_3 : binAt 25 prsI 2 3 = true := by kernel_rfl
set_option maxRecDepth 1000000 in
theorem i_2_4 : binAt 25 prsI 2 4 = true := by kernel_rfl
set_option maxRecDepth 1000000 in
theorem i_3_0 : binAt 25 prsI 3 0 = true := by kernel_rfl
set_option maxRecDepth 1000000 in
theorem i_3_1 : binAt 25 prsI 3 1 = true := by kernel_rfl
set_option maxRecDepth 1000000 in
theorem i_3_2 : binAt 25 prsI 3 2 = true := by kernel_rfl
set_option maxRecDepth 1000000 in
theorem i_3_3 : binAt 25 prsI 3 3 = true := by kernel_rfl
set_option maxRecDepth 1000000 in
theorem i_3_4 : binAt 25 prsI 3 4 = true := by kernel_rfl
set_option maxRecDepth 1000000 in
theorem i_3_5 : binAt 25 prsI 3 5 = true := by kernel_rfl
set_option maxRecDepth 1000000 in
theorem i_3_6 : binAt 25 prsI 3 6 = true := by kernel_rfl
set_option maxRecDepth 1000000 in
theorem i_3_7 : binAt 25 prsI 3 7 = true := by kernel_rfl
set_option maxRecDepth 1000000 in
theorem i_3_8 : binAt 25 prsI 3 8 = true := by kernel_rfl
set_option maxRecDepth 1000000 in
theorem i_3_9 : binAt 25 prsI 3 9 = true := by kernel_rfl
set_option maxRecDepth 1000000 in
theorem i_3_10 : binAt 25 prsI 3 10 = true := by kernel_rfl
set_option maxRecDepth 1000000 in
theorem i_4_0 : binAt 25 prsI 4 0 = true := by kernel_rfl
set_option maxRecDepth 1000000 in
theorem i_4_1 : binAt 25 prsI 4 1 = true := by kernel_rfl
set_option maxRecDepth 1000000 in
theorem i_4_2 : binAt 25 prsI 4 2 = true := by kernel_rfl
set_option maxRecDepth 1000000 in
theorem i_4_3 : binAt 25 prsI 4 3 = true := by kernel_rfl
set_option maxRecDepth 1000000 in
theorem i_4_4 : binAt 25 prsI 4 4 = true := by kernel_rfl
set_option maxRecDepth 1000000 in
theorem i_4_5 : binAt 25 prsI 4 5 = true := by kernel_rfl
set_option maxRecDepth 1000000 in
theorem i_4_6 : binAt 25 prsI 4 6 = true := by kernel_rfl
set_option maxRecDepth 1000000 in
theorem i_4_7 : binAt 25 prsI 4 7 = true := by kernel_rfl
set_option maxRecDepth 1000000 in
theorem i_4_8 : binAt 25 prsI 4 8 = true := by kernel_rfl
set_option maxRecDepth 1000000 in
theorem i_4_9 : binAt 25 prsI 4 9 = true := by kernel_rfl
set_option maxRecDepth 1000000 in
theorem i_4_10 : binAt 25 prsI 4 10 = true := by kernel_rfl
set_option maxRecDepth 1000000 in
theorem i_4_11 : binAt 25 prsI 4 11 = true := by kernel_rfl
set_option maxRecDepth 1000000 in
theorem i_4_12 : binAt 25 prsI 4 12 = true := by kernel_rfl
set_option maxRecDepth 1000000 in
theorem i_4_13 : binAt 25 prsI 4 13 = true := by kernel_rfl
set_option maxRecDepth 1000000 in
theorem i_4_14 : binAt 25 prsI 4 14 = true := by kernel_rfl
set_option maxRecDepth 1000000 in
theorem i_4_15 : binAt 25 prsI 4 15 = true := by kernel_rfl
set_option maxRecDepth 1000000 in
theorem i_4_16 : binAt 25 prsI 4 16 = true := by kernel_rfl
set_option maxRecDepth 1000000 in
theorem i_4_17 : binAt 25 prsI 4 17 = true := by kernel_rfl
set_option maxRecDepth 1000000 in
theorem i_4_18 : binAt 25 prsI 4 18 = true := by kernel_rfl
set_option maxRecDepth 1000000 in
theorem i_4_19 : binAt 25 prsI 4 19 = true := by kernel_rfl
set_option maxRecDepth 1000000 in
theorem i_4_20 : binAt 25 prsI 4 20 = true := by kernel_rfl
set_option maxRecDepth 1000000 in
theorem i_5_0 : binAt 25 prsI 5 0 = true := by kernel_rfl
set_option maxRecDepth 1000000 in
theorem i_5_1 : binAt 25 prsI 5 1 = true := by kernel_rfl
set_option maxRecDepth 1000000 in
theorem i_5_2 : binAt 25 prsI 5 2 = true := by kernel_rfl
set_option maxRecDepth 1000000 in
theorem i_5_3 : binAt 25 prsI 5 3 = true := by kernel_rfl
set_option maxRecDepth 1000000 in
theorem i_5_4 : binAt 25 prsI 5 4 = true := by kernel_rfl
set_option maxRecDepth 1000000 in
theorem i_5_5 : binAt 25 prsI 5 5 = true := by kernel_rfl
set_option maxRecDepth 1000000 in
theorem i_5_6 : binAt 25 prsI 5 6 = true := by kernel_rfl
set_option maxRecDepth 1000000 in
theorem i_5_7 : binAt 25 prsI 5 7 = true := by kernel_rfl
set_option maxRecDepth 1000000 in
theorem i_5_8 : binAt 25 prsI 5 8 = true := by kernel_rfl
set_option maxRecDepth 1000000 in
theorem i_5_9 : binAt 25 prsI 5 9 = true := by kernel_rfl
set_option maxRecDepth 1000000 in
theorem i_5_10 : binAt 25 prsI 5 10 = true := by kernel_rfl
set_option maxRecDepth 1000000 in
theorem i_5_11 : binAt 25 prsI 5 11 = true := by kernel_rfl
set_option maxRecDepth 1000000 in
theorem i_5_12 : binAt 25 prsI 5 12 = true := by kernel_rfl
set_option maxRecDepth 1000000 in
theorem i_5_13 : binAt 25 prsI 5 13 = true := by kernel_rfl
set_option maxRecDepth 1000000 in
theorem i_5_14 : binAt 25 prsI 5 14 = true := by kernel_rfl
set_option maxRecDepth 1000000 in
theorem i_5_15 : binAt 25 prsI 5 15 = true := by kernel_rfl
set_option maxRecDepth 1000000 in
theorem i_5_16 : binAt 25 prsI 5 16 = true := by kernel_rfl
set_option maxRecDepth 1000000 in
theorem i_5_17 : binAt 25 prsI 5 17 = true := by kernel_rfl
set_option maxRecDepth 1000000 in
theorem i_5_18 : binAt 25 prsI 5 18 = true := by kernel_rfl
set_option maxRecDepth 1000000 in
theorem i_5_19 : binAt 25 prsI 5 19 = true := by kernel_rfl
set_option maxRecDepth 1000000 in
theorem i_5_20 : binAt 25 prsI 5 20 = true := by kernel_rfl
set_option maxRecDepth 1000000 in
theorem i_5_21 : binAt 25 prsI 5 21 = true := by kernel_rfl
set_option maxRecDepth 1000000 in
theorem i_5_22 : binAt 25 prsI 5 22 = true := by kernel_rfl
set_option maxRecDepth 1000000 in
theorem i_5_23 : binAt 25 prsI 5 23 = true := by kernel_rfl
set_option maxRecDepth 1000000 in
theorem i_5_24 : binAt 25 prsI 5 24 = true := by kernel_rfl
set_option maxRecDepth 1000000 in
theorem i_5_25 : binAt 25 prsI 5 25 = true := by kernel_rfl
set_option maxRecDepth 1000000 in
theorem i_5_26 : binAt 25 prsI 5 26 = true := by kernel_rfl
set_option maxRecDepth 1000000 in
theorem i_5_27 : binAt 25 prsI 5 27 = true := by kernel_rfl
set_option maxRecDepth 1000000 in
theorem i_5_28 : binAt 25 prsI 5 28 = true := by kernel_rfl
set_option maxRecDepth 1000000 in
theorem i_5_29 : binAt 25 prsI 5 29 = true := by kernel_rfl
set_option maxRecDepth 1000000 in
theorem i_5_30 : binAt 25 prsI 5 30 = true := by kernel_rfl
set_option maxRecDepth 1000000 in
theorem i_5_31 : binAt 25 prsI 5 31 = true := by kernel_rfl
set_option maxRecDepth 1000000 in
theorem i_5_32 : binAt 25 prsI 5 32 = true := by kernel_rfl
set_option maxRecDepth 1000000 in
theorem i_5_33 : binAt 25 prsI 5 33 = true := by kernel_rfl
set_option maxRecDepth 1000000 in
theorem i_5_34 : binAt 25 prsI 5 34 = true := by kernel_rfl
set_option maxRecDepth 1000000 in
theorem i_5_35 : binAt 25 prsI 5 35 = true := by kernel_rfl
end Go.Proofs.Ytpjenggjcpahaaa.Bin

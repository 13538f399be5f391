/-
  Binomial sequences: what the code answers, a run for each case. No condition.
-/
import Derived.Test.YtpjenggjcpahaaaBin
namespace Go.Proofs.Ytpjenggjcpahaaa.Bin
open Go.ChangeShapes Go.WideShapes Go.ChangeAt Go.RowKit Go.Sx Go.Proofs.Ytpjenggjcpahaaa.Ids Go.Proofs.Ytpjenggjcpahaaa.Rep
set_option linter.unusedVariables false
set_option linter.unusedSimpArgs false

set_option maxRecDepth 1000000 in
theorem i_6_0 : binAt 25 prsI 6 0 = true := by kernel_rfl
set_option maxRecDepth 1000000 in
theorem i_6_1 : binAt 25 prsI 6 1 = true := by kernel_rfl
set_option maxRecDepth 1000000 in
theorem i_6_2 : binAt 25 prsI 6 2 = true := by kernel_rfl
set_option maxRecDepth 1000000 in
theorem i_6_3 : binAt 25 prsI 6 3 = true := by kernel_rfl
set_option maxRecDepth 1000000 in
theorem i_6_4 : binAt 25 prsI 6 4 = true := by kernel_rfl
set_option maxRecDepth 1000000 in
theorem i_6_5 : binAt 25 prsI 6 5 = true := by kernel_rfl
set_option maxRecDepth 1000000 in
theorem i_6_6 : binAt 25 prsI 6 6 = true := by kernel_rfl
set_option maxRecDepth 1000000 in
theorem i_6_7 : binAt 25 prsI 6 7 = true := by kernel_rfl
set_option maxRecDepth 1000000 in
theorem i_6_8 : binAt 25 prsI 6 8 = true := by kernel_rfl
set_option maxRecDepth 1000000 in
theorem i_6_9 : binAt 25 prsI 6 9 = true := by kernel_rfl
set_option maxRecDepth 1000000 in
theorem i_6_10 : binAt 25 prsI 6 10 = true := by kernel_rfl
set_option maxRecDepth 1000000 in
theorem i_6_11 : binAt 25 prsI 6 11 = true := by kernel_rfl
set_option maxRecDepth 1000000 in
theorem i_6_12 : binAt 25 prsI 6 12 = true := by kernel_rfl
set_option maxRecDepth 1000000 in
theorem i_6_13 : binAt 25 prsI 6 13 = true := by kernel_rfl
set_option maxRecDepth 1000000 in
theorem i_6_14 : binAt 25 prsI 6 14 = true := by kernel_rfl
set_option maxRecDepth 1000000 in
theorem i_6_15 : binAt 25 prsI 6 15 = true := by kernel_rfl
set_option maxRecDepth 1000000 in
theorem i_6_16 : binAt 25 prsI 6 16 = true := by kernel_rfl
set_option maxRecDepth 1000000 in
theorem i_6_17 : binAt 25 prsI 6 17 = true := by kernel_rfl
set_option maxRecDepth 1000000 in
theorem i_6_18 : binAt 25 prsI 6 18 = true := by kernel_rfl
set_option maxRecDepth 1000000 in
theorem i_6_19 : binAt 25 prsI 6 19 = true := by kernel_rfl
set_option maxRecDepth 1000000 in
theorem i_6_20 : binAt 25 prsI 6 20 = true := by kernel_rfl
set_option maxRecDepth 1000000 in
theorem i_6_21 : binAt 25 prsI 6 21 = true := by kernel_rfl
set_option maxRecDepth 1000000 in
theorem i_6_22 : binAt 25 prsI 6 22 = true := by kernel_rfl
set_option maxRecDepth 1000000 in
theorem i_6_23 : binAt 25 prsI 6 23 = true := by kernel_rfl
set_option maxRecDepth 1000000 in
theorem i_6_24 : binAt 25 prsI 6 24 = true := by kernel_rfl
set_option maxRecDepth 1000000 in
theorem i_6_25 : binAt 25 prsI 6 25 = true := by kernel_rfl
set_option maxRecDepth 1000000 in
theorem i_6_26 : binAt 25 prsI 6 26 = true := by kernel_rfl
set_option maxRecDepth 1000000 in
theorem i_6_27 : binAt 25 prsI 6 27 = true := by kernel_rfl
set_option maxRecDepth 1000000 in
theorem i_6_28 : binAt 25 prsI 6 28 = true := by kernel_rfl
set_option maxRecDepth 1000000 in
theorem i_6_29 : binAt 25 prsI 6 29 = true := by kernel_rfl
set_option maxRecDepth 1000000 in
theorem i_6_30 : binAt 25 prsI 6 30 = true := by kernel_rfl
set_option maxRecDepth 1000000 in
theorem i_6_31 : binAt 25 prsI 6 31 = true := by kernel_rfl
set_option maxRecDepth 1000000 in
theorem i_6_32 : binAt 25 prsI 6 32 = true := by kernel_rfl
set_option maxRecDepth 1000000 in
theorem i_6_33 : binAt 25 prsI 6 33 = true := by kernel_rfl
set_option maxRecDepth 1000000 in
theorem i_6_34 : binAt 25 prsI 6 34 = true := by kernel_rfl
set_option maxRecDepth 1000000 in
theorem i_6_35 : binAt 25 prsI 6 35 = true := by kernel_rfl
set_option maxRecDepth 1000000 in
theorem i_6_36 : binAt 25 prsI 6 36 = true := by kernel_rfl
set_option maxRecDepth 1000000 in
theorem i_6_37 : binAt 25 prsI 6 37 = true := by kernel_rfl
set_option maxRecDepth 1000000 in
theorem i_6_38 : binAt 25 prsI 6 38 = true := by kernel_rfl
set_option maxRecDepth 1000000 in
theorem i_6_39 : binAt 25 prsI 6 39 = true := by kernel_rfl
set_option maxRecDepth 1000000 in
theorem i_6_40 : binAt 25 prsI 6 40 = true := by kernel_rfl
set_option maxRecDepth 1000000 in
theorem i_6_41 : binAt 25 prsI 6 41 = true := by kernel_rfl
set_option maxRecDepth 1000000 in
theorem i_6_42 : binAt 25 prsI 6 42 = true := by kernel_rfl
set_option maxRecDepth 1000000 in
theorem i_6_43 : binAt 25 prsI 6 43 = true := by kernel_rfl
set_option maxRecDepth 1000000 in
theorem i_6_44 : binAt 25 prsI 6 44 = true := by kernel_rfl
set_option maxRecDepth 1000000 in
theorem i_6_45 : binAt 25 prsI 6 45 = true := by kernel_rfl
set_option maxRecDepth 1000000 in
theorem i_6_46 : binAt 25 prsI 6 46 = true := by kernel_rfl
set_option maxRecDepth 1000000 in
theorem i_6_47 : binAt 25 prsI 6 47 = true := by kernel_rfl
set_option maxRecDepth 1000000 in
theorem i_6_48 : binAt 25 prsI 6 48 = true := by kernel_rfl
set_option maxRecDepth 1000000 in
theorem i_6_49 : binAt 25 prsI 6 49 = true := by kernel_rfl
set_option maxRecDepth 1000000 in
theorem i_6_50 : binAt 25 prsI 6 50 = true := by kernel_rfl
set_option maxRecDepth 1000000 in
theorem i_6_51 : binAt 25 prsI 6 51 = true := by kernel_rfl
set_option maxRecDepth 1000000 in
theorem i_6_52 : binAt 25 prsI 6 52 = true := by kernel_rfl
set_option maxRecDepth 1000000 in
theorem i_6_53 : binAt 25 prsI 6 53 = true := by kernel_rfl
set_option maxRecDepth 1000000 in
theorem i_6_54 : binAt 25 prsI 6 54 = true := by kernel_rfl
set_option maxRecDepth 1000000 in
theorem i_6_55 : binAt 25 prsI 6 55 = true := by kernel_rfl
set_option maxRecDepth 1000000 in
theorem i_6_56 : binAt 25 prsI 6 56 = true := by kernel_rfl
end Go.Proofs.Ytpjenggjcpahaaa.Bin

/-
  A part of the proof of FnWeightOfParts: ways, each a run. No condition.
-/
import Derived.Test.YtcpnlgjkijcmhaaDWeightA
import Derived.KernelRfl
namespace Go.Proofs.Ytcpnlgjkijcmhaa.DWeight
open Go.ChangeShapes Go.WideShapes Go.ChangeAt Go.RowKit Go.Sx Go.Proofs.Ytcpnlgjkijcmhaa.Ids Go.Proofs.Ytcpnlgjkijcmhaa.Way
set_option linter.unusedVariables false
set_option linter.unusedSimpArgs false

set_option maxRecDepth 1000000 in
theorem b_1_0 : atWay ((waysOf 1).getD 0 []) = true := by kernel_rfl
set_option maxRecDepth 1000000 in
theorem b_3_3 : atWay ((waysOf 3).getD 3 []) = true := by kernel_rfl
set_option maxRecDepth 1000000 in
theorem b_4_4 : atWay ((waysOf 4).getD 4 []) = true := by kernel_rfl
set_option maxRecDepth 1000000 in
theorem b_4_10 : atWay ((waysOf 4).getD 10 []) = true := by kernel_rfl
set_option maxRecDepth 1000000 in
theorem b_5_1 : atWay ((waysOf 5).getD 1 []) = true := by kernel_rfl
set_option maxRecDepth 1000000 in
theorem b_5_7 : atWay ((waysOf 5).getD 7 []) = true := by kernel_rfl
set_option maxRecDepth 1000000 in
theorem b_5_13 : atWay ((waysOf 5).getD 13 []) = true := by kernel_rfl
set_option maxRecDepth 1000000 in
theorem b_5_19 : atWay ((waysOf 5).getD 19 []) = true := by kernel_rfl
set_option maxRecDepth 1000000 in
theorem b_5_25 : atWay ((waysOf 5).getD 25 []) = true := by kernel_rfl
set_option maxRecDepth 1000000 in
theorem b_5_31 : atWay ((waysOf 5).getD 31 []) = true := by kernel_rfl
set_option maxRecDepth 1000000 in
theorem b_5_37 : atWay ((waysOf 5).getD 37 []) = true := by kernel_rfl
set_option maxRecDepth 1000000 in
theorem b_5_43 : atWay ((waysOf 5).getD 43 []) = true := by kernel_rfl
set_option maxRecDepth 1000000 in
theorem b_5_49 : atWay ((waysOf 5).getD 49 []) = true := by kernel_rfl
end Go.Proofs.Ytcpnlgjkijcmhaa.DWeight

/-
  A part of the proof of FnWeightOfParts: ways, each a run. No condition.
-/
import Derived.Test.YtcpnlgjkijcmhaaDWeightA
import Derived.KernelRfl
namespace Go.Proofs.Ytcpnlgjkijcmhaa.DWeight
open Go.ChangeShapes Go.WideShapes Go.ChangeAt Go.RowKit Go.Sx Go.Proofs.Ytcpnlgjkijcmhaa.Ids Go.Proofs.Ytcpnlgjkijcmhaa.Way
set_option linter.unusedVariables false
set_option linter.unusedSimpArgs false

set_option maxRecDepth 1000000 in
theorem b_2_1 : atWay ((waysOf 2).getD 1 []) = true := by kernel_rfl
set_option maxRecDepth 1000000 in
theorem b_4_0 : atWay ((waysOf 4).getD 0 []) = true := by kernel_rfl
set_option maxRecDepth 1000000 in
theorem b_4_6 : atWay ((waysOf 4).getD 6 []) = true := by kernel_rfl
set_option maxRecDepth 1000000 in
theorem b_4_12 : atWay ((waysOf 4).getD 12 []) = true := by kernel_rfl
set_option maxRecDepth 1000000 in
theorem b_5_3 : atWay ((waysOf 5).getD 3 []) = true := by kernel_rfl
set_option maxRecDepth 1000000 in
theorem b_5_9 : atWay ((waysOf 5).getD 9 []) = true := by kernel_rfl
set_option maxRecDepth 1000000 in
theorem b_5_15 : atWay ((waysOf 5).getD 15 []) = true := by kernel_rfl
set_option maxRecDepth 1000000 in
theorem b_5_21 : atWay ((waysOf 5).getD 21 []) = true := by kernel_rfl
set_option maxRecDepth 1000000 in
theorem b_5_27 : atWay ((waysOf 5).getD 27 []) = true := by kernel_rfl
set_option maxRecDepth 1000000 in
theorem b_5_33 : atWay ((waysOf 5).getD 33 []) = true := by kernel_rfl
set_option maxRecDepth 1000000 in
theorem b_5_39 : atWay ((waysOf 5).getD 39 []) = true := by kernel_rfl
set_option maxRecDepth 1000000 in
theorem b_5_45 : atWay ((waysOf 5).getD 45 []) = true := by kernel_rfl
set_option maxRecDepth 1000000 in
theorem b_5_51 : atWay ((waysOf 5).getD 51 []) = true := by kernel_rfl
end Go.Proofs.Ytcpnlgjkijcmhaa.DWeight

/-
  A part of the proof of FnWeightOfParts: ways, each a run. No condition.
-/
import Derived.Test.YtcpnlgjkijcmhaaDWeightA
import Derived.KernelRfl
namespace Go.Proofs.Ytcpnlgjkijcmhaa.DWeight
open Go.ChangeShapes Go.WideShapes Go.ChangeAt Go.RowKit Go.Sx Go.Proofs.Ytcpnlgjkijcmhaa.Ids Go.Proofs.Ytcpnlgjkijcmhaa.Way
set_option linter.unusedVariables false
set_option linter.unusedSimpArgs false

set_option maxRecDepth 1000000 in
theorem b_3_0 : atWay ((waysOf 3).getD 0 []) = true := by kernel_rfl
set_option maxRecDepth 1000000 in
theorem b_4_1 : atWay ((waysOf 4).getD 1 []) = true := by kernel_rfl
set_option maxRecDepth 1000000 in
theorem b_4_7 : atWay ((waysOf 4).getD 7 []) = true := by kernel_rfl
set_option maxRecDepth 1000000 in
theorem b_4_13 : atWay ((waysOf 4).getD 13 []) = true := by kernel_rfl
set_option maxRecDepth 1000000 in
theorem b_5_4 : atWay ((waysOf 5).getD 4 []) = true := by kernel_rfl
set_option maxRecDepth 1000000 in
theorem b_5_10 : atWay ((waysOf 5).getD 10 []) = true := by kernel_rfl
set_option maxRecDepth 1000000 in
theorem b_5_16 : atWay ((waysOf 5).getD 16 []) = true := by kernel_rfl
set_option maxRecDepth 1000000 in
theorem b_5_22 : atWay ((waysOf 5).getD 22 []) = true := by kernel_rfl
set_option maxRecDepth 1000000 in
theorem b_5_28 : atWay ((waysOf 5).getD 28 []) = true := by kernel_rfl
set_option maxRecDepth 1000000 in
theorem b_5_34 : atWay ((waysOf 5).getD 34 []) = true := by kernel_rfl
set_option maxRecDepth 1000000 in
theorem b_5_40 : atWay ((waysOf 5).getD 40 []) = true := by kernel_rfl
set_option maxRecDepth 1000000 in
theorem b_5_46 : atWay ((waysOf 5).getD 46 []) = true := by kernel_rfl
end Go.Proofs.Ytcpnlgjkijcmhaa.DWeight

/-
  A part of the proof of FnWeightOfParts: ways, each a run. No condition.
-/
import Derived.Test.YtcpnlgjkijcmhaaDWeightA
import Derived.KernelRfl
namespace Go.Proofs.Ytcpnlgjkijcmhaa.DWeight
open Go.ChangeShapes Go.WideShapes Go.ChangeAt Go.RowKit Go.Sx Go.Proofs.Ytcpnlgjkijcmhaa.Ids Go.Proofs.Ytcpnlgjkijcmhaa.Way
set_option linter.unusedVariables false
set_option linter.unusedSimpArgs false

set_option maxRecDepth 1000000 in
theorem b_2_0 : atWay ((waysOf 2).getD 0 []) = true := by kernel_rfl
set_option maxRecDepth 1000000 in
theorem b_3_4 : atWay ((waysOf 3).getD 4 []) = true := by kernel_rfl
set_option maxRecDepth 1000000 in
theorem b_4_5 : atWay ((waysOf 4).getD 5 []) = true := by kernel_rfl
set_option maxRecDepth 1000000 in
theorem b_4_11 : atWay ((waysOf 4).getD 11 []) = true := by kernel_rfl
set_option maxRecDepth 1000000 in
theorem b_5_2 : atWay ((waysOf 5).getD 2 []) = true := by kernel_rfl
set_option maxRecDepth 1000000 in
theorem b_5_8 : atWay ((waysOf 5).getD 8 []) = true := by kernel_rfl
set_option maxRecDepth 1000000 in
theorem b_5_14 : atWay ((waysOf 5).getD 14 []) = true := by kernel_rfl
set_option maxRecDepth 1000000 in
theorem b_5_20 : atWay ((waysOf 5).getD 20 []) = true := by kernel_rfl
set_option maxRecDepth 1000000 in
theorem b_5_26 : atWay ((waysOf 5).getD 26 []) = true := by kernel_rfl
set_option maxRecDepth 1000000 in
theorem b_5_32 : atWay ((waysOf 5).getD 32 []) = true := by kernel_rfl
set_option maxRecDepth 1000000 in
theorem b_5_38 : atWay ((waysOf 5).getD 38 []) = true := by kernel_rfl
set_option maxRecDepth 1000000 in
theorem b_5_44 : atWay ((waysOf 5).getD 44 []) = true := by kernel_rfl
set_option maxRecDepth 1000000 in
theorem b_5_50 : atWay ((waysOf 5).getD 50 []) = true := by kernel_rfl
end Go.Proofs.Ytcpnlgjkijcmhaa.DWeight

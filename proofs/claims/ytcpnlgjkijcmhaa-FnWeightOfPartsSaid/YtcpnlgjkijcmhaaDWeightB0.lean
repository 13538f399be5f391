/-
  A part of the proof of FnWeightOfParts: ways, each a run. No condition.
-/
import Derived.Test.YtcpnlgjkijcmhaaDWeightA
import Derived.KernelRfl
namespace Go.Proofs.Ytcpnlgjkijcmhaa.DWeight
open Go.ChangeShapes Go.WideShapes Go.ChangeAt Go.RowKit Go.Sx Go.Proofs.Ytcpnlgjkijcmhaa.Ids Go.Proofs.Ytcpnlgjkijcmhaa.Way
set_option linter.unusedVariables false
set_option linter.unusedSimpArgs false

set_option maxRecDepth 1000000 in
theorem b_0_0 : atWay ((waysOf 0).getD 0 []) = true := by kernel_rfl
set_option maxRecDepth 1000000 in
theorem b_3_2 : atWay ((waysOf 3).getD 2 []) = true := by kernel_rfl
set_option maxRecDepth 1000000 in
theorem b_4_3 : atWay ((waysOf 4).getD 3 []) = true := by kernel_rfl
set_option maxRecDepth 1000000 in
theorem b_4_9 : atWay ((waysOf 4).getD 9 []) = true := by kernel_rfl
set_option maxRecDepth 1000000 in
theorem b_5_0 : atWay ((waysOf 5).getD 0 []) = true := by kernel_rfl
set_option maxRecDepth 1000000 in
theorem b_5_6 : atWay ((waysOf 5).getD 6 []) = true := by kernel_rfl
set_option maxRecDepth 1000000 in
theorem b_5_12 : atWay ((waysOf 5).getD 12 []) = true := by kernel_rfl
set_option maxRecDepth 1000000 in
theorem b_5_18 : atWay ((waysOf 5).getD 18 []) = true := by kernel_rfl
set_option maxRecDepth 1000000 in
theorem b_5_24 : atWay ((waysOf 5).getD 24 []) = true := by kernel_rfl
set_option maxRecDepth 1000000 in
theorem b_5_30 : atWay ((waysOf 5).getD 30 []) = true := by kernel_rfl
set_option maxRecDepth 1000000 in
theorem b_5_36 : atWay ((waysOf 5).getD 36 []) = true := by kernel_rfl
set_option maxRecDepth 1000000 in
theorem b_5_42 : atWay ((waysOf 5).getD 42 []) = true := by kernel_rfl
set_option maxRecDepth 1000000 in
theorem b_5_48 : atWay ((waysOf 5).getD 48 []) = true := by kernel_rfl
end Go.Proofs.Ytcpnlgjkijcmhaa.DWeight

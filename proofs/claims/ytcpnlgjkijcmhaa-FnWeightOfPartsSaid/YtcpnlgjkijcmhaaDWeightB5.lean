/-
  A part of the proof of FnWeightOfParts: ways, each a run. No condition.
-/
import Derived.Test.YtcpnlgjkijcmhaaDWeightA
import Derived.KernelRfl
namespace Go.Proofs.Ytcpnlgjkijcmhaa.DWeight
open Go.ChangeShapes Go.WideShapes Go.ChangeAt Go.RowKit Go.Sx Go.Proofs.Ytcpnlgjkijcmhaa.Ids Go.Proofs.Ytcpnlgjkijcmhaa.Way
set_option linter.unusedVariables false
set_option linter.unusedSimpArgs false

set_option maxRecDepth 1000000 in
theorem b_3_1 : atWay ((waysOf 3).getD 1 []) = true := by kernel_rfl
set_option maxRecDepth 1000000 in
theorem b_4_2 : atWay ((waysOf 4).getD 2 []) = true := by kernel_rfl
set_option maxRecDepth 1000000 in
theorem b_4_8 : atWay ((waysOf 4).getD 8 []) = true := by kernel_rfl
set_option maxRecDepth 1000000 in
theorem b_4_14 : atWay ((waysOf 4).getD 14 []) = true := by kernel_rfl
set_option maxRecDepth 1000000 in
theorem b_5_5 : atWay ((waysOf 5).getD 5 []) = true := by kernel_rfl
set_option maxRecDepth 1000000 in
theorem b_5_11 : atWay ((waysOf 5).getD 11 []) = true := by kernel_rfl
set_option maxRecDepth 1000000 in
theorem b_5_17 : atWay ((waysOf 5).getD 17 []) = true := by kernel_rfl
set_option maxRecDepth 1000000 in
theorem b_5_23 : atWay ((waysOf 5).getD 23 []) = true := by kernel_rfl
set_option maxRecDepth 1000000 in
theorem b_5_29 : atWay ((waysOf 5).getD 29 []) = true := by kernel_rfl
set_option maxRecDepth 1000000 in
theorem b_5_35 : atWay ((waysOf 5).getD 35 []) = true := by kernel_rfl
set_option maxRecDepth 1000000 in
theorem b_5_41 : atWay ((waysOf 5).getD 41 []) = true := by kernel_rfl
set_option maxRecDepth 1000000 in
theorem b_5_47 : atWay ((waysOf 5).getD 47 []) = true := by kernel_rfl
end Go.Proofs.Ytcpnlgjkijcmhaa.DWeight

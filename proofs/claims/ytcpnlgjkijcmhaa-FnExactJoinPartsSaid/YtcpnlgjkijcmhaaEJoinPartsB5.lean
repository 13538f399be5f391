/-
  A part of the proof of FnExactJoinParts: pairs of ways, each a run. No condition.
-/
import Derived.Test.YtcpnlgjkijcmhaaEJoinPartsA
import Derived.KernelRfl
namespace Go.Proofs.Ytcpnlgjkijcmhaa.EJoinParts
open Go.ChangeShapes Go.WideShapes Go.ChangeAt Go.RowKit Go.Sx Go.Proofs.Ytcpnlgjkijcmhaa.Ids Go.Proofs.Ytcpnlgjkijcmhaa.Way
set_option linter.unusedVariables false
set_option linter.unusedSimpArgs false

open Go.Proofs.Ytcpnlgjkijcmhaa.WayJ
set_option maxRecDepth 1000000 in
theorem b_5_32_26 : wayBlk atWays 5 32 26 26 = true := by kernel_rfl
set_option maxRecDepth 1000000 in
theorem b_5_33_0 : wayBlk atWays 5 33 0 26 = true := by kernel_rfl
set_option maxRecDepth 1000000 in
theorem b_5_33_26 : wayBlk atWays 5 33 26 26 = true := by kernel_rfl
set_option maxRecDepth 1000000 in
theorem b_5_34_0 : wayBlk atWays 5 34 0 26 = true := by kernel_rfl
set_option maxRecDepth 1000000 in
theorem b_5_34_26 : wayBlk atWays 5 34 26 26 = true := by kernel_rfl
set_option maxRecDepth 1000000 in
theorem b_5_35_0 : wayBlk atWays 5 35 0 26 = true := by kernel_rfl
set_option maxRecDepth 1000000 in
theorem b_5_35_26 : wayBlk atWays 5 35 26 26 = true := by kernel_rfl
set_option maxRecDepth 1000000 in
theorem b_5_36_0 : wayBlk atWays 5 36 0 26 = true := by kernel_rfl
set_option maxRecDepth 1000000 in
theorem b_5_36_26 : wayBlk atWays 5 36 26 26 = true := by kernel_rfl
set_option maxRecDepth 1000000 in
theorem b_5_37_0 : wayBlk atWays 5 37 0 26 = true := by kernel_rfl
set_option maxRecDepth 1000000 in
theorem b_5_37_26 : wayBlk atWays 5 37 26 26 = true := by kernel_rfl
set_option maxRecDepth 1000000 in
theorem b_5_38_0 : wayBlk atWays 5 38 0 26 = true := by kernel_rfl
set_option maxRecDepth 1000000 in
theorem b_5_38_26 : wayBlk atWays 5 38 26 26 = true := by kernel_rfl
set_option maxRecDepth 1000000 in
theorem b_5_39_0 : wayBlk atWays 5 39 0 26 = true := by kernel_rfl
set_option maxRecDepth 1000000 in
theorem b_5_39_26 : wayBlk atWays 5 39 26 26 = true := by kernel_rfl
end Go.Proofs.Ytcpnlgjkijcmhaa.EJoinParts

/-
  A part of the proof of FnExactJoinParts: pairs of ways, each a run. No condition.
-/
import Derived.Test.YtcpnlgjkijcmhaaEJoinPartsA
import Derived.KernelRfl
namespace Go.Proofs.Ytcpnlgjkijcmhaa.EJoinParts
open Go.ChangeShapes Go.WideShapes Go.ChangeAt Go.RowKit Go.Sx Go.Proofs.Ytcpnlgjkijcmhaa.Ids Go.Proofs.Ytcpnlgjkijcmhaa.Way
set_option linter.unusedVariables false
set_option linter.unusedSimpArgs false

open Go.Proofs.Ytcpnlgjkijcmhaa.WayJ
set_option maxRecDepth 1000000 in
theorem b_5_2_26 : wayBlk atWays 5 2 26 26 = true := by kernel_rfl
set_option maxRecDepth 1000000 in
theorem b_5_3_0 : wayBlk atWays 5 3 0 26 = true := by kernel_rfl
set_option maxRecDepth 1000000 in
theorem b_5_3_26 : wayBlk atWays 5 3 26 26 = true := by kernel_rfl
set_option maxRecDepth 1000000 in
theorem b_5_4_0 : wayBlk atWays 5 4 0 26 = true := by kernel_rfl
set_option maxRecDepth 1000000 in
theorem b_5_4_26 : wayBlk atWays 5 4 26 26 = true := by kernel_rfl
set_option maxRecDepth 1000000 in
theorem b_5_5_0 : wayBlk atWays 5 5 0 26 = true := by kernel_rfl
set_option maxRecDepth 1000000 in
theorem b_5_5_26 : wayBlk atWays 5 5 26 26 = true := by kernel_rfl
set_option maxRecDepth 1000000 in
theorem b_5_6_0 : wayBlk atWays 5 6 0 26 = true := by kernel_rfl
set_option maxRecDepth 1000000 in
theorem b_5_6_26 : wayBlk atWays 5 6 26 26 = true := by kernel_rfl
set_option maxRecDepth 1000000 in
theorem b_5_7_0 : wayBlk atWays 5 7 0 26 = true := by kernel_rfl
set_option maxRecDepth 1000000 in
theorem b_5_7_26 : wayBlk atWays 5 7 26 26 = true := by kernel_rfl
set_option maxRecDepth 1000000 in
theorem b_5_8_0 : wayBlk atWays 5 8 0 26 = true := by kernel_rfl
set_option maxRecDepth 1000000 in
theorem b_5_8_26 : wayBlk atWays 5 8 26 26 = true := by kernel_rfl
set_option maxRecDepth 1000000 in
theorem b_5_9_0 : wayBlk atWays 5 9 0 26 = true := by kernel_rfl
set_option maxRecDepth 1000000 in
theorem b_5_9_26 : wayBlk atWays 5 9 26 26 = true := by kernel_rfl
end Go.Proofs.Ytcpnlgjkijcmhaa.EJoinParts

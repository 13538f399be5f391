/-
  A part of the proof of FnExactJoinParts: pairs of ways, each a run. No condition.
-/
import Derived.Test.YtcpnlgjkijcmhaaEJoinPartsA
import Derived.KernelRfl
namespace Go.Proofs.Ytcpnlgjkijcmhaa.EJoinParts
open Go.ChangeShapes Go.WideShapes Go.ChangeAt Go.RowKit Go.Sx Go.Proofs.Ytcpnlgjkijcmhaa.Ids Go.Proofs.Ytcpnlgjkijcmhaa.Way
set_option linter.unusedVariables false
set_option linter.unusedSimpArgs false

open Go.Proofs.Ytcpnlgjkijcmhaa.WayJ
set_option maxRecDepth 1000000 in
theorem b_5_10_0 : wayBlk atWays 5 10 0 26 = true := by kernel_rfl
set_option maxRecDepth 1000000 in
theorem b_5_10_26 : wayBlk atWays 5 10 26 26 = true := by kernel_rfl
set_option maxRecDepth 1000000 in
theorem b_5_11_0 : wayBlk atWays 5 11 0 26 = true := by kernel_rfl
set_option maxRecDepth 1000000 in
theorem b_5_11_26 : wayBlk atWays 5 11 26 26 = true := by kernel_rfl
set_option maxRecDepth 1000000 in
theorem b_5_12_0 : wayBlk atWays 5 12 0 26 = true := by kernel_rfl
set_option maxRecDepth 1000000 in
theorem b_5_12_26 : wayBlk atWays 5 12 26 26 = true := by kernel_rfl
set_option maxRecDepth 1000000 in
theorem b_5_13_0 : wayBlk atWays 5 13 0 26 = true := by kernel_rfl
set_option maxRecDepth 1000000 in
theorem b_5_13_26 : wayBlk atWays 5 13 26 26 = true := by kernel_rfl
set_option maxRecDepth 1000000 in
theorem b_5_14_0 : wayBlk atWays 5 14 0 26 = true := by kernel_rfl
set_option maxRecDepth 1000000 in
theorem b_5_14_26 : wayBlk atWays 5 14 26 26 = true := by kernel_rfl
set_option maxRecDepth 1000000 in
theorem b_5_15_0 : wayBlk atWays 5 15 0 26 = true := by kernel_rfl
set_option maxRecDepth 1000000 in
theorem b_5_15_26 : wayBlk atWays 5 15 26 26 = true := by kernel_rfl
set_option maxRecDepth 1000000 in
theorem b_5_16_0 : wayBlk atWays 5 16 0 26 = true := by kernel_rfl
set_option maxRecDepth 1000000 in
theorem b_5_16_26 : wayBlk atWays 5 16 26 26 = true := by kernel_rfl
set_option maxRecDepth 1000000 in
theorem b_5_17_0 : wayBlk atWays 5 17 0 26 = true := by kernel_rfl
end Go.Proofs.Ytcpnlgjkijcmhaa.EJoinParts

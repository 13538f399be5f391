/-
  A part of the proof of FnExactMeetParts: pairs of ways, each a run. No condition.
-/
import Derived.Test.YtcpnlgjkijcmhaaEMeetPartsA
import Derived.KernelRfl
namespace Go.Proofs.Ytcpnlgjkijcmhaa.EMeetParts
open Go.ChangeShapes Go.WideShapes Go.ChangeAt Go.RowKit Go.Sx Go.Proofs.Ytcpnlgjkijcmhaa.Ids Go.Proofs.Ytcpnlgjkijcmhaa.Way
set_option linter.unusedVariables false
set_option linter.unusedSimpArgs false

set_option maxRecDepth 1000000 in
theorem b_5_5_0 : wayBlk atWays 5 5 0 26 = true := by kernel_rfl
set_option maxRecDepth 1000000 in
theorem b_5_5_26 : wayBlk atWays 5 5 26 26 = true := by kernel_rfl
set_option maxRecDepth 1000000 in
theorem b_5_6_0 : wayBlk atWays 5 6 0 26 = true := by kernel_rfl
set_option maxRecDepth 1000000 in
theorem b_5_6_26 : wayBlk atWays 5 6 26 26 = true := by kernel_rfl
set_option maxRecDepth 1000000 in
theorem b_5_7_0 : wayBlk atWays 5 7 0 26 = true := by kernel_rfl
set_option maxRecDepth 1000000 in
theorem b_5_7_26 : wayBlk atWays 5 7 26 26 = true := by kernel_rfl
set_option maxRecDepth 1000000 in
theorem b_5_8_0 : wayBlk atWays 5 8 0 26 = true := by kernel_rfl
set_option maxRecDepth 1000000 in
theorem b_5_8_26 : wayBlk atWays 5 8 26 26 = true := by kernel_rfl
set_option maxRecDepth 1000000 in
theorem b_5_9_0 : wayBlk atWays 5 9 0 26 = true := by kernel_rfl
set_option maxRecDepth 1000000 in
theorem b_5_9_26 : wayBlk atWays 5 9 26 26 = true := by kernel_rfl
set_option maxRecDepth 1000000 in
theorem b_5_10_0 : wayBlk atWays 5 10 0 26 = true := by kernel_rfl
set_option maxRecDepth 1000000 in
theorem b_5_10_26 : wayBlk atWays 5 10 26 26 = true := by kernel_rfl
set_option maxRecDepth 1000000 in
theorem b_5_11_0 : wayBlk atWays 5 11 0 26 = true := by kernel_rfl
set_option maxRecDepth 1000000 in
theorem b_5_11_26 : wayBlk atWays 5 11 26 26 = true := by kernel_rfl
set_option maxRecDepth 1000000 in
theorem b_5_12_0 : wayBlk atWays 5 12 0 26 = true := by kernel_rfl
set_option maxRecDepth 1000000 in
theorem b_5_12_26 : wayBlk atWays 5 12 26 26 = true := by kernel_rfl
set_option maxRecDepth 1000000 in
theorem b_5_13_0 : wayBlk atWays 5 13 0 26 = true := by kernel_rfl
set_option maxRecDepth 1000000 in
theorem b_5_13_26 : wayBlk atWays 5 13 26 26 = true := by kernel_rfl
set_option maxRecDepth 1000000 in
theorem b_5_14_0 : wayBlk atWays 5 14 0 26 = true := by kernel_rfl
end Go.Proofs.Ytcpnlgjkijcmhaa.EMeetParts

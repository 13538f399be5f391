/-
  A part of the proof of FnExactMeetParts: pairs of ways, each a run. No condition.
-/
import Derived.Test.YtcpnlgjkijcmhaaEMeetPartsA
import Derived.KernelRfl
namespace Go.Proofs.Ytcpnlgjkijcmhaa.EMeetParts
open Go.ChangeShapes Go.WideShapes Go.ChangeAt Go.RowKit Go.Sx Go.Proofs.Ytcpnlgjkijcmhaa.Ids Go.Proofs.Ytcpnlgjkijcmhaa.Way
set_option linter.unusedVariables false
set_option linter.unusedSimpArgs false

set_option maxRecDepth 1000000 in
theorem b_5_14_26 : wayBlk atWays 5 14 26 26 = true := by kernel_rfl
set_option maxRecDepth 1000000 in
theorem b_5_15_0 : wayBlk atWays 5 15 0 26 = true := by kernel_rfl
set_option maxRecDepth 1000000 in
theorem b_5_15_26 : wayBlk atWays 5 15 26 26 = true := by kernel_rfl
set_option maxRecDepth 1000000 in
theorem b_5_16_0 : wayBlk atWays 5 16 0 26 = true := by kernel_rfl
set_option maxRecDepth 1000000 in
theorem b_5_16_26 : wayBlk atWays 5 16 26 26 = true := by kernel_rfl
set_option maxRecDepth 1000000 in
theorem b_5_17_0 : wayBlk atWays 5 17 0 26 = true := by kernel_rfl
set_option maxRecDepth 1000000 in
theorem b_5_17_26 : wayBlk atWays 5 17 26 26 = true := by kernel_rfl
set_option maxRecDepth 1000000 in
theorem b_5_18_0 : wayBlk atWays 5 18 0 26 = true := by kernel_rfl
set_option maxRecDepth 1000000 in
theorem b_5_18_26 : wayBlk atWays 5 18 26 26 = true := by kernel_rfl
set_option maxRecDepth 1000000 in
theorem b_5_19_0 : wayBlk atWays 5 19 0 26 = true := by kernel_rfl
set_option maxRecDepth 1000000 in
theorem b_5_19_26 : wayBlk atWays 5 19 26 26 = true := by kernel_rfl
set_option maxRecDepth 1000000 in
theorem b_5_20_0 : wayBlk atWays 5 20 0 26 = true := by kernel_rfl
set_option maxRecDepth 1000000 in
theorem b_5_20_26 : wayBlk atWays 5 20 26 26 = true := by kernel_rfl
set_option maxRecDepth 1000000 in
theorem b_5_21_0 : wayBlk atWays 5 21 0 26 = true := by kernel_rfl
set_option maxRecDepth 1000000 in
theorem b_5_21_26 : wayBlk atWays 5 21 26 26 = true := by kernel_rfl
set_option maxRecDepth 1000000 in
theorem b_5_22_0 : wayBlk atWays 5 22 0 26 = true := by kernel_rfl
set_option maxRecDepth 1000000 in
theorem b_5_22_26 : wayBlk atWays 5 22 26 26 = true := by kernel_rfl
set_option maxRecDepth 1000000 in
theorem b_5_23_0 : wayBlk atWays 5 23 0 26 = true := by kernel_rfl
set_option maxRecDepth 1000000 in
theorem b_5_23_26 : wayBlk atWays 5 23 26 26 = true := by kernel_rfl
end Go.Proofs.Ytcpnlgjkijcmhaa.EMeetParts

/-
  A part of the proof of FnExactMeetParts: pairs of ways, each a run. No condition.
-/
import Derived.Test.YtcpnlgjkijcmhaaEMeetPartsA
import Derived.KernelRfl
namespace Go.Proofs.Ytcpnlgjkijcmhaa.EMeetParts
open Go.ChangeShapes Go.WideShapes Go.ChangeAt Go.RowKit Go.Sx Go.Proofs.Ytcpnlgjkijcmhaa.Ids Go.Proofs.Ytcpnlgjkijcmhaa.Way
set_option linter.unusedVariables false
set_option linter.unusedSimpArgs false

set_option maxRecDepth 1000000 in
theorem b_5_33_26 : wayBlk atWays 5 33 26 26 = true := by kernel_rfl
set_option maxRecDepth 1000000 in
theorem b_5_34_0 : wayBlk atWays 5 34 0 26 = true := by kernel_rfl
set_option maxRecDepth 1000000 in
theorem b_5_34_26 : wayBlk atWays 5 34 26 26 = true := by kernel_rfl
set_option maxRecDepth 1000000 in
theorem b_5_35_0 : wayBlk atWays 5 35 0 26 = true := by kernel_rfl
set_option maxRecDepth 1000000 in
theorem b_5_35_26 : wayBlk atWays 5 35 26 26 = true := by kernel_rfl
set_option maxRecDepth 1000000 in
theorem b_5_36_0 : wayBlk atWays 5 36 0 26 = true := by kernel_rfl
set_option maxRecDepth 1000000 in
theorem b_5_36_26 : wayBlk atWays 5 36 26 26 = true := by kernel_rfl
set_option maxRecDepth 1000000 in
theorem b_5_37_0 : wayBlk atWays 5 37 0 26 = true := by kernel_rfl
set_option maxRecDepth 1000000 in
theorem b_5_37_26 : wayBlk atWays 5 37 26 26 = true := by kernel_rfl
set_option maxRecDepth 1000000 in
theorem b_5_38_0 : wayBlk atWays 5 38 0 26 = true := by kernel_rfl
set_option maxRecDepth 1000000 in
theorem b_5_38_26 : wayBlk atWays 5 38 26 26 = true := by kernel_rfl
set_option maxRecDepth 1000000 in
theorem b_5_39_0 : wayBlk atWays 5 39 0 26 = true := by kernel_rfl
set_option maxRecDepth 1000000 in
theorem b_5_39_26 : wayBlk atWays 5 39 26 26 = true := by kernel_rfl
set_option maxRecDepth 1000000 in
theorem b_5_40_0 : wayBlk atWays 5 40 0 26 = true := by kernel_rfl
set_option maxRecDepth 1000000 in
theorem b_5_40_26 : wayBlk atWays 5 40 26 26 = true := by kernel_rfl
set_option maxRecDepth 1000000 in
theorem b_5_41_0 : wayBlk atWays 5 41 0 26 = true := by kernel_rfl
set_option maxRecDepth 1000000 in
theorem b_5_41_26 : wayBlk atWays 5 41 26 26 = true := by kernel_rfl
set_option maxRecDepth 1000000 in
theorem b_5_42_0 : wayBlk atWays 5 42 0 26 = true := by kernel_rfl
set_option maxRecDepth 1000000 in
theorem b_5_42_26 : wayBlk atWays 5 42 26 26 = true := by kernel_rfl
end Go.Proofs.Ytcpnlgjkijcmhaa.EMeetParts

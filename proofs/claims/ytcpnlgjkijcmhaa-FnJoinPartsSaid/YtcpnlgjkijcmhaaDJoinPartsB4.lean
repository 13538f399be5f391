/-
  A part of the proof of FnJoinParts: pairs of ways, each a run. No condition.
-/
import Derived.Test.YtcpnlgjkijcmhaaDJoinPartsA
import Derived.KernelRfl
namespace Go.Proofs.Ytcpnlgjkijcmhaa.DJoinParts
open Go.ChangeShapes Go.WideShapes Go.ChangeAt Go.RowKit Go.Sx Go.Proofs.Ytcpnlgjkijcmhaa.Ids Go.Proofs.Ytcpnlgjkijcmhaa.Way
set_option linter.unusedVariables false
set_option linter.unusedSimpArgs false

open Go.Proofs.Ytcpnlgjkijcmhaa.WayJ
set_option maxRecDepth 1000000 in
theorem b_5_33_13 : wayBlk atWays 5 33 13 13 = true := by kernel_rfl
set_option maxRecDepth 1000000 in
theorem b_5_33_26 : wayBlk atWays 5 33 26 13 = true := by kernel_rfl
set_option maxRecDepth 1000000 in
theorem b_5_33_39 : wayBlk atWays 5 33 39 13 = true := by kernel_rfl
set_option maxRecDepth 1000000 in
theorem b_5_34_0 : wayBlk atWays 5 34 0 13 = true := by kernel_rfl
set_option maxRecDepth 1000000 in
theorem b_5_34_13 : wayBlk atWays 5 34 13 13 = true := by kernel_rfl
set_option maxRecDepth 1000000 in
theorem b_5_34_26 : wayBlk atWays 5 34 26 13 = true := by kernel_rfl
set_option maxRecDepth 1000000 in
theorem b_5_34_39 : wayBlk atWays 5 34 39 13 = true := by kernel_rfl
set_option maxRecDepth 1000000 in
theorem b_5_35_0 : wayBlk atWays 5 35 0 13 = true := by kernel_rfl
set_option maxRecDepth 1000000 in
theorem b_5_35_13 : wayBlk atWays 5 35 13 13 = true := by kernel_rfl
set_option maxRecDepth 1000000 in
theorem b_5_35_26 : wayBlk atWays 5 35 26 13 = true := by kernel_rfl
set_option maxRecDepth 1000000 in
theorem b_5_35_39 : wayBlk atWays 5 35 39 13 = true := by kernel_rfl
set_option maxRecDepth 1000000 in
theorem b_5_36_0 : wayBlk atWays 5 36 0 13 = true := by kernel_rfl
set_option maxRecDepth 1000000 in
theorem b_5_36_13 : wayBlk atWays 5 36 13 13 = true := by kernel_rfl
set_option maxRecDepth 1000000 in
theorem b_5_36_26 : wayBlk atWays 5 36 26 13 = true := by kernel_rfl
set_option maxRecDepth 1000000 in
theorem b_5_36_39 : wayBlk atWays 5 36 39 13 = true := by kernel_rfl
set_option maxRecDepth 1000000 in
theorem b_5_37_0 : wayBlk atWays 5 37 0 13 = true := by kernel_rfl
set_option maxRecDepth 1000000 in
theorem b_5_37_13 : wayBlk atWays 5 37 13 13 = true := by kernel_rfl
set_option maxRecDepth 1000000 in
theorem b_5_37_26 : wayBlk atWays 5 37 26 13 = true := by kernel_rfl
set_option maxRecDepth 1000000 in
theorem b_5_37_39 : wayBlk atWays 5 37 39 13 = true := by kernel_rfl
set_option maxRecDepth 1000000 in
theorem b_5_38_0 : wayBlk atWays 5 38 0 13 = true := by kernel_rfl
set_option maxRecDepth 1000000 in
theorem b_5_38_13 : wayBlk atWays 5 38 13 13 = true := by kernel_rfl
set_option maxRecDepth 1000000 in
theorem b_5_38_26 : wayBlk atWays 5 38 26 13 = true := by kernel_rfl
set_option maxRecDepth 1000000 in
theorem b_5_38_39 : wayBlk atWays 5 38 39 13 = true := by kernel_rfl
set_option maxRecDepth 1000000 in
theorem b_5_39_0 : wayBlk atWays 5 39 0 13 = true := by kernel_rfl
set_option maxRecDepth 1000000 in
theorem b_5_39_13 : wayBlk atWays 5 39 13 13 = true := by kernel_rfl
set_option maxRecDepth 1000000 in
theorem b_5_39_26 : wayBlk atWays 5 39 26 13 = true := by kernel_rfl
set_option maxRecDepth 1000000 in
theorem b_5_39_39 : wayBlk atWays 5 39 39 13 = true := by kernel_rfl
set_option maxRecDepth 1000000 in
theorem b_5_40_0 : wayBlk atWays 5 40 0 13 = true := by kernel_rfl
set_option maxRecDepth 1000000 in
theorem b_5_40_13 : wayBlk atWays 5 40 13 13 = true := by kernel_rfl
set_option maxRecDepth 1000000 in
theorem b_5_40_26 : wayBlk atWays 5 40 26 13 = true := by kernel_rfl
set_option maxRecDepth 1000000 in
theorem b_5_40_39 : wayBlk atWays 5 40 39 13 = true := by kernel_rfl
set_option maxRecDepth 1000000 in
theorem b_5_41_0 : wayBlk atWays 5 41 0 13 = true := by kernel_rfl
set_option maxRecDepth 1000000 in
theorem b_5_41_13 : wayBlk atWays 5 41 13 13 = true := by kernel_rfl
set_option maxRecDepth 1000000 in
theorem b_5_41_26 : wayBlk atWays 5 41 26 13 = true := by kernel_rfl
set_option maxRecDepth 1000000 in
theorem b_5_41_39 : wayBlk atWays 5 41 39 13 = true := by kernel_rfl
set_option maxRecDepth 1000000 in
theorem b_5_42_0 : wayBlk atWays 5 42 0 13 = true := by kernel_rfl
set_option maxRecDepth 1000000 in
theorem b_5_42_13 : wayBlk atWays 5 42 13 13 = true := by kernel_rfl
set_option maxRecDepth 1000000 in
theorem b_5_42_26 : wayBlk atWays 5 42 26 13 = true := by kernel_rfl
end Go.Proofs.Ytcpnlgjkijcmhaa.DJoinParts

/-
  A part of the proof of FnJoinParts: pairs of ways, each a run. No condition.
-/
import Derived.Test.YtcpnlgjkijcmhaaDJoinPartsA
import Derived.KernelRfl
namespace Go.Proofs.Ytcpnlgjkijcmhaa.DJoinParts
open Go.ChangeShapes Go.WideShapes Go.ChangeAt Go.RowKit Go.Sx Go.Proofs.Ytcpnlgjkijcmhaa.Ids Go.Proofs.Ytcpnlgjkijcmhaa.Way
set_option linter.unusedVariables false
set_option linter.unusedSimpArgs false

open Go.Proofs.Ytcpnlgjkijcmhaa.WayJ
set_option maxRecDepth 1000000 in
theorem b_0_0_0 : wayBlk atWays 0 0 0 1 = true := by kernel_rfl
set_option maxRecDepth 1000000 in
theorem b_1_0_0 : wayBlk atWays 1 0 0 1 = true := by kernel_rfl
set_option maxRecDepth 1000000 in
theorem b_2_0_0 : wayBlk atWays 2 0 0 2 = true := by kernel_rfl
set_option maxRecDepth 1000000 in
theorem b_2_1_0 : wayBlk atWays 2 1 0 2 = true := by kernel_rfl
set_option maxRecDepth 1000000 in
theorem b_3_0_0 : wayBlk atWays 3 0 0 5 = true := by kernel_rfl
set_option maxRecDepth 1000000 in
theorem b_3_1_0 : wayBlk atWays 3 1 0 5 = true := by kernel_rfl
set_option maxRecDepth 1000000 in
theorem b_3_2_0 : wayBlk atWays 3 2 0 5 = true := by kernel_rfl
set_option maxRecDepth 1000000 in
theorem b_3_3_0 : wayBlk atWays 3 3 0 5 = true := by kernel_rfl
set_option maxRecDepth 1000000 in
theorem b_3_4_0 : wayBlk atWays 3 4 0 5 = true := by kernel_rfl
set_option maxRecDepth 1000000 in
theorem b_4_0_0 : wayBlk atWays 4 0 0 13 = true := by kernel_rfl
set_option maxRecDepth 1000000 in
theorem b_4_0_13 : wayBlk atWays 4 0 13 2 = true := by kernel_rfl
set_option maxRecDepth 1000000 in
theorem b_4_1_0 : wayBlk atWays 4 1 0 13 = true := by kernel_rfl
set_option maxRecDepth 1000000 in
theorem b_4_1_13 : wayBlk atWays 4 1 13 2 = true := by kernel_rfl
set_option maxRecDepth 1000000 in
theorem b_4_2_0 : wayBlk atWays 4 2 0 13 = true := by kernel_rfl
set_option maxRecDepth 1000000 in
theorem b_4_2_13 : wayBlk atWays 4 2 13 2 = true := by kernel_rfl
set_option maxRecDepth 1000000 in
theorem b_4_3_0 : wayBlk atWays 4 3 0 13 = true := by kernel_rfl
set_option maxRecDepth 1000000 in
theorem b_4_3_13 : wayBlk atWays 4 3 13 2 = true := by kernel_rfl
set_option maxRecDepth 1000000 in
theorem b_4_4_0 : wayBlk atWays 4 4 0 13 = true := by kernel_rfl
set_option maxRecDepth 1000000 in
theorem b_4_4_13 : wayBlk atWays 4 4 13 2 = true := by kernel_rfl
set_option maxRecDepth 1000000 in
theorem b_4_5_0 : wayBlk atWays 4 5 0 13 = true := by kernel_rfl
set_option maxRecDepth 1000000 in
theorem b_4_5_13 : wayBlk atWays 4 5 13 2 = true := by kernel_rfl
set_option maxRecDepth 1000000 in
theorem b_4_6_0 : wayBlk atWays 4 6 0 13 = true := by kernel_rfl
set_option maxRecDepth 1000000 in
theorem b_4_6_13 : wayBlk atWays 4 6 13 2 = true := by kernel_rfl
set_option maxRecDepth 1000000 in
theorem b_4_7_0 : wayBlk atWays 4 7 0 13 = true := by kernel_rfl
set_option maxRecDepth 1000000 in
theorem b_4_7_13 : wayBlk atWays 4 7 13 2 = true := by kernel_rfl
set_option maxRecDepth 1000000 in
theorem b_4_8_0 : wayBlk atWays 4 8 0 13 = true := by kernel_rfl
set_option maxRecDepth 1000000 in
theorem b_4_8_13 : wayBlk atWays 4 8 13 2 = true := by kernel_rfl
set_option maxRecDepth 1000000 in
theorem b_4_9_0 : wayBlk atWays 4 9 0 13 = true := by kernel_rfl
set_option maxRecDepth 1000000 in
theorem b_4_9_13 : wayBlk atWays 4 9 13 2 = true := by kernel_rfl
set_option maxRecDepth 1000000 in
theorem b_4_10_0 : wayBlk atWays 4 10 0 13 = true := by kernel_rfl
set_option maxRecDepth 1000000 in
theorem b_4_10_13 : wayBlk atWays 4 10 13 2 = true := by kernel_rfl
set_option maxRecDepth 1000000 in
theorem b_4_11_0 : wayBlk atWays 4 11 0 13 = true := by kernel_rfl
set_option maxRecDepth 1000000 in
theorem b_4_11_13 : wayBlk atWays 4 11 13 2 = true := by kernel_rfl
set_option maxRecDepth 1000000 in
theorem b_4_12_0 : wayBlk atWays 4 12 0 13 = true := by kernel_rfl
set_option maxRecDepth 1000000 in
theorem b_4_12_13 : wayBlk atWays 4 12 13 2 = true := by kernel_rfl
set_option maxRecDepth 1000000 in
theorem b_4_13_0 : wayBlk atWays 4 13 0 13 = true := by kernel_rfl
set_option maxRecDepth 1000000 in
theorem b_4_13_13 : wayBlk atWays 4 13 13 2 = true := by kernel_rfl
set_option maxRecDepth 1000000 in
theorem b_4_14_0 : wayBlk atWays 4 14 0 13 = true := by kernel_rfl
set_option maxRecDepth 1000000 in
theorem b_4_14_13 : wayBlk atWays 4 14 13 2 = true := by kernel_rfl
set_option maxRecDepth 1000000 in
theorem b_5_0_0 : wayBlk atWays 5 0 0 13 = true := by kernel_rfl
set_option maxRecDepth 1000000 in
theorem b_5_0_13 : wayBlk atWays 5 0 13 13 = true := by kernel_rfl
set_option maxRecDepth 1000000 in
theorem b_5_0_26 : wayBlk atWays 5 0 26 13 = true := by kernel_rfl
set_option maxRecDepth 1000000 in
theorem b_5_0_39 : wayBlk atWays 5 0 39 13 = true := by kernel_rfl
set_option maxRecDepth 1000000 in
theorem b_5_1_0 : wayBlk atWays 5 1 0 13 = true := by kernel_rfl
set_option maxRecDepth 1000000 in
theorem b_5_1_13 : wayBlk atWays 5 1 13 13 = true := by kernel_rfl
set_option maxRecDepth 1000000 in
theorem b_5_1_26 : wayBlk atWays 5 1 26 13 = true := by kernel_rfl
set_option maxRecDepth 1000000 in
theorem b_5_1_39 : wayBlk atWays 5 1 39 13 = true := by kernel_rfl
set_option maxRecDepth 1000000 in
theorem b_5_2_0 : wayBlk atWays 5 2 0 13 = true := by kernel_rfl
set_option maxRecDepth 1000000 in
theorem b_5_2_13 : wayBlk atWays 5 2 13 13 = true := by kernel_rfl
set_option maxRecDepth 1000000 in
theorem b_5_2_26 : wayBlk atWays 5 2 26 13 = true := by kernel_rfl
set_option maxRecDepth 1000000 in
theorem b_5_2_39 : wayBlk atWays 5 2 39 13 = true := by kernel_rfl
set_option maxRecDepth 1000000 in
theorem b_5_3_0 : wayBlk atWays 5 3 0 13 = true := by kernel_rfl
set_option maxRecDepth 1000000 in
theorem b_5_3_13 : wayBlk atWays 5 3 13 13 = true := by kernel_rfl
set_option maxRecDepth 1000000 in
theorem b_5_3_26 : wayBlk atWays 5 3 26 13 = true := by kernel_rfl
set_option maxRecDepth 1000000 in
theorem b_5_3_39 : wayBlk atWays 5 3 39 13 = true := by kernel_rfl
set_option maxRecDepth 1000000 in
theorem b_5_4_0 : wayBlk atWays 5 4 0 13 = true := by kernel_rfl
set_option maxRecDepth 1000000 in
theorem b_5_4_13 : wayBlk atWays 5 4 13 13 = true := by kernel_rfl
set_option maxRecDepth 1000000 in
theorem b_5_4_26 : wayBlk atWays 5 4 26 13 = true := by kernel_rfl
end Go.Proofs.Ytcpnlgjkijcmhaa.DJoinParts

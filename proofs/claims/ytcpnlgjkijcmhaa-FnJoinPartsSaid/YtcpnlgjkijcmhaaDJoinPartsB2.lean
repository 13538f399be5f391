/-
  A part of the proof of FnJoinParts: pairs of ways, each a run. No condition.
-/
import Derived.Test.YtcpnlgjkijcmhaaDJoinPartsA
import Derived.KernelRfl
namespace Go.Proofs.Ytcpnlgjkijcmhaa.DJoinParts
open Go.ChangeShapes Go.WideShapes Go.ChangeAt Go.RowKit Go.Sx Go.Proofs.Ytcpnlgjkijcmhaa.Ids Go.Proofs.Ytcpnlgjkijcmhaa.Way
set_option linter.unusedVariables false
set_option linter.unusedSimpArgs false

open Go.Proofs.Ytcpnlgjkijcmhaa.WayJ
set_option maxRecDepth 1000000 in
theorem b_5_14_13 : wayBlk atWays 5 14 13 13 = true := by kernel_rfl
set_option maxRecDepth 1000000 in
theorem b_5_14_26 : wayBlk atWays 5 14 26 13 = true := by kernel_rfl
set_option maxRecDepth 1000000 in
theorem b_5_14_39 : wayBlk atWays 5 14 39 13 = true := by kernel_rfl
set_option maxRecDepth 1000000 in
theorem b_5_15_0 : wayBlk atWays 5 15 0 13 = true := by kernel_rfl
set_option maxRecDepth 1000000 in
theorem b_5_15_13 : wayBlk atWays 5 15 13 13 = true := by kernel_rfl
set_option maxRecDepth 1000000 in
theorem b_5_15_26 : wayBlk atWays 5 15 26 13 = true := by kernel_rfl
set_option maxRecDepth 1000000 in
theorem b_5_15_39 : wayBlk atWays 5 15 39 13 = true := by kernel_rfl
set_option maxRecDepth 1000000 in
theorem b_5_16_0 : wayBlk atWays 5 16 0 13 = true := by kernel_rfl
set_option maxRecDepth 1000000 in
theorem b_5_16_13 : wayBlk atWays 5 16 13 13 = true := by kernel_rfl
set_option maxRecDepth 1000000 in
theorem b_5_16_26 : wayBlk atWays 5 16 26 13 = true := by kernel_rfl
set_option maxRecDepth 1000000 in
theorem b_5_16_39 : wayBlk atWays 5 16 39 13 = true := by kernel_rfl
set_option maxRecDepth 1000000 in
theorem b_5_17_0 : wayBlk atWays 5 17 0 13 = true := by kernel_rfl
set_option maxRecDepth 1000000 in
theorem b_5_17_13 : wayBlk atWays 5 17 13 13 = true := by kernel_rfl
set_option maxRecDepth 1000000 in
theorem b_5_17_26 : wayBlk atWays 5 17 26 13 = true := by kernel_rfl
set_option maxRecDepth 1000000 in
theorem b_5_17_39 : wayBlk atWays 5 17 39 13 = true := by kernel_rfl
set_option maxRecDepth 1000000 in
theorem b_5_18_0 : wayBlk atWays 5 18 0 13 = true := by kernel_rfl
set_option maxRecDepth 1000000 in
theorem b_5_18_13 : wayBlk atWays 5 18 13 13 = true := by kernel_rfl
set_option maxRecDepth 1000000 in
theorem b_5_18_26 : wayBlk atWays 5 18 26 13 = true := by kernel_rfl
set_option maxRecDepth 1000000 in
theorem b_5_18_39 : wayBlk atWays 5 18 39 13 = true := by kernel_rfl
set_option maxRecDepth 1000000 in
theorem b_5_19_0 : wayBlk atWays 5 19 0 13 = true := by kernel_rfl
set_option maxRecDepth 1000000 in
theorem b_5_19_13 : wayBlk atWays 5 19 13 13 = true := by kernel_rfl
set_option maxRecDepth 1000000 in
theorem b_5_19_26 : wayBlk atWays 5 19 26 13 = true := by kernel_rfl
set_option maxRecDepth 1000000 in
theorem b_5_19_39 : wayBlk atWays 5 19 39 13 = true := by kernel_rfl
set_option maxRecDepth 1000000 in
theorem b_5_20_0 : wayBlk atWays 5 20 0 13 = true := by kernel_rfl
set_option maxRecDepth 1000000 in
theorem b_5_20_13 : wayBlk atWays 5 20 13 13 = true := by kernel_rfl
set_option maxRecDepth 1000000 in
theorem b_5_20_26 : wayBlk atWays 5 20 26 13 = true := by kernel_rfl
set_option maxRecDepth 1000000 in
theorem b_5_20_39 : wayBlk atWays 5 20 39 13 = true := by kernel_rfl
set_option maxRecDepth 1000000 in
theorem b_5_21_0 : wayBlk atWays 5 21 0 13 = true := by kernel_rfl
set_option maxRecDepth 1000000 in
theorem b_5_21_13 : wayBlk atWays 5 21 13 13 = true := by kernel_rfl
set_option maxRecDepth 1000000 in
theorem b_5_21_26 : wayBlk atWays 5 21 26 13 = true := by kernel_rfl
set_option maxRecDepth 1000000 in
theorem b_5_21_39 : wayBlk atWays 5 21 39 13 = true := by kernel_rfl
set_option maxRecDepth 1000000 in
theorem b_5_22_0 : wayBlk atWays 5 22 0 13 = true := by kernel_rfl
set_option maxRecDepth 1000000 in
theorem b_5_22_13 : wayBlk atWays 5 22 13 13 = true := by kernel_rfl
set_option maxRecDepth 1000000 in
theorem b_5_22_26 : wayBlk atWays 5 22 26 13 = true := by kernel_rfl
set_option maxRecDepth 1000000 in
theorem b_5_22_39 : wayBlk atWays 5 22 39 13 = true := by kernel_rfl
set_option maxRecDepth 1000000 in
theorem b_5_23_0 : wayBlk atWays 5 23 0 13 = true := by kernel_rfl
set_option maxRecDepth 1000000 in
theorem b_5_23_13 : wayBlk atWays 5 23 13 13 = true := by kernel_rfl
set_option maxRecDepth 1000000 in
theorem b_5_23_26 : wayBlk atWays 5 23 26 13 = true := by kernel_rfl
end Go.Proofs.Ytcpnlgjkijcmhaa.DJoinParts

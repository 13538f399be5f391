/-
  A part of the proof of FnJoinParts: pairs of ways, each a run. No condition.
-/
import Derived.Test.YtcpnlgjkijcmhaaDJoinPartsA
import Derived.KernelRfl
namespace Go.Proofs.Ytcpnlgjkijcmhaa.DJoinParts
open Go.ChangeShapes Go.WideShapes Go.ChangeAt Go.RowKit Go.Sx Go.Proofs.Ytcpnlgjkijcmhaa.Ids Go.Proofs.Ytcpnlgjkijcmhaa.Way
set_option linter.unusedVariables false
set_option linter.unusedSimpArgs false

open Go.Proofs.Ytcpnlgjkijcmhaa.WayJ
set_option maxRecDepth 1000000 in
theorem b_5_4_39 : wayBlk atWays 5 4 39 13 = true := by kernel_rfl
set_option maxRecDepth 1000000 in
theorem b_5_5_0 : wayBlk atWays 5 5 0 13 = true := by kernel_rfl
set_option maxRecDepth 1000000 in
theorem b_5_5_13 : wayBlk atWays 5 5 13 13 = true := by kernel_rfl
set_option maxRecDepth 1000000 in
theorem b_5_5_26 : wayBlk atWays 5 5 26 13 = true := by kernel_rfl
set_option maxRecDepth 1000000 in
theorem b_5_5_39 : wayBlk atWays 5 5 39 13 = true := by kernel_rfl
set_option maxRecDepth 1000000 in
theorem b_5_6_0 : wayBlk atWays 5 6 0 13 = true := by kernel_rfl
set_option maxRecDepth 1000000 in
theorem b_5_6_13 : wayBlk atWays 5 6 13 13 = true := by kernel_rfl
set_option maxRecDepth 1000000 in
theorem b_5_6_26 : wayBlk atWays 5 6 26 13 = true := by kernel_rfl
set_option maxRecDepth 1000000 in
theorem b_5_6_39 : wayBlk atWays 5 6 39 13 = true := by kernel_rfl
set_option maxRecDepth 1000000 in
theorem b_5_7_0 : wayBlk atWays 5 7 0 13 = true := by kernel_rfl
set_option maxRecDepth 1000000 in
theorem b_5_7_13 : wayBlk atWays 5 7 13 13 = true := by kernel_rfl
set_option maxRecDepth 1000000 in
theorem b_5_7_26 : wayBlk atWays 5 7 26 13 = true := by kernel_rfl
set_option maxRecDepth 1000000 in
theorem b_5_7_39 : wayBlk atWays 5 7 39 13 = true := by kernel_rfl
set_option maxRecDepth 1000000 in
theorem b_5_8_0 : wayBlk atWays 5 8 0 13 = true := by kernel_rfl
set_option maxRecDepth 1000000 in
theorem b_5_8_13 : wayBlk atWays 5 8 13 13 = true := by kernel_rfl
set_option maxRecDepth 1000000 in
theorem b_5_8_26 : wayBlk atWays 5 8 26 13 = true := by kernel_rfl
set_option maxRecDepth 1000000 in
theorem b_5_8_39 : wayBlk atWays 5 8 39 13 = true := by kernel_rfl
set_option maxRecDepth 1000000 in
theorem b_5_9_0 : wayBlk atWays 5 9 0 13 = true := by kernel_rfl
set_option maxRecDepth 1000000 in
theorem b_5_9_13 : wayBlk atWays 5 9 13 13 = true := by kernel_rfl
set_option maxRecDepth 1000000 in
theorem b_5_9_26 : wayBlk atWays 5 9 26 13 = true := by kernel_rfl
set_option maxRecDepth 1000000 in
theorem b_5_9_39 : wayBlk atWays 5 9 39 13 = true := by kernel_rfl
set_option maxRecDepth 1000000 in
theorem b_5_10_0 : wayBlk atWays 5 10 0 13 = true := by kernel_rfl
set_option maxRecDepth 1000000 in
theorem b_5_10_13 : wayBlk atWays 5 10 13 13 = true := by kernel_rfl
set_option maxRecDepth 1000000 in
theorem b_5_10_26 : wayBlk atWays 5 10 26 13 = true := by kernel_rfl
set_option maxRecDepth 1000000 in
theorem b_5_10_39 : wayBlk atWays 5 10 39 13 = true := by kernel_rfl
set_option maxRecDepth 1000000 in
theorem b_5_11_0 : wayBlk atWays 5 11 0 13 = true := by kernel_rfl
set_option maxRecDepth 1000000 in
theorem b_5_11_13 : wayBlk atWays 5 11 13 13 = true := by kernel_rfl
set_option maxRecDepth 1000000 in
theorem b_5_11_26 : wayBlk atWays 5 11 26 13 = true := by kernel_rfl
set_option maxRecDepth 1000000 in
theorem b_5_11_39 : wayBlk atWays 5 11 39 13 = true := by kernel_rfl
set_option maxRecDepth 1000000 in
theorem b_5_12_0 : wayBlk atWays 5 12 0 13 = true := by kernel_rfl
set_option maxRecDepth 1000000 in
theorem b_5_12_13 : wayBlk atWays 5 12 13 13 = true := by kernel_rfl
set_option maxRecDepth 1000000 in
theorem b_5_12_26 : wayBlk atWays 5 12 26 13 = true := by kernel_rfl
set_option maxRecDepth 1000000 in
theorem b_5_12_39 : wayBlk atWays 5 12 39 13 = true := by kernel_rfl
set_option maxRecDepth 1000000 in
theorem b_5_13_0 : wayBlk atWays 5 13 0 13 = true := by kernel_rfl
set_option maxRecDepth 1000000 in
theorem b_5_13_13 : wayBlk atWays 5 13 13 13 = true := by kernel_rfl
set_option maxRecDepth 1000000 in
theorem b_5_13_26 : wayBlk atWays 5 13 26 13 = true := by kernel_rfl
set_option maxRecDepth 1000000 in
theorem b_5_13_39 : wayBlk atWays 5 13 39 13 = true := by kernel_rfl
set_option maxRecDepth 1000000 in
theorem b_5_14_0 : wayBlk atWays 5 14 0 13 = true := by kernel_rfl
end Go.Proofs.Ytcpnlgjkijcmhaa.DJoinParts

/-
  A part of the proof of FnJoinParts: pairs of ways, each a run. No condition.
-/
import Derived.Test.YtcpnlgjkijcmhaaDJoinPartsA
import Derived.KernelRfl
namespace Go.Proofs.Ytcpnlgjkijcmhaa.DJoinParts
open Go.ChangeShapes Go.WideShapes Go.ChangeAt Go.RowKit Go.Sx Go.Proofs.Ytcpnlgjkijcmhaa.Ids Go.Proofs.Ytcpnlgjkijcmhaa.Way
set_option linter.unusedVariables false
set_option linter.unusedSimpArgs false

open Go.Proofs.Ytcpnlgjkijcmhaa.WayJ
set_option maxRecDepth 1000000 in
theorem b_5_23_39 : wayBlk atWays 5 23 39 13 = true := by kernel_rfl
set_option maxRecDepth 1000000 in
theorem b_5_24_0 : wayBlk atWays 5 24 0 13 = true := by kernel_rfl
set_option maxRecDepth 1000000 in
theorem b_5_24_13 : wayBlk atWays 5 24 13 13 = true := by kernel_rfl
set_option maxRecDepth 1000000 in
theorem b_5_24_26 : wayBlk atWays 5 24 26 13 = true := by kernel_rfl
set_option maxRecDepth 1000000 in
theorem b_5_24_39 : wayBlk atWays 5 24 39 13 = true := by kernel_rfl
set_option maxRecDepth 1000000 in
theorem b_5_25_0 : wayBlk atWays 5 25 0 13 = true := by kernel_rfl
set_option maxRecDepth 1000000 in
theorem b_5_25_13 : wayBlk atWays 5 25 13 13 = true := by kernel_rfl
set_option maxRecDepth 1000000 in
theorem b_5_25_26 : wayBlk atWays 5 25 26 13 = true := by kernel_rfl
set_option maxRecDepth 1000000 in
theorem b_5_25_39 : wayBlk atWays 5 25 39 13 = true := by kernel_rfl
set_option maxRecDepth 1000000 in
theorem b_5_26_0 : wayBlk atWays 5 26 0 13 = true := by kernel_rfl
set_option maxRecDepth 1000000 in
theorem b_5_26_13 : wayBlk atWays 5 26 13 13 = true := by kernel_rfl
set_option maxRecDepth 1000000 in
theorem b_5_26_26 : wayBlk atWays 5 26 26 13 = true := by kernel_rfl
set_option maxRecDepth 1000000 in
theorem b_5_26_39 : wayBlk atWays 5 26 39 13 = true := by kernel_rfl
set_option maxRecDepth 1000000 in
theorem b_5_27_0 : wayBlk atWays 5 27 0 13 = true := by kernel_rfl
set_option maxRecDepth 1000000 in
theorem b_5_27_13 : wayBlk atWays 5 27 13 13 = true := by kernel_rfl
set_option maxRecDepth 1000000 in
theorem b_5_27_26 : wayBlk atWays 5 27 26 13 = true := by kernel_rfl
set_option maxRecDepth 1000000 in
theorem b_5_27_39 : wayBlk atWays 5 27 39 13 = true := by kernel_rfl
set_option maxRecDepth 1000000 in
theorem b_5_28_0 : wayBlk atWays 5 28 0 13 = true := by kernel_rfl
set_option maxRecDepth 1000000 in
theorem b_5_28_13 : wayBlk atWays 5 28 13 13 = true := by kernel_rfl
set_option maxRecDepth 1000000 in
theorem b_5_28_26 : wayBlk atWays 5 28 26 13 = true := by kernel_rfl
set_option maxRecDepth 1000000 in
theorem b_5_28_39 : wayBlk atWays 5 28 39 13 = true := by kernel_rfl
set_option maxRecDepth 1000000 in
theorem b_5_29_0 : wayBlk atWays 5 29 0 13 = true := by kernel_rfl
set_option maxRecDepth 1000000 in
theorem b_5_29_13 : wayBlk atWays 5 29 13 13 = true := by kernel_rfl
set_option maxRecDepth 1000000 in
theorem b_5_29_26 : wayBlk atWays 5 29 26 13 = true := by kernel_rfl
set_option maxRecDepth 1000000 in
theorem b_5_29_39 : wayBlk atWays 5 29 39 13 = true := by kernel_rfl
set_option maxRecDepth 1000000 in
theorem b_5_30_0 : wayBlk atWays 5 30 0 13 = true := by kernel_rfl
set_option maxRecDepth 1000000 in
theorem b_5_30_13 : wayBlk atWays 5 30 13 13 = true := by kernel_rfl
set_option maxRecDepth 1000000 in
theorem b_5_30_26 : wayBlk atWays 5 30 26 13 = true := by kernel_rfl
set_option maxRecDepth 1000000 in
theorem b_5_30_39 : wayBlk atWays 5 30 39 13 = true := by kernel_rfl
set_option maxRecDepth 1000000 in
theorem b_5_31_0 : wayBlk atWays 5 31 0 13 = true := by kernel_rfl
set_option maxRecDepth 1000000 in
theorem b_5_31_13 : wayBlk atWays 5 31 13 13 = true := by kernel_rfl
set_option maxRecDepth 1000000 in
theorem b_5_31_26 : wayBlk atWays 5 31 26 13 = true := by kernel_rfl
set_option maxRecDepth 1000000 in
theorem b_5_31_39 : wayBlk atWays 5 31 39 13 = true := by kernel_rfl
set_option maxRecDepth 1000000 in
theorem b_5_32_0 : wayBlk atWays 5 32 0 13 = true := by kernel_rfl
set_option maxRecDepth 1000000 in
theorem b_5_32_13 : wayBlk atWays 5 32 13 13 = true := by kernel_rfl
set_option maxRecDepth 1000000 in
theorem b_5_32_26 : wayBlk atWays 5 32 26 13 = true := by kernel_rfl
set_option maxRecDepth 1000000 in
theorem b_5_32_39 : wayBlk atWays 5 32 39 13 = true := by kernel_rfl
set_option maxRecDepth 1000000 in
theorem b_5_33_0 : wayBlk atWays 5 33 0 13 = true := by kernel_rfl
end Go.Proofs.Ytcpnlgjkijcmhaa.DJoinParts

/-
  A part of the proof of FnJoinParts: pairs of ways, each a run. No condition.
-/
import Derived.Test.YtcpnlgjkijcmhaaDJoinPartsA
import Derived.KernelRfl
namespace Go.Proofs.Ytcpnlgjkijcmhaa.DJoinParts
open Go.ChangeShapes Go.WideShapes Go.ChangeAt Go.RowKit Go.Sx Go.Proofs.Ytcpnlgjkijcmhaa.Ids Go.Proofs.Ytcpnlgjkijcmhaa.Way
set_option linter.unusedVariables false
set_option linter.unusedSimpArgs false

open Go.Proofs.Ytcpnlgjkijcmhaa.WayJ
set_option maxRecDepth 1000000 in
theorem b_5_42_39 : wayBlk atWays 5 42 39 13 = true := by kernel_rfl
set_option maxRecDepth 1000000 in
theorem b_5_43_0 : wayBlk atWays 5 43 0 13 = true := by kernel_rfl
set_option maxRecDepth 1000000 in
theorem b_5_43_13 : wayBlk atWays 5 43 13 13 = true := by kernel_rfl
set_option maxRecDepth 1000000 in
theorem b_5_43_26 : wayBlk atWays 5 43 26 13 = true := by kernel_rfl
set_option maxRecDepth 1000000 in
theorem b_5_43_39 : wayBlk atWays 5 43 39 13 = true := by kernel_rfl
set_option maxRecDepth 1000000 in
theorem b_5_44_0 : wayBlk atWays 5 44 0 13 = true := by kernel_rfl
set_option maxRecDepth 1000000 in
theorem b_5_44_13 : wayBlk atWays 5 44 13 13 = true := by kernel_rfl
set_option maxRecDepth 1000000 in
theorem b_5_44_26 : wayBlk atWays 5 44 26 13 = true := by kernel_rfl
set_option maxRecDepth 1000000 in
theorem b_5_44_39 : wayBlk atWays 5 44 39 13 = true := by kernel_rfl
set_option maxRecDepth 1000000 in
theorem b_5_45_0 : wayBlk atWays 5 45 0 13 = true := by kernel_rfl
set_option maxRecDepth 1000000 in
theorem b_5_45_13 : wayBlk atWays 5 45 13 13 = true := by kernel_rfl
set_option maxRecDepth 1000000 in
theorem b_5_45_26 : wayBlk atWays 5 45 26 13 = true := by kernel_rfl
set_option maxRecDepth 1000000 in
theorem b_5_45_39 : wayBlk atWays 5 45 39 13 = true := by kernel_rfl
set_option maxRecDepth 1000000 in
theorem b_5_46_0 : wayBlk atWays 5 46 0 13 = true := by kernel_rfl
set_option maxRecDepth 1000000 in
theorem b_5_46_13 : wayBlk atWays 5 46 13 13 = true := by kernel_rfl
set_option maxRecDepth 1000000 in
theorem b_5_46_26 : wayBlk atWays 5 46 26 13 = true := by kernel_rfl
set_option maxRecDepth 1000000 in
theorem b_5_46_39 : wayBlk atWays 5 46 39 13 = true := by kernel_rfl
set_option maxRecDepth 1000000 in
theorem b_5_47_0 : wayBlk atWays 5 47 0 13 = true := by kernel_rfl
set_option maxRecDepth 1000000 in
theorem b_5_47_13 : wayBlk atWays 5 47 13 13 = true := by kernel_rfl
set_option maxRecDepth 1000000 in
theorem b_5_47_26 : wayBlk atWays 5 47 26 13 = true := by kernel_rfl
set_option maxRecDepth 1000000 in
theorem b_5_47_39 : wayBlk atWays 5 47 39 13 = true := by kernel_rfl
set_option maxRecDepth 1000000 in
theorem b_5_48_0 : wayBlk atWays 5 48 0 13 = true := by kernel_rfl
set_option maxRecDepth 1000000 in
theorem b_5_48_13 : wayBlk atWays 5 48 13 13 = true := by kernel_rfl
set_option maxRecDepth 1000000 in
theorem b_5_48_26 : wayBlk atWays 5 48 26 13 = true := by kernel_rfl
set_option maxRecDepth 1000000 in
theorem b_5_48_39 : wayBlk atWays 5 48 39 13 = true := by kernel_rfl
set_option maxRecDepth 1000000 in
theorem b_5_49_0 : wayBlk atWays 5 49 0 13 = true := by kernel_rfl
set_option maxRecDepth 1000000 in
theorem b_5_49_13 : wayBlk atWays 5 49 13 13 = true := by kernel_rfl
set_option maxRecDepth 1000000 in
theorem b_5_49_26 : wayBlk atWays 5 49 26 13 = true := by kernel_rfl
set_option maxRecDepth 1000000 in
theorem b_5_49_39 : wayBlk atWays 5 49 39 13 = true := by kernel_rfl
set_option maxRecDepth 1000000 in
theorem b_5_50_0 : wayBlk atWays 5 50 0 13 = true := by kernel_rfl
set_option maxRecDepth 1000000 in
theorem b_5_50_13 : wayBlk atWays 5 50 13 13 = true := by kernel_rfl
set_option maxRecDepth 1000000 in
theorem b_5_50_26 : wayBlk atWays 5 50 26 13 = true := by kernel_rfl
set_option maxRecDepth 1000000 in
theorem b_5_50_39 : wayBlk atWays 5 50 39 13 = true := by kernel_rfl
set_option maxRecDepth 1000000 in
theorem b_5_51_0 : wayBlk atWays 5 51 0 13 = true := by kernel_rfl
set_option maxRecDepth 1000000 in
theorem b_5_51_13 : wayBlk atWays 5 51 13 13 = true := by kernel_rfl
set_option maxRecDepth 1000000 in
theorem b_5_51_26 : wayBlk atWays 5 51 26 13 = true := by kernel_rfl
set_option maxRecDepth 1000000 in
theorem b_5_51_39 : wayBlk atWays 5 51 39 13 = true := by kernel_rfl
end Go.Proofs.Ytcpnlgjkijcmhaa.DJoinParts

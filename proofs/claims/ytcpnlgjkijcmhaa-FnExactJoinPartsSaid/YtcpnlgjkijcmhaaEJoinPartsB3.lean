/-
  A part of the proof of FnExactJoinParts: pairs of ways, each a run. No condition.
-/
import Derived.Test.YtcpnlgjkijcmhaaEJoinPartsA
import Derived.KernelRfl
namespace Go.Proofs.Ytcpnlgjkijcmhaa.EJoinParts
open Go.ChangeShapes Go.WideShapes Go.ChangeAt Go.RowKit Go.Sx Go.Proofs.Ytcpnlgjkijcmhaa.Ids Go.Proofs.Ytcpnlgjkijcmhaa.Way
set_option linter.unusedVariables false
set_option linter.unusedSimpArgs false

open Go.Proofs.Ytcpnlgjkijcmhaa.WayJ
set_option maxRecDepth 1000000 in
theorem b_5_17_26 : wayBlk atWays 5 17 26 26 = true := by kernel_rfl
set_option maxRecDepth 1000000 in
theorem b_5_18_0 : wayBlk atWays 5 18 0 26 = true := by kernel_rfl
set_option maxRecDepth 1000000 in
theorem b_5_18_26 : wayBlk atWays 5 18 26 26 = true := by kernel_rfl
set_option maxRecDepth 1000000 in
theorem b_5_19_0 : wayBlk atWays 5 19 0 26 = true := by kernel_rfl
set_option maxRecDepth 1000000 in
theorem b_5_19_26 : wayBlk atWays 5 19 26 26 = true := by kernel_rfl
set_option maxRecDepth 1000000 in
theorem b_5_20_0 : wayBlk atWays 5 20 0 26 = true := by kernel_rfl
set_option maxRecDepth 1000000 in
theorem b_5_20_26 : wayBlk atWays 5 20 26 26 = true := by kernel_rfl
set_option maxRecDepth 1000000 in
theorem b_5_21_0 : wayBlk atWays 5 21 0 26 = true := by kernel_rfl
set_option maxRecDepth 1000000 in
theorem b_5_21_26 : wayBlk atWays 5 21 26 26 = true := by kernel_rfl
set_option maxRecDepth 1000000 in
theorem b_5_22_0 : wayBlk atWays 5 22 0 26 = true := by kernel_rfl
set_option maxRecDepth 1000000 in
theorem b_5_22_26 : wayBlk atWays 5 22 26 26 = true := by kernel_rfl
set_option maxRecDepth 1000000 in
theorem b_5_23_0 : wayBlk atWays 5 23 0 26 = true := by kernel_rfl
set_option maxRecDepth 1000000 in
theorem b_5_23_26 : wayBlk atWays 5 23 26 26 = true := by kernel_rfl
set_option maxRecDepth 1000000 in
theorem b_5_24_0 : wayBlk atWays 5 24 0 26 = true := by kernel_rfl
set_option maxRecDepth 1000000 in
theorem b_5_24_26 : wayBlk atWays 5 24 26 26 = true := by kernel_rfl
end Go.Proofs.Ytcpnlgjkijcmhaa.EJoinParts

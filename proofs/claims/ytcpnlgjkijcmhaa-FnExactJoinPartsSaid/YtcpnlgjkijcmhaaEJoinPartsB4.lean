/-
  A part of the proof of FnExactJoinParts: pairs of ways, each a run. No condition.
-/
import Derived.Test.YtcpnlgjkijcmhaaEJoinPartsA
import Derived.KernelRfl
namespace Go.Proofs.Ytcpnlgjkijcmhaa.EJoinParts
open Go.ChangeShapes Go.WideShapes Go.ChangeAt Go.RowKit Go.Sx Go.Proofs.Ytcpnlgjkijcmhaa.Ids Go.Proofs.Ytcpnlgjkijcmhaa.Way
set_option linter.unusedVariables false
set_option linter.unusedSimpArgs false

open Go.Proofs.Ytcpnlgjkijcmhaa.WayJ
set_option maxRecDepth 1000000 in
theorem b_5_25_0 : wayBlk atWays 5 25 0 26 = true := by kernel_rfl
set_option maxRecDepth 1000000 in
theorem b_5_25_26 : wayBlk atWays 5 25 26 26 = true := by kernel_rfl
set_option maxRecDepth 1000000 in
theorem b_5_26_0 : wayBlk atWays 5 26 0 26 = true := by kernel_rfl
set_option maxRecDepth 1000000 in
theorem b_5_26_26 : wayBlk atWays 5 26 26 26 = true := by kernel_rfl
set_option maxRecDepth 1000000 in
theorem b_5_27_0 : wayBlk atWays 5 27 0 26 = true := by kernel_rfl
set_option maxRecDepth 1000000 in
theorem b_5_27_26 : wayBlk atWays 5 27 26 26 = true := by kernel_rfl
set_option maxRecDepth 1000000 in
theorem b_5_28_0 : wayBlk atWays 5 28 0 26 = true := by kernel_rfl
set_option maxRecDepth 1000000 in
theorem b_5_28_26 : wayBlk atWays 5 28 26 26 = true := by kernel_rfl
set_option maxRecDepth 1000000 in
theorem b_5_29_0 : wayBlk atWays 5 29 0 26 = true := by kernel_rfl
set_option maxRecDepth 1000000 in
theorem b_5_29_26 : wayBlk atWays 5 29 26 26 = true := by kernel_rfl
set_option maxRecDepth 1000000 in
theorem b_5_30_0 : wayBlk atWays 5 30 0 26 = true := by kernel_rfl
set_option maxRecDepth 1000000 in
theorem b_5_30_26 : wayBlk atWays 5 30 26 26 = true := by kernel_rfl
set_option maxRecDepth 1000000 in
theorem b_5_31_0 : wayBlk atWays 5 31 0 26 = true := by kernel_rfl
set_option maxRecDepth 1000000 in
theorem b_5_31_26 : wayBlk atWays 5 31 26 26 = true := by kernel_rfl
set_option maxRecDepth 1000000 in
theorem b_5_32_0 : wayBlk atWays 5 32 0 26 = true := by kernel_rfl
end Go.Proofs.Ytcpnlgjkijcmhaa.EJoinParts

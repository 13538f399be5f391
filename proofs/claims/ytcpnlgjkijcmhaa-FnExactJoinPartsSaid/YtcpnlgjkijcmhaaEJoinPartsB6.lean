/-
  A part of the proof of FnExactJoinParts: pairs of ways, each a run. No condition.
-/
import Derived.Test.YtcpnlgjkijcmhaaEJoinPartsA
import Derived.KernelRfl
namespace Go.Proofs.Ytcpnlgjkijcmhaa.EJoinParts
open Go.ChangeShapes Go.WideShapes Go.ChangeAt Go.RowKit Go.Sx Go.Proofs.Ytcpnlgjkijcmhaa.Ids Go.Proofs.Ytcpnlgjkijcmhaa.Way
set_option linter.unusedVariables false
set_option linter.unusedSimpArgs false

open Go.Proofs.Ytcpnlgjkijcmhaa.WayJ
set_option maxRecDepth 1000000 in
theorem b_5_40_0 : wayBlk atWays 5 40 0 26 = true := by kernel_rfl
set_option maxRecDepth 1000000 in
theorem b_5_40_26 : wayBlk atWays 5 40 26 26 = true := by kernel_rfl
set_option maxRecDepth 1000000 in
theorem b_5_41_0 : wayBlk atWays 5 41 0 26 = true := by kernel_rfl
set_option maxRecDepth 1000000 in
theorem b_5_41_26 : wayBlk atWays 5 41 26 26 = true := by kernel_rfl
set_option maxRecDepth 1000000 in
theorem b_5_42_0 : wayBlk atWays 5 42 0 26 = true := by kernel_rfl
set_option maxRecDepth 1000000 in
theorem b_5_42_26 : wayBlk atWays 5 42 26 26 = true := by kernel_rfl
set_option maxRecDepth 1000000 in
theorem b_5_43_0 : wayBlk atWays 5 43 0 26 = true := by kernel_rfl
set_option maxRecDepth 1000000 in
theorem b_5_43_26 : wayBlk atWays 5 43 26 26 = true := by kernel_rfl
set_option maxRecDepth 1000000 in
theorem b_5_44_0 : wayBlk atWays 5 44 0 26 = true := by kernel_rfl
set_option maxRecDepth 1000000 in
theorem b_5_44_26 : wayBlk atWays 5 44 26 26 = true := by kernel_rfl
set_option maxRecDepth 1000000 in
theorem b_5_45_0 : wayBlk atWays 5 45 0 26 = true := by kernel_rfl
set_option maxRecDepth 1000000 in
theorem b_5_45_26 : wayBlk atWays 5 45 26 26 = true := by kernel_rfl
set_option maxRecDepth 1000000 in
theorem b_5_46_0 : wayBlk atWays 5 46 0 26 = true := by kernel_rfl
set_option maxRecDepth 1000000 in
theorem b_5_46_26 : wayBlk atWays 5 46 26 26 = true := by kernel_rfl
set_option maxRecDepth 1000000 in
theorem b_5_47_0 : wayBlk atWays 5 47 0 26 = true := by kernel_rfl
end Go.Proofs.Ytcpnlgjkijcmhaa.EJoinParts

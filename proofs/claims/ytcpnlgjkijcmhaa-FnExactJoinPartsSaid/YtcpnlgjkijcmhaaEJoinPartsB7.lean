/-
  A part of the proof of FnExactJoinParts: pairs of ways, each a run. No condition.
-/
import Derived.Test.YtcpnlgjkijcmhaaEJoinPartsA
import Derived.KernelRfl
namespace Go.Proofs.Ytcpnlgjkijcmhaa.EJoinParts
open Go.ChangeShapes Go.WideShapes Go.ChangeAt Go.RowKit Go.Sx Go.Proofs.Ytcpnlgjkijcmhaa.Ids Go.Proofs.Ytcpnlgjkijcmhaa.Way
set_option linter.unusedVariables false
set_option linter.unusedSimpArgs false

open Go.Proofs.Ytcpnlgjkijcmhaa.WayJ
set_option maxRecDepth 1000000 in
theorem b_5_47_26 : wayBlk atWays 5 47 26 26 = true := by kernel_rfl
set_option maxRecDepth 1000000 in
theorem b_5_48_0 : wayBlk atWays 5 48 0 26 = true := by kernel_rfl
set_option maxRecDepth 1000000 in
theorem b_5_48_26 : wayBlk atWays 5 48 26 26 = true := by kernel_rfl
set_option maxRecDepth 1000000 in
theorem b_5_49_0 : wayBlk atWays 5 49 0 26 = true := by kernel_rfl
set_option maxRecDepth 1000000 in
theorem b_5_49_26 : wayBlk atWays 5 49 26 26 = true := by kernel_rfl
set_option maxRecDepth 1000000 in
theorem b_5_50_0 : wayBlk atWays 5 50 0 26 = true := by kernel_rfl
set_option maxRecDepth 1000000 in
theorem b_5_50_26 : wayBlk atWays 5 50 26 26 = true := by kernel_rfl
set_option maxRecDepth 1000000 in
theorem b_5_51_0 : wayBlk atWays 5 51 0 26 = true := by kernel_rfl
set_option maxRecDepth 1000000 in
theorem b_5_51_26 : wayBlk atWays 5 51 26 26 = true := by kernel_rfl
end Go.Proofs.Ytcpnlgjkijcmhaa.EJoinParts

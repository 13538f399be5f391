/-
  A part of the proof of FnExactMeetParts: pairs of ways, each a run. No condition.
-/
import Derived.Test.YtcpnlgjkijcmhaaEMeetPartsA
import Derived.KernelRfl
namespace Go.Proofs.Ytcpnlgjkijcmhaa.EMeetParts
open Go.ChangeShapes Go.WideShapes Go.ChangeAt Go.RowKit Go.Sx Go.Proofs.Ytcpnlgjkijcmhaa.Ids Go.Proofs.Ytcpnlgjkijcmhaa.Way
set_option linter.unusedVariables false
set_option linter.unusedSimpArgs false

set_option maxRecDepth 1000000 in
theorem b_5_24_0 : wayBlk atWays 5 24 0 26 = true := by kernel_rfl
set_option maxRecDepth 1000000 in
theorem b_5_24_26 : wayBlk atWays 5 24 26 26 = true := by kernel_rfl
set_option maxRecDepth 1000000 in
theorem b_5_25_0 : wayBlk atWays 5 25 0 26 = true := by kernel_rfl
set_option maxRecDepth 1000000 in
theorem b_5_25_26 : wayBlk atWays 5 25 26 26 = true := by kernel_rfl
set_option maxRecDepth 1000000 in
theorem b_5_26_0 : wayBlk atWays 5 26 0 26 = true := by kernel_rfl
set_option maxRecDepth 1000000 in
theorem b_5_26_26 : wayBlk atWays 5 26 26 26 = true := by kernel_rfl
set_option maxRecDepth 1000000 in
theorem b_5_27_0 : wayBlk atWays 5 27 0 26 = true := by kernel_rfl
set_option maxRecDepth 1000000 in
theorem b_5_27_26 : wayBlk atWays 5 27 26 26 = true := by kernel_rfl
set_option maxRecDepth 1000000 in
theorem b_5_28_0 : wayBlk atWays 5 28 0 26 = true := by kernel_rfl
set_option maxRecDepth 1000000 in
theorem b_5_28_26 : wayBlk atWays 5 28 26 26 = true := by kernel_rfl
set_option maxRecDepth 1000000 in
theorem b_5_29_0 : wayBlk atWays 5 29 0 26 = true := by kernel_rfl
set_option maxRecDepth 1000000 in
theorem b_5_29_26 : wayBlk atWays 5 29 26 26 = true := by kernel_rfl
set_option maxRecDepth 1000000 in
theorem b_5_30_0 : wayBlk atWays 5 30 0 26 = true := by kernel_rfl
set_option maxRecDepth 1000000 in
theorem b_5_30_26 : wayBlk atWays 5 30 26 26 = true := by kernel_rfl
set_option maxRecDepth 1000000 in
theorem b_5_31_0 : wayBlk atWays 5 31 0 26 = true := by kernel_rfl
set_option maxRecDepth 1000000 in
theorem b_5_31_26 : wayBlk atWays 5 31 26 26 = true := by kernel_rfl
set_option maxRecDepth 1000000 in
theorem b_5_32_0 : wayBlk atWays 5 32 0 26 = true := by kernel_rfl
set_option maxRecDepth 1000000 in
theorem b_5_32_26 : wayBlk atWays 5 32 26 26 = true := by kernel_rfl
set_option maxRecDepth 1000000 in
theorem b_5_33_0 : wayBlk atWays 5 33 0 26 = true := by kernel_rfl
end Go.Proofs.Ytcpnlgjkijcmhaa.EMeetParts

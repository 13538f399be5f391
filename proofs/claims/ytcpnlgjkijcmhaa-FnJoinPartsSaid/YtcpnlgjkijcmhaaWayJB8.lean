/-
  Parts put together, by runs, one for each of some pairs of ways. No condition.
-/
import Derived.Test.YtcpnlgjkijcmhaaWayK
import Derived.KernelRfl
namespace Go.Proofs.Ytcpnlgjkijcmhaa.WayJ
open Go.ChangeShapes Go.WideShapes Go.ChangeAt Go.RowKit Go.Sx Go.Proofs.Ytcpnlgjkijcmhaa.Ids Go.Proofs.Ytcpnlgjkijcmhaa.Way
set_option linter.unusedVariables false
set_option linter.unusedSimpArgs false

set_option maxRecDepth 1000000 in
theorem b_5_25_0 : wayBlk (joinRun Try.prog K1 200 36) 5 25 0 13 = true := by kernel_rfl
set_option maxRecDepth 1000000 in
theorem b_5_25_13 : wayBlk (joinRun Try.prog K1 200 36) 5 25 13 13 = true := by kernel_rfl
set_option maxRecDepth 1000000 in
theorem b_5_25_26 : wayBlk (joinRun Try.prog K1 200 36) 5 25 26 13 = true := by kernel_rfl
set_option maxRecDepth 1000000 in
theorem b_5_25_39 : wayBlk (joinRun Try.prog K1 200 36) 5 25 39 13 = true := by kernel_rfl
set_option maxRecDepth 1000000 in
theorem b_5_26_0 : wayBlk (joinRun Try.prog K1 200 36) 5 26 0 13 = true := by kernel_rfl
set_option maxRecDepth 1000000 in
theorem b_5_26_13 : wayBlk (joinRun Try.prog K1 200 36) 5 26 13 13 = true := by kernel_rfl
set_option maxRecDepth 1000000 in
theorem b_5_26_26 : wayBlk (joinRun Try.prog K1 200 36) 5 26 26 13 = true := by kernel_rfl
set_option maxRecDepth 1000000 in
theorem b_5_26_39 : wayBlk (joinRun Try.prog K1 200 36) 5 26 39 13 = true := by kernel_rfl
set_option maxRecDepth 1000000 in
theorem b_5_27_0 : wayBlk (joinRun Try.prog K1 200 36) 5 27 0 13 = true := by kernel_rfl
set_option maxRecDepth 1000000 in
theorem b_5_27_13 : wayBlk (joinRun Try.prog K1 200 36) 5 27 13 13 = true := by kernel_rfl
set_option maxRecDepth 1000000 in
theorem b_5_27_26 : wayBlk (joinRun Try.prog K1 200 36) 5 27 26 13 = true := by kernel_rfl
set_option maxRecDepth 1000000 in
theorem b_5_27_39 : wayBlk (joinRun Try.prog K1 200 36) 5 27 39 13 = true := by kernel_rfl
set_option maxRecDepth 1000000 in
theorem b_5_28_0 : wayBlk (joinRun Try.prog K1 200 36) 5 28 0 13 = true := by kernel_rfl
set_option maxRecDepth 1000000 in
theorem b_5_28_13 : wayBlk (joinRun Try.prog K1 200 36) 5 28 13 13 = true := by kernel_rfl
set_option maxRecDepth 1000000 in
theorem b_5_28_26 : wayBlk (joinRun Try.prog K1 200 36) 5 28 26 13 = true := by kernel_rfl
end Go.Proofs.Ytcpnlgjkijcmhaa.WayJ

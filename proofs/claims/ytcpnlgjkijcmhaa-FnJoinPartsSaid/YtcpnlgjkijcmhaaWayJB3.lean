/-
  Parts put together, by runs, one for each of some pairs of ways. No condition.
-/
import Derived.Test.YtcpnlgjkijcmhaaWayK
import Derived.KernelRfl
namespace Go.Proofs.Ytcpnlgjkijcmhaa.WayJ
open Go.ChangeShapes Go.WideShapes Go.ChangeAt Go.RowKit Go.Sx Go.Proofs.Ytcpnlgjkijcmhaa.Ids Go.Proofs.Ytcpnlgjkijcmhaa.Way
set_option linter.unusedVariables false
set_option linter.unusedSimpArgs false

set_option maxRecDepth 1000000 in
theorem b_5_6_13 : wayBlk (joinRun Try.prog K1 200 36) 5 6 13 13 = true := by kernel_rfl
set_option maxRecDepth 1000000 in
theorem b_5_6_26 : wayBlk (joinRun Try.prog K1 200 36) 5 6 26 13 = true := by kernel_rfl
set_option maxRecDepth 1000000 in
theorem b_5_6_39 : wayBlk (joinRun Try.prog K1 200 36) 5 6 39 13 = true := by kernel_rfl
set_option maxRecDepth 1000000 in
theorem b_5_7_0 : wayBlk (joinRun Try.prog K1 200 36) 5 7 0 13 = true := by kernel_rfl
set_option maxRecDepth 1000000 in
theorem b_5_7_13 : wayBlk (joinRun Try.prog K1 200 36) 5 7 13 13 = true := by kernel_rfl
set_option maxRecDepth 1000000 in
theorem b_5_7_26 : wayBlk (joinRun Try.prog K1 200 36) 5 7 26 13 = true := by kernel_rfl
set_option maxRecDepth 1000000 in
theorem b_5_7_39 : wayBlk (joinRun Try.prog K1 200 36) 5 7 39 13 = true := by kernel_rfl
set_option maxRecDepth 1000000 in
theorem b_5_8_0 : wayBlk (joinRun Try.prog K1 200 36) 5 8 0 13 = true := by kernel_rfl
set_option maxRecDepth 1000000 in
theorem b_5_8_13 : wayBlk (joinRun Try.prog K1 200 36) 5 8 13 13 = true := by kernel_rfl
set_option maxRecDepth 1000000 in
theorem b_5_8_26 : wayBlk (joinRun Try.prog K1 200 36) 5 8 26 13 = true := by kernel_rfl
set_option maxRecDepth 1000000 in
theorem b_5_8_39 : wayBlk (joinRun Try.prog K1 200 36) 5 8 39 13 = true := by kernel_rfl
set_option maxRecDepth 1000000 in
theorem b_5_9_0 : wayBlk (joinRun Try.prog K1 200 36) 5 9 0 13 = true := by kernel_rfl
set_option maxRecDepth 1000000 in
theorem b_5_9_13 : wayBlk (joinRun Try.prog K1 200 36) 5 9 13 13 = true := by kernel_rfl
set_option maxRecDepth 1000000 in
theorem b_5_9_26 : wayBlk (joinRun Try.prog K1 200 36) 5 9 26 13 = true := by kernel_rfl
set_option maxRecDepth 1000000 in
theorem b_5_9_39 : wayBlk (joinRun Try.prog K1 200 36) 5 9 39 13 = true := by kernel_rfl
end Go.Proofs.Ytcpnlgjkijcmhaa.WayJ

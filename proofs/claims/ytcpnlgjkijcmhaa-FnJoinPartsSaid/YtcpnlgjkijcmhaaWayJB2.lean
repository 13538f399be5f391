/-
  Parts put together, by runs, one for each of some pairs of ways. No condition.
-/
import Derived.Test.YtcpnlgjkijcmhaaWayK
import Derived.KernelRfl
namespace Go.Proofs.Ytcpnlgjkijcmhaa.WayJ
open Go.ChangeShapes Go.WideShapes Go.ChangeAt Go.RowKit Go.Sx Go.Proofs.Ytcpnlgjkijcmhaa.Ids Go.Proofs.Ytcpnlgjkijcmhaa.Way
set_option linter.unusedVariables false
set_option linter.unusedSimpArgs false

set_option maxRecDepth 1000000 in
theorem b_5_2_26 : wayBlk (joinRun Try.prog K1 200 36) 5 2 26 13 = true := by kernel_rfl
set_option maxRecDepth 1000000 in
theorem b_5_2_39 : wayBlk (joinRun Try.prog K1 200 36) 5 2 39 13 = true := by kernel_rfl
set_option maxRecDepth 1000000 in
theorem b_5_3_0 : wayBlk (joinRun Try.prog K1 200 36) 5 3 0 13 = true := by kernel_rfl
set_option maxRecDepth 1000000 in
theorem b_5_3_13 : wayBlk (joinRun Try.prog K1 200 36) 5 3 13 13 = true := by kernel_rfl
set_option maxRecDepth 1000000 in
theorem b_5_3_26 : wayBlk (joinRun Try.prog K1 200 36) 5 3 26 13 = true := by kernel_rfl
set_option maxRecDepth 1000000 in
theorem b_5_3_39 : wayBlk (joinRun Try.prog K1 200 36) 5 3 39 13 = true := by kernel_rfl
set_option maxRecDepth 1000000 in
theorem b_5_4_0 : wayBlk (joinRun Try.prog K1 200 36) 5 4 0 13 = true := by kernel_rfl
set_option maxRecDepth 1000000 in
theorem b_5_4_13 : wayBlk (joinRun Try.prog K1 200 36) 5 4 13 13 = true := by kernel_rfl
set_option maxRecDepth 1000000 in
theorem b_5_4_26 : wayBlk (joinRun Try.prog K1 200 36) 5 4 26 13 = true := by kernel_rfl
set_option maxRecDepth 1000000 in
theorem b_5_4_39 : wayBlk (joinRun Try.prog K1 200 36) 5 4 39 13 = true := by kernel_rfl
set_option maxRecDepth 1000000 in
theorem b_5_5_0 : wayBlk (joinRun Try.prog K1 200 36) 5 5 0 13 = true := by kernel_rfl
set_option maxRecDepth 1000000 in
theorem b_5_5_13 : wayBlk (joinRun Try.prog K1 200 36) 5 5 13 13 = true := by kernel_rfl
set_option maxRecDepth 1000000 in
theorem b_5_5_26 : wayBlk (joinRun Try.prog K1 200 36) 5 5 26 13 = true := by kernel_rfl
set_option maxRecDepth 1000000 in
theorem b_5_5_39 : wayBlk (joinRun Try.prog K1 200 36) 5 5 39 13 = true := by kernel_rfl
set_option maxRecDepth 1000000 in
theorem b_5_6_0 : wayBlk (joinRun Try.prog K1 200 36) 5 6 0 13 = true := by kernel_rfl
end Go.Proofs.Ytcpnlgjkijcmhaa.WayJ

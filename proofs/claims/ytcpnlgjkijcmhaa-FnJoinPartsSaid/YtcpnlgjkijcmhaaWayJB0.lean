/-
  Parts put together, by runs, one for each of some pairs of ways. No condition.
-/
import Derived.Test.YtcpnlgjkijcmhaaWayK
import Derived.KernelRfl
namespace Go.Proofs.Ytcpnlgjkijcmhaa.WayJ
open Go.ChangeShapes Go.WideShapes Go.ChangeAt Go.RowKit Go.Sx Go.Proofs.Ytcpnlgjkijcmhaa.Ids Go.Proofs.Ytcpnlgjkijcmhaa.Way
set_option linter.unusedVariables false
set_option linter.unusedSimpArgs false

set_option maxRecDepth 1000000 in
theorem b_1_0_0 : wayBlk (joinRun Try.prog K1 200 36) 1 0 0 1 = true := by kernel_rfl
set_option maxRecDepth 1000000 in
theorem b_2_0_0 : wayBlk (joinRun Try.prog K1 200 36) 2 0 0 2 = true := by kernel_rfl
set_option maxRecDepth 1000000 in
theorem b_2_1_0 : wayBlk (joinRun Try.prog K1 200 36) 2 1 0 2 = true := by kernel_rfl
set_option maxRecDepth 1000000 in
theorem b_3_0_0 : wayBlk (joinRun Try.prog K1 200 36) 3 0 0 5 = true := by kernel_rfl
set_option maxRecDepth 1000000 in
theorem b_3_1_0 : wayBlk (joinRun Try.prog K1 200 36) 3 1 0 5 = true := by kernel_rfl
set_option maxRecDepth 1000000 in
theorem b_3_2_0 : wayBlk (joinRun Try.prog K1 200 36) 3 2 0 5 = true := by kernel_rfl
set_option maxRecDepth 1000000 in
theorem b_3_3_0 : wayBlk (joinRun Try.prog K1 200 36) 3 3 0 5 = true := by kernel_rfl
set_option maxRecDepth 1000000 in
theorem b_3_4_0 : wayBlk (joinRun Try.prog K1 200 36) 3 4 0 5 = true := by kernel_rfl
set_option maxRecDepth 1000000 in
theorem b_4_0_0 : wayBlk (joinRun Try.prog K1 200 36) 4 0 0 13 = true := by kernel_rfl
set_option maxRecDepth 1000000 in
theorem b_4_0_13 : wayBlk (joinRun Try.prog K1 200 36) 4 0 13 2 = true := by kernel_rfl
set_option maxRecDepth 1000000 in
theorem b_4_1_0 : wayBlk (joinRun Try.prog K1 200 36) 4 1 0 13 = true := by kernel_rfl
set_option maxRecDepth 1000000 in
theorem b_4_1_13 : wayBlk (joinRun Try.prog K1 200 36) 4 1 13 2 = true := by kernel_rfl
set_option maxRecDepth 1000000 in
theorem b_4_2_0 : wayBlk (joinRun Try.prog K1 200 36) 4 2 0 13 = true := by kernel_rfl
set_option maxRecDepth 1000000 in
theorem b_4_2_13 : wayBlk (joinRun Try.prog K1 200 36) 4 2 13 2 = true := by kernel_rfl
set_option maxRecDepth 1000000 in
theorem b_4_3_0 : wayBlk (joinRun Try.prog K1 200 36) 4 3 0 13 = true := by kernel_rfl
set_option maxRecDepth 1000000 in
theorem b_4_3_13 : wayBlk (joinRun Try.prog K1 200 36) 4 3 13 2 = true := by kernel_rfl
set_option maxRecDepth 1000000 in
theorem b_4_4_0 : wayBlk (joinRun Try.prog K1 200 36) 4 4 0 13 = true := by kernel_rfl
set_option maxRecDepth 1000000 in
theorem b_4_4_13 : wayBlk (joinRun Try.prog K1 200 36) 4 4 13 2 = true := by kernel_rfl
set_option maxRecDepth 1000000 in
theorem b_4_5_0 : wayBlk (joinRun Try.prog K1 200 36) 4 5 0 13 = true := by kernel_rfl
set_option maxRecDepth 1000000 in
theorem b_4_5_13 : wayBlk (joinRun Try.prog K1 200 36) 4 5 13 2 = true := by kernel_rfl
set_option maxRecDepth 1000000 in
theorem b_4_6_0 : wayBlk (joinRun Try.prog K1 200 36) 4 6 0 13 = true := by kernel_rfl
set_option maxRecDepth 1000000 in
theorem b_4_6_13 : wayBlk (joinRun Try.prog K1 200 36) 4 6 13 2 = true := by kernel_rfl
set_option maxRecDepth 1000000 in
theorem b_4_7_0 : wayBlk (joinRun Try.prog K1 200 36) 4 7 0 13 = true := by kernel_rfl
set_option maxRecDepth 1000000 in
theorem b_4_7_13 : wayBlk (joinRun Try.prog K1 200 36) 4 7 13 2 = true := by kernel_rfl
set_option maxRecDepth 1000000 in
theorem b_4_8_0 : wayBlk (joinRun Try.prog K1 200 36) 4 8 0 13 = true := by kernel_rfl
set_option maxRecDepth 1000000 in
theorem b_4_8_13 : wayBlk (joinRun Try.prog K1 200 36) 4 8 13 2 = true := by kernel_rfl
set_option maxRecDepth 1000000 in
theorem b_4_9_0 : wayBlk (joinRun Try.prog K1 200 36) 4 9 0 13 = true := by kernel_rfl
set_option maxRecDepth 1000000 in
theorem b_4_9_13 : wayBlk (joinRun Try.prog K1 200 36) 4 9 13 2 = true := by kernel_rfl
set_option maxRecDepth 1000000 in
theorem b_4_10_0 : wayBlk (joinRun Try.prog K1 200 36) 4 10 0 13 = true := by kernel_rfl
end Go.Proofs.Ytcpnlgjkijcmhaa.WayJ

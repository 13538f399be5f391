/-
  Parts put together, by runs, one for each of some pairs of ways. No condition.
-/
import Derived.Test.YtcpnlgjkijcmhaaWayK
import Derived.KernelRfl
namespace Go.Proofs.Ytcpnlgjkijcmhaa.WayJ
open Go.ChangeShapes Go.WideShapes Go.ChangeAt Go.RowKit Go.Sx Go.Proofs.Ytcpnlgjkijcmhaa.Ids Go.Proofs.Ytcpnlgjkijcmhaa.Way
set_option linter.unusedVariables false
set_option linter.unusedSimpArgs false

set_option maxRecDepth 1000000 in
theorem b_4_10_13 : wayBlk (joinRun Try.prog K1 200 36) 4 10 13 2 = true := by kernel_rfl
set_option maxRecDepth 1000000 in
theorem b_4_11_0 : wayBlk (joinRun Try.prog K1 200 36) 4 11 0 13 = true := by kernel_rfl
set_option maxRecDepth 1000000 in
theorem b_4_11_13 : wayBlk (joinRun Try.prog K1 200 36) 4 11 13 2 = true := by kernel_rfl
set_option maxRecDepth 1000000 in
theorem b_4_12_0 : wayBlk (joinRun Try.prog K1 200 36) 4 12 0 13 = true := by kernel_rfl
set_option maxRecDepth 1000000 in
theorem b_4_12_13 : wayBlk (joinRun Try.prog K1 200 36) 4 12 13 2 = true := by kernel_rfl
set_option maxRecDepth 1000000 in
theorem b_4_13_0 : wayBlk (joinRun Try.prog K1 200 36) 4 13 0 13 = true := by kernel_rfl
set_option maxRecDepth 1000000 in
theorem b_4_13_13 : wayBlk (joinRun Try.prog K1 200 36) 4 13 13 2 = true := by kernel_rfl
set_option maxRecDepth 1000000 in
theorem b_4_14_0 : wayBlk (joinRun Try.prog K1 200 36) 4 14 0 13 = true := by kernel_rfl
set_option maxRecDepth 1000000 in
theorem b_4_14_13 : wayBlk (joinRun Try.prog K1 200 36) 4 14 13 2 = true := by kernel_rfl
set_option maxRecDepth 1000000 in
theorem b_5_0_0 : wayBlk (joinRun Try.prog K1 200 36) 5 0 0 13 = true := by kernel_rfl
set_option maxRecDepth 1000000 in
theorem b_5_0_13 : wayBlk (joinRun Try.prog K1 200 36) 5 0 13 13 = true := by kernel_rfl
set_option maxRecDepth 1000000 in
theorem b_5_0_26 : wayBlk (joinRun Try.prog K1 200 36) 5 0 26 13 = true := by kernel_rfl
set_option maxRecDepth 1000000 in
theorem b_5_0_39 : wayBlk (joinRun Try.prog K1 200 36) 5 0 39 13 = true := by kernel_rfl
set_option maxRecDepth 1000000 in
theorem b_5_1_0 : wayBlk (joinRun Try.prog K1 200 36) 5 1 0 13 = true := by kernel_rfl
set_option maxRecDepth 1000000 in
theorem b_5_1_13 : wayBlk (joinRun Try.prog K1 200 36) 5 1 13 13 = true := by kernel_rfl
set_option maxRecDepth 1000000 in
theorem b_5_1_26 : wayBlk (joinRun Try.prog K1 200 36) 5 1 26 13 = true := by kernel_rfl
set_option maxRecDepth 1000000 in
theorem b_5_1_39 : wayBlk (joinRun Try.prog K1 200 36) 5 1 39 13 = true := by kernel_rfl
set_option maxRecDepth 1000000 in
theorem b_5_2_0 : wayBlk (joinRun Try.prog K1 200 36) 5 2 0 13 = true := by kernel_rfl
set_option maxRecDepth 1000000 in
theorem b_5_2_13 : wayBlk (joinRun Try.prog K1 200 36) 5 2 13 13 = true := by kernel_rfl
end Go.Proofs.Ytcpnlgjkijcmhaa.WayJ

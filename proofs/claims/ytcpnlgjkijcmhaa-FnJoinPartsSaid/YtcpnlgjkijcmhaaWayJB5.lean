/-
  Parts put together, by runs, one for each of some pairs of ways. No condition.
-/
import Derived.Test.YtcpnlgjkijcmhaaWayK
import Derived.KernelRfl
namespace Go.Proofs.Ytcpnlgjkijcmhaa.WayJ
open Go.ChangeShapes Go.WideShapes Go.ChangeAt Go.RowKit Go.Sx Go.Proofs.Ytcpnlgjkijcmhaa.Ids Go.Proofs.Ytcpnlgjkijcmhaa.Way
set_option linter.unusedVariables false
set_option linter.unusedSimpArgs false

set_option maxRecDepth 1000000 in
theorem b_5_13_39 : wayBlk (joinRun Try.prog K1 200 36) 5 13 39 13 = true := by kernel_rfl
set_option maxRecDepth 1000000 in
theorem b_5_14_0 : wayBlk (joinRun Try.prog K1 200 36) 5 14 0 13 = true := by kernel_rfl
set_option maxRecDepth 1000000 in
theorem b_5_14_13 : wayBlk (joinRun Try.prog K1 200 36) 5 14 13 13 = true := by kernel_rfl
set_option maxRecDepth 1000000 in
theorem b_5_14_26 : wayBlk (joinRun Try.prog K1 200 36) 5 14 26 13 = true := by kernel_rfl
set_option maxRecDepth 1000000 in
theorem b_5_14_39 : wayBlk (joinRun Try.prog K1 200 36) 5 14 39 13 = true := by kernel_rfl
set_option maxRecDepth 1000000 in
theorem b_5_15_0 : wayBlk (joinRun Try.prog K1 200 36) 5 15 0 13 = true := by kernel_rfl
set_option maxRecDepth 1000000 in
theorem b_5_15_13 : wayBlk (joinRun Try.prog K1 200 36) 5 15 13 13 = true := by kernel_rfl
set_option maxRecDepth 1000000 in
theorem b_5_15_26 : wayBlk (joinRun Try.prog K1 200 36) 5 15 26 13 = true := by kernel_rfl
set_option maxRecDepth 1000000 in
theorem b_5_15_39 : wayBlk (joinRun Try.prog K1 200 36) 5 15 39 13 = true := by kernel_rfl
set_option maxRecDepth 1000000 in
theorem b_5_16_0 : wayBlk (joinRun Try.prog K1 200 36) 5 16 0 13 = true := by kernel_rfl
set_option maxRecDepth 1000000 in
theorem b_5_16_13 : wayBlk (joinRun Try.prog K1 200 36) 5 16 13 13 = true := by kernel_rfl
set_option maxRecDepth 1000000 in
theorem b_5_16_26 : wayBlk (joinRun Try.prog K1 200 36) 5 16 26 13 = true := by kernel_rfl
set_option maxRecDepth 1000000 in
theorem b_5_16_39 : wayBlk (joinRun Try.prog K1 200 36) 5 16 39 13 = true := by kernel_rfl
set_option maxRecDepth 1000000 in
theorem b_5_17_0 : wayBlk (joinRun Try.prog K1 200 36) 5 17 0 13 = true := by kernel_rfl
set_option maxRecDepth 1000000 in
theorem b_5_17_13 : wayBlk (joinRun Try.prog K1 200 36) 5 17 13 13 = true := by kernel_rfl
end Go.Proofs.Ytcpnlgjkijcmhaa.WayJ

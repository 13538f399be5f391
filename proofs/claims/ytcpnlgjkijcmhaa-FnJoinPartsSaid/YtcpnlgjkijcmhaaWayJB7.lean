/-
  Parts put together, by runs, one for each of some pairs of ways. No condition.
-/
import Derived.Test.YtcpnlgjkijcmhaaWayK
import Derived.KernelRfl
namespace Go.Proofs.Ytcpnlgjkijcmhaa.WayJ
open Go.ChangeShapes Go.WideShapes Go.ChangeAt Go.RowKit Go.Sx Go.Proofs.Ytcpnlgjkijcmhaa.Ids Go.Proofs.Ytcpnlgjkijcmhaa.Way
set_option linter.unusedVariables false
set_option linter.unusedSimpArgs false

set_option maxRecDepth 1000000 in
theorem b_5_21_13 : wayBlk (joinRun Try.prog K1 200 36) 5 21 13 13 = true := by kernel_rfl
set_option maxRecDepth 1000000 in
theorem b_5_21_26 : wayBlk (joinRun Try.prog K1 200 36) 5 21 26 13 = true := by kernel_rfl
set_option maxRecDepth 1000000 in
theorem b_5_21_39 : wayBlk (joinRun Try.prog K1 200 36) 5 21 39 13 = true := by kernel_rfl
set_option maxRecDepth 1000000 in
theorem b_5_22_0 : wayBlk (joinRun Try.prog K1 200 36) 5 22 0 13 = true := by kernel_rfl
set_option maxRecDepth 1000000 in
theorem b_5_22_13 : wayBlk (joinRun Try.prog K1 200 36) 5 22 13 13 = true := by kernel_rfl
set_option maxRecDepth 1000000 in
theorem b_5_22_26 : wayBlk (joinRun Try.prog K1 200 36) 5 22 26 13 = true := by kernel_rfl
set_option maxRecDepth 1000000 in
theorem b_5_22_39 : wayBlk (joinRun Try.prog K1 200 36) 5 22 39 13 = true := by kernel_rfl
set_option maxRecDepth 1000000 in
theorem b_5_23_0 : wayBlk (joinRun Try.prog K1 200 36) 5 23 0 13 = true := by kernel_rfl
set_option maxRecDepth 1000000 in
theorem b_5_23_13 : wayBlk (joinRun Try.prog K1 200 36) 5 23 13 13 = true := by kernel_rfl
set_option maxRecDepth 1000000 in
theorem b_5_23_26 : wayBlk (joinRun Try.prog K1 200 36) 5 23 26 13 = true := by kernel_rfl
set_option maxRecDepth 1000000 in
theorem b_5_23_39 : wayBlk (joinRun Try.prog K1 200 36) 5 23 39 13 = true := by kernel_rfl
set_option maxRecDepth 1000000 in
theorem b_5_24_0 : wayBlk (joinRun Try.prog K1 200 36) 5 24 0 13 = true := by kernel_rfl
set_option maxRecDepth 1000000 in
theorem b_5_24_13 : wayBlk (joinRun Try.prog K1 200 36) 5 24 13 13 = true := by kernel_rfl
set_option maxRecDepth 1000000 in
theorem b_5_24_26 : wayBlk (joinRun Try.prog K1 200 36) 5 24 26 13 = true := by kernel_rfl
set_option maxRecDepth 1000000 in
theorem b_5_24_39 : wayBlk (joinRun Try.prog K1 200 36) 5 24 39 13 = true := by kernel_rfl
end Go.Proofs.Ytcpnlgjkijcmhaa.WayJ

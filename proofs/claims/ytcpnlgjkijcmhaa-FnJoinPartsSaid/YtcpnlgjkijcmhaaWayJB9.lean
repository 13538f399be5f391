/-
  Parts put together, by runs, one for each of some pairs of ways. No condition.
-/
import Derived.Test.YtcpnlgjkijcmhaaWayK
import Derived.KernelRfl
namespace Go.Proofs.Ytcpnlgjkijcmhaa.WayJ
open Go.ChangeShapes Go.WideShapes Go.ChangeAt Go.RowKit Go.Sx Go.Proofs.Ytcpnlgjkijcmhaa.Ids Go.Proofs.Ytcpnlgjkijcmhaa.Way
set_option linter.unusedVariables false
set_option linter.unusedSimpArgs false

set_option maxRecDepth 1000000 in
theorem b_5_28_39 : wayBlk (joinRun Try.prog K1 200 36) 5 28 39 13 = true := by kernel_rfl
set_option maxRecDepth 1000000 in
theorem b_5_29_0 : wayBlk (joinRun Try.prog K1 200 36) 5 29 0 13 = true := by kernel_rfl
set_option maxRecDepth 1000000 in
theorem b_5_29_13 : wayBlk (joinRun Try.prog K1 200 36) 5 29 13 13 = true := by kernel_rfl
set_option maxRecDepth 1000000 in
theorem b_5_29_26 : wayBlk (joinRun Try.prog K1 200 36) 5 29 26 13 = true := by kernel_rfl
set_option maxRecDepth 1000000 in
theorem b_5_29_39 : wayBlk (joinRun Try.prog K1 200 36) 5 29 39 13 = true := by kernel_rfl
set_option maxRecDepth 1000000 in
theorem b_5_30_0 : wayBlk (joinRun Try.prog K1 200 36) 5 30 0 13 = true := by kernel_rfl
set_option maxRecDepth 1000000 in
theorem b_5_30_13 : wayBlk (joinRun Try.prog K1 200 36) 5 30 13 13 = true := by kernel_rfl
set_option maxRecDepth 1000000 in
theorem b_5_30_26 : wayBlk (joinRun Try.prog K1 200 36) 5 30 26 13 = true := by kernel_rfl
set_option maxRecDepth 1000000 in
theorem b_5_30_39 : wayBlk (joinRun Try.prog K1 200 36) 5 30 39 13 = true := by kernel_rfl
set_option maxRecDepth 1000000 in
theorem b_5_31_0 : wayBlk (joinRun Try.prog K1 200 36) 5 31 0 13 = true := by kernel_rfl
set_option maxRecDepth 1000000 in
theorem b_5_31_13 : wayBlk (joinRun Try.prog K1 200 36) 5 31 13 13 = true := by kernel_rfl
set_option maxRecDepth 1000000 in
theorem b_5_31_26 : wayBlk (joinRun Try.prog K1 200 36) 5 31 26 13 = true := by kernel_rfl
set_option maxRecDepth 1000000 in
theorem b_5_31_39 : wayBlk (joinRun Try.prog K1 200 36) 5 31 39 13 = true := by kernel_rfl
set_option maxRecDepth 1000000 in
theorem b_5_32_0 : wayBlk (joinRun Try.prog K1 200 36) 5 32 0 13 = true := by kernel_rfl
set_option maxRecDepth 1000000 in
theorem b_5_32_13 : wayBlk (joinRun Try.prog K1 200 36) 5 32 13 13 = true := by kernel_rfl
end Go.Proofs.Ytcpnlgjkijcmhaa.WayJ

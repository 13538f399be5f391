/-
  Parts put together, by runs, one for each of some pairs of ways. No condition.
-/
import Derived.Test.YtcpnlgjkijcmhaaWayK
import Derived.KernelRfl
namespace Go.Proofs.Ytcpnlgjkijcmhaa.WayJ
open Go.ChangeShapes Go.WideShapes Go.ChangeAt Go.RowKit Go.Sx Go.Proofs.Ytcpnlgjkijcmhaa.Ids Go.Proofs.Ytcpnlgjkijcmhaa.Way
set_option linter.unusedVariables false
set_option linter.unusedSimpArgs false

set_option maxRecDepth 1000000 in
theorem b_5_40_0 : wayBlk (joinRun Try.prog K1 200 36) 5 40 0 13 = true := by kernel_rfl
set_option maxRecDepth 1000000 in
theorem b_5_40_13 : wayBlk (joinRun Try.prog K1 200 36) 5 40 13 13 = true := by kernel_rfl
set_option maxRecDepth 1000000 in
theorem b_5_40_26 : wayBlk (joinRun Try.prog K1 200 36) 5 40 26 13 = true := by kernel_rfl
set_option maxRecDepth 1000000 in
theorem b_5_40_39 : wayBlk (joinRun Try.prog K1 200 36) 5 40 39 13 = true := by kernel_rfl
set_option maxRecDepth 1000000 in
theorem b_5_41_0 : wayBlk (joinRun Try.prog K1 200 36) 5 41 0 13 = true := by kernel_rfl
set_option maxRecDepth 1000000 in
theorem b_5_41_13 : wayBlk (joinRun Try.prog K1 200 36) 5 41 13 13 = true := by kernel_rfl
set_option maxRecDepth 1000000 in
theorem b_5_41_26 : wayBlk (joinRun Try.prog K1 200 36) 5 41 26 13 = true := by kernel_rfl
set_option maxRecDepth 1000000 in
theorem b_5_41_39 : wayBlk (joinRun Try.prog K1 200 36) 5 41 39 13 = true := by kernel_rfl
set_option maxRecDepth 1000000 in
theorem b_5_42_0 : wayBlk (joinRun Try.prog K1 200 36) 5 42 0 13 = true := by kernel_rfl
set_option maxRecDepth 1000000 in
theorem b_5_42_13 : wayBlk (joinRun Try.prog K1 200 36) 5 42 13 13 = true := by kernel_rfl
set_option maxRecDepth 1000000 in
theorem b_5_42_26 : wayBlk (joinRun Try.prog K1 200 36) 5 42 26 13 = true := by kernel_rfl
set_option maxRecDepth 1000000 in
theorem b_5_42_39 : wayBlk (joinRun Try.prog K1 200 36) 5 42 39 13 = true := by kernel_rfl
set_option maxRecDepth 1000000 in
theorem b_5_43_0 : wayBlk (joinRun Try.prog K1 200 36) 5 43 0 13 = true := by kernel_rfl
set_option maxRecDepth 1000000 in
theorem b_5_43_13 : wayBlk (joinRun Try.prog K1 200 36) 5 43 13 13 = true := by kernel_rfl
set_option maxRecDepth 1000000 in
theorem b_5_43_26 : wayBlk (joinRun Try.prog K1 200 36) 5 43 26 13 = true := by kernel_rfl
end Go.Proofs.Ytcpnlgjkijcmhaa.WayJ

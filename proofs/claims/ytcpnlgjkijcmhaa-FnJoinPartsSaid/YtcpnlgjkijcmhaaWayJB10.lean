/-
  Parts put together, by runs, one for each of some pairs of ways. No condition.
-/
import Derived.Test.YtcpnlgjkijcmhaaWayK
import Derived.KernelRfl
namespace Go.Proofs.Ytcpnlgjkijcmhaa.WayJ
open Go.ChangeShapes Go.WideShapes Go.ChangeAt Go.RowKit Go.Sx Go.Proofs.Ytcpnlgjkijcmhaa.Ids Go.Proofs.Ytcpnlgjkijcmhaa.Way
set_option linter.unusedVariables false
set_option linter.unusedSimpArgs false

set_option maxRecDepth 1000000 in
theorem b_5_32_26 : wayBlk (joinRun Try.prog K1 200 36) 5 32 26 13 = true := by kernel_rfl
set_option maxRecDepth 1000000 in
theorem b_5_32_39 : wayBlk (joinRun Try.prog K1 200 36) 5 32 39 13 = true := by kernel_rfl
set_option maxRecDepth 1000000 in
theorem b_5_33_0 : wayBlk (joinRun Try.prog K1 200 36) 5 33 0 13 = true := by kernel_rfl
set_option maxRecDepth 1000000 in
theorem b_5_33_13 : wayBlk (joinRun Try.prog K1 200 36) 5 33 13 13 = true := by kernel_rfl
set_option maxRecDepth 1000000 in
theorem b_5_33_26 : wayBlk (joinRun Try.prog K1 200 36) 5 33 26 13 = true := by kernel_rfl
set_option maxRecDepth 1000000 in
theorem b_5_33_39 : wayBlk (joinRun Try.prog K1 200 36) 5 33 39 13 = true := by kernel_rfl
set_option maxRecDepth 1000000 in
theorem b_5_34_0 : wayBlk (joinRun Try.prog K1 200 36) 5 34 0 13 = true := by kernel_rfl
set_option maxRecDepth 1000000 in
theorem b_5_34_13 : wayBlk (joinRun Try.prog K1 200 36) 5 34 13 13 = true := by kernel_rfl
set_option maxRecDepth 1000000 in
theorem b_5_34_26 : wayBlk (joinRun Try.prog K1 200 36) 5 34 26 13 = true := by kernel_rfl
set_option maxRecDepth 1000000 in
theorem b_5_34_39 : wayBlk (joinRun Try.prog K1 200 36) 5 34 39 13 = true := by kernel_rfl
set_option maxRecDepth 1000000 in
theorem b_5_35_0 : wayBlk (joinRun Try.prog K1 200 36) 5 35 0 13 = true := by kernel_rfl
set_option maxRecDepth 1000000 in
theorem b_5_35_13 : wayBlk (joinRun Try.prog K1 200 36) 5 35 13 13 = true := by kernel_rfl
set_option maxRecDepth 1000000 in
theorem b_5_35_26 : wayBlk (joinRun Try.prog K1 200 36) 5 35 26 13 = true := by kernel_rfl
set_option maxRecDepth 1000000 in
theorem b_5_35_39 : wayBlk (joinRun Try.prog K1 200 36) 5 35 39 13 = true := by kernel_rfl
set_option maxRecDepth 1000000 in
theorem b_5_36_0 : wayBlk (joinRun Try.prog K1 200 36) 5 36 0 13 = true := by kernel_rfl
end Go.Proofs.Ytcpnlgjkijcmhaa.WayJ

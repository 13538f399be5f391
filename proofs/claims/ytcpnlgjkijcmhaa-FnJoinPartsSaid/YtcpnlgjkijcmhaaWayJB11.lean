/-
  Parts put together, by runs, one for each of some pairs of ways. No condition.
-/
import Derived.Test.YtcpnlgjkijcmhaaWayK
import Derived.KernelRfl
namespace Go.Proofs.Ytcpnlgjkijcmhaa.WayJ
open Go.ChangeShapes Go.WideShapes Go.ChangeAt Go.RowKit Go.Sx Go.Proofs.Ytcpnlgjkijcmhaa.Ids Go.Proofs.Ytcpnlgjkijcmhaa.Way
set_option linter.unusedVariables false
set_option linter.unusedSimpArgs false

set_option maxRecDepth 1000000 in
theorem b_5_36_13 : wayBlk (joinRun Try.prog K1 200 36) 5 36 13 13 = true := by kernel_rfl
set_option maxRecDepth 1000000 in
theorem b_5_36_26 : wayBlk (joinRun Try.prog K1 200 36) 5 36 26 13 = true := by kernel_rfl
set_option maxRecDepth 1000000 in
theorem b_5_36_39 : wayBlk (joinRun Try.prog K1 200 36) 5 36 39 13 = true := by kernel_rfl
set_option maxRecDepth 1000000 in
theorem b_5_37_0 : wayBlk (joinRun Try.prog K1 200 36) 5 37 0 13 = true := by kernel_rfl
set_option maxRecDepth 1000000 in
theorem b_5_37_13 : wayBlk (joinRun Try.prog K1 200 36) 5 37 13 13 = true := by kernel_rfl
set_option maxRecDepth 1000000 in
theorem b_5_37_26 : wayBlk (joinRun Try.prog K1 200 36) 5 37 26 13 = true := by kernel_rfl
set_option maxRecDepth 1000000 in
theorem b_5_37_39 : wayBlk (joinRun Try.prog K1 200 36) 5 37 39 13 = true := by kernel_rfl
set_option maxRecDepth 1000000 in
theorem b_5_38_0 : wayBlk (joinRun Try.prog K1 200 36) 5 38 0 13 = true := by kernel_rfl
set_option maxRecDepth 1000000 in
theorem b_5_38_13 : wayBlk (joinRun Try.prog K1 200 36) 5 38 13 13 = true := by kernel_rfl
set_option maxRecDepth 1000000 in
theorem b_5_38_26 : wayBlk (joinRun Try.prog K1 200 36) 5 38 26 13 = true := by kernel_rfl
set_option maxRecDepth 1000000 in
theorem b_5_38_39 : wayBlk (joinRun Try.prog K1 200 36) 5 38 39 13 = true := by kernel_rfl
set_option maxRecDepth 1000000 in
theorem b_5_39_0 : wayBlk (joinRun Try.prog K1 200 36) 5 39 0 13 = true := by kernel_rfl
set_option maxRecDepth 1000000 in
theorem b_5_39_13 : wayBlk (joinRun Try.prog K1 200 36) 5 39 13 13 = true := by kernel_rfl
set_option maxRecDepth 1000000 in
theorem b_5_39_26 : wayBlk (joinRun Try.prog K1 200 36) 5 39 26 13 = true := by kernel_rfl
set_option maxRecDepth 1000000 in
theorem b_5_39_39 : wayBlk (joinRun Try.prog K1 200 36) 5 39 39 13 = true := by kernel_rfl
end Go.Proofs.Ytcpnlgjkijcmhaa.WayJ

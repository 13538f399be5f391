/-
  Parts put together, by runs, one for each of some pairs of ways. No condition.
-/
import Derived.Test.YtcpnlgjkijcmhaaWayK
import Derived.KernelRfl
namespace Go.Proofs.Ytcpnlgjkijcmhaa.WayJ
open Go.ChangeShapes Go.WideShapes Go.ChangeAt Go.RowKit Go.Sx Go.Proofs.Ytcpnlgjkijcmhaa.Ids Go.Proofs.Ytcpnlgjkijcmhaa.Way
set_option linter.unusedVariables false
set_option linter.unusedSimpArgs false

set_option maxRecDepth 1000000 in
theorem b_5_43_39 : wayBlk (joinRun Try.prog K1 200 36) 5 43 39 13 = true := by kernel_rfl
set_option maxRecDepth 1000000 in
theorem b_5_44_0 : wayBlk (joinRun Try.prog K1 200 36) 5 44 0 13 = true := by kernel_rfl
set_option maxRecDepth 1000000 in
theorem b_5_44_13 : wayBlk (joinRun Try.prog K1 200 36) 5 44 13 13 = true := by kernel_rfl
set_option maxRecDepth 1000000 in
theorem b_5_44_26 : wayBlk (joinRun Try.prog K1 200 36) 5 44 26 13 = true := by kernel_rfl
set_option maxRecDepth 1000000 in
theorem b_5_44_39 : wayBlk (joinRun Try.prog K1 200 36) 5 44 39 13 = true := by kernel_rfl
set_option maxRecDepth 1000000 in
theorem b_5_45_0 : wayBlk (joinRun Try.prog K1 200 36) 5 45 0 13 = true := by kernel_rfl
set_option maxRecDepth 1000000 in
theorem b_5_45_13 : wayBlk (joinRun Try.prog K1 200 36) 5 45 13 13 = true := by kernel_rfl
set_option maxRecDepth 1000000 in
theorem b_5_45_26 : wayBlk (joinRun Try.prog K1 200 36) 5 45 26 13 = true := by kernel_rfl
set_option maxRecDepth 1000000 in
theorem b_5_45_39 : wayBlk (joinRun Try.prog K1 200 36) 5 45 39 13 = true := by kernel_rfl
set_option maxRecDepth 1000000 in
theorem b_5_46_0 : wayBlk (joinRun Try.prog K1 200 36) 5 46 0 13 = true := by kernel_rfl
set_option maxRecDepth 1000000 in
theorem b_5_46_13 : wayBlk (joinRun Try.prog K1 200 36) 5 46 13 13 = true := by kernel_rfl
set_option maxRecDepth 1000000 in
theorem b_5_46_26 : wayBlk (joinRun Try.prog K1 200 36) 5 46 26 13 = true := by kernel_rfl
set_option maxRecDepth 1000000 in
theorem b_5_46_39 : wayBlk (joinRun Try.prog K1 200 36) 5 46 39 13 = true := by kernel_rfl
set_option maxRecDepth 1000000 in
theorem b_5_47_0 : wayBlk (joinRun Try.prog K1 200 36) 5 47 0 13 = true := by kernel_rfl
set_option maxRecDepth 1000000 in
theorem b_5_47_13 : wayBlk (joinRun Try.prog K1 200 36) 5 47 13 13 = true := by kernel_rfl
end Go.Proofs.Ytcpnlgjkijcmhaa.WayJ

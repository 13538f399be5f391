/-
  Parts put together, by runs, one for each of some pairs of ways. No condition.
-/
import Derived.Test.YtcpnlgjkijcmhaaWayK
import Derived.KernelRfl
namespace Go.Proofs.Ytcpnlgjkijcmhaa.WayJ
open Go.ChangeShapes Go.WideShapes Go.ChangeAt Go.RowKit Go.Sx Go.Proofs.Ytcpnlgjkijcmhaa.Ids Go.Proofs.Ytcpnlgjkijcmhaa.Way
set_option linter.unusedVariables false
set_option linter.unusedSimpArgs false

set_option maxRecDepth 1000000 in
theorem b_5_47_26 : wayBlk (joinRun Try.prog K1 200 36) 5 47 26 13 = true := by kernel_rfl
set_option maxRecDepth 1000000 in
theorem b_5_47_39 : wayBlk (joinRun Try.prog K1 200 36) 5 47 39 13 = true := by kernel_rfl
set_option maxRecDepth 1000000 in
theorem b_5_48_0 : wayBlk (joinRun Try.prog K1 200 36) 5 48 0 13 = true := by kernel_rfl
set_option maxRecDepth 1000000 in
theorem b_5_48_13 : wayBlk (joinRun Try.prog K1 200 36) 5 48 13 13 = true := by kernel_rfl
set_option maxRecDepth 1000000 in
theorem b_5_48_26 : wayBlk (joinRun Try.prog K1 200 36) 5 48 26 13 = true := by kernel_rfl
set_option maxRecDepth 1000000 in
theorem b_5_48_39 : wayBlk (joinRun Try.prog K1 200 36) 5 48 39 13 = true := by kernel_rfl
set_option maxRecDepth 1000000 in
theorem b_5_49_0 : wayBlk (joinRun Try.prog K1 200 36) 5 49 0 13 = true := by kernel_rfl
set_option maxRecDepth 1000000 in
theorem b_5_49_13 : wayBlk (joinRun Try.prog K1 200 36) 5 49 13 13 = true := by kernel_rfl
set_option maxRecDepth 1000000 in
theorem b_5_49_26 : wayBlk (joinRun Try.prog K1 200 36) 5 49 26 13 = true := by kernel_rfl
set_option maxRecDepth 1000000 in
theorem b_5_49_39 : wayBlk (joinRun Try.prog K1 200 36) 5 49 39 13 = true := by kernel_rfl
set_option maxRecDepth 1000000 in
theorem b_5_50_0 : wayBlk (joinRun Try.prog K1 200 36) 5 50 0 13 = true := by kernel_rfl
set_option maxRecDepth 1000000 in
theorem b_5_50_13 : wayBlk (joinRun Try.prog K1 200 36) 5 50 13 13 = true := by kernel_rfl
set_option maxRecDepth 1000000 in
theorem b_5_50_26 : wayBlk (joinRun Try.prog K1 200 36) 5 50 26 13 = true := by kernel_rfl
set_option maxRecDepth 1000000 in
theorem b_5_50_39 : wayBlk (joinRun Try.prog K1 200 36) 5 50 39 13 = true := by kernel_rfl
set_option maxRecDepth 1000000 in
theorem b_5_51_0 : wayBlk (joinRun Try.prog K1 200 36) 5 51 0 13 = true := by kernel_rfl
end Go.Proofs.Ytcpnlgjkijcmhaa.WayJ

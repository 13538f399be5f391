/-
  Parts put together, by runs, one for each of some pairs of ways. No condition.
-/
import Derived.Test.YtcpnlgjkijcmhaaWayK
import Derived.KernelRfl
namespace Go.Proofs.Ytcpnlgjkijcmhaa.WayJ
open Go.ChangeShapes Go.WideShapes Go.ChangeAt Go.RowKit Go.Sx Go.Proofs.Ytcpnlgjkijcmhaa.Ids Go.Proofs.Ytcpnlgjkijcmhaa.Way
set_option linter.unusedVariables false
set_option linter.unusedSimpArgs false

set_option maxRecDepth 1000000 in
theorem b_5_10_0 : wayBlk (joinRun Try.prog K1 200 36) 5 10 0 13 = true := by kernel_rfl
set_option maxRecDepth 1000000 in
theorem b_5_10_13 : wayBlk (joinRun Try.prog K1 200 36) 5 10 13 13 = true := by kernel_rfl
set_option maxRecDepth 1000000 in
theorem b_5_10_26 : wayBlk (joinRun Try.prog K1 200 36) 5 10 26 13 = true := by kernel_rfl
set_option maxRecDepth 1000000 in
theorem b_5_10_39 : wayBlk (joinRun Try.prog K1 200 36) 5 10 39 13 = true := by kernel_rfl
set_option maxRecDepth 1000000 in
theorem b_5_11_0 : wayBlk (joinRun Try.prog K1 200 36) 5 11 0 13 = true := by kernel_rfl
set_option maxRecDepth 1000000 in
theorem b_5_11_13 : wayBlk (joinRun Try.prog K1 200 36) 5 11 13 13 = true := by kernel_rfl
set_option maxRecDepth 1000000 in
theorem b_5_11_26 : wayBlk (joinRun Try.prog K1 200 36) 5 11 26 13 = true := by kernel_rfl
set_option maxRecDepth 1000000 in
theorem b_5_11_39 : wayBlk (joinRun Try.prog K1 200 36) 5 11 39 13 = true := by kernel_rfl
set_option maxRecDepth 1000000 in
theorem b_5_12_0 : wayBlk (joinRun Try.prog K1 200 36) 5 12 0 13 = true := by kernel_rfl
set_option maxRecDepth 1000000 in
theorem b_5_12_13 : wayBlk (joinRun Try.prog K1 200 36) 5 12 13 13 = true := by kernel_rfl
set_option maxRecDepth 1000000 in
theorem b_5_12_26 : wayBlk (joinRun Try.prog K1 200 36) 5 12 26 13 = true := by kernel_rfl
set_option maxRecDepth 1000000 in
theorem b_5_12_39 : wayBlk (joinRun Try.prog K1 200 36) 5 12 39 13 = true := by kernel_rfl
set_option maxRecDepth 1000000 in
theorem b_5_13_0 : wayBlk (joinRun Try.prog K1 200 36) 5 13 0 13 = true := by kernel_rfl
set_option maxRecDepth 1000000 in
theorem b_5_13_13 : wayBlk (joinRun Try.prog K1 200 36) 5 13 13 13 = true := by kernel_rfl
set_option maxRecDepth 1000000 in
theorem b_5_13_26 : wayBlk (joinRun Try.prog K1 200 36) 5 13 26 13 = true := by kernel_rfl
end Go.Proofs.Ytcpnlgjkijcmhaa.WayJ

/-
  Parts put together, by runs, one for each of some pairs of ways. No condition.
-/
import Derived.Test.YtcpnlgjkijcmhaaWayK
import Derived.KernelRfl
namespace Go.Proofs.Ytcpnlgjkijcmhaa.WayJ
open Go.ChangeShapes Go.WideShapes Go.ChangeAt Go.RowKit Go.Sx Go.Proofs.Ytcpnlgjkijcmhaa.Ids Go.Proofs.Ytcpnlgjkijcmhaa.Way
set_option linter.unusedVariables false
set_option linter.unusedSimpArgs false

set_option maxRecDepth 1000000 in
theorem b_5_17_26 : wayBlk (joinRun Try.prog K1 200 36) 5 17 26 13 = true := by kernel_rfl
set_option maxRecDepth 1000000 in
theorem b_5_17_39 : wayBlk (joinRun Try.prog K1 200 36) 5 17 39 13 = true := by kernel_rfl
set_option maxRecDepth 1000000 in
theorem b_5_18_0 : wayBlk (joinRun Try.prog K1 200 36) 5 18 0 13 = true := by kernel_rfl
set_option maxRecDepth 1000000 in
theorem b_5_18_13 : wayBlk (joinRun Try.prog K1 200 36) 5 18 13 13 = true := by kernel_rfl
set_option maxRecDepth 1000000 in
theorem b_5_18_26 : wayBlk (joinRun Try.prog K1 200 36) 5 18 26 13 = true := by kernel_rfl
set_option maxRecDepth 1000000 in
theorem b_5_18_39 : wayBlk (joinRun Try.prog K1 200 36) 5 18 39 13 = true := by kernel_rfl
set_option maxRecDepth 1000000 in
theorem b_5_19_0 : wayBlk (joinRun Try.prog K1 200 36) 5 19 0 13 = true := by kernel_rfl
set_option maxRecDepth 1000000 in
theorem b_5_19_13 : wayBlk (joinRun Try.prog K1 200 36) 5 19 13 13 = true := by kernel_rfl
set_option maxRecDepth 1000000 in
theorem b_5_19_26 : wayBlk (joinRun Try.prog K1 200 36) 5 19 26 13 = true := by kernel_rfl
set_option maxRecDepth 1000000 in
theorem b_5_19_39 : wayBlk (joinRun Try.prog K1 200 36) 5 19 39 13 = true := by kernel_rfl
set_option maxRecDepth 1000000 in
theorem b_5_20_0 : wayBlk (joinRun Try.prog K1 200 36) 5 20 0 13 = true := by kernel_rfl
set_option maxRecDepth 1000000 in
theorem b_5_20_13 : wayBlk (joinRun Try.prog K1 200 36) 5 20 13 13 = true := by kernel_rfl
set_option maxRecDepth 1000000 in
theorem b_5_20_26 : wayBlk (joinRun Try.prog K1 200 36) 5 20 26 13 = true := by kernel_rfl
set_option maxRecDepth 1000000 in
theorem b_5_20_39 : wayBlk (joinRun Try.prog K1 200 36) 5 20 39 13 = true := by kernel_rfl
set_option maxRecDepth 1000000 in
theorem b_5_21_0 : wayBlk (joinRun Try.prog K1 200 36) 5 21 0 13 = true := by kernel_rfl
end Go.Proofs.Ytcpnlgjkijcmhaa.WayJ

/-
  Parts put together, by runs, one for each of some pairs of ways. No condition.
-/
import Derived.Test.YtcpnlgjkijcmhaaWayK
import Derived.KernelRfl
namespace Go.Proofs.Ytcpnlgjkijcmhaa.WayJ
open Go.ChangeShapes Go.WideShapes Go.ChangeAt Go.RowKit Go.Sx Go.Proofs.Ytcpnlgjkijcmhaa.Ids Go.Proofs.Ytcpnlgjkijcmhaa.Way
set_option linter.unusedVariables false
set_option linter.unusedSimpArgs false

set_option maxRecDepth 1000000 in
theorem b_5_51_13 : wayBlk (joinRun Try.prog K1 200 36) 5 51 13 13 = true := by kernel_rfl
set_option maxRecDepth 1000000 in
theorem b_5_51_26 : wayBlk (joinRun Try.prog K1 200 36) 5 51 26 13 = true := by kernel_rfl
set_option maxRecDepth 1000000 in
theorem b_5_51_39 : wayBlk (joinRun Try.prog K1 200 36) 5 51 39 13 = true := by kernel_rfl
end Go.Proofs.Ytcpnlgjkijcmhaa.WayJ

/-
  A part of the proof of FnExactMultiplyPairs: cases of its law, each a run. No condition.
-/
import Derived.Test.YtjodjcmdlbhciaaEMultiplyPairsA
namespace Go.Proofs.Ytjodjcmdlbhciaa.EMultiplyPairs
open Go.ChangeShapes Go.WideShapes Go.ChangeAt Go.RowKit Go.Sx Go.Proofs.Ytjodjcmdlbhciaa.Ids
set_option linter.unusedVariables false
set_option linter.unusedSimpArgs false

set_option maxRecDepth 1000000 in
theorem b_1111_396 : law.blk Try.prog ids Summs.tab 60 [1, 1, 1, 1] 396 4 = true := by kernel_rfl
set_option maxRecDepth 1000000 in
theorem b_1111_400 : law.blk Try.prog ids Summs.tab 60 [1, 1, 1, 1] 400 4 = true := by kernel_rfl
end Go.Proofs.Ytjodjcmdlbhciaa.EMultiplyPairs

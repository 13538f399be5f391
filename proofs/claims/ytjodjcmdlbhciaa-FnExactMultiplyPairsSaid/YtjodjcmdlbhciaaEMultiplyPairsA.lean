/-
  For all arguments the law FnExactMultiplyPairs returns true, and the arguments read as they did. No condition.
  How: a machine over the model, proved right (Mach, Sym), runs the law on symbols, case by case.
-/
import Derived.Test.YtjodjcmdlbhciaaRows
import Derived.Test.YtjodjcmdlbhciaaSym
import Derived.Test.YtjodjcmdlbhciaaIds
import Derived.Test.YtjodjcmdlbhciaaSumm
import Derived.WalkKit
import Derived.ProofKit
import Derived.OpenShut
namespace Go.Proofs.Ytjodjcmdlbhciaa.EMultiplyPairs
open Go.ChangeShapes Go.WideShapes Go.ChangeAt Go.RowKit Go.Sx Go.Proofs.Ytjodjcmdlbhciaa.Ids
set_option linter.unusedVariables false
set_option linter.unusedSimpArgs false

noncomputable def law : LawU := ⟨7, [600, 600, 600, 600], 0, fun ll ii => match ll with | [x0, x1, x2, x3] => [.agg [x0, x1], .agg [x2, x3]] ++ ii | _ => [], sizeT 0, fun es => pairL es 0 1 id (fun L => unitSqL 0 1 (pairL es 2 3 id (fun L' => bite (Nat.beq L L') (.leaf (unitSq 2 3 (.val 600 (fun xs => numsRun Try.prog Summs.tab 60 89 ([slS xs 2 L, slS xs 1 L])) (.val 600 (fun xs => (numsRun Try.prog Summs.tab 60 89 ([slS xs 2 L, slS xs 1 L])).bind (fun ps => numsRun Try.prog Summs.tab 60 120 ([slS xs 0 L, .slice (ints ps)]))) (.val 600 (fun xs => numsRun Try.prog Summs.tab 60 89 ([slS xs 3 L, slS xs 1 L])) .leaf .leaf) (.val 600 (fun xs => numsRun Try.prog Summs.tab 60 89 ([slS xs 3 L, slS xs 1 L])) .leaf .leaf)) (.val 600 (fun xs => numsRun Try.prog Summs.tab 60 89 ([slS xs 3 L, slS xs 1 L])) .leaf .leaf)))) (.leaf (unitSq 2 3 .leaf)))))⟩
set_option maxRecDepth 1000000 in
theorem huge : law.huge Try.prog 60 = true := by kernel_rfl
end Go.Proofs.Ytjodjcmdlbhciaa.EMultiplyPairs

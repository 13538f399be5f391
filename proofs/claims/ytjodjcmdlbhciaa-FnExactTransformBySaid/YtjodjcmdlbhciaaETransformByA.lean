/-
  For all arguments the law FnExactTransformBy returns true, and the arguments read as they did. No condition.
  How: a machine over the model, proved right (Mach, Sym), runs the law on symbols, case by case.
-/
import Derived.Test.YtjodjcmdlbhciaaRows
import Derived.Test.YtjodjcmdlbhciaaSym
import Derived.Test.YtjodjcmdlbhciaaIds
import Derived.Test.YtjodjcmdlbhciaaSumm
import Derived.WalkKit
import Derived.ProofKit
import Derived.OpenShut
namespace Go.Proofs.Ytjodjcmdlbhciaa.ETransformBy
open Go.ChangeShapes Go.WideShapes Go.ChangeAt Go.RowKit Go.Sx Go.Proofs.Ytjodjcmdlbhciaa.Ids
set_option linter.unusedVariables false
set_option linter.unusedSimpArgs false

noncomputable def law : LawU := ⟨6, [600, 600, 600], 0, fun ll ii => match ll with | [x0, x1, x2] => [.agg [x1, x2], x0] ++ ii | _ => [], sizeT 1, fun es => pairL es 1 2 id (fun L => bite (Nat.beq (es.getD 0 0) 0) (.leaf (unitSq 1 2 .leaf))
  (.splitW 0 (.leaf (unitSq 1 2 (.cmp false (fun xs => lenS xs 0) (fun _ => .c (L : Nat)) .leaf .leaf))) (.lenIs 0 L (.leaf (unitSp 1 2 (rngs 600 (fun xs => (numsRun Try.prog Summs.tab 60 89 ([slS xs 0 L, slS xs 2 L])).bind (fun ps => numsRun Try.prog Summs.tab 60 120 ([slS xs 1 L, .slice (ints ps)]))) .leaf .leaf 1 (L - 1)))) (.leaf (unitSq 1 2 .leaf)))))⟩
set_option maxRecDepth 1000000 in
theorem huge : law.huge Try.prog 60 = true := by kernel_rfl
end Go.Proofs.Ytjodjcmdlbhciaa.ETransformBy

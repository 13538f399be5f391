/-
  For all arguments the law FnTransformBy returns true, and the arguments read as they did. No condition.
  How: a machine over the model, proved right (Mach, Sym), runs the law on symbols, case by case.
-/
import Derived.Test.YtjodjcmdlbhciaaRows
import Derived.Test.YtjodjcmdlbhciaaSym
import Derived.Test.YtjodjcmdlbhciaaIds
import Derived.Test.YtjodjcmdlbhciaaSumm
import Derived.Test.YtjodjcmdlbhciaaDraw
import Derived.Test.YtjodjcmdlbhciaaDrawC
import Derived.Test.YtjodjcmdlbhciaaDrawD
import Derived.Test.YtjodjcmdlbhciaaDrawE
import Derived.Test.YtjodjcmdlbhciaaDrawF
import Derived.WalkKit
import Derived.ProofKit
import Derived.OpenShut
namespace Go.Proofs.Ytjodjcmdlbhciaa.DTransformBy
open Go.ChangeShapes Go.WideShapes Go.ChangeAt Go.RowKit Go.Sx Go.Proofs.Ytjodjcmdlbhciaa.Ids
set_option linter.unusedVariables false
set_option linter.unusedSimpArgs false

noncomputable def law : LawD := ⟨5, 28, [.a [.l 0, .l 1], .c (.l 2)], [600, 600, 600], 0, fun es => pairL es 0 1 id (fun L => bite (Nat.beq (es.getD 2 0) 0) (.leaf (unitSq 0 1 .leaf))
  (.splitW 2 (.leaf (unitSq 0 1 (.cmp false (fun xs => lenS xs 2) (fun _ => .c (L : Nat)) .leaf .leaf))) (.lenIs 2 L (.leaf (unitSp 0 1 (rngs 600 (fun xs => (numsRun Try.prog Summs.tab 60 89 ([slS xs 2 L, slS xs 1 L])).bind (fun ps => numsRun Try.prog Summs.tab 60 120 ([slS xs 0 L, .slice (ints ps)]))) (.val 600 (fun xs => numsRun Try.prog Summs.tab 60 87 ([slS xs 1 L])) (.val 600 (fun xs => numsRun Try.prog Summs.tab 60 88 ([slS xs 0 L])) (.val 600 (fun xs => (numsRun Try.prog Summs.tab 60 87 ([slS xs 1 L])).bind (fun ps => (numsRun Try.prog Summs.tab 60 88 ([slS xs 0 L])).bind (fun qs => numsRun Try.prog Summs.tab 60 89 ([.slice (ints qs), .slice (ints ps)])))) .leaf .leaf) .leaf) (.val 600 (fun xs => numsRun Try.prog Summs.tab 60 88 ([slS xs 0 L])) .leaf .leaf)) .leaf 1 (L - 1)))) (.leaf (unitSq 0 1 .leaf)))))⟩
set_option maxRecDepth 1000000 in
theorem huge : law.huge Try.prog 60 = true := by kernel_rfl
end Go.Proofs.Ytjodjcmdlbhciaa.DTransformBy

/-
  For all arguments the law FnMultiplyPairs returns true, and the arguments read as they did. No condition.
  How: a machine over the model, proved right (Mach, Sym), runs the law on symbols, case by case.
-/
import Derived.Test.YtlenoefcnjcgfaaRows
import Derived.Test.YtlenoefcnjcgfaaSym
import Derived.Test.YtlenoefcnjcgfaaSymD
import Derived.Test.YtlenoefcnjcgfaaSymE
import Derived.Test.YtlenoefcnjcgfaaIds
import Derived.Test.YtlenoefcnjcgfaaSumm
import Derived.Test.YtlenoefcnjcgfaaDraw
import Derived.Test.YtlenoefcnjcgfaaDrawC
import Derived.Test.YtlenoefcnjcgfaaDrawD
import Derived.Test.YtlenoefcnjcgfaaDrawM
import Derived.WalkKit
import Derived.ProofKit
import Derived.OpenShut
namespace Go.Proofs.Ytlenoefcnjcgfaa.DMultiplyPairs
open Go.ChangeShapes Go.WideShapes Go.ChangeAt Go.RowKit Go.Sx Go.Proofs.Ytlenoefcnjcgfaa.Ids
set_option linter.unusedVariables false
set_option linter.unusedSimpArgs false

noncomputable def unitSpL (g f : Nat) (M : LSp) : LSp :=
  .sub (7 * g + 1) 1 (.sub (7 * f + 1) 0 (.sub (7 * f + 2) 1 M (.sub (7 * f + 2) (-1) M (.leaf .leaf))) (.leaf .leaf))
    (.sub (7 * g + 1) (-1) (.sub (7 * f + 1) 0 (.sub (7 * f + 2) 1 M (.sub (7 * f + 2) (-1) M (.leaf .leaf))) (.leaf .leaf)) (.leaf .leaf))
noncomputable def law : Nn.LawD := ⟨3, 7, [.a [.l 0, .l 1], .a [.l 2, .l 3]], [600, 600, 600, 600], 0, fun es => pairL es 0 1 id (fun L => unitSpL 0 1 (pairL es 2 3 id (fun L' => bite (Nat.beq L L') (.leaf (unitSp 2 3 (.val 600 (fun xs => numsRun Try.prog Summs.tab 60 43 ([slS xs 2 L, slS xs 1 L])) (.val 600 (fun xs => (numsRun Try.prog Summs.tab 60 43 ([slS xs 2 L, slS xs 1 L])).bind (fun ps => numsRun Try.prog Summs.tab 60 93 ([slS xs 0 L, .slice (ints ps)]))) (.val 600 (fun xs => numsRun Try.prog Summs.tab 60 43 ([slS xs 3 L, slS xs 1 L])) .leaf .leaf) (.val 600 (fun xs => numsRun Try.prog Summs.tab 60 43 ([slS xs 3 L, slS xs 1 L])) .leaf .leaf)) (.val 600 (fun xs => numsRun Try.prog Summs.tab 60 43 ([slS xs 3 L, slS xs 1 L])) .leaf .leaf)))) (.leaf (unitSq 2 3 .leaf)))))⟩
set_option maxRecDepth 1000000 in
theorem huge : law.huge Try.prog 60 = true := by kernel_rfl
end Go.Proofs.Ytlenoefcnjcgfaa.DMultiplyPairs

/-
  For all arguments the law FnLabelCount returns true, and the arguments read as they did. No condition.
  How: a machine over the model, proved right (Mach, Sym), runs the law on symbols, case by case.
-/
import Derived.Test.YtmaheakamonagaaRows
import Derived.Test.YtmaheakamonagaaSym
import Derived.Test.YtmaheakamonagaaIds
import Derived.Test.YtmaheakamonagaaSumm
import Derived.Test.YtmaheakamonagaaDraw
import Derived.Test.YtmaheakamonagaaDrawC
import Derived.WalkKit
import Derived.ProofKit
import Derived.OpenShut
namespace Go.Proofs.Ytmaheakamonagaa.DLabelCount
open Go.ChangeShapes Go.WideShapes Go.ChangeAt Go.RowKit Go.Sx Go.Proofs.Ytmaheakamonagaa.Ids
set_option linter.unusedVariables false
set_option linter.unusedSimpArgs false

noncomputable def law : LawD := ⟨6, 29, [.c (.l 0), .c (.l 1)], [600, 4], 0, fun es => bite (Nat.beq (es.getD 0 0) 0) (.leaf .leaf) (.splitV 0 (.leaf .leaf) (fun L => bite (Nat.beq (es.getD 1 0) 0) (.leaf .leaf) (.splitV 1 (.leaf .leaf) (fun M => .leaf (wayS 1 M .leaf .leaf)))))⟩
set_option maxRecDepth 1000000 in
theorem huge : law.huge Try.prog 200 = true := by kernel_rfl
end Go.Proofs.Ytmaheakamonagaa.DLabelCount

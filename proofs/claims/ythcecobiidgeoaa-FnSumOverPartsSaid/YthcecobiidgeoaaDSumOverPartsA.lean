/-
  For all arguments the law FnSumOverParts returns true, and the arguments read as they did. No condition.
  How: a machine over the model, proved right (Mach, Sym), runs the law on symbols, case by case.
-/
import Derived.Test.YthcecobiidgeoaaRows
import Derived.Test.YthcecobiidgeoaaSym
import Derived.Test.YthcecobiidgeoaaIds
import Derived.Test.YthcecobiidgeoaaSumm
import Derived.Test.YthcecobiidgeoaaDraw
import Derived.Test.YthcecobiidgeoaaDrawC
import Derived.WalkKit
import Derived.ProofKit
import Derived.OpenShut
namespace Go.Proofs.Ythcecobiidgeoaa.DSumOverParts
open Go.ChangeShapes Go.WideShapes Go.ChangeAt Go.RowKit Go.Sx Go.Proofs.Ythcecobiidgeoaa.Ids
set_option linter.unusedVariables false
set_option linter.unusedSimpArgs false

noncomputable def padS (xs : List Sy) : List Sy := (xs ++ List.replicate 6 (Sy.c 0)).take 6
noncomputable def ofS (L : Nat) (fs gs : List Sy) : Option (List Sy) := match symRun Try.prog (summK Summs.tab) [] 60 60 [.agg (ints (padS fs)), .agg (ints (padS gs))] ⟨0, [], 0⟩ with
  | some (.agg cs, _) => (numsOf cs).map fun l => l.take L
  | _ => none
noncomputable def law : LawD := ⟨6, 29, [.c (.l 0), .c (.l 1)], [600, 600], 0, fun es => twoL es (fun L => (.val 600 (fun xs => ofS L (segS xs 0 L) ((.c 0) :: (segS xs 1 L).drop 1)) .leaf .leaf))⟩
set_option maxRecDepth 1000000 in
theorem huge : law.huge Try.prog 200 = true := by kernel_rfl
end Go.Proofs.Ythcecobiidgeoaa.DSumOverParts

/-
  For all arguments the law FnSequenceOf returns true, and the arguments read as they did. No condition.
  How: a machine over the model, proved right (Mach, Sym), runs the law on symbols, case by case.
-/
import Derived.Test.YtjodjcmdlbhciaaRows
import Derived.Test.YtjodjcmdlbhciaaSym
import Derived.Test.YtjodjcmdlbhciaaIds
import Derived.Test.YtjodjcmdlbhciaaSumm
import Derived.Test.YtjodjcmdlbhciaaDraw
import Derived.Test.YtjodjcmdlbhciaaDrawC
import Derived.Test.YtjodjcmdlbhciaaDrawD
import Derived.WalkKit
import Derived.ProofKit
import Derived.OpenShut
namespace Go.Proofs.Ytjodjcmdlbhciaa.DSequenceOf
open Go.ChangeShapes Go.WideShapes Go.ChangeAt Go.RowKit Go.Sx Go.Proofs.Ytjodjcmdlbhciaa.Ids
set_option linter.unusedVariables false
set_option linter.unusedSimpArgs false

noncomputable def mulS (c : Int) (x : Sy) : Sy := (symArith .mul .i64 (.c c) x).getD (.c 0)
noncomputable def rowS (L n : Nat) (xs : List Sy) : Option (List Sy) := (List.range L).mapM fun (k : Nat) => (numsRun Try.prog Summs.tab 60 123 [slS xs 1 L, .int .i64 (.c (k : Int))]).bind fun ds => (numsRun Try.prog Summs.tab 60 120 [slS xs 0 L, .slice (ints ds)]).map fun cs => cs.getD n (.c 0)
noncomputable def seqSp (L : Nat) : Nat → Nat → Sp
  | _, 0 => .leaf
  | n, c + 1 => .val 1000000 (rowS L n) (.val 1000000 (fun xs => (rowS L (n - 1) xs).map fun rs => rs.map (mulS (n : Int))) (seqSp L (n + 1) c) (seqSp L (n + 1) c)) (seqSp L (n + 1) c)
noncomputable def law : LawD := ⟨3, 15, [.a [.l 0, .l 1]], [600, 600], 0, fun es => pairL es 0 1 id (fun L => .leaf (unitSp 0 1 (.val 600 (fun xs => numsRun Try.prog Summs.tab 60 87 ([slS xs 1 L])) (seqSp L 2 (L - 2)) .leaf)))⟩
set_option maxRecDepth 1000000 in
theorem huge : law.huge Try.prog 60 = true := by kernel_rfl
end Go.Proofs.Ytjodjcmdlbhciaa.DSequenceOf

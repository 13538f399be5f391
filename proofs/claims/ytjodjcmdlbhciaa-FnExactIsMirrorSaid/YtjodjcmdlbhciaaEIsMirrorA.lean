/-
  For all arguments the law FnExactIsMirror returns true, and the arguments read as they did. No condition.
  How: a machine over the model, proved right (Mach, Sym), runs the law on symbols, case by case.
-/
import Derived.Test.YtjodjcmdlbhciaaRows
import Derived.Test.YtjodjcmdlbhciaaSym
import Derived.Test.YtjodjcmdlbhciaaIds
import Derived.Test.YtjodjcmdlbhciaaSumm
import Derived.WalkKit
import Derived.ProofKit
import Derived.OpenShut
namespace Go.Proofs.Ytjodjcmdlbhciaa.EIsMirror
open Go.ChangeShapes Go.WideShapes Go.ChangeAt Go.RowKit Go.Sx Go.Proofs.Ytjodjcmdlbhciaa.Ids
set_option linter.unusedVariables false
set_option linter.unusedSimpArgs false

/-- The numbers that are not 0 outright. -/
noncomputable def nzs (l : List Sy) : List Sy := l.filter fun y => match y with
  | .c k => !(decide (k = 0))
  | _ => true
/-- Which number of a list is the first that is not 0? -/
def fnz (f : List Sy → Option (List Sy)) (E M : Sp) : Nat → Nat → Sp
  | _, 0 => E
  | i, n + 1 => .cmp false (fun xs => ((f xs).getD []).getD i (.c 0)) (fun _ => .c 0) (fnz f E M (i + 1) n) M
noncomputable def law : LawU := ⟨10, [600, 600], 0, fun ll ii => match ll with | [x0, x1] => [.agg [x0, x1]] ++ ii | _ => [], sizeT 0, fun es => pairL es 0 1 id (fun L => .leaf (unitSp 0 1 (.val 600 (fun xs => numsRun Try.prog Summs.tab 60 89 ([slS xs 0 L, slS xs 1 L])) (.val 600 (fun xs => (numsRun Try.prog Summs.tab 60 89 ([slS xs 0 L, slS xs 1 L])).bind (fun ps => numsRun Try.prog Summs.tab 60 120 ([slS xs 0 L, .slice (ints ps)]))) (.val 600 (fun xs => numsRun Try.prog Summs.tab 60 89 ([slS xs 1 L, slS xs 1 L])) (fnz (fun xs => ((numsRun Try.prog Summs.tab 60 89 ([slS xs 0 L, slS xs 1 L])).bind (fun ps => numsRun Try.prog Summs.tab 60 120 ([slS xs 0 L, .slice (ints ps)]))).map (fun bs => nzs (bs.drop 1))) (fnz (fun xs => (numsRun Try.prog Summs.tab 60 89 ([slS xs 1 L, slS xs 1 L])).map (fun cs => nzs (cs.drop 2))) .leaf .leaf 0 (L - 2)) (fnz (fun xs => (numsRun Try.prog Summs.tab 60 89 ([slS xs 1 L, slS xs 1 L])).map (fun cs => nzs (cs.drop 2))) .leaf .leaf 0 (L - 2)) 0 (L - 1)) .leaf) (.val 600 (fun xs => numsRun Try.prog Summs.tab 60 89 ([slS xs 1 L, slS xs 1 L])) .leaf .leaf)) (.val 600 (fun xs => numsRun Try.prog Summs.tab 60 89 ([slS xs 1 L, slS xs 1 L])) .leaf .leaf))))⟩
set_option maxRecDepth 1000000 in
theorem huge : law.huge Try.prog 60 = true := by kernel_rfl
end Go.Proofs.Ytjodjcmdlbhciaa.EIsMirror

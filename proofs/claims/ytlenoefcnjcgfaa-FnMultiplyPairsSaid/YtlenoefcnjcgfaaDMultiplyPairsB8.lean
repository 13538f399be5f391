/-
  A part of the proof of FnMultiplyPairs: cases of its law, each a run. No condition.
-/
import Derived.Test.YtlenoefcnjcgfaaDMultiplyPairsA
namespace Go.Proofs.Ytlenoefcnjcgfaa.DMultiplyPairs
open Go.ChangeShapes Go.WideShapes Go.ChangeAt Go.RowKit Go.Sx Go.Proofs.Ytlenoefcnjcgfaa.Ids
set_option linter.unusedVariables false
set_option linter.unusedSimpArgs false

set_option maxRecDepth 1000000 in
theorem b_1111_940 : law.blk Try.prog ids Summs.tab 60 [1, 1, 1, 1] 940 4 = true := by kernel_rfl
set_option maxRecDepth 1000000 in
theorem b_1111_944 : law.blk Try.prog ids Summs.tab 60 [1, 1, 1, 1] 944 4 = true := by kernel_rfl
set_option maxRecDepth 1000000 in
theorem b_1111_948 : law.blk Try.prog ids Summs.tab 60 [1, 1, 1, 1] 948 4 = true := by kernel_rfl
set_option maxRecDepth 1000000 in
theorem b_1111_952 : law.blk Try.prog ids Summs.tab 60 [1, 1, 1, 1] 952 4 = true := by kernel_rfl
set_option maxRecDepth 1000000 in
theorem b_1111_956 : law.blk Try.prog ids Summs.tab 60 [1, 1, 1, 1] 956 4 = true := by kernel_rfl
set_option maxRecDepth 1000000 in
theorem b_1111_960 : law.blk Try.prog ids Summs.tab 60 [1, 1, 1, 1] 960 4 = true := by kernel_rfl
set_option maxRecDepth 1000000 in
theorem b_1111_964 : law.blk Try.prog ids Summs.tab 60 [1, 1, 1, 1] 964 4 = true := by kernel_rfl
set_option maxRecDepth 1000000 in
theorem b_1111_968 : law.blk Try.prog ids Summs.tab 60 [1, 1, 1, 1] 968 4 = true := by kernel_rfl
set_option maxRecDepth 1000000 in
theorem b_1111_972 : law.blk Try.prog ids Summs.tab 60 [1, 1, 1, 1] 972 4 = true := by kernel_rfl
set_option maxRecDepth 1000000 in
theorem b_1111_976 : law.blk Try.prog ids Summs.tab 60 [1, 1, 1, 1] 976 4 = true := by kernel_rfl
set_option maxRecDepth 1000000 in
theorem b_1111_980 : law.blk Try.prog ids Summs.tab 60 [1, 1, 1, 1] 980 4 = true := by kernel_rfl
set_option maxRecDepth 1000000 in
theorem b_1111_984 : law.blk Try.prog ids Summs.tab 60 [1, 1, 1, 1] 984 4 = true := by kernel_rfl
set_option maxRecDepth 1000000 in
theorem b_1111_988 : law.blk Try.prog ids Summs.tab 60 [1, 1, 1, 1] 988 4 = true := by kernel_rfl
set_option maxRecDepth 1000000 in
theorem b_1111_992 : law.blk Try.prog ids Summs.tab 60 [1, 1, 1, 1] 992 4 = true := by kernel_rfl
set_option maxRecDepth 1000000 in
theorem b_1111_996 : law.blk Try.prog ids Summs.tab 60 [1, 1, 1, 1] 996 4 = true := by kernel_rfl
set_option maxRecDepth 1000000 in
theorem b_1111_1000 : law.blk Try.prog ids Summs.tab 60 [1, 1, 1, 1] 1000 4 = true := by kernel_rfl
set_option maxRecDepth 1000000 in
theorem b_1111_1004 : law.blk Try.prog ids Summs.tab 60 [1, 1, 1, 1] 1004 4 = true := by kernel_rfl
set_option maxRecDepth 1000000 in
theorem b_1111_1008 : law.blk Try.prog ids Summs.tab 60 [1, 1, 1, 1] 1008 4 = true := by kernel_rfl
set_option maxRecDepth 1000000 in
theorem b_1111_1012 : law.blk Try.prog ids Summs.tab 60 [1, 1, 1, 1] 1012 4 = true := by kernel_rfl
set_option maxRecDepth 1000000 in
theorem b_1111_1016 : law.blk Try.prog ids Summs.tab 60 [1, 1, 1, 1] 1016 4 = true := by kernel_rfl
set_option maxRecDepth 1000000 in
theorem b_1111_1020 : law.blk Try.prog ids Summs.tab 60 [1, 1, 1, 1] 1020 4 = true := by kernel_rfl
set_option maxRecDepth 1000000 in
theorem b_1111_1024 : law.blk Try.prog ids Summs.tab 60 [1, 1, 1, 1] 1024 4 = true := by kernel_rfl
set_option maxRecDepth 1000000 in
theorem b_1111_1028 : law.blk Try.prog ids Summs.tab 60 [1, 1, 1, 1] 1028 4 = true := by kernel_rfl
set_option maxRecDepth 1000000 in
theorem b_1111_1032 : law.blk Try.prog ids Summs.tab 60 [1, 1, 1, 1] 1032 4 = true := by kernel_rfl
set_option maxRecDepth 1000000 in
theorem b_1111_1036 : law.blk Try.prog ids Summs.tab 60 [1, 1, 1, 1] 1036 4 = true := by kernel_rfl
set_option maxRecDepth 1000000 in
theorem b_1111_1040 : law.blk Try.prog ids Summs.tab 60 [1, 1, 1, 1] 1040 4 = true := by kernel_rfl
set_option maxRecDepth 1000000 in
theorem b_1111_1044 : law.blk Try.prog ids Summs.tab 60 [1, 1, 1, 1] 1044 4 = true := by kernel_rfl
set_option maxRecDepth 1000000 in
theorem b_1111_1048 : law.blk Try.prog ids Summs.tab 60 [1, 1, 1, 1] 1048 4 = true := by kernel_rfl
set_option maxRecDepth 1000000 in
theorem b_1111_1052 : law.blk Try.prog ids Summs.tab 60 [1, 1, 1, 1] 1052 4 = true := by kernel_rfl
set_option maxRecDepth 1000000 in
theorem b_1111_1056 : law.blk Try.prog ids Summs.tab 60 [1, 1, 1, 1] 1056 4 = true := by kernel_rfl
set_option maxRecDepth 1000000 in
theorem b_1111_1060 : law.blk Try.prog ids Summs.tab 60 [1, 1, 1, 1] 1060 4 = true := by kernel_rfl
set_option maxRecDepth 1000000 in
theorem b_1111_1064 : law.blk Try.prog ids Summs.tab 60 [1, 1, 1, 1] 1064 4 = true := by kernel_rfl
set_option maxRecDepth 1000000 in
theorem b_1111_1068 : law.blk Try.prog ids Summs.tab 60 [1, 1, 1, 1] 1068 4 = true := by kernel_rfl
set_option maxRecDepth 1000000 in
theorem b_1111_1072 : law.blk Try.prog ids Summs.tab 60 [1, 1, 1, 1] 1072 4 = true := by kernel_rfl
set_option maxRecDepth 1000000 in
theorem b_1111_1076 : law.blk Try.prog ids Summs.tab 60 [1, 1, 1, 1] 1076 4 = true := by kernel_rfl
set_option maxRecDepth 1000000 in
theorem b_1111_1080 : law.blk Try.prog ids Summs.tab 60 [1, 1, 1, 1] 1080 4 = true := by kernel_rfl
set_option maxRecDepth 1000000 in
theorem b_1111_1084 : law.blk Try.prog ids Summs.tab 60 [1, 1, 1, 1] 1084 4 = true := by kernel_rfl
set_option maxRecDepth 1000000 in
theorem b_1111_1088 : law.blk Try.prog ids Summs.tab 60 [1, 1, 1, 1] 1088 4 = true := by kernel_rfl
end Go.Proofs.Ytlenoefcnjcgfaa.DMultiplyPairs

/-
  A part of the proof of FnMultiplyPairs: cases of its law, each a run. No condition.
-/
import Derived.Test.YtlenoefcnjcgfaaDMultiplyPairsA
namespace Go.Proofs.Ytlenoefcnjcgfaa.DMultiplyPairs
open Go.ChangeShapes Go.WideShapes Go.ChangeAt Go.RowKit Go.Sx Go.Proofs.Ytlenoefcnjcgfaa.Ids
set_option linter.unusedVariables false
set_option linter.unusedSimpArgs false

set_option maxRecDepth 1000000 in
theorem b_1111_1092 : law.blk Try.prog ids Summs.tab 60 [1, 1, 1, 1] 1092 4 = true := by kernel_rfl
set_option maxRecDepth 1000000 in
theorem b_1111_1096 : law.blk Try.prog ids Summs.tab 60 [1, 1, 1, 1] 1096 4 = true := by kernel_rfl
set_option maxRecDepth 1000000 in
theorem b_1111_1100 : law.blk Try.prog ids Summs.tab 60 [1, 1, 1, 1] 1100 4 = true := by kernel_rfl
set_option maxRecDepth 1000000 in
theorem b_1111_1104 : law.blk Try.prog ids Summs.tab 60 [1, 1, 1, 1] 1104 4 = true := by kernel_rfl
set_option maxRecDepth 1000000 in
theorem b_1111_1108 : law.blk Try.prog ids Summs.tab 60 [1, 1, 1, 1] 1108 4 = true := by kernel_rfl
set_option maxRecDepth 1000000 in
theorem b_1111_1112 : law.blk Try.prog ids Summs.tab 60 [1, 1, 1, 1] 1112 4 = true := by kernel_rfl
set_option maxRecDepth 1000000 in
theorem b_1111_1116 : law.blk Try.prog ids Summs.tab 60 [1, 1, 1, 1] 1116 4 = true := by kernel_rfl
set_option maxRecDepth 1000000 in
theorem b_1111_1120 : law.blk Try.prog ids Summs.tab 60 [1, 1, 1, 1] 1120 4 = true := by kernel_rfl
set_option maxRecDepth 1000000 in
theorem b_1111_1124 : law.blk Try.prog ids Summs.tab 60 [1, 1, 1, 1] 1124 4 = true := by kernel_rfl
set_option maxRecDepth 1000000 in
theorem b_1111_1128 : law.blk Try.prog ids Summs.tab 60 [1, 1, 1, 1] 1128 4 = true := by kernel_rfl
set_option maxRecDepth 1000000 in
theorem b_1111_1132 : law.blk Try.prog ids Summs.tab 60 [1, 1, 1, 1] 1132 4 = true := by kernel_rfl
set_option maxRecDepth 1000000 in
theorem b_1111_1136 : law.blk Try.prog ids Summs.tab 60 [1, 1, 1, 1] 1136 4 = true := by kernel_rfl
set_option maxRecDepth 1000000 in
theorem b_1111_1140 : law.blk Try.prog ids Summs.tab 60 [1, 1, 1, 1] 1140 4 = true := by kernel_rfl
set_option maxRecDepth 1000000 in
theorem b_1111_1144 : law.blk Try.prog ids Summs.tab 60 [1, 1, 1, 1] 1144 4 = true := by kernel_rfl
set_option maxRecDepth 1000000 in
theorem b_1111_1148 : law.blk Try.prog ids Summs.tab 60 [1, 1, 1, 1] 1148 4 = true := by kernel_rfl
set_option maxRecDepth 1000000 in
theorem b_1111_1152 : law.blk Try.prog ids Summs.tab 60 [1, 1, 1, 1] 1152 4 = true := by kernel_rfl
set_option maxRecDepth 1000000 in
theorem b_1111_1156 : law.blk Try.prog ids Summs.tab 60 [1, 1, 1, 1] 1156 4 = true := by kernel_rfl
set_option maxRecDepth 1000000 in
theorem b_1111_1160 : law.blk Try.prog ids Summs.tab 60 [1, 1, 1, 1] 1160 4 = true := by kernel_rfl
set_option maxRecDepth 1000000 in
theorem b_1111_1164 : law.blk Try.prog ids Summs.tab 60 [1, 1, 1, 1] 1164 4 = true := by kernel_rfl
set_option maxRecDepth 1000000 in
theorem b_1111_1168 : law.blk Try.prog ids Summs.tab 60 [1, 1, 1, 1] 1168 4 = true := by kernel_rfl
set_option maxRecDepth 1000000 in
theorem b_1111_1172 : law.blk Try.prog ids Summs.tab 60 [1, 1, 1, 1] 1172 4 = true := by kernel_rfl
set_option maxRecDepth 1000000 in
theorem b_1111_1176 : law.blk Try.prog ids Summs.tab 60 [1, 1, 1, 1] 1176 4 = true := by kernel_rfl
set_option maxRecDepth 1000000 in
theorem b_1111_1180 : law.blk Try.prog ids Summs.tab 60 [1, 1, 1, 1] 1180 4 = true := by kernel_rfl
set_option maxRecDepth 1000000 in
theorem b_1111_1184 : law.blk Try.prog ids Summs.tab 60 [1, 1, 1, 1] 1184 4 = true := by kernel_rfl
set_option maxRecDepth 1000000 in
theorem b_1111_1188 : law.blk Try.prog ids Summs.tab 60 [1, 1, 1, 1] 1188 4 = true := by kernel_rfl
set_option maxRecDepth 1000000 in
theorem b_1111_1192 : law.blk Try.prog ids Summs.tab 60 [1, 1, 1, 1] 1192 4 = true := by kernel_rfl
set_option maxRecDepth 1000000 in
theorem b_1111_1196 : law.blk Try.prog ids Summs.tab 60 [1, 1, 1, 1] 1196 4 = true := by kernel_rfl
set_option maxRecDepth 1000000 in
theorem b_1111_1200 : law.blk Try.prog ids Summs.tab 60 [1, 1, 1, 1] 1200 4 = true := by kernel_rfl
set_option maxRecDepth 1000000 in
theorem b_1111_1204 : law.blk Try.prog ids Summs.tab 60 [1, 1, 1, 1] 1204 4 = true := by kernel_rfl
set_option maxRecDepth 1000000 in
theorem b_1111_1208 : law.blk Try.prog ids Summs.tab 60 [1, 1, 1, 1] 1208 4 = true := by kernel_rfl
set_option maxRecDepth 1000000 in
theorem b_1111_1212 : law.blk Try.prog ids Summs.tab 60 [1, 1, 1, 1] 1212 4 = true := by kernel_rfl
set_option maxRecDepth 1000000 in
theorem b_1111_1216 : law.blk Try.prog ids Summs.tab 60 [1, 1, 1, 1] 1216 4 = true := by kernel_rfl
set_option maxRecDepth 1000000 in
theorem b_1111_1220 : law.blk Try.prog ids Summs.tab 60 [1, 1, 1, 1] 1220 4 = true := by kernel_rfl
set_option maxRecDepth 1000000 in
theorem b_1111_1224 : law.blk Try.prog ids Summs.tab 60 [1, 1, 1, 1] 1224 4 = true := by kernel_rfl
set_option maxRecDepth 1000000 in
theorem b_1111_1228 : law.blk Try.prog ids Summs.tab 60 [1, 1, 1, 1] 1228 4 = true := by kernel_rfl
set_option maxRecDepth 1000000 in
theorem b_1111_1232 : law.blk Try.prog ids Summs.tab 60 [1, 1, 1, 1] 1232 4 = true := by kernel_rfl
set_option maxRecDepth 1000000 in
theorem b_1111_1236 : law.blk Try.prog ids Summs.tab 60 [1, 1, 1, 1] 1236 4 = true := by kernel_rfl
set_option maxRecDepth 1000000 in
theorem b_1111_1240 : law.blk Try.prog ids Summs.tab 60 [1, 1, 1, 1] 1240 4 = true := by kernel_rfl
end Go.Proofs.Ytlenoefcnjcgfaa.DMultiplyPairs

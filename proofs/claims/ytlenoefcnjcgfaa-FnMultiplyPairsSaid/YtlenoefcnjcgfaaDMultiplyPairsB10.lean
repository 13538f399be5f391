/-
  A part of the proof of FnMultiplyPairs: cases of its law, each a run. No condition.
-/
import Derived.Test.YtlenoefcnjcgfaaDMultiplyPairsA
namespace Go.Proofs.Ytlenoefcnjcgfaa.DMultiplyPairs
open Go.ChangeShapes Go.WideShapes Go.ChangeAt Go.RowKit Go.Sx Go.Proofs.Ytlenoefcnjcgfaa.Ids
set_option linter.unusedVariables false
set_option linter.unusedSimpArgs false

set_option maxRecDepth 1000000 in
theorem b_1111_1244 : law.blk Try.prog ids Summs.tab 60 [1, 1, 1, 1] 1244 4 = true := by kernel_rfl
set_option maxRecDepth 1000000 in
theorem b_1111_1248 : law.blk Try.prog ids Summs.tab 60 [1, 1, 1, 1] 1248 4 = true := by kernel_rfl
set_option maxRecDepth 1000000 in
theorem b_1111_1252 : law.blk Try.prog ids Summs.tab 60 [1, 1, 1, 1] 1252 4 = true := by kernel_rfl
set_option maxRecDepth 1000000 in
theorem b_1111_1256 : law.blk Try.prog ids Summs.tab 60 [1, 1, 1, 1] 1256 4 = true := by kernel_rfl
set_option maxRecDepth 1000000 in
theorem b_1111_1260 : law.blk Try.prog ids Summs.tab 60 [1, 1, 1, 1] 1260 4 = true := by kernel_rfl
set_option maxRecDepth 1000000 in
theorem b_1111_1264 : law.blk Try.prog ids Summs.tab 60 [1, 1, 1, 1] 1264 4 = true := by kernel_rfl
set_option maxRecDepth 1000000 in
theorem b_1111_1268 : law.blk Try.prog ids Summs.tab 60 [1, 1, 1, 1] 1268 4 = true := by kernel_rfl
set_option maxRecDepth 1000000 in
theorem b_1111_1272 : law.blk Try.prog ids Summs.tab 60 [1, 1, 1, 1] 1272 4 = true := by kernel_rfl
set_option maxRecDepth 1000000 in
theorem b_1111_1276 : law.blk Try.prog ids Summs.tab 60 [1, 1, 1, 1] 1276 4 = true := by kernel_rfl
set_option maxRecDepth 1000000 in
theorem b_1111_1280 : law.blk Try.prog ids Summs.tab 60 [1, 1, 1, 1] 1280 4 = true := by kernel_rfl
set_option maxRecDepth 1000000 in
theorem b_1111_1284 : law.blk Try.prog ids Summs.tab 60 [1, 1, 1, 1] 1284 4 = true := by kernel_rfl
set_option maxRecDepth 1000000 in
theorem b_1111_1288 : law.blk Try.prog ids Summs.tab 60 [1, 1, 1, 1] 1288 4 = true := by kernel_rfl
set_option maxRecDepth 1000000 in
theorem b_1111_1292 : law.blk Try.prog ids Summs.tab 60 [1, 1, 1, 1] 1292 4 = true := by kernel_rfl
set_option maxRecDepth 1000000 in
theorem b_1111_1296 : law.blk Try.prog ids Summs.tab 60 [1, 1, 1, 1] 1296 4 = true := by kernel_rfl
set_option maxRecDepth 1000000 in
theorem b_1111_1300 : law.blk Try.prog ids Summs.tab 60 [1, 1, 1, 1] 1300 4 = true := by kernel_rfl
set_option maxRecDepth 1000000 in
theorem b_1111_1304 : law.blk Try.prog ids Summs.tab 60 [1, 1, 1, 1] 1304 4 = true := by kernel_rfl
set_option maxRecDepth 1000000 in
theorem b_1111_1308 : law.blk Try.prog ids Summs.tab 60 [1, 1, 1, 1] 1308 4 = true := by kernel_rfl
set_option maxRecDepth 1000000 in
theorem b_1111_1312 : law.blk Try.prog ids Summs.tab 60 [1, 1, 1, 1] 1312 4 = true := by kernel_rfl
set_option maxRecDepth 1000000 in
theorem b_1111_1316 : law.blk Try.prog ids Summs.tab 60 [1, 1, 1, 1] 1316 4 = true := by kernel_rfl
set_option maxRecDepth 1000000 in
theorem b_1111_1320 : law.blk Try.prog ids Summs.tab 60 [1, 1, 1, 1] 1320 4 = true := by kernel_rfl
set_option maxRecDepth 1000000 in
theorem b_1111_1324 : law.blk Try.prog ids Summs.tab 60 [1, 1, 1, 1] 1324 4 = true := by kernel_rfl
set_option maxRecDepth 1000000 in
theorem b_1111_1328 : law.blk Try.prog ids Summs.tab 60 [1, 1, 1, 1] 1328 4 = true := by kernel_rfl
set_option maxRecDepth 1000000 in
theorem b_1111_1332 : law.blk Try.prog ids Summs.tab 60 [1, 1, 1, 1] 1332 4 = true := by kernel_rfl
set_option maxRecDepth 1000000 in
theorem b_1111_1336 : law.blk Try.prog ids Summs.tab 60 [1, 1, 1, 1] 1336 4 = true := by kernel_rfl
set_option maxRecDepth 1000000 in
theorem b_1111_1340 : law.blk Try.prog ids Summs.tab 60 [1, 1, 1, 1] 1340 4 = true := by kernel_rfl
set_option maxRecDepth 1000000 in
theorem b_1111_1344 : law.blk Try.prog ids Summs.tab 60 [1, 1, 1, 1] 1344 4 = true := by kernel_rfl
set_option maxRecDepth 1000000 in
theorem b_1111_1348 : law.blk Try.prog ids Summs.tab 60 [1, 1, 1, 1] 1348 4 = true := by kernel_rfl
set_option maxRecDepth 1000000 in
theorem b_1111_1352 : law.blk Try.prog ids Summs.tab 60 [1, 1, 1, 1] 1352 4 = true := by kernel_rfl
set_option maxRecDepth 1000000 in
theorem b_1111_1356 : law.blk Try.prog ids Summs.tab 60 [1, 1, 1, 1] 1356 4 = true := by kernel_rfl
set_option maxRecDepth 1000000 in
theorem b_1111_1360 : law.blk Try.prog ids Summs.tab 60 [1, 1, 1, 1] 1360 4 = true := by kernel_rfl
set_option maxRecDepth 1000000 in
theorem b_1111_1364 : law.blk Try.prog ids Summs.tab 60 [1, 1, 1, 1] 1364 4 = true := by kernel_rfl
set_option maxRecDepth 1000000 in
theorem b_1111_1368 : law.blk Try.prog ids Summs.tab 60 [1, 1, 1, 1] 1368 4 = true := by kernel_rfl
set_option maxRecDepth 1000000 in
theorem b_1111_1372 : law.blk Try.prog ids Summs.tab 60 [1, 1, 1, 1] 1372 4 = true := by kernel_rfl
set_option maxRecDepth 1000000 in
theorem b_1111_1376 : law.blk Try.prog ids Summs.tab 60 [1, 1, 1, 1] 1376 4 = true := by kernel_rfl
set_option maxRecDepth 1000000 in
theorem b_1111_1380 : law.blk Try.prog ids Summs.tab 60 [1, 1, 1, 1] 1380 4 = true := by kernel_rfl
set_option maxRecDepth 1000000 in
theorem b_1111_1384 : law.blk Try.prog ids Summs.tab 60 [1, 1, 1, 1] 1384 4 = true := by kernel_rfl
set_option maxRecDepth 1000000 in
theorem b_1111_1388 : law.blk Try.prog ids Summs.tab 60 [1, 1, 1, 1] 1388 4 = true := by kernel_rfl
set_option maxRecDepth 1000000 in
theorem b_1111_1392 : law.blk Try.prog ids Summs.tab 60 [1, 1, 1, 1] 1392 4 = true := by kernel_rfl
end Go.Proofs.Ytlenoefcnjcgfaa.DMultiplyPairs

/-
  Parts put together, as a contract. No condition.
-/
import Derived.Test.YtcpnlgjkijcmhaaWayJB0
import Derived.Test.YtcpnlgjkijcmhaaWayJB1
import Derived.Test.YtcpnlgjkijcmhaaWayJB2
import Derived.Test.YtcpnlgjkijcmhaaWayJB3
import Derived.Test.YtcpnlgjkijcmhaaWayJB4
import Derived.Test.YtcpnlgjkijcmhaaWayJB5
import Derived.Test.YtcpnlgjkijcmhaaWayJB6
import Derived.Test.YtcpnlgjkijcmhaaWayJB7
import Derived.Test.YtcpnlgjkijcmhaaWayJB8
import Derived.Test.YtcpnlgjkijcmhaaWayJB9
import Derived.Test.YtcpnlgjkijcmhaaWayJB10
import Derived.Test.YtcpnlgjkijcmhaaWayJB11
import Derived.Test.YtcpnlgjkijcmhaaWayJB12
import Derived.Test.YtcpnlgjkijcmhaaWayJB13
import Derived.Test.YtcpnlgjkijcmhaaWayJB14
import Derived.Test.YtcpnlgjkijcmhaaWayJB15
import Derived.KernelRfl
namespace Go.Proofs.Ytcpnlgjkijcmhaa.WayJ
open Go.ChangeShapes Go.WideShapes Go.ChangeAt Go.RowKit Go.Sx Go.Proofs.Ytcpnlgjkijcmhaa.Ids Go.Proofs.Ytcpnlgjkijcmhaa.Way
set_option linter.unusedVariables false
set_option linter.unusedSimpArgs false

theorem len_1 : (waysOf 1).length = 1 := by kernel_rfl
theorem len_2 : (waysOf 2).length = 2 := by kernel_rfl
theorem len_3 : (waysOf 3).length = 5 := by kernel_rfl
theorem len_4 : (waysOf 4).length = 15 := by kernel_rfl
theorem len_5 : (waysOf 5).length = 52 := by kernel_rfl
theorem row_1_0 : ∀ j, j < 1 → (joinRun Try.prog K1 200 36) ((waysOf 1).getD 0 []) ((waysOf 1).getD j []) = true := by
  intro j hj
  exact of_wayBlk b_1_0_0 (by omega) (by omega)
theorem row_2_0 : ∀ j, j < 2 → (joinRun Try.prog K1 200 36) ((waysOf 2).getD 0 []) ((waysOf 2).getD j []) = true := by
  intro j hj
  exact of_wayBlk b_2_0_0 (by omega) (by omega)
theorem row_2_1 : ∀ j, j < 2 → (joinRun Try.prog K1 200 36) ((waysOf 2).getD 1 []) ((waysOf 2).getD j []) = true := by
  intro j hj
  exact of_wayBlk b_2_1_0 (by omega) (by omega)
theorem row_3_0 : ∀ j, j < 5 → (joinRun Try.prog K1 200 36) ((waysOf 3).getD 0 []) ((waysOf 3).getD j []) = true := by
  intro j hj
  exact of_wayBlk b_3_0_0 (by omega) (by omega)
theorem row_3_1 : ∀ j, j < 5 → (joinRun Try.prog K1 200 36) ((waysOf 3).getD 1 []) ((waysOf 3).getD j []) = true := by
  intro j hj
  exact of_wayBlk b_3_1_0 (by omega) (by omega)
theorem row_3_2 : ∀ j, j < 5 → (joinRun Try.prog K1 200 36) ((waysOf 3).getD 2 []) ((waysOf 3).getD j []) = true := by
  intro j hj
  exact of_wayBlk b_3_2_0 (by omega) (by omega)
theorem row_3_3 : ∀ j, j < 5 → (joinRun Try.prog K1 200 36) ((waysOf 3).getD 3 []) ((waysOf 3).getD j []) = true := by
  intro j hj
  exact of_wayBlk b_3_3_0 (by omega) (by omega)
theorem row_3_4 : ∀ j, j < 5 → (joinRun Try.prog K1 200 36) ((waysOf 3).getD 4 []) ((waysOf 3).getD j []) = true := by
  intro j hj
  exact of_wayBlk b_3_4_0 (by omega) (by omega)
theorem row_4_0 : ∀ j, j < 15 → (joinRun Try.prog K1 200 36) ((waysOf 4).getD 0 []) ((waysOf 4).getD j []) = true := by
  intro j hj
  by_cases h0 : j < 13
  · exact of_wayBlk b_4_0_0 (by omega) (by omega)
  exact of_wayBlk b_4_0_13 (by omega) (by omega)
theorem row_4_1 : ∀ j, j < 15 → (joinRun Try.prog K1 200 36) ((waysOf 4).getD 1 []) ((waysOf 4).getD j []) = true := by
  intro j hj
  by_cases h0 : j < 13
  · exact of_wayBlk b_4_1_0 (by omega) (by omega)
  exact of_wayBlk b_4_1_13 (by omega) (by omega)
theorem row_4_2 : ∀ j, j < 15 → (joinRun Try.prog K1 200 36) ((waysOf 4).getD 2 []) ((waysOf 4).getD j []) = true := by
  intro j hj
  by_cases h0 : j < 13
  · exact of_wayBlk b_4_2_0 (by omega) (by omega)
  exact of_wayBlk b_4_2_13 (by omega) (by omega)
theorem row_4_3 : ∀ j, j < 15 → (joinRun Try.prog K1 200 36) ((waysOf 4).getD 3 []) ((waysOf 4).getD j []) = true := by
  intro j hj
  by_cases h0 : j < 13
  · exact of_wayBlk b_4_3_0 (by omega) (by omega)
  exact of_wayBlk b_4_3_13 (by omega) (by omega)
theorem row_4_4 : ∀ j, j < 15 → (joinRun Try.prog K1 200 36) ((waysOf 4).getD 4 []) ((waysOf 4).getD j []) = true := by
  intro j hj
  by_cases h0 : j < 13
  · exact of_wayBlk b_4_4_0 (by omega) (by omega)
  exact of_wayBlk b_4_4_13 (by omega) (by omega)
theorem row_4_5 : ∀ j, j < 15 → (joinRun Try.prog K1 200 36) ((waysOf 4).getD 5 []) ((waysOf 4).getD j []) = true := by
  intro j hj
  by_cases h0 : j < 13
  · exact of_wayBlk b_4_5_0 (by omega) (by omega)
  exact of_wayBlk b_4_5_13 (by omega) (by omega)
theorem row_4_6 : ∀ j, j < 15 → (joinRun Try.prog K1 200 36) ((waysOf 4).getD 6 []) ((waysOf 4).getD j []) = true := by
  intro j hj
  by_cases h0 : j < 13
  · exact of_wayBlk b_4_6_0 (by omega) (by omega)
  exact of_wayBlk b_4_6_13 (by omega) (by omega)
theorem row_4_7 : ∀ j, j < 15 → (joinRun Try.prog K1 200 36) ((waysOf 4).getD 7 []) ((waysOf 4).getD j []) = true := by
  intro j hj
  by_cases h0 : j < 13
  · exact of_wayBlk b_4_7_0 (by omega) (by omega)
  exact of_wayBlk b_4_7_13 (by omega) (by omega)
theorem row_4_8 : ∀ j, j < 15 → (joinRun Try.prog K1 200 36) ((waysOf 4).getD 8 []) ((waysOf 4).getD j []) = true := by
  intro j hj
  by_cases h0 : j < 13
  · exact of_wayBlk b_4_8_0 (by omega) (by omega)
  exact of_wayBlk b_4_8_13 (by omega) (by omega)
theorem row_4_9 : ∀ j, j < 15 → (joinRun Try.prog K1 200 36) ((waysOf 4).getD 9 []) ((waysOf 4).getD j []) = true := by
  intro j hj
  by_cases h0 : j < 13
  · exact of_wayBlk b_4_9_0 (by omega) (by omega)
  exact of_wayBlk b_4_9_13 (by omega) (by omega)
theorem row_4_10 : ∀ j, j < 15 → (joinRun Try.prog K1 200 36) ((waysOf 4).getD 10 []) ((waysOf 4).getD j []) = true := by
  intro j hj
  by_cases h0 : j < 13
  · exact of_wayBlk b_4_10_0 (by omega) (by omega)
  exact of_wayBlk b_4_10_13 (by omega) (by omega)
theorem row_4_11 : ∀ j, j < 15 → (joinRun Try.prog K1 200 36) ((waysOf 4).getD 11 []) ((waysOf 4).getD j []) = true := by
  intro j hj
  by_cases h0 : j < 13
  · exact of_wayBlk b_4_11_0 (by omega) (by omega)
  exact of_wayBlk b_4_11_13 (by omega) (by omega)
theorem row_4_12 : ∀ j, j < 15 → (joinRun Try.prog K1 200 36) ((waysOf 4).getD 12 []) ((waysOf 4).getD j []) = true := by
  intro j hj
  by_cases h0 : j < 13
  · exact of_wayBlk b_4_12_0 (by omega) (by omega)
  exact of_wayBlk b_4_12_13 (by omega) (by omega)
theorem row_4_13 : ∀ j, j < 15 → (joinRun Try.prog K1 200 36) ((waysOf 4).getD 13 []) ((waysOf 4).getD j []) = true := by
  intro j hj
  by_cases h0 : j < 13
  · exact of_wayBlk b_4_13_0 (by omega) (by omega)
  exact of_wayBlk b_4_13_13 (by omega) (by omega)
theorem row_4_14 : ∀ j, j < 15 → (joinRun Try.prog K1 200 36) ((waysOf 4).getD 14 []) ((waysOf 4).getD j []) = true := by
  intro j hj
  by_cases h0 : j < 13
  · exact of_wayBlk b_4_14_0 (by omega) (by omega)
  exact of_wayBlk b_4_14_13 (by omega) (by omega)
theorem row_5_0 : ∀ j, j < 52 → (joinRun Try.prog K1 200 36) ((waysOf 5).getD 0 []) ((waysOf 5).getD j []) = true := by
  intro j hj
  by_cases h0 : j < 13
  · exact of_wayBlk b_5_0_0 (by omega) (by omega)
  by_cases h13 : j < 26
  · exact of_wayBlk b_5_0_13 (by omega) (by omega)
  by_cases h26 : j < 39
  · exact of_wayBlk b_5_0_26 (by omega) (by omega)
  exact of_wayBlk b_5_0_39 (by omega) (by omega)
theorem row_5_1 : ∀ j, j < 52 → (joinRun Try.prog K1 200 36) ((waysOf 5).getD 1 []) ((waysOf 5).getD j []) = true := by
  intro j hj
  by_cases h0 : j < 13
  · exact of_wayBlk b_5_1_0 (by omega) (by omega)
  by_cases h13 : j < 26
  · exact of_wayBlk b_5_1_13 (by omega) (by omega)
  by_cases h26 : j < 39
  · exact of_wayBlk b_5_1_26 (by omega) (by omega)
  exact of_wayBlk b_5_1_39 (by omega) (by omega)
theorem row_5_2 : ∀ j, j < 52 → (joinRun Try.prog K1 200 36) ((waysOf 5).getD 2 []) ((waysOf 5).getD j []) = true := by
  intro j hj
  by_cases h0 : j < 13
  · exact of_wayBlk b_5_2_0 (by omega) (by omega)
  by_cases h13 : j < 26
  · exact of_wayBlk b_5_2_13 (by omega) (by omega)
  by_cases h26 : j < 39
  · exact of_wayBlk b_5_2_26 (by omega) (by omega)
  exact of_wayBlk b_5_2_39 (by omega) (by omega)
theorem row_5_3 : ∀ j, j < 52 → (joinRun Try.prog K1 200 36) ((waysOf 5).getD 3 []) ((waysOf 5).getD j []) = true := by
  intro j hj
  by_cases h0 : j < 13
  · exact of_wayBlk b_5_3_0 (by omega) (by omega)
  by_cases h13 : j < 26
  · exact of_wayBlk b_5_3_13 (by omega) (by omega)
  by_cases h26 : j < 39
  · exact of_wayBlk b_5_3_26 (by omega) (by omega)
  exact of_wayBlk b_5_3_39 (by omega) (by omega)
theorem row_5_4 : ∀ j, j < 52 → (joinRun Try.prog K1 200 36) ((waysOf 5).getD 4 []) ((waysOf 5).getD j []) = true := by
  intro j hj
  by_cases h0 : j < 13
  · exact of_wayBlk b_5_4_0 (by omega) (by omega)
  by_cases h13 : j < 26
  · exact of_wayBlk b_5_4_13 (by omega) (by omega)
  by_cases h26 : j < 39
  · exact of_wayBlk b_5_4_26 (by omega) (by omega)
  exact of_wayBlk b_5_4_39 (by omega) (by omega)
theorem row_5_5 : ∀ j, j < 52 → (joinRun Try.prog K1 200 36) ((waysOf 5).getD 5 []) ((waysOf 5).getD j []) = true := by
  intro j hj
  by_cases h0 : j < 13
  · exact of_wayBlk b_5_5_0 (by omega) (by omega)
  by_cases h13 : j < 26
  · exact of_wayBlk b_5_5_13 (by omega) (by omega)
  by_cases h26 : j < 39
  · exact of_wayBlk b_5_5_26 (by omega) (by omega)
  exact of_wayBlk b_5_5_39 (by omega) (by omega)
theorem row_5_6 : ∀ j, j < 52 → (joinRun Try.prog K1 200 36) ((waysOf 5).getD 6 []) ((waysOf 5).getD j []) = true := by
  intro j hj
  by_cases h0 : j < 13
  · exact of_wayBlk b_5_6_0 (by omega) (by omega)
  by_cases h13 : j < 26
  · exact of_wayBlk b_5_6_13 (by omega) (by omega)
  by_cases h26 : j < 39
  · exact of_wayBlk b_5_6_26 (by omega) (by omega)
  exact of_wayBlk b_5_6_39 (by omega) (by omega)
theorem row_5_7 : ∀ j, j < 52 → (joinRun Try.prog K1 200 36) ((waysOf 5).getD 7 []) ((waysOf 5).getD j []) = true := by
  intro j hj
  by_cases h0 : j < 13
  · exact of_wayBlk b_5_7_0 (by omega) (by omega)
  by_cases h13 : j < 26
  · exact of_wayBlk b_5_7_13 (by omega) (by omega)
  by_cases h26 : j < 39
  · exact of_wayBlk b_5_7_26 (by omega) (by omega)
  exact of_wayBlk b_5_7_39 (by omega) (by omega)
theorem row_5_8 : ∀ j, j < 52 → (joinRun Try.prog K1 200 36) ((waysOf 5).getD 8 []) ((waysOf 5).getD j []) = true := by
  intro j hj
  by_cases h0 : j < 13
  · exact of_wayBlk b_5_8_0 (by omega) (by omega)
  by_cases h13 : j < 26
  · exact of_wayBlk b_5_8_13 (by omega) (by omega)
  by_cases h26 : j < 39
  · exact of_wayBlk b_5_8_26 (by omega) (by omega)
  exact of_wayBlk b_5_8_39 (by omega) (by omega)
theorem row_5_9 : ∀ j, j < 52 → (joinRun Try.prog K1 200 36) ((waysOf 5).getD 9 []) ((waysOf 5).getD j []) = true := by
  intro j hj
  by_cases h0 : j < 13
  · exact of_wayBlk b_5_9_0 (by omega) (by omega)
  by_cases h13 : j < 26
  · exact of_wayBlk b_5_9_13 (by omega) (by omega)
  by_cases h26 : j < 39
  · exact of_wayBlk b_5_9_26 (by omega) (by omega)
  exact of_wayBlk b_5_9_39 (by omega) (by omega)
theorem row_5_10 : ∀ j, j < 52 → (joinRun Try.prog K1 200 36) ((waysOf 5).getD 10 []) ((waysOf 5).getD j []) = true := by
  intro j hj
  by_cases h0 : j < 13
  · exact of_wayBlk b_5_10_0 (by omega) (by omega)
  by_cases h13 : j < 26
  · exact of_wayBlk b_5_10_13 (by omega) (by omega)
  by_cases h26 : j < 39
  · exact of_wayBlk b_5_10_26 (by omega) (by omega)
  exact of_wayBlk b_5_10_39 (by omega) (by omega)
theorem row_5_11 : ∀ j, j < 52 → (joinRun Try.prog K1 200 36) ((waysOf 5).getD 11 []) ((waysOf 5).getD j []) = true := by
  intro j hj
  by_cases h0 : j < 13
  · exact of_wayBlk b_5_11_0 (by omega) (by omega)
  by_cases h13 : j < 26
  · exact of_wayBlk b_5_11_13 (by omega) (by omega)
  by_cases h26 : j < 39
  · exact of_wayBlk b_5_11_26 (by omega) (by omega)
  exact of_wayBlk b_5_11_39 (by omega) (by omega)
theorem row_5_12 : ∀ j, j < 52 → (joinRun Try.prog K1 200 36) ((waysOf 5).getD 12 []) ((waysOf 5).getD j []) = true := by
  intro j hj
  by_cases h0 : j < 13
  · exact of_wayBlk b_5_12_0 (by omega) (by omega)
  by_cases h13 : j < 26
  · exact of_wayBlk b_5_12_13 (by omega) (by omega)
  by_cases h26 : j < 39
  · exact of_wayBlk b_5_12_26 (by omega) (by omega)
  exact of_wayBlk b_5_12_39 (by omega) (by omega)
theorem row_5_13 : ∀ j, j < 52 → (joinRun Try.prog K1 200 36) ((waysOf 5).getD 13 []) ((waysOf 5).getD j []) = true := by
  intro j hj
  by_cases h0 : j < 13
  · exact of_wayBlk b_5_13_0 (by omega) (by omega)
  by_cases h13 : j < 26
  · exact of_wayBlk b_5_13_13 (by omega) (by omega)
  by_cases h26 : j < 39
  · exact of_wayBlk b_5_13_26 (by omega) (by omega)
  exact of_wayBlk b_5_13_39 (by omega) (by omega)
theorem row_5_14 : ∀ j, j < 52 → (joinRun Try.prog K1 200 36) ((waysOf 5).getD 14 []) ((waysOf 5).getD j []) = true := by
  intro j hj
  by_cases h0 : j < 13
  · exact of_wayBlk b_5_14_0 (by omega) (by omega)
  by_cases h13 : j < 26
  · exact of_wayBlk b_5_14_13 (by omega) (by omega)
  by_cases h26 : j < 39
  · exact of_wayBlk b_5_14_26 (by omega) (by omega)
  exact of_wayBlk b_5_14_39 (by omega) (by omega)
theorem row_5_15 : ∀ j, j < 52 → (joinRun Try.prog K1 200 36) ((waysOf 5).getD 15 []) ((waysOf 5).getD j []) = true := by
  intro j hj
  by_cases h0 : j < 13
  · exact of_wayBlk b_5_15_0 (by omega) (by omega)
  by_cases h13 : j < 26
  · exact of_wayBlk b_5_15_13 (by omega) (by omega)
  by_cases h26 : j < 39
  · exact of_wayBlk b_5_15_26 (by omega) (by omega)
  exact of_wayBlk b_5_15_39 (by omega) (by omega)
theorem row_5_16 : ∀ j, j < 52 → (joinRun Try.prog K1 200 36) ((waysOf 5).getD 16 []) ((waysOf 5).getD j []) = true := by
  intro j hj
  by_cases h0 : j < 13
  · exact of_wayBlk b_5_16_0 (by omega) (by omega)
  by_cases h13 : j < 26
  · exact of_wayBlk b_5_16_13 (by omega) (by omega)
  by_cases h26 : j < 39
  · exact of_wayBlk b_5_16_26 (by omega) (by omega)
  exact of_wayBlk b_5_16_39 (by omega) (by omega)
theorem row_5_17 : ∀ j, j < 52 → (joinRun Try.prog K1 200 36) ((waysOf 5).getD 17 []) ((waysOf 5).getD j []) = true := by
  intro j hj
  by_cases h0 : j < 13
  · exact of_wayBlk b_5_17_0 (by omega) (by omega)
  by_cases h13 : j < 26
  · exact of_wayBlk b_5_17_13 (by omega) (by omega)
  by_cases h26 : j < 39
  · exact of_wayBlk b_5_17_26 (by omega) (by omega)
  exact of_wayBlk b_5_17_39 (by omega) (by omega)
theorem row_5_18 : ∀ j, j < 52 → (joinRun Try.prog K1 200 36) ((waysOf 5).getD 18 []) ((waysOf 5).getD j []) = true := by
  intro j hj
  by_cases h0 : j < 13
  · exact of_wayBlk b_5_18_0 (by omega) (by omega)
  by_cases h13 : j < 26
  · exact of_wayBlk b_5_18_13 (by omega) (by omega)
  by_cases h26 : j < 39
  · exact of_wayBlk b_5_18_26 (by omega) (by omega)
  exact of_wayBlk b_5_18_39 (by omega) (by omega)
theorem row_5_19 : ∀ j, j < 52 → (joinRun Try.prog K1 200 36) ((waysOf 5).getD 19 []) ((waysOf 5).getD j []) = true := by
  intro j hj
  by_cases h0 : j < 13
  · exact of_wayBlk b_5_19_0 (by omega) (by omega)
  by_cases h13 : j < 26
  · exact of_wayBlk b_5_19_13 (by omega) (by omega)
  by_cases h26 : j < 39
  · exact of_wayBlk b_5_19_26 (by omega) (by omega)
  exact of_wayBlk b_5_19_39 (by omega) (by omega)
theorem row_5_20 : ∀ j, j < 52 → (joinRun Try.prog K1 200 36) ((waysOf 5).getD 20 []) ((waysOf 5).getD j []) = true := by
  intro j hj
  by_cases h0 : j < 13
  · exact of_wayBlk b_5_20_0 (by omega) (by omega)
  by_cases h13 : j < 26
  · exact of_wayBlk b_5_20_13 (by omega) (by omega)
  by_cases h26 : j < 39
  · exact of_wayBlk b_5_20_26 (by omega) (by omega)
  exact of_wayBlk b_5_20_39 (by omega) (by omega)
theorem row_5_21 : ∀ j, j < 52 → (joinRun Try.prog K1 200 36) ((waysOf 5).getD 21 []) ((waysOf 5).getD j []) = true := by
  intro j hj
  by_cases h0 : j < 13
  · exact of_wayBlk b_5_21_0 (by omega) (by omega)
  by_cases h13 : j < 26
  · exact of_wayBlk b_5_21_13 (by omega) (by omega)
  by_cases h26 : j < 39
  · exact of_wayBlk b_5_21_26 (by omega) (by omega)
  exact of_wayBlk b_5_21_39 (by omega) (by omega)
theorem row_5_22 : ∀ j, j < 52 → (joinRun Try.prog K1 200 36) ((waysOf 5).getD 22 []) ((waysOf 5).getD j []) = true := by
  intro j hj
  by_cases h0 : j < 13
  · exact of_wayBlk b_5_22_0 (by omega) (by omega)
  by_cases h13 : j < 26
  · exact of_wayBlk b_5_22_13 (by omega) (by omega)
  by_cases h26 : j < 39
  · exact of_wayBlk b_5_22_26 (by omega) (by omega)
  exact of_wayBlk b_5_22_39 (by omega) (by omega)
theorem row_5_23 : ∀ j, j < 52 → (joinRun Try.prog K1 200 36) ((waysOf 5).getD 23 []) ((waysOf 5).getD j []) = true := by
  intro j hj
  by_cases h0 : j < 13
  · exact of_wayBlk b_5_23_0 (by omega) (by omega)
  by_cases h13 : j < 26
  · exact of_wayBlk b_5_23_13 (by omega) (by omega)
  by_cases h26 : j < 39
  · exact of_wayBlk b_5_23_26 (by omega) (by omega)
  exact of_wayBlk b_5_23_39 (by omega) (by omega)
theorem row_5_24 : ∀ j, j < 52 → (joinRun Try.prog K1 200 36) ((waysOf 5).getD 24 []) ((waysOf 5).getD j []) = true := by
  intro j hj
  by_cases h0 : j < 13
  · exact of_wayBlk b_5_24_0 (by omega) (by omega)
  by_cases h13 : j < 26
  · exact of_wayBlk b_5_24_13 (by omega) (by omega)
  by_cases h26 : j < 39
  · exact of_wayBlk b_5_24_26 (by omega) (by omega)
  exact of_wayBlk b_5_24_39 (by omega) (by omega)
theorem row_5_25 : ∀ j, j < 52 → (joinRun Try.prog K1 200 36) ((waysOf 5).getD 25 []) ((waysOf 5).getD j []) = true := by
  intro j hj
  by_cases h0 : j < 13
  · exact of_wayBlk b_5_25_0 (by omega) (by omega)
  by_cases h13 : j < 26
  · exact of_wayBlk b_5_25_13 (by omega) (by omega)
  by_cases h26 : j < 39
  · exact of_wayBlk b_5_25_26 (by omega) (by omega)
  exact of_wayBlk b_5_25_39 (by omega) (by omega)
theorem row_5_26 : ∀ j, j < 52 → (joinRun Try.prog K1 200 36) ((waysOf 5).getD 26 []) ((waysOf 5).getD j []) = true := by
  intro j hj
  by_cases h0 : j < 13
  · exact of_wayBlk b_5_26_0 (by omega) (by omega)
  by_cases h13 : j < 26
  · exact of_wayBlk b_5_26_13 (by omega) (by omega)
  by_cases h26 : j < 39
  · exact of_wayBlk b_5_26_26 (by omega) (by omega)
  exact of_wayBlk b_5_26_39 (by omega) (by omega)
theorem row_5_27 : ∀ j, j < 52 → (joinRun Try.prog K1 200 36) ((waysOf 5).getD 27 []) ((waysOf 5).getD j []) = true := by
  intro j hj
  by_cases h0 : j < 13
  · exact of_wayBlk b_5_27_0 (by omega) (by omega)
  by_cases h13 : j < 26
  · exact of_wayBlk b_5_27_13 (by omega) (by omega)
  by_cases h26 : j < 39
  · exact of_wayBlk b_5_27_26 (by omega) (by omega)
  exact of_wayBlk b_5_27_39 (by omega) (by omega)
theorem row_5_28 : ∀ j, j < 52 → (joinRun Try.prog K1 200 36) ((waysOf 5).getD 28 []) ((waysOf 5).getD j []) = true := by
  intro j hj
  by_cases h0 : j < 13
  · exact of_wayBlk b_5_28_0 (by omega) (by omega)
  by_cases h13 : j < 26
  · exact of_wayBlk b_5_28_13 (by omega) (by omega)
  by_cases h26 : j < 39
  · exact of_wayBlk b_5_28_26 (by omega) (by omega)
  exact of_wayBlk b_5_28_39 (by omega) (by omega)
theorem row_5_29 : ∀ j, j < 52 → (joinRun Try.prog K1 200 36) ((waysOf 5).getD 29 []) ((waysOf 5).getD j []) = true := by
  intro j hj
  by_cases h0 : j < 13
  · exact of_wayBlk b_5_29_0 (by omega) (by omega)
  by_cases h13 : j < 26
  · exact of_wayBlk b_5_29_13 (by omega) (by omega)
  by_cases h26 : j < 39
  · exact of_wayBlk b_5_29_26 (by omega) (by omega)
  exact of_wayBlk b_5_29_39 (by omega) (by omega)
theorem row_5_30 : ∀ j, j < 52 → (joinRun Try.prog K1 200 36) ((waysOf 5).getD 30 []) ((waysOf 5).getD j []) = true := by
  intro j hj
  by_cases h0 : j < 13
  · exact of_wayBlk b_5_30_0 (by omega) (by omega)
  by_cases h13 : j < 26
  · exact of_wayBlk b_5_30_13 (by omega) (by omega)
  by_cases h26 : j < 39
  · exact of_wayBlk b_5_30_26 (by omega) (by omega)
  exact of_wayBlk b_5_30_39 (by omega) (by omega)
theorem row_5_31 : ∀ j, j < 52 → (joinRun Try.prog K1 200 36) ((waysOf 5).getD 31 []) ((waysOf 5).getD j []) = true := by
  intro j hj
  by_cases h0 : j < 13
  · exact of_wayBlk b_5_31_0 (by omega) (by omega)
  by_cases h13 : j < 26
  · exact of_wayBlk b_5_31_13 (by omega) (by omega)
  by_cases h26 : j < 39
  · exact of_wayBlk b_5_31_26 (by omega) (by omega)
  exact of_wayBlk b_5_31_39 (by omega) (by omega)
theorem row_5_32 : ∀ j, j < 52 → (joinRun Try.prog K1 200 36) ((waysOf 5).getD 32 []) ((waysOf 5).getD j []) = true := by
  intro j hj
  by_cases h0 : j < 13
  · exact of_wayBlk b_5_32_0 (by omega) (by omega)
  by_cases h13 : j < 26
  · exact of_wayBlk b_5_32_13 (by omega) (by omega)
  by_cases h26 : j < 39
  · exact of_wayBlk b_5_32_26 (by omega) (by omega)
  exact of_wayBlk b_5_32_39 (by omega) (by omega)
theorem row_5_33 : ∀ j, j < 52 → (joinRun Try.prog K1 200 36) ((waysOf 5).getD 33 []) ((waysOf 5).getD j []) = true := by
  intro j hj
  by_cases h0 : j < 13
  · exact of_wayBlk b_5_33_0 (by omega) (by omega)
  by_cases h13 : j < 26
  · exact of_wayBlk b_5_33_13 (by omega) (by omega)
  by_cases h26 : j < 39
  · exact of_wayBlk b_5_33_26 (by omega) (by omega)
  exact of_wayBlk b_5_33_39 (by omega) (by omega)
theorem row_5_34 : ∀ j, j < 52 → (joinRun Try.prog K1 200 36) ((waysOf 5).getD 34 []) ((waysOf 5).getD j []) = true := by
  intro j hj
  by_cases h0 : j < 13
  · exact of_wayBlk b_5_34_0 (by omega) (by omega)
  by_cases h13 : j < 26
  · exact of_wayBlk b_5_34_13 (by omega) (by omega)
  by_cases h26 : j < 39
  · exact of_wayBlk b_5_34_26 (by omega) (by omega)
  exact of_wayBlk b_5_34_39 (by omega) (by omega)
theorem row_5_35 : ∀ j, j < 52 → (joinRun Try.prog K1 200 36) ((waysOf 5).getD 35 []) ((waysOf 5).getD j []) = true := by
  intro j hj
  by_cases h0 : j < 13
  · exact of_wayBlk b_5_35_0 (by omega) (by omega)
  by_cases h13 : j < 26
  · exact of_wayBlk b_5_35_13 (by omega) (by omega)
  by_cases h26 : j < 39
  · exact of_wayBlk b_5_35_26 (by omega) (by omega)
  exact of_wayBlk b_5_35_39 (by omega) (by omega)
theorem row_5_36 : ∀ j, j < 52 → (joinRun Try.prog K1 200 36) ((waysOf 5).getD 36 []) ((waysOf 5).getD j []) = true := by
  intro j hj
  by_cases h0 : j < 13
  · exact of_wayBlk b_5_36_0 (by omega) (by omega)
  by_cases h13 : j < 26
  · exact of_wayBlk b_5_36_13 (by omega) (by omega)
  by_cases h26 : j < 39
  · exact of_wayBlk b_5_36_26 (by omega) (by omega)
  exact of_wayBlk b_5_36_39 (by omega) (by omega)
theorem row_5_37 : ∀ j, j < 52 → (joinRun Try.prog K1 200 36) ((waysOf 5).getD 37 []) ((waysOf 5).getD j []) = true := by
  intro j hj
  by_cases h0 : j < 13
  · exact of_wayBlk b_5_37_0 (by omega) (by omega)
  by_cases h13 : j < 26
  · exact of_wayBlk b_5_37_13 (by omega) (by omega)
  by_cases h26 : j < 39
  · exact of_wayBlk b_5_37_26 (by omega) (by omega)
  exact of_wayBlk b_5_37_39 (by omega) (by omega)
theorem row_5_38 : ∀ j, j < 52 → (joinRun Try.prog K1 200 36) ((waysOf 5).getD 38 []) ((waysOf 5).getD j []) = true := by
  intro j hj
  by_cases h0 : j < 13
  · exact of_wayBlk b_5_38_0 (by omega) (by omega)
  by_cases h13 : j < 26
  · exact of_wayBlk b_5_38_13 (by omega) (by omega)
  by_cases h26 : j < 39
  · exact of_wayBlk b_5_38_26 (by omega) (by omega)
  exact of_wayBlk b_5_38_39 (by omega) (by omega)
theorem row_5_39 : ∀ j, j < 52 → (joinRun Try.prog K1 200 36) ((waysOf 5).getD 39 []) ((waysOf 5).getD j []) = true := by
  intro j hj
  by_cases h0 : j < 13
  · exact of_wayBlk b_5_39_0 (by omega) (by omega)
  by_cases h13 : j < 26
  · exact of_wayBlk b_5_39_13 (by omega) (by omega)
  by_cases h26 : j < 39
  · exact of_wayBlk b_5_39_26 (by omega) (by omega)
  exact of_wayBlk b_5_39_39 (by omega) (by omega)
theorem row_5_40 : ∀ j, j < 52 → (joinRun Try.prog K1 200 36) ((waysOf 5).getD 40 []) ((waysOf 5).getD j []) = true := by
  intro j hj
  by_cases h0 : j < 13
  · exact of_wayBlk b_5_40_0 (by omega) (by omega)
  by_cases h13 : j < 26
  · exact of_wayBlk b_5_40_13 (by omega) (by omega)
  by_cases h26 : j < 39
  · exact of_wayBlk b_5_40_26 (by omega) (by omega)
  exact of_wayBlk b_5_40_39 (by omega) (by omega)
theorem row_5_41 : ∀ j, j < 52 → (joinRun Try.prog K1 200 36) ((waysOf 5).getD 41 []) ((waysOf 5).getD j []) = true := by
  intro j hj
  by_cases h0 : j < 13
  · exact of_wayBlk b_5_41_0 (by omega) (by omega)
  by_cases h13 : j < 26
  · exact of_wayBlk b_5_41_13 (by omega) (by omega)
  by_cases h26 : j < 39
  · exact of_wayBlk b_5_41_26 (by omega) (by omega)
  exact of_wayBlk b_5_41_39 (by omega) (by omega)
theorem row_5_42 : ∀ j, j < 52 → (joinRun Try.prog K1 200 36) ((waysOf 5).getD 42 []) ((waysOf 5).getD j []) = true := by
  intro j hj
  by_cases h0 : j < 13
  · exact of_wayBlk b_5_42_0 (by omega) (by omega)
  by_cases h13 : j < 26
  · exact of_wayBlk b_5_42_13 (by omega) (by omega)
  by_cases h26 : j < 39
  · exact of_wayBlk b_5_42_26 (by omega) (by omega)
  exact of_wayBlk b_5_42_39 (by omega) (by omega)
theorem row_5_43 : ∀ j, j < 52 → (joinRun Try.prog K1 200 36) ((waysOf 5).getD 43 []) ((waysOf 5).getD j []) = true := by
  intro j hj
  by_cases h0 : j < 13
  · exact of_wayBlk b_5_43_0 (by omega) (by omega)
  by_cases h13 : j < 26
  · exact of_wayBlk b_5_43_13 (by omega) (by omega)
  by_cases h26 : j < 39
  · exact of_wayBlk b_5_43_26 (by omega) (by omega)
  exact of_wayBlk b_5_43_39 (by omega) (by omega)
theorem row_5_44 : ∀ j, j < 52 → (joinRun Try.prog K1 200 36) ((waysOf 5).getD 44 []) ((waysOf 5).getD j []) = true := by
  intro j hj
  by_cases h0 : j < 13
  · exact of_wayBlk b_5_44_0 (by omega) (by omega)
  by_cases h13 : j < 26
  · exact of_wayBlk b_5_44_13 (by omega) (by omega)
  by_cases h26 : j < 39
  · exact of_wayBlk b_5_44_26 (by omega) (by omega)
  exact of_wayBlk b_5_44_39 (by omega) (by omega)
theorem row_5_45 : ∀ j, j < 52 → (joinRun Try.prog K1 200 36) ((waysOf 5).getD 45 []) ((waysOf 5).getD j []) = true := by
  intro j hj
  by_cases h0 : j < 13
  · exact of_wayBlk b_5_45_0 (by omega) (by omega)
  by_cases h13 : j < 26
  · exact of_wayBlk b_5_45_13 (by omega) (by omega)
  by_cases h26 : j < 39
  · exact of_wayBlk b_5_45_26 (by omega) (by omega)
  exact of_wayBlk b_5_45_39 (by omega) (by omega)
theorem row_5_46 : ∀ j, j < 52 → (joinRun Try.prog K1 200 36) ((waysOf 5).getD 46 []) ((waysOf 5).getD j []) = true := by
  intro j hj
  by_cases h0 : j < 13
  · exact of_wayBlk b_5_46_0 (by omega) (by omega)
  by_cases h13 : j < 26
  · exact of_wayBlk b_5_46_13 (by omega) (by omega)
  by_cases h26 : j < 39
  · exact of_wayBlk b_5_46_26 (by omega) (by omega)
  exact of_wayBlk b_5_46_39 (by omega) (by omega)
theorem row_5_47 : ∀ j, j < 52 → (joinRun Try.prog K1 200 36) ((waysOf 5).getD 47 []) ((waysOf 5).getD j []) = true := by
  intro j hj
  by_cases h0 : j < 13
  · exact of_wayBlk b_5_47_0 (by omega) (by omega)
  by_cases h13 : j < 26
  · exact of_wayBlk b_5_47_13 (by omega) (by omega)
  by_cases h26 : j < 39
  · exact of_wayBlk b_5_47_26 (by omega) (by omega)
  exact of_wayBlk b_5_47_39 (by omega) (by omega)
theorem row_5_48 : ∀ j, j < 52 → (joinRun Try.prog K1 200 36) ((waysOf 5).getD 48 []) ((waysOf 5).getD j []) = true := by
  intro j hj
  by_cases h0 : j < 13
  · exact of_wayBlk b_5_48_0 (by omega) (by omega)
  by_cases h13 : j < 26
  · exact of_wayBlk b_5_48_13 (by omega) (by omega)
  by_cases h26 : j < 39
  · exact of_wayBlk b_5_48_26 (by omega) (by omega)
  exact of_wayBlk b_5_48_39 (by omega) (by omega)
theorem row_5_49 : ∀ j, j < 52 → (joinRun Try.prog K1 200 36) ((waysOf 5).getD 49 []) ((waysOf 5).getD j []) = true := by
  intro j hj
  by_cases h0 : j < 13
  · exact of_wayBlk b_5_49_0 (by omega) (by omega)
  by_cases h13 : j < 26
  · exact of_wayBlk b_5_49_13 (by omega) (by omega)
  by_cases h26 : j < 39
  · exact of_wayBlk b_5_49_26 (by omega) (by omega)
  exact of_wayBlk b_5_49_39 (by omega) (by omega)
theorem row_5_50 : ∀ j, j < 52 → (joinRun Try.prog K1 200 36) ((waysOf 5).getD 50 []) ((waysOf 5).getD j []) = true := by
  intro j hj
  by_cases h0 : j < 13
  · exact of_wayBlk b_5_50_0 (by omega) (by omega)
  by_cases h13 : j < 26
  · exact of_wayBlk b_5_50_13 (by omega) (by omega)
  by_cases h26 : j < 39
  · exact of_wayBlk b_5_50_26 (by omega) (by omega)
  exact of_wayBlk b_5_50_39 (by omega) (by omega)
theorem row_5_51 : ∀ j, j < 52 → (joinRun Try.prog K1 200 36) ((waysOf 5).getD 51 []) ((waysOf 5).getD j []) = true := by
  intro j hj
  by_cases h0 : j < 13
  · exact of_wayBlk b_5_51_0 (by omega) (by omega)
  by_cases h13 : j < 26
  · exact of_wayBlk b_5_51_13 (by omega) (by omega)
  by_cases h26 : j < 39
  · exact of_wayBlk b_5_51_26 (by omega) (by omega)
  exact of_wayBlk b_5_51_39 (by omega) (by omega)
theorem rows_1 : ∀ i j, i < 1 → j < 1 → (joinRun Try.prog K1 200 36) ((waysOf 1).getD i []) ((waysOf 1).getD j []) = true := by
  intro i j hi hj
  match i, hi with
  | 0, _ => exact row_1_0 j hj
  | k + 1, hi => omega
theorem rows_2 : ∀ i j, i < 2 → j < 2 → (joinRun Try.prog K1 200 36) ((waysOf 2).getD i []) ((waysOf 2).getD j []) = true := by
  intro i j hi hj
  match i, hi with
  | 0, _ => exact row_2_0 j hj
  | 1, _ => exact row_2_1 j hj
  | k + 2, hi => omega
theorem rows_3 : ∀ i j, i < 5 → j < 5 → (joinRun Try.prog K1 200 36) ((waysOf 3).getD i []) ((waysOf 3).getD j []) = true := by
  intro i j hi hj
  match i, hi with
  | 0, _ => exact row_3_0 j hj
  | 1, _ => exact row_3_1 j hj
  | 2, _ => exact row_3_2 j hj
  | 3, _ => exact row_3_3 j hj
  | 4, _ => exact row_3_4 j hj
  | k + 5, hi => omega
theorem rows_4 : ∀ i j, i < 15 → j < 15 → (joinRun Try.prog K1 200 36) ((waysOf 4).getD i []) ((waysOf 4).getD j []) = true := by
  intro i j hi hj
  match i, hi with
  | 0, _ => exact row_4_0 j hj
  | 1, _ => exact row_4_1 j hj
  | 2, _ => exact row_4_2 j hj
  | 3, _ => exact row_4_3 j hj
  | 4, _ => exact row_4_4 j hj
  | 5, _ => exact row_4_5 j hj
  | 6, _ => exact row_4_6 j hj
  | 7, _ => exact row_4_7 j hj
  | 8, _ => exact row_4_8 j hj
  | 9, _ => exact row_4_9 j hj
  | 10, _ => exact row_4_10 j hj
  | 11, _ => exact row_4_11 j hj
  | 12, _ => exact row_4_12 j hj
  | 13, _ => exact row_4_13 j hj
  | 14, _ => exact row_4_14 j hj
  | k + 15, hi => omega
theorem rows_5 : ∀ i j, i < 52 → j < 52 → (joinRun Try.prog K1 200 36) ((waysOf 5).getD i []) ((waysOf 5).getD j []) = true := by
  intro i j hi hj
  match i, hi with
  | 0, _ => exact row_5_0 j hj
  | 1, _ => exact row_5_1 j hj
  | 2, _ => exact row_5_2 j hj
  | 3, _ => exact row_5_3 j hj
  | 4, _ => exact row_5_4 j hj
  | 5, _ => exact row_5_5 j hj
  | 6, _ => exact row_5_6 j hj
  | 7, _ => exact row_5_7 j hj
  | 8, _ => exact row_5_8 j hj
  | 9, _ => exact row_5_9 j hj
  | 10, _ => exact row_5_10 j hj
  | 11, _ => exact row_5_11 j hj
  | 12, _ => exact row_5_12 j hj
  | 13, _ => exact row_5_13 j hj
  | 14, _ => exact row_5_14 j hj
  | 15, _ => exact row_5_15 j hj
  | 16, _ => exact row_5_16 j hj
  | 17, _ => exact row_5_17 j hj
  | 18, _ => exact row_5_18 j hj
  | 19, _ => exact row_5_19 j hj
  | 20, _ => exact row_5_20 j hj
  | 21, _ => exact row_5_21 j hj
  | 22, _ => exact row_5_22 j hj
  | 23, _ => exact row_5_23 j hj
  | 24, _ => exact row_5_24 j hj
  | 25, _ => exact row_5_25 j hj
  | 26, _ => exact row_5_26 j hj
  | 27, _ => exact row_5_27 j hj
  | 28, _ => exact row_5_28 j hj
  | 29, _ => exact row_5_29 j hj
  | 30, _ => exact row_5_30 j hj
  | 31, _ => exact row_5_31 j hj
  | 32, _ => exact row_5_32 j hj
  | 33, _ => exact row_5_33 j hj
  | 34, _ => exact row_5_34 j hj
  | 35, _ => exact row_5_35 j hj
  | 36, _ => exact row_5_36 j hj
  | 37, _ => exact row_5_37 j hj
  | 38, _ => exact row_5_38 j hj
  | 39, _ => exact row_5_39 j hj
  | 40, _ => exact row_5_40 j hj
  | 41, _ => exact row_5_41 j hj
  | 42, _ => exact row_5_42 j hj
  | 43, _ => exact row_5_43 j hj
  | 44, _ => exact row_5_44 j hj
  | 45, _ => exact row_5_45 j hj
  | 46, _ => exact row_5_46 j hj
  | 47, _ => exact row_5_47 j hj
  | 48, _ => exact row_5_48 j hj
  | 49, _ => exact row_5_49 j hj
  | 50, _ => exact row_5_50 j hj
  | 51, _ => exact row_5_51 j hj
  | k + 52, hi => omega
theorem all_ways {p q : List Int} (hp : isPart p = true) (hq : isPart q = true) (hl : p.length = q.length) (hne : p ≠ []) : (joinRun Try.prog K1 200 36) p q = true := by
  refine ways_all (f := (joinRun Try.prog K1 200 36)) (fun i j hi hj => ?_) hp hq hl
  have h5 := isPart_len hp
  have h0 : p.length ≠ 0 := fun h => hne (List.eq_nil_of_length_eq_zero h)
  generalize p.length = n at *
  match n, h5 with
  | 0, _ => exact (h0 rfl).elim
  | 1, _ => rw [len_1] at hi hj; exact rows_1 i j hi hj
  | 2, _ => rw [len_2] at hi hj; exact rows_2 i j hi hj
  | 3, _ => rw [len_3] at hi hj; exact rows_3 i j hi hj
  | 4, _ => rw [len_4] at hi hj; exact rows_4 i j hi hj
  | 5, _ => rw [len_5] at hi hj; exact rows_5 i j hi hj
  | k + 6, h => omega

noncomputable def KJ : Ctr := orK K1 (twoK 36 joinF)
theorem KJ_ok (ρ : Nat → Int) (s : Sms) (B : Nat) : COk Try.prog ⟨Sy.den ρ, s⟩ B KJ := by
  refine orK_ok (K1_ok ρ s B) (twoK_ok noCount mixed (body_of Try.func36 rfl) (fun zs us ys h hl hl' hne hne' => ?_))
  obtain ⟨h1, h2, h3, rfl⟩ := joinF_ok h
  have hr := all_ways h2 h3 h1 hne
  unfold joinRun at hr
  obtain ⟨q, R, S, e, hM⟩ := madeAs_ok hr
  exact ⟨K1, 200, q, R, S, K1_ok, e, hM⟩
end Go.Proofs.Ytcpnlgjkijcmhaa.WayJ

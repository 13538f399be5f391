/-
  Summaries: what functions make of symbols, each by a run. No condition.
-/
import Derived.Test.YtbjjlimncodmkaaIds
open Go Go.Proofs Go.Sx Go.Proofs.Ytbjjlimncodmkaa.Ids
namespace Go.Proofs.Ytbjjlimncodmkaa.Summs
def t0 : List Summ := []
theorem t0_ok : ∀ e, e ∈ t0 → e.Ok Try.prog := by intro e he; cases he

def ci00 : Summ := ⟨113, [.int .i64 (.c 0), .int .i64 (.c 0)], (.int .i64 (.c 1)), ⟨0, [], 0⟩⟩
set_option maxRecDepth 1000000 in
theorem ci00_ok : ci00.Ok Try.prog := Summ.of_run noCount mixed (t := t0) (n := 60) t0_ok (by kernel_rfl)
def t_ci00 : List Summ := ci00 :: t0
theorem t_ci00_ok : ∀ e, e ∈ t_ci00 → e.Ok Try.prog := by
  intro e he
  rcases List.mem_cons.1 he with rfl | he
  · exact ci00_ok
  · exact t0_ok e he
def ci10 : Summ := ⟨113, [.int .i64 (.c 1), .int .i64 (.c 0)], (.int .i64 (.c 1)), ⟨0, [], 0⟩⟩
set_option maxRecDepth 1000000 in
theorem ci10_ok : ci10.Ok Try.prog := Summ.of_run noCount mixed (t := t_ci00) (n := 60) t_ci00_ok (by kernel_rfl)
def t_ci10 : List Summ := ci10 :: t_ci00
theorem t_ci10_ok : ∀ e, e ∈ t_ci10 → e.Ok Try.prog := by
  intro e he
  rcases List.mem_cons.1 he with rfl | he
  · exact ci10_ok
  · exact t_ci00_ok e he
def ci11 : Summ := ⟨113, [.int .i64 (.c 1), .int .i64 (.c 1)], (.int .i64 (.c 1)), ⟨0, [], 0⟩⟩
set_option maxRecDepth 1000000 in
theorem ci11_ok : ci11.Ok Try.prog := Summ.of_run noCount mixed (t := t_ci10) (n := 60) t_ci10_ok (by kernel_rfl)
def t_ci11 : List Summ := ci11 :: t_ci10
theorem t_ci11_ok : ∀ e, e ∈ t_ci11 → e.Ok Try.prog := by
  intro e he
  rcases List.mem_cons.1 he with rfl | he
  · exact ci11_ok
  · exact t_ci10_ok e he
def ci20 : Summ := ⟨113, [.int .i64 (.c 2), .int .i64 (.c 0)], (.int .i64 (.c 1)), ⟨0, [], 0⟩⟩
set_option maxRecDepth 1000000 in
theorem ci20_ok : ci20.Ok Try.prog := Summ.of_run noCount mixed (t := t_ci11) (n := 60) t_ci11_ok (by kernel_rfl)
def t_ci20 : List Summ := ci20 :: t_ci11
theorem t_ci20_ok : ∀ e, e ∈ t_ci20 → e.Ok Try.prog := by
  intro e he
  rcases List.mem_cons.1 he with rfl | he
  · exact ci20_ok
  · exact t_ci11_ok e he
def ci21 : Summ := ⟨113, [.int .i64 (.c 2), .int .i64 (.c 1)], (.int .i64 (.c 2)), ⟨0, [], 0⟩⟩
set_option maxRecDepth 1000000 in
theorem ci21_ok : ci21.Ok Try.prog := Summ.of_run noCount mixed (t := t_ci20) (n := 60) t_ci20_ok (by kernel_rfl)
def t_ci21 : List Summ := ci21 :: t_ci20
theorem t_ci21_ok : ∀ e, e ∈ t_ci21 → e.Ok Try.prog := by
  intro e he
  rcases List.mem_cons.1 he with rfl | he
  · exact ci21_ok
  · exact t_ci20_ok e he
def ci22 : Summ := ⟨113, [.int .i64 (.c 2), .int .i64 (.c 2)], (.int .i64 (.c 1)), ⟨0, [], 0⟩⟩
set_option maxRecDepth 1000000 in
theorem ci22_ok : ci22.Ok Try.prog := Summ.of_run noCount mixed (t := t_ci21) (n := 60) t_ci21_ok (by kernel_rfl)
def t_ci22 : List Summ := ci22 :: t_ci21
theorem t_ci22_ok : ∀ e, e ∈ t_ci22 → e.Ok Try.prog := by
  intro e he
  rcases List.mem_cons.1 he with rfl | he
  · exact ci22_ok
  · exact t_ci21_ok e he
def ci30 : Summ := ⟨113, [.int .i64 (.c 3), .int .i64 (.c 0)], (.int .i64 (.c 1)), ⟨0, [], 0⟩⟩
set_option maxRecDepth 1000000 in
theorem ci30_ok : ci30.Ok Try.prog := Summ.of_run noCount mixed (t := t_ci22) (n := 60) t_ci22_ok (by kernel_rfl)
def t_ci30 : List Summ := ci30 :: t_ci22
theorem t_ci30_ok : ∀ e, e ∈ t_ci30 → e.Ok Try.prog := by
  intro e he
  rcases List.mem_cons.1 he with rfl | he
  · exact ci30_ok
  · exact t_ci22_ok e he
def ci31 : Summ := ⟨113, [.int .i64 (.c 3), .int .i64 (.c 1)], (.int .i64 (.c 3)), ⟨0, [], 0⟩⟩
set_option maxRecDepth 1000000 in
theorem ci31_ok : ci31.Ok Try.prog := Summ.of_run noCount mixed (t := t_ci30) (n := 60) t_ci30_ok (by kernel_rfl)
def t_ci31 : List Summ := ci31 :: t_ci30
theorem t_ci31_ok : ∀ e, e ∈ t_ci31 → e.Ok Try.prog := by
  intro e he
  rcases List.mem_cons.1 he with rfl | he
  · exact ci31_ok
  · exact t_ci30_ok e he
def ci32 : Summ := ⟨113, [.int .i64 (.c 3), .int .i64 (.c 2)], (.int .i64 (.c 3)), ⟨0, [], 0⟩⟩
set_option maxRecDepth 1000000 in
theorem ci32_ok : ci32.Ok Try.prog := Summ.of_run noCount mixed (t := t_ci31) (n := 60) t_ci31_ok (by kernel_rfl)
def t_ci32 : List Summ := ci32 :: t_ci31
theorem t_ci32_ok : ∀ e, e ∈ t_ci32 → e.Ok Try.prog := by
  intro e he
  rcases List.mem_cons.1 he with rfl | he
  · exact ci32_ok
  · exact t_ci31_ok e he
def ci33 : Summ := ⟨113, [.int .i64 (.c 3), .int .i64 (.c 3)], (.int .i64 (.c 1)), ⟨0, [], 0⟩⟩
set_option maxRecDepth 1000000 in
theorem ci33_ok : ci33.Ok Try.prog := Summ.of_run noCount mixed (t := t_ci32) (n := 60) t_ci32_ok (by kernel_rfl)
def t_ci33 : List Summ := ci33 :: t_ci32
theorem t_ci33_ok : ∀ e, e ∈ t_ci33 → e.Ok Try.prog := by
  intro e he
  rcases List.mem_cons.1 he with rfl | he
  · exact ci33_ok
  · exact t_ci32_ok e he
def ci40 : Summ := ⟨113, [.int .i64 (.c 4), .int .i64 (.c 0)], (.int .i64 (.c 1)), ⟨0, [], 0⟩⟩
set_option maxRecDepth 1000000 in
theorem ci40_ok : ci40.Ok Try.prog := Summ.of_run noCount mixed (t := t_ci33) (n := 60) t_ci33_ok (by kernel_rfl)
def t_ci40 : List Summ := ci40 :: t_ci33
theorem t_ci40_ok : ∀ e, e ∈ t_ci40 → e.Ok Try.prog := by
  intro e he
  rcases List.mem_cons.1 he with rfl | he
  · exact ci40_ok
  · exact t_ci33_ok e he
def ci41 : Summ := ⟨113, [.int .i64 (.c 4), .int .i64 (.c 1)], (.int .i64 (.c 4)), ⟨0, [], 0⟩⟩
set_option maxRecDepth 1000000 in
theorem ci41_ok : ci41.Ok Try.prog := Summ.of_run noCount mixed (t := t_ci40) (n := 60) t_ci40_ok (by kernel_rfl)
def t_ci41 : List Summ := ci41 :: t_ci40
theorem t_ci41_ok : ∀ e, e ∈ t_ci41 → e.Ok Try.prog := by
  intro e he
  rcases List.mem_cons.1 he with rfl | he
  · exact ci41_ok
  · exact t_ci40_ok e he
def ci42 : Summ := ⟨113, [.int .i64 (.c 4), .int .i64 (.c 2)], (.int .i64 (.c 6)), ⟨0, [], 0⟩⟩
set_option maxRecDepth 1000000 in
theorem ci42_ok : ci42.Ok Try.prog := Summ.of_run noCount mixed (t := t_ci41) (n := 60) t_ci41_ok (by kernel_rfl)
def t_ci42 : List Summ := ci42 :: t_ci41
theorem t_ci42_ok : ∀ e, e ∈ t_ci42 → e.Ok Try.prog := by
  intro e he
  rcases List.mem_cons.1 he with rfl | he
  · exact ci42_ok
  · exact t_ci41_ok e he
def ci43 : Summ := ⟨113, [.int .i64 (.c 4), .int .i64 (.c 3)], (.int .i64 (.c 4)), ⟨0, [], 0⟩⟩
set_option maxRecDepth 1000000 in
theorem ci43_ok : ci43.Ok Try.prog := Summ.of_run noCount mixed (t := t_ci42) (n := 60) t_ci42_ok (by kernel_rfl)
def t_ci43 : List Summ := ci43 :: t_ci42
theorem t_ci43_ok : ∀ e, e ∈ t_ci43 → e.Ok Try.prog := by
  intro e he
  rcases List.mem_cons.1 he with rfl | he
  · exact ci43_ok
  · exact t_ci42_ok e he
def ci44 : Summ := ⟨113, [.int .i64 (.c 4), .int .i64 (.c 4)], (.int .i64 (.c 1)), ⟨0, [], 0⟩⟩
set_option maxRecDepth 1000000 in
theorem ci44_ok : ci44.Ok Try.prog := Summ.of_run noCount mixed (t := t_ci43) (n := 60) t_ci43_ok (by kernel_rfl)
def t_ci44 : List Summ := ci44 :: t_ci43
theorem t_ci44_ok : ∀ e, e ∈ t_ci44 → e.Ok Try.prog := by
  intro e he
  rcases List.mem_cons.1 he with rfl | he
  · exact ci44_ok
  · exact t_ci43_ok e he
def ci50 : Summ := ⟨113, [.int .i64 (.c 5), .int .i64 (.c 0)], (.int .i64 (.c 1)), ⟨0, [], 0⟩⟩
set_option maxRecDepth 1000000 in
theorem ci50_ok : ci50.Ok Try.prog := Summ.of_run noCount mixed (t := t_ci44) (n := 60) t_ci44_ok (by kernel_rfl)
def t_ci50 : List Summ := ci50 :: t_ci44
theorem t_ci50_ok : ∀ e, e ∈ t_ci50 → e.Ok Try.prog := by
  intro e he
  rcases List.mem_cons.1 he with rfl | he
  · exact ci50_ok
  · exact t_ci44_ok e he
def ci51 : Summ := ⟨113, [.int .i64 (.c 5), .int .i64 (.c 1)], (.int .i64 (.c 5)), ⟨0, [], 0⟩⟩
set_option maxRecDepth 1000000 in
theorem ci51_ok : ci51.Ok Try.prog := Summ.of_run noCount mixed (t := t_ci50) (n := 60) t_ci50_ok (by kernel_rfl)
def t_ci51 : List Summ := ci51 :: t_ci50
theorem t_ci51_ok : ∀ e, e ∈ t_ci51 → e.Ok Try.prog := by
  intro e he
  rcases List.mem_cons.1 he with rfl | he
  · exact ci51_ok
  · exact t_ci50_ok e he
def ci52 : Summ := ⟨113, [.int .i64 (.c 5), .int .i64 (.c 2)], (.int .i64 (.c 10)), ⟨0, [], 0⟩⟩
set_option maxRecDepth 1000000 in
theorem ci52_ok : ci52.Ok Try.prog := Summ.of_run noCount mixed (t := t_ci51) (n := 60) t_ci51_ok (by kernel_rfl)
def t_ci52 : List Summ := ci52 :: t_ci51
theorem t_ci52_ok : ∀ e, e ∈ t_ci52 → e.Ok Try.prog := by
  intro e he
  rcases List.mem_cons.1 he with rfl | he
  · exact ci52_ok
  · exact t_ci51_ok e he
def ci53 : Summ := ⟨113, [.int .i64 (.c 5), .int .i64 (.c 3)], (.int .i64 (.c 10)), ⟨0, [], 0⟩⟩
set_option maxRecDepth 1000000 in
theorem ci53_ok : ci53.Ok Try.prog := Summ.of_run noCount mixed (t := t_ci52) (n := 60) t_ci52_ok (by kernel_rfl)
def t_ci53 : List Summ := ci53 :: t_ci52
theorem t_ci53_ok : ∀ e, e ∈ t_ci53 → e.Ok Try.prog := by
  intro e he
  rcases List.mem_cons.1 he with rfl | he
  · exact ci53_ok
  · exact t_ci52_ok e he
def ci54 : Summ := ⟨113, [.int .i64 (.c 5), .int .i64 (.c 4)], (.int .i64 (.c 5)), ⟨0, [], 0⟩⟩
set_option maxRecDepth 1000000 in
theorem ci54_ok : ci54.Ok Try.prog := Summ.of_run noCount mixed (t := t_ci53) (n := 60) t_ci53_ok (by kernel_rfl)
def t_ci54 : List Summ := ci54 :: t_ci53
theorem t_ci54_ok : ∀ e, e ∈ t_ci54 → e.Ok Try.prog := by
  intro e he
  rcases List.mem_cons.1 he with rfl | he
  · exact ci54_ok
  · exact t_ci53_ok e he
def ci55 : Summ := ⟨113, [.int .i64 (.c 5), .int .i64 (.c 5)], (.int .i64 (.c 1)), ⟨0, [], 0⟩⟩
set_option maxRecDepth 1000000 in
theorem ci55_ok : ci55.Ok Try.prog := Summ.of_run noCount mixed (t := t_ci54) (n := 60) t_ci54_ok (by kernel_rfl)
def t_ci55 : List Summ := ci55 :: t_ci54
theorem t_ci55_ok : ∀ e, e ∈ t_ci55 → e.Ok Try.prog := by
  intro e he
  rcases List.mem_cons.1 he with rfl | he
  · exact ci55_ok
  · exact t_ci54_ok e he
def cs00 : Summ := ⟨75, [.int .i64 (.c 0), .int .i64 (.c 0)], (.int .i64 (.c 1)), ⟨0, [], 0⟩⟩
set_option maxRecDepth 1000000 in
theorem cs00_ok : cs00.Ok Try.prog := Summ.of_run noCount mixed (t := t_ci55) (n := 60) t_ci55_ok (by kernel_rfl)
def t_cs00 : List Summ := cs00 :: t_ci55
theorem t_cs00_ok : ∀ e, e ∈ t_cs00 → e.Ok Try.prog := by
  intro e he
  rcases List.mem_cons.1 he with rfl | he
  · exact cs00_ok
  · exact t_ci55_ok e he
def cs10 : Summ := ⟨75, [.int .i64 (.c 1), .int .i64 (.c 0)], (.int .i64 (.c 1)), ⟨0, [], 0⟩⟩
set_option maxRecDepth 1000000 in
theorem cs10_ok : cs10.Ok Try.prog := Summ.of_run noCount mixed (t := t_cs00) (n := 60) t_cs00_ok (by kernel_rfl)
def t_cs10 : List Summ := cs10 :: t_cs00
theorem t_cs10_ok : ∀ e, e ∈ t_cs10 → e.Ok Try.prog := by
  intro e he
  rcases List.mem_cons.1 he with rfl | he
  · exact cs10_ok
  · exact t_cs00_ok e he
def cs11 : Summ := ⟨75, [.int .i64 (.c 1), .int .i64 (.c 1)], (.int .i64 (.c 1)), ⟨0, [], 0⟩⟩
set_option maxRecDepth 1000000 in
theorem cs11_ok : cs11.Ok Try.prog := Summ.of_run noCount mixed (t := t_cs10) (n := 60) t_cs10_ok (by kernel_rfl)
def t_cs11 : List Summ := cs11 :: t_cs10
theorem t_cs11_ok : ∀ e, e ∈ t_cs11 → e.Ok Try.prog := by
  intro e he
  rcases List.mem_cons.1 he with rfl | he
  · exact cs11_ok
  · exact t_cs10_ok e he
def cs20 : Summ := ⟨75, [.int .i64 (.c 2), .int .i64 (.c 0)], (.int .i64 (.c 1)), ⟨0, [], 0⟩⟩
set_option maxRecDepth 1000000 in
theorem cs20_ok : cs20.Ok Try.prog := Summ.of_run noCount mixed (t := t_cs11) (n := 60) t_cs11_ok (by kernel_rfl)
def t_cs20 : List Summ := cs20 :: t_cs11
theorem t_cs20_ok : ∀ e, e ∈ t_cs20 → e.Ok Try.prog := by
  intro e he
  rcases List.mem_cons.1 he with rfl | he
  · exact cs20_ok
  · exact t_cs11_ok e he
def cs21 : Summ := ⟨75, [.int .i64 (.c 2), .int .i64 (.c 1)], (.int .i64 (.c 2)), ⟨0, [], 0⟩⟩
set_option maxRecDepth 1000000 in
theorem cs21_ok : cs21.Ok Try.prog := Summ.of_run noCount mixed (t := t_cs20) (n := 60) t_cs20_ok (by kernel_rfl)
def t_cs21 : List Summ := cs21 :: t_cs20
theorem t_cs21_ok : ∀ e, e ∈ t_cs21 → e.Ok Try.prog := by
  intro e he
  rcases List.mem_cons.1 he with rfl | he
  · exact cs21_ok
  · exact t_cs20_ok e he
def cs22 : Summ := ⟨75, [.int .i64 (.c 2), .int .i64 (.c 2)], (.int .i64 (.c 1)), ⟨0, [], 0⟩⟩
set_option maxRecDepth 1000000 in
theorem cs22_ok : cs22.Ok Try.prog := Summ.of_run noCount mixed (t := t_cs21) (n := 60) t_cs21_ok (by kernel_rfl)
def t_cs22 : List Summ := cs22 :: t_cs21
theorem t_cs22_ok : ∀ e, e ∈ t_cs22 → e.Ok Try.prog := by
  intro e he
  rcases List.mem_cons.1 he with rfl | he
  · exact cs22_ok
  · exact t_cs21_ok e he
def cs30 : Summ := ⟨75, [.int .i64 (.c 3), .int .i64 (.c 0)], (.int .i64 (.c 1)), ⟨0, [], 0⟩⟩
set_option maxRecDepth 1000000 in
theorem cs30_ok : cs30.Ok Try.prog := Summ.of_run noCount mixed (t := t_cs22) (n := 60) t_cs22_ok (by kernel_rfl)
def t_cs30 : List Summ := cs30 :: t_cs22
theorem t_cs30_ok : ∀ e, e ∈ t_cs30 → e.Ok Try.prog := by
  intro e he
  rcases List.mem_cons.1 he with rfl | he
  · exact cs30_ok
  · exact t_cs22_ok e he
def cs31 : Summ := ⟨75, [.int .i64 (.c 3), .int .i64 (.c 1)], (.int .i64 (.c 3)), ⟨0, [], 0⟩⟩
set_option maxRecDepth 1000000 in
theorem cs31_ok : cs31.Ok Try.prog := Summ.of_run noCount mixed (t := t_cs30) (n := 60) t_cs30_ok (by kernel_rfl)
def t_cs31 : List Summ := cs31 :: t_cs30
theorem t_cs31_ok : ∀ e, e ∈ t_cs31 → e.Ok Try.prog := by
  intro e he
  rcases List.mem_cons.1 he with rfl | he
  · exact cs31_ok
  · exact t_cs30_ok e he
def cs32 : Summ := ⟨75, [.int .i64 (.c 3), .int .i64 (.c 2)], (.int .i64 (.c 3)), ⟨0, [], 0⟩⟩
set_option maxRecDepth 1000000 in
theorem cs32_ok : cs32.Ok Try.prog := Summ.of_run noCount mixed (t := t_cs31) (n := 60) t_cs31_ok (by kernel_rfl)
def t_cs32 : List Summ := cs32 :: t_cs31
theorem t_cs32_ok : ∀ e, e ∈ t_cs32 → e.Ok Try.prog := by
  intro e he
  rcases List.mem_cons.1 he with rfl | he
  · exact cs32_ok
  · exact t_cs31_ok e he
def cs33 : Summ := ⟨75, [.int .i64 (.c 3), .int .i64 (.c 3)], (.int .i64 (.c 1)), ⟨0, [], 0⟩⟩
set_option maxRecDepth 1000000 in
theorem cs33_ok : cs33.Ok Try.prog := Summ.of_run noCount mixed (t := t_cs32) (n := 60) t_cs32_ok (by kernel_rfl)
def t_cs33 : List Summ := cs33 :: t_cs32
theorem t_cs33_ok : ∀ e, e ∈ t_cs33 → e.Ok Try.prog := by
  intro e he
  rcases List.mem_cons.1 he with rfl | he
  · exact cs33_ok
  · exact t_cs32_ok e he
def cs40 : Summ := ⟨75, [.int .i64 (.c 4), .int .i64 (.c 0)], (.int .i64 (.c 1)), ⟨0, [], 0⟩⟩
set_option maxRecDepth 1000000 in
theorem cs40_ok : cs40.Ok Try.prog := Summ.of_run noCount mixed (t := t_cs33) (n := 60) t_cs33_ok (by kernel_rfl)
def t_cs40 : List Summ := cs40 :: t_cs33
theorem t_cs40_ok : ∀ e, e ∈ t_cs40 → e.Ok Try.prog := by
  intro e he
  rcases List.mem_cons.1 he with rfl | he
  · exact cs40_ok
  · exact t_cs33_ok e he
def cs41 : Summ := ⟨75, [.int .i64 (.c 4), .int .i64 (.c 1)], (.int .i64 (.c 4)), ⟨0, [], 0⟩⟩
set_option maxRecDepth 1000000 in
theorem cs41_ok : cs41.Ok Try.prog := Summ.of_run noCount mixed (t := t_cs40) (n := 60) t_cs40_ok (by kernel_rfl)
def t_cs41 : List Summ := cs41 :: t_cs40
theorem t_cs41_ok : ∀ e, e ∈ t_cs41 → e.Ok Try.prog := by
  intro e he
  rcases List.mem_cons.1 he with rfl | he
  · exact cs41_ok
  · exact t_cs40_ok e he
def cs42 : Summ := ⟨75, [.int .i64 (.c 4), .int .i64 (.c 2)], (.int .i64 (.c 6)), ⟨0, [], 0⟩⟩
set_option maxRecDepth 1000000 in
theorem cs42_ok : cs42.Ok Try.prog := Summ.of_run noCount mixed (t := t_cs41) (n := 60) t_cs41_ok (by kernel_rfl)
def t_cs42 : List Summ := cs42 :: t_cs41
theorem t_cs42_ok : ∀ e, e ∈ t_cs42 → e.Ok Try.prog := by
  intro e he
  rcases List.mem_cons.1 he with rfl | he
  · exact cs42_ok
  · exact t_cs41_ok e he
def cs43 : Summ := ⟨75, [.int .i64 (.c 4), .int .i64 (.c 3)], (.int .i64 (.c 4)), ⟨0, [], 0⟩⟩
set_option maxRecDepth 1000000 in
theorem cs43_ok : cs43.Ok Try.prog := Summ.of_run noCount mixed (t := t_cs42) (n := 60) t_cs42_ok (by kernel_rfl)
def t_cs43 : List Summ := cs43 :: t_cs42
theorem t_cs43_ok : ∀ e, e ∈ t_cs43 → e.Ok Try.prog := by
  intro e he
  rcases List.mem_cons.1 he with rfl | he
  · exact cs43_ok
  · exact t_cs42_ok e he
def cs44 : Summ := ⟨75, [.int .i64 (.c 4), .int .i64 (.c 4)], (.int .i64 (.c 1)), ⟨0, [], 0⟩⟩
set_option maxRecDepth 1000000 in
theorem cs44_ok : cs44.Ok Try.prog := Summ.of_run noCount mixed (t := t_cs43) (n := 60) t_cs43_ok (by kernel_rfl)
def t_cs44 : List Summ := cs44 :: t_cs43
theorem t_cs44_ok : ∀ e, e ∈ t_cs44 → e.Ok Try.prog := by
  intro e he
  rcases List.mem_cons.1 he with rfl | he
  · exact cs44_ok
  · exact t_cs43_ok e he
def cs50 : Summ := ⟨75, [.int .i64 (.c 5), .int .i64 (.c 0)], (.int .i64 (.c 1)), ⟨0, [], 0⟩⟩
set_option maxRecDepth 1000000 in
theorem cs50_ok : cs50.Ok Try.prog := Summ.of_run noCount mixed (t := t_cs44) (n := 60) t_cs44_ok (by kernel_rfl)
def t_cs50 : List Summ := cs50 :: t_cs44
theorem t_cs50_ok : ∀ e, e ∈ t_cs50 → e.Ok Try.prog := by
  intro e he
  rcases List.mem_cons.1 he with rfl | he
  · exact cs50_ok
  · exact t_cs44_ok e he
def cs51 : Summ := ⟨75, [.int .i64 (.c 5), .int .i64 (.c 1)], (.int .i64 (.c 5)), ⟨0, [], 0⟩⟩
set_option maxRecDepth 1000000 in
theorem cs51_ok : cs51.Ok Try.prog := Summ.of_run noCount mixed (t := t_cs50) (n := 60) t_cs50_ok (by kernel_rfl)
def t_cs51 : List Summ := cs51 :: t_cs50
theorem t_cs51_ok : ∀ e, e ∈ t_cs51 → e.Ok Try.prog := by
  intro e he
  rcases List.mem_cons.1 he with rfl | he
  · exact cs51_ok
  · exact t_cs50_ok e he
def cs52 : Summ := ⟨75, [.int .i64 (.c 5), .int .i64 (.c 2)], (.int .i64 (.c 10)), ⟨0, [], 0⟩⟩
set_option maxRecDepth 1000000 in
theorem cs52_ok : cs52.Ok Try.prog := Summ.of_run noCount mixed (t := t_cs51) (n := 60) t_cs51_ok (by kernel_rfl)
def t_cs52 : List Summ := cs52 :: t_cs51
theorem t_cs52_ok : ∀ e, e ∈ t_cs52 → e.Ok Try.prog := by
  intro e he
  rcases List.mem_cons.1 he with rfl | he
  · exact cs52_ok
  · exact t_cs51_ok e he
def cs53 : Summ := ⟨75, [.int .i64 (.c 5), .int .i64 (.c 3)], (.int .i64 (.c 10)), ⟨0, [], 0⟩⟩
set_option maxRecDepth 1000000 in
theorem cs53_ok : cs53.Ok Try.prog := Summ.of_run noCount mixed (t := t_cs52) (n := 60) t_cs52_ok (by kernel_rfl)
def t_cs53 : List Summ := cs53 :: t_cs52
theorem t_cs53_ok : ∀ e, e ∈ t_cs53 → e.Ok Try.prog := by
  intro e he
  rcases List.mem_cons.1 he with rfl | he
  · exact cs53_ok
  · exact t_cs52_ok e he
def cs54 : Summ := ⟨75, [.int .i64 (.c 5), .int .i64 (.c 4)], (.int .i64 (.c 5)), ⟨0, [], 0⟩⟩
set_option maxRecDepth 1000000 in
theorem cs54_ok : cs54.Ok Try.prog := Summ.of_run noCount mixed (t := t_cs53) (n := 60) t_cs53_ok (by kernel_rfl)
def t_cs54 : List Summ := cs54 :: t_cs53
theorem t_cs54_ok : ∀ e, e ∈ t_cs54 → e.Ok Try.prog := by
  intro e he
  rcases List.mem_cons.1 he with rfl | he
  · exact cs54_ok
  · exact t_cs53_ok e he
def cs55 : Summ := ⟨75, [.int .i64 (.c 5), .int .i64 (.c 5)], (.int .i64 (.c 1)), ⟨0, [], 0⟩⟩
set_option maxRecDepth 1000000 in
theorem cs55_ok : cs55.Ok Try.prog := Summ.of_run noCount mixed (t := t_cs54) (n := 60) t_cs54_ok (by kernel_rfl)
def t_cs55 : List Summ := cs55 :: t_cs54
theorem t_cs55_ok : ∀ e, e ∈ t_cs55 → e.Ok Try.prog := by
  intro e he
  rcases List.mem_cons.1 he with rfl | he
  · exact cs55_ok
  · exact t_cs54_ok e he
def times : Summ := ⟨97, [.agg [.int .i64 (vx 0), .int .i64 (vx 1), .int .i64 (vx 2), .int .i64 (vx 3), .int .i64 (vx 4), .int .i64 (vx 5)], .agg [.int .i64 (vx 6), .int .i64 (vx 7), .int .i64 (vx 8), .int .i64 (vx 9), .int .i64 (vx 10), .int .i64 (vx 11)]], (.agg [(.int .i64 (.p [(281474976710657, 1)])), (.int .i64 (.p [(281474976710912, 1), (72057594037927937, 1)])), (.int .i64 (.p [(281474976776192, 1), (72057594037928192, 2), (18446744073709551617, 1)])), (.int .i64 (.p [(281474993487872, 1), (72057594037993472, 3), (18446744073709551872, 3), (4722366482869645213697, 1)])), (.int .i64 (.p [(281479271677952, 1), (72057594054705152, 4), (18446744073709617152, 6), (4722366482869645213952, 4), (1208925819614629174706177, 1)])), (.int .i64 (.p [(282574488338432, 1), (72057598332895232, 5), (18446744073726328832, 10), (4722366482869645279232, 10), (1208925819614629174706432, 5), (309485009821345068724781057, 1)]))]), ⟨11, [], 0⟩⟩
set_option maxRecDepth 1000000 in
theorem times_ok : times.Ok Try.prog := Summ.of_run noCount mixed (t := t_cs55) (n := 60) t_cs55_ok (by kernel_rfl)
def t_times : List Summ := times :: t_cs55
theorem t_times_ok : ∀ e, e ∈ t_times → e.Ok Try.prog := by
  intro e he
  rcases List.mem_cons.1 he with rfl | he
  · exact times_ok
  · exact t_cs55_ok e he
def plusTimes : Summ := ⟨108, [.agg [.int .i64 (vx 0), .int .i64 (vx 1), .int .i64 (vx 2), .int .i64 (vx 3), .int .i64 (vx 4), .int .i64 (vx 5)], .int .i64 (vx 12), .agg [.int .i64 (vx 6), .int .i64 (vx 7), .int .i64 (vx 8), .int .i64 (vx 9), .int .i64 (vx 10), .int .i64 (vx 11)]], (.agg [(.int .i64 (.p [(1, 1), (79228162514264619068520660992, 1)])), (.int .i64 (.p [(256, 1), (79228162514336395187581878272, 1)])), (.int .i64 (.p [(65536, 1), (79228162532711081667253501952, 1)])), (.int .i64 (.p [(16777216, 1), (79228167236630820463189164032, 1)])), (.int .i64 (.p [(4294967296, 1), (79229371440083952222718656512, 1)])), (.int .i64 (.p [(1099511627776, 1), (79537647524085682662268731392, 1)]))]), ⟨3, [], 0⟩⟩
set_option maxRecDepth 1000000 in
theorem plusTimes_ok : plusTimes.Ok Try.prog := Summ.of_run noCount mixed (t := t_times) (n := 60) t_times_ok (by kernel_rfl)
def t_plusTimes : List Summ := plusTimes :: t_times
theorem t_plusTimes_ok : ∀ e, e ∈ t_plusTimes → e.Ok Try.prog := by
  intro e he
  rcases List.mem_cons.1 he with rfl | he
  · exact plusTimes_ok
  · exact t_times_ok e he
def dp0 : Summ := ⟨107, [.agg [.int .i64 (vx 0), .int .i64 (vx 1), .int .i64 (vx 2), .int .i64 (vx 3), .int .i64 (vx 4), .int .i64 (vx 5)], .int .i64 (.c 0)], (.agg [(.int .i64 (.c 1)), (.int .i64 (.c 0)), (.int .i64 (.c 0)), (.int .i64 (.c 0)), (.int .i64 (.c 0)), (.int .i64 (.c 0))]), ⟨6, [], 0⟩⟩
set_option maxRecDepth 1000000 in
theorem dp0_ok : dp0.Ok Try.prog := Summ.of_run noCount mixed (t := t_plusTimes) (n := 60) t_plusTimes_ok (by kernel_rfl)
def t_dp0 : List Summ := dp0 :: t_plusTimes
theorem t_dp0_ok : ∀ e, e ∈ t_dp0 → e.Ok Try.prog := by
  intro e he
  rcases List.mem_cons.1 he with rfl | he
  · exact dp0_ok
  · exact t_plusTimes_ok e he
def dp1 : Summ := ⟨107, [.agg [.int .i64 (vx 0), .int .i64 (vx 1), .int .i64 (vx 2), .int .i64 (vx 3), .int .i64 (vx 4), .int .i64 (vx 5)], .int .i64 (.c 1)], (.agg [(.int .i64 (.c 0)), (.int .i64 (.p [(256, 1)])), (.int .i64 (.p [(65536, 1)])), (.int .i64 (.p [(16777216, 1)])), (.int .i64 (.p [(4294967296, 1)])), (.int .i64 (.p [(1099511627776, 1)]))]), ⟨24, [], 0⟩⟩
set_option maxRecDepth 1000000 in
theorem dp1_ok : dp1.Ok Try.prog := Summ.of_run noCount mixed (t := t_dp0) (n := 60) t_dp0_ok (by kernel_rfl)
def t_dp1 : List Summ := dp1 :: t_dp0
theorem t_dp1_ok : ∀ e, e ∈ t_dp1 → e.Ok Try.prog := by
  intro e he
  rcases List.mem_cons.1 he with rfl | he
  · exact dp1_ok
  · exact t_dp0_ok e he
def dp2 : Summ := ⟨107, [.agg [.int .i64 (vx 0), .int .i64 (vx 1), .int .i64 (vx 2), .int .i64 (vx 3), .int .i64 (vx 4), .int .i64 (vx 5)], .int .i64 (.c 2)], (.agg [(.int .i64 (.c 0)), (.int .i64 (.c 0)), (.int .i64 (.p [(512, 1)])), (.int .i64 (.p [(65792, 3)])), (.int .i64 (.p [(131072, 3), (16777472, 4)])), (.int .i64 (.p [(16842752, 10), (4294967552, 5)]))]), ⟨42, [], 0⟩⟩
set_option maxRecDepth 1000000 in
theorem dp2_ok : dp2.Ok Try.prog := Summ.of_run noCount mixed (t := t_dp1) (n := 60) t_dp1_ok (by kernel_rfl)
def t_dp2 : List Summ := dp2 :: t_dp1
theorem t_dp2_ok : ∀ e, e ∈ t_dp2 → e.Ok Try.prog := by
  intro e he
  rcases List.mem_cons.1 he with rfl | he
  · exact dp2_ok
  · exact t_dp1_ok e he
def dp3 : Summ := ⟨107, [.agg [.int .i64 (vx 0), .int .i64 (vx 1), .int .i64 (vx 2), .int .i64 (vx 3), .int .i64 (vx 4), .int .i64 (vx 5)], .int .i64 (.c 3)], (.agg [(.int .i64 (.c 0)), (.int .i64 (.c 0)), (.int .i64 (.c 0)), (.int .i64 (.p [(768, 1)])), (.int .i64 (.p [(66048, 6)])), (.int .i64 (.p [(131328, 15), (16777728, 10)]))]), ⟨60, [], 0⟩⟩
set_option maxRecDepth 1000000 in
theorem dp3_ok : dp3.Ok Try.prog := Summ.of_run noCount mixed (t := t_dp2) (n := 60) t_dp2_ok (by kernel_rfl)
def t_dp3 : List Summ := dp3 :: t_dp2
theorem t_dp3_ok : ∀ e, e ∈ t_dp3 → e.Ok Try.prog := by
  intro e he
  rcases List.mem_cons.1 he with rfl | he
  · exact dp3_ok
  · exact t_dp2_ok e he
def dp4 : Summ := ⟨107, [.agg [.int .i64 (vx 0), .int .i64 (vx 1), .int .i64 (vx 2), .int .i64 (vx 3), .int .i64 (vx 4), .int .i64 (vx 5)], .int .i64 (.c 4)], (.agg [(.int .i64 (.c 0)), (.int .i64 (.c 0)), (.int .i64 (.c 0)), (.int .i64 (.c 0)), (.int .i64 (.p [(1024, 1)])), (.int .i64 (.p [(66304, 10)]))]), ⟨78, [], 0⟩⟩
set_option maxRecDepth 1000000 in
theorem dp4_ok : dp4.Ok Try.prog := Summ.of_run noCount mixed (t := t_dp3) (n := 60) t_dp3_ok (by kernel_rfl)
def t_dp4 : List Summ := dp4 :: t_dp3
theorem t_dp4_ok : ∀ e, e ∈ t_dp4 → e.Ok Try.prog := by
  intro e he
  rcases List.mem_cons.1 he with rfl | he
  · exact dp4_ok
  · exact t_dp3_ok e he
def dp5 : Summ := ⟨107, [.agg [.int .i64 (vx 0), .int .i64 (vx 1), .int .i64 (vx 2), .int .i64 (vx 3), .int .i64 (vx 4), .int .i64 (vx 5)], .int .i64 (.c 5)], (.agg [(.int .i64 (.c 0)), (.int .i64 (.c 0)), (.int .i64 (.c 0)), (.int .i64 (.c 0)), (.int .i64 (.c 0)), (.int .i64 (.p [(1280, 1)]))]), ⟨96, [], 0⟩⟩
set_option maxRecDepth 1000000 in
theorem dp5_ok : dp5.Ok Try.prog := Summ.of_run noCount mixed (t := t_dp4) (n := 60) t_dp4_ok (by kernel_rfl)
def t_dp5 : List Summ := dp5 :: t_dp4
theorem t_dp5_ok : ∀ e, e ∈ t_dp5 → e.Ok Try.prog := by
  intro e he
  rcases List.mem_cons.1 he with rfl | he
  · exact dp5_ok
  · exact t_dp4_ok e he
def of : Summ := ⟨95, [.agg [.int .i64 (vx 0), .int .i64 (vx 1), .int .i64 (vx 2), .int .i64 (vx 3), .int .i64 (vx 4), .int .i64 (vx 5)], .agg [.int .i64 (vx 6), .int .i64 (vx 7), .int .i64 (vx 8), .int .i64 (vx 9), .int .i64 (vx 10), .int .i64 (vx 11)]], (.agg [(.int .i64 (.p [(1, 1)])), (.int .i64 (.p [(72057594037928192, 1)])), (.int .i64 (.p [(144115188075921408, 1), (18446744073709551872, 1)])), (.int .i64 (.p [(216172782130561024, 1), (18518801667747545088, 3), (4722366482869645213952, 1)])), (.int .i64 (.p [(288230380446679040, 1), (18590859261802184704, 6), (36893488147419168768, 3), (4722438540463683207168, 4), (1208925819614629174706432, 1)])), (.int .i64 (.p [(360289069701267456, 1), (18662916860118302720, 10), (36965545741473808384, 15), (4722510598057737846784, 10), (4740813226943354830848, 10), (1208925891672223212699648, 5), (309485009821345068724781312, 1)]))]), ⟨328, [], 0⟩⟩
set_option maxRecDepth 1000000 in
theorem of_ok : of.Ok Try.prog := Summ.of_run noCount mixed (t := t_dp5) (n := 60) t_dp5_ok (by kernel_rfl)
def t_of : List Summ := of :: t_dp5
theorem t_of_ok : ∀ e, e ∈ t_of → e.Ok Try.prog := by
  intro e he
  rcases List.mem_cons.1 he with rfl | he
  · exact of_ok
  · exact t_dp5_ok e he
def inverse : Summ := ⟨100, [.agg [.int .i64 (vx 0), .int .i64 (vx 1), .int .i64 (vx 2), .int .i64 (vx 3), .int .i64 (vx 4), .int .i64 (vx 5)]], (.agg [(.int .i64 (.p [(1, 1)])), (.int .i64 (.p [(258, 18446744073709551615)])), (.int .i64 (.p [(515, 2), (65538, 18446744073709551615)])), (.int .i64 (.p [(772, 18446744073709551610), (65795, 6), (16777218, 18446744073709551615)])), (.int .i64 (.p [(1029, 24), (66052, 18446744073709551580), (131075, 6), (16777475, 8), (4294967298, 18446744073709551615)])), (.int .i64 (.p [(1286, 18446744073709551496), (66309, 240), (131332, 18446744073709551526), (16777732, 18446744073709551556), (16842755, 20), (4294967555, 10), (1099511627778, 18446744073709551615)]))]), ⟨61, [], 0⟩⟩
set_option maxRecDepth 1000000 in
theorem inverse_ok : inverse.Ok Try.prog := Summ.of_run noCount mixed (t := t_of) (n := 60) t_of_ok (by kernel_rfl)
def t_inverse : List Summ := inverse :: t_of
theorem t_inverse_ok : ∀ e, e ∈ t_inverse → e.Ok Try.prog := by
  intro e he
  rcases List.mem_cons.1 he with rfl | he
  · exact inverse_ok
  · exact t_of_ok e he
def mul1 : Summ := ⟨85, [.slice [.int .i64 (vx 0)], .slice [.int .i64 (vx 1)]], (.rsl 2 0 1 none), ⟨3, [(2, [(.int .i64 (.p [(257, 1)]))])], 0⟩⟩
set_option maxRecDepth 1000000 in
theorem mul1_ok : mul1.Ok Try.prog := Summ.of_run noCount mixed (t := t_inverse) (n := 60) t_inverse_ok (by kernel_rfl)
def t_mul1 : List Summ := mul1 :: t_inverse
theorem t_mul1_ok : ∀ e, e ∈ t_mul1 → e.Ok Try.prog := by
  intro e he
  rcases List.mem_cons.1 he with rfl | he
  · exact mul1_ok
  · exact t_inverse_ok e he
def step1 : Summ := ⟨98, [.slice [.int .i64 (vx 0)], .slice [.int .i64 (vx 1)]], (.rsl 0 0 1 (some 1)), ⟨1, [(0, [(.int .i64 (.c 0))])], 0⟩⟩
set_option maxRecDepth 1000000 in
theorem step1_ok : step1.Ok Try.prog := Summ.of_run noCount mixed (t := t_mul1) (n := 60) t_mul1_ok (by kernel_rfl)
def t_step1 : List Summ := step1 :: t_mul1
theorem t_step1_ok : ∀ e, e ∈ t_step1 → e.Ok Try.prog := by
  intro e he
  rcases List.mem_cons.1 he with rfl | he
  · exact step1_ok
  · exact t_mul1_ok e he
def com1 : Summ := ⟨70, [.slice [.int .i64 (vx 0)], .slice [.int .i64 (vx 1)]], (.rsl 0 0 1 (some 1)), ⟨3, [(0, [(.int .i64 (.p [(1, 1)]))])], 0⟩⟩
set_option maxRecDepth 1000000 in
theorem com1_ok : com1.Ok Try.prog := Summ.of_run noCount mixed (t := t_step1) (n := 60) t_step1_ok (by kernel_rfl)
def t_com1 : List Summ := com1 :: t_step1
theorem t_com1_ok : ∀ e, e ∈ t_com1 → e.Ok Try.prog := by
  intro e he
  rcases List.mem_cons.1 he with rfl | he
  · exact com1_ok
  · exact t_step1_ok e he
def mul2 : Summ := ⟨85, [.slice [.int .i64 (vx 0), .int .i64 (vx 1)], .slice [.int .i64 (vx 2), .int .i64 (vx 3)]], (.rsl 4 0 2 none), ⟨5, [(4, [(.int .i64 (.p [(65537, 1)])), (.int .i64 (.p [(65792, 1), (16777217, 1)]))])], 0⟩⟩
set_option maxRecDepth 1000000 in
theorem mul2_ok : mul2.Ok Try.prog := Summ.of_run noCount mixed (t := t_com1) (n := 60) t_com1_ok (by kernel_rfl)
def t_mul2 : List Summ := mul2 :: t_com1
theorem t_mul2_ok : ∀ e, e ∈ t_mul2 → e.Ok Try.prog := by
  intro e he
  rcases List.mem_cons.1 he with rfl | he
  · exact mul2_ok
  · exact t_com1_ok e he
def step2 : Summ := ⟨98, [.slice [.int .i64 (vx 0), .int .i64 (vx 1)], .slice [.int .i64 (vx 2), .int .i64 (vx 3)]], (.rsl 0 0 2 (some 2)), ⟨1, [(0, [(.int .i64 (.c 0)), (.int .i64 (.p [(65792, 1)]))])], 0⟩⟩
set_option maxRecDepth 1000000 in
theorem step2_ok : step2.Ok Try.prog := Summ.of_run noCount mixed (t := t_mul2) (n := 60) t_mul2_ok (by kernel_rfl)
def t_step2 : List Summ := step2 :: t_mul2
theorem t_step2_ok : ∀ e, e ∈ t_step2 → e.Ok Try.prog := by
  intro e he
  rcases List.mem_cons.1 he with rfl | he
  · exact step2_ok
  · exact t_mul2_ok e he
def com2 : Summ := ⟨70, [.slice [.int .i64 (vx 0), .int .i64 (vx 1)], .slice [.int .i64 (vx 2), .int .i64 (vx 3)]], (.rsl 0 0 2 (some 2)), ⟨4, [(0, [(.int .i64 (.p [(1, 1)])), (.int .i64 (.p [(16777472, 1)]))])], 0⟩⟩
set_option maxRecDepth 1000000 in
theorem com2_ok : com2.Ok Try.prog := Summ.of_run noCount mixed (t := t_step2) (n := 60) t_step2_ok (by kernel_rfl)
def t_com2 : List Summ := com2 :: t_step2
theorem t_com2_ok : ∀ e, e ∈ t_com2 → e.Ok Try.prog := by
  intro e he
  rcases List.mem_cons.1 he with rfl | he
  · exact com2_ok
  · exact t_step2_ok e he
def array2 : Summ := ⟨56, [.agg [.slice [.int .i64 (vx 0), .int .i64 (vx 1)], .slice [.int .i64 (vx 2), .int .i64 (vx 3)]]], (.rsl 7 0 2 none), ⟨21, [(7, [(.rsl 2 0 2 (some 2)), (.rsl 5 0 2 (some 2))]), (5, [(.int .i64 (.p [(256, 1)])), (.int .i64 (.p [(16777217, 1)]))]), (2, [(.int .i64 (.p [(1, 1)])), (.int .i64 (.c 0))])], 0⟩⟩
set_option maxRecDepth 1000000 in
theorem array2_ok : array2.Ok Try.prog := Summ.of_run noCount mixed (t := t_com2) (n := 60) t_com2_ok (by kernel_rfl)
def t_array2 : List Summ := array2 :: t_com2
theorem t_array2_ok : ∀ e, e ∈ t_array2 → e.Ok Try.prog := by
  intro e he
  rcases List.mem_cons.1 he with rfl | he
  · exact array2_ok
  · exact t_com2_ok e he
def rows2 : Summ := ⟨58, [.agg [.int .i64 (vx 0), .int .i64 (vx 1), .int .i64 (vx 2), .int .i64 (vx 3), .int .i64 (vx 4), .int .i64 (vx 5), .int .i64 (vx 6), .int .i64 (vx 7), .int .i64 (vx 8), .int .i64 (vx 9), .int .i64 (vx 10), .int .i64 (vx 11), .int .i64 (.c 2)]], (.rsl 1 0 2 (some 2)), ⟨79, [(22, [(.int .i64 (.p [(72057594037927936, 1)])), (.int .i64 (.p [(281474976710912, 1)]))]), (2, [(.int .i64 (.p [(281474976710656, 1)])), (.int .i64 (.c 0))]), (1, [(.rsl 2 0 2 (some 2)), (.rsl 22 0 2 (some 2))])], 0⟩⟩
set_option maxRecDepth 1000000 in
theorem rows2_ok : rows2.Ok Try.prog := Summ.of_run noCount mixed (t := t_array2) (n := 60) t_array2_ok (by kernel_rfl)
def t_rows2 : List Summ := rows2 :: t_array2
theorem t_rows2_ok : ∀ e, e ∈ t_rows2 → e.Ok Try.prog := by
  intro e he
  rcases List.mem_cons.1 he with rfl | he
  · exact rows2_ok
  · exact t_array2_ok e he
def mul3 : Summ := ⟨85, [.slice [.int .i64 (vx 0), .int .i64 (vx 1), .int .i64 (vx 2)], .slice [.int .i64 (vx 3), .int .i64 (vx 4), .int .i64 (vx 5)]], (.rsl 6 0 3 none), ⟨7, [(6, [(.int .i64 (.p [(16777217, 1)])), (.int .i64 (.p [(16777472, 1), (4294967297, 1)])), (.int .i64 (.p [(16842752, 1), (4294967552, 2), (1099511627777, 1)]))])], 0⟩⟩
set_option maxRecDepth 1000000 in
theorem mul3_ok : mul3.Ok Try.prog := Summ.of_run noCount mixed (t := t_rows2) (n := 60) t_rows2_ok (by kernel_rfl)
def t_mul3 : List Summ := mul3 :: t_rows2
theorem t_mul3_ok : ∀ e, e ∈ t_mul3 → e.Ok Try.prog := by
  intro e he
  rcases List.mem_cons.1 he with rfl | he
  · exact mul3_ok
  · exact t_rows2_ok e he
def step3 : Summ := ⟨98, [.slice [.int .i64 (vx 0), .int .i64 (vx 1), .int .i64 (vx 2)], .slice [.int .i64 (vx 3), .int .i64 (vx 4), .int .i64 (vx 5)]], (.rsl 0 0 3 (some 3)), ⟨1, [(0, [(.int .i64 (.c 0)), (.int .i64 (.p [(16777472, 1)])), (.int .i64 (.p [(16842752, 1), (4294967552, 1)]))])], 0⟩⟩
set_option maxRecDepth 1000000 in
theorem step3_ok : step3.Ok Try.prog := Summ.of_run noCount mixed (t := t_mul3) (n := 60) t_mul3_ok (by kernel_rfl)
def t_step3 : List Summ := step3 :: t_mul3
theorem t_step3_ok : ∀ e, e ∈ t_step3 → e.Ok Try.prog := by
  intro e he
  rcases List.mem_cons.1 he with rfl | he
  · exact step3_ok
  · exact t_mul3_ok e he
def com3 : Summ := ⟨70, [.slice [.int .i64 (vx 0), .int .i64 (vx 1), .int .i64 (vx 2)], .slice [.int .i64 (vx 3), .int .i64 (vx 4), .int .i64 (vx 5)]], (.rsl 0 0 3 (some 3)), ⟨5, [(0, [(.int .i64 (.p [(1, 1)])), (.int .i64 (.p [(4294967552, 1)])), (.int .i64 (.p [(8590000128, 1), (1099511628032, 1)]))])], 0⟩⟩
set_option maxRecDepth 1000000 in
theorem com3_ok : com3.Ok Try.prog := Summ.of_run noCount mixed (t := t_step3) (n := 60) t_step3_ok (by kernel_rfl)
def t_com3 : List Summ := com3 :: t_step3
theorem t_com3_ok : ∀ e, e ∈ t_com3 → e.Ok Try.prog := by
  intro e he
  rcases List.mem_cons.1 he with rfl | he
  · exact com3_ok
  · exact t_step3_ok e he
def array3 : Summ := ⟨56, [.agg [.slice [.int .i64 (vx 0), .int .i64 (vx 1), .int .i64 (vx 2)], .slice [.int .i64 (vx 3), .int .i64 (vx 4), .int .i64 (vx 5)]]], (.rsl 10 0 3 none), ⟨38, [(10, [(.rsl 2 0 3 (some 3)), (.rsl 5 0 3 (some 3)), (.rsl 8 0 3 (some 3))]), (8, [(.int .i64 (.p [(65536, 1)])), (.int .i64 (.p [(4294967552, 2), (1099511627777, 1)])), (.int .i64 (.p [(8589934593, 1)]))]), (5, [(.int .i64 (.p [(256, 1)])), (.int .i64 (.p [(4294967297, 1)])), (.int .i64 (.c 0))]), (2, [(.int .i64 (.p [(1, 1)])), (.int .i64 (.c 0)), (.int .i64 (.c 0))])], 0⟩⟩
set_option maxRecDepth 1000000 in
theorem array3_ok : array3.Ok Try.prog := Summ.of_run noCount mixed (t := t_com3) (n := 60) t_com3_ok (by kernel_rfl)
def t_array3 : List Summ := array3 :: t_com3
theorem t_array3_ok : ∀ e, e ∈ t_array3 → e.Ok Try.prog := by
  intro e he
  rcases List.mem_cons.1 he with rfl | he
  · exact array3_ok
  · exact t_com3_ok e he
def rows3 : Summ := ⟨58, [.agg [.int .i64 (vx 0), .int .i64 (vx 1), .int .i64 (vx 2), .int .i64 (vx 3), .int .i64 (vx 4), .int .i64 (vx 5), .int .i64 (vx 6), .int .i64 (vx 7), .int .i64 (vx 8), .int .i64 (vx 9), .int .i64 (vx 10), .int .i64 (vx 11), .int .i64 (.c 3)]], (.rsl 1 0 3 (some 3)), ⟨191, [(79, [(.int .i64 (.p [(18446744073709551616, 1)])), (.int .i64 (.p [(281474976776192, 1), (72057594037928192, 2)])), (.int .i64 (.p [(281474976711168, 1)]))]), (22, [(.int .i64 (.p [(72057594037927936, 1)])), (.int .i64 (.p [(281474976710912, 1)])), (.int .i64 (.c 0))]), (2, [(.int .i64 (.p [(281474976710656, 1)])), (.int .i64 (.c 0)), (.int .i64 (.c 0))]), (1, [(.rsl 2 0 3 (some 3)), (.rsl 22 0 3 (some 3)), (.rsl 79 0 3 (some 3))])], 0⟩⟩
set_option maxRecDepth 1000000 in
theorem rows3_ok : rows3.Ok Try.prog := Summ.of_run noCount mixed (t := t_array3) (n := 60) t_array3_ok (by kernel_rfl)
def t_rows3 : List Summ := rows3 :: t_array3
theorem t_rows3_ok : ∀ e, e ∈ t_rows3 → e.Ok Try.prog := by
  intro e he
  rcases List.mem_cons.1 he with rfl | he
  · exact rows3_ok
  · exact t_array3_ok e he
def mul4 : Summ := ⟨85, [.slice [.int .i64 (vx 0), .int .i64 (vx 1), .int .i64 (vx 2), .int .i64 (vx 3)], .slice [.int .i64 (vx 4), .int .i64 (vx 5), .int .i64 (vx 6), .int .i64 (vx 7)]], (.rsl 8 0 4 none), ⟨9, [(8, [(.int .i64 (.p [(4294967297, 1)])), (.int .i64 (.p [(4294967552, 1), (1099511627777, 1)])), (.int .i64 (.p [(4295032832, 1), (1099511628032, 2), (281474976710657, 1)])), (.int .i64 (.p [(4311744512, 1), (1099511693312, 3), (281474976710912, 3), (72057594037927937, 1)]))])], 0⟩⟩
set_option maxRecDepth 1000000 in
theorem mul4_ok : mul4.Ok Try.prog := Summ.of_run noCount mixed (t := t_rows3) (n := 60) t_rows3_ok (by kernel_rfl)
def t_mul4 : List Summ := mul4 :: t_rows3
theorem t_mul4_ok : ∀ e, e ∈ t_mul4 → e.Ok Try.prog := by
  intro e he
  rcases List.mem_cons.1 he with rfl | he
  · exact mul4_ok
  · exact t_rows3_ok e he
def step4 : Summ := ⟨98, [.slice [.int .i64 (vx 0), .int .i64 (vx 1), .int .i64 (vx 2), .int .i64 (vx 3)], .slice [.int .i64 (vx 4), .int .i64 (vx 5), .int .i64 (vx 6), .int .i64 (vx 7)]], (.rsl 0 0 4 (some 4)), ⟨1, [(0, [(.int .i64 (.c 0)), (.int .i64 (.p [(4294967552, 1)])), (.int .i64 (.p [(4295032832, 1), (1099511628032, 1)])), (.int .i64 (.p [(4311744512, 1), (1099511693312, 2), (281474976710912, 1)]))])], 0⟩⟩
set_option maxRecDepth 1000000 in
theorem step4_ok : step4.Ok Try.prog := Summ.of_run noCount mixed (t := t_mul4) (n := 60) t_mul4_ok (by kernel_rfl)
def t_step4 : List Summ := step4 :: t_mul4
theorem t_step4_ok : ∀ e, e ∈ t_step4 → e.Ok Try.prog := by
  intro e he
  rcases List.mem_cons.1 he with rfl | he
  · exact step4_ok
  · exact t_mul4_ok e he
def com4 : Summ := ⟨70, [.slice [.int .i64 (vx 0), .int .i64 (vx 1), .int .i64 (vx 2), .int .i64 (vx 3)], .slice [.int .i64 (vx 4), .int .i64 (vx 5), .int .i64 (vx 6), .int .i64 (vx 7)]], (.rsl 0 0 4 (some 4)), ⟨6, [(0, [(.int .i64 (.p [(1, 1)])), (.int .i64 (.p [(1099511628032, 1)])), (.int .i64 (.p [(2199023321088, 1), (281474976710912, 1)])), (.int .i64 (.p [(3298551660544, 1), (282574488403968, 3), (72057594037928192, 1)]))])], 0⟩⟩
set_option maxRecDepth 1000000 in
theorem com4_ok : com4.Ok Try.prog := Summ.of_run noCount mixed (t := t_step4) (n := 60) t_step4_ok (by kernel_rfl)
def t_com4 : List Summ := com4 :: t_step4
theorem t_com4_ok : ∀ e, e ∈ t_com4 → e.Ok Try.prog := by
  intro e he
  rcases List.mem_cons.1 he with rfl | he
  · exact com4_ok
  · exact t_step4_ok e he
def array4 : Summ := ⟨56, [.agg [.slice [.int .i64 (vx 0), .int .i64 (vx 1), .int .i64 (vx 2), .int .i64 (vx 3)], .slice [.int .i64 (vx 4), .int .i64 (vx 5), .int .i64 (vx 6), .int .i64 (vx 7)]]], (.rsl 13 0 4 none), ⟨60, [(13, [(.rsl 2 0 4 (some 4)), (.rsl 5 0 4 (some 4)), (.rsl 8 0 4 (some 4)), (.rsl 11 0 4 (some 4))]), (11, [(.int .i64 (.p [(16777216, 1)])), (.int .i64 (.p [(1099511693312, 3), (281474976710912, 3), (72057594037927937, 1)])), (.int .i64 (.p [(2199023255808, 3), (282574488338433, 3)])), (.int .i64 (.p [(3298534883329, 1)]))]), (8, [(.int .i64 (.p [(65536, 1)])), (.int .i64 (.p [(1099511628032, 2), (281474976710657, 1)])), (.int .i64 (.p [(2199023255553, 1)])), (.int .i64 (.c 0))]), (5, [(.int .i64 (.p [(256, 1)])), (.int .i64 (.p [(1099511627777, 1)])), (.int .i64 (.c 0)), (.int .i64 (.c 0))]), (2, [(.int .i64 (.p [(1, 1)])), (.int .i64 (.c 0)), (.int .i64 (.c 0)), (.int .i64 (.c 0))])], 0⟩⟩
set_option maxRecDepth 1000000 in
theorem array4_ok : array4.Ok Try.prog := Summ.of_run noCount mixed (t := t_com4) (n := 60) t_com4_ok (by kernel_rfl)
def t_array4 : List Summ := array4 :: t_com4
theorem t_array4_ok : ∀ e, e ∈ t_array4 → e.Ok Try.prog := by
  intro e he
  rcases List.mem_cons.1 he with rfl | he
  · exact array4_ok
  · exact t_com4_ok e he
def rows4 : Summ := ⟨58, [.agg [.int .i64 (vx 0), .int .i64 (vx 1), .int .i64 (vx 2), .int .i64 (vx 3), .int .i64 (vx 4), .int .i64 (vx 5), .int .i64 (vx 6), .int .i64 (vx 7), .int .i64 (vx 8), .int .i64 (vx 9), .int .i64 (vx 10), .int .i64 (vx 11), .int .i64 (.c 4)]], (.rsl 1 0 4 (some 4)), ⟨376, [(191, [(.int .i64 (.p [(4722366482869645213696, 1)])), (.int .i64 (.p [(281474993487872, 1), (72057594037993472, 3), (18446744073709551872, 3)])), (.int .i64 (.p [(281474976776448, 3), (72057594037928448, 3)])), (.int .i64 (.p [(281474976711424, 1)]))]), (79, [(.int .i64 (.p [(18446744073709551616, 1)])), (.int .i64 (.p [(281474976776192, 1), (72057594037928192, 2)])), (.int .i64 (.p [(281474976711168, 1)])), (.int .i64 (.c 0))]), (22, [(.int .i64 (.p [(72057594037927936, 1)])), (.int .i64 (.p [(281474976710912, 1)])), (.int .i64 (.c 0)), (.int .i64 (.c 0))]), (2, [(.int .i64 (.p [(281474976710656, 1)])), (.int .i64 (.c 0)), (.int .i64 (.c 0)), (.int .i64 (.c 0))]), (1, [(.rsl 2 0 4 (some 4)), (.rsl 22 0 4 (some 4)), (.rsl 79 0 4 (some 4)), (.rsl 191 0 4 (some 4))])], 0⟩⟩
set_option maxRecDepth 1000000 in
theorem rows4_ok : rows4.Ok Try.prog := Summ.of_run noCount mixed (t := t_array4) (n := 60) t_array4_ok (by kernel_rfl)
def t_rows4 : List Summ := rows4 :: t_array4
theorem t_rows4_ok : ∀ e, e ∈ t_rows4 → e.Ok Try.prog := by
  intro e he
  rcases List.mem_cons.1 he with rfl | he
  · exact rows4_ok
  · exact t_array4_ok e he
def mul5 : Summ := ⟨85, [.slice [.int .i64 (vx 0), .int .i64 (vx 1), .int .i64 (vx 2), .int .i64 (vx 3), .int .i64 (vx 4)], .slice [.int .i64 (vx 5), .int .i64 (vx 6), .int .i64 (vx 7), .int .i64 (vx 8), .int .i64 (vx 9)]], (.rsl 10 0 5 none), ⟨11, [(10, [(.int .i64 (.p [(1099511627777, 1)])), (.int .i64 (.p [(1099511628032, 1), (281474976710657, 1)])), (.int .i64 (.p [(1099511693312, 1), (281474976710912, 2), (72057594037927937, 1)])), (.int .i64 (.p [(1099528404992, 1), (281474976776192, 3), (72057594037928192, 3), (18446744073709551617, 1)])), (.int .i64 (.p [(1103806595072, 1), (281474993487872, 4), (72057594037993472, 6), (18446744073709551872, 4), (4722366482869645213697, 1)]))])], 0⟩⟩
set_option maxRecDepth 1000000 in
theorem mul5_ok : mul5.Ok Try.prog := Summ.of_run noCount mixed (t := t_rows4) (n := 60) t_rows4_ok (by kernel_rfl)
def t_mul5 : List Summ := mul5 :: t_rows4
theorem t_mul5_ok : ∀ e, e ∈ t_mul5 → e.Ok Try.prog := by
  intro e he
  rcases List.mem_cons.1 he with rfl | he
  · exact mul5_ok
  · exact t_rows4_ok e he
def step5 : Summ := ⟨98, [.slice [.int .i64 (vx 0), .int .i64 (vx 1), .int .i64 (vx 2), .int .i64 (vx 3), .int .i64 (vx 4)], .slice [.int .i64 (vx 5), .int .i64 (vx 6), .int .i64 (vx 7), .int .i64 (vx 8), .int .i64 (vx 9)]], (.rsl 0 0 5 (some 5)), ⟨1, [(0, [(.int .i64 (.c 0)), (.int .i64 (.p [(1099511628032, 1)])), (.int .i64 (.p [(1099511693312, 1), (281474976710912, 1)])), (.int .i64 (.p [(1099528404992, 1), (281474976776192, 2), (72057594037928192, 1)])), (.int .i64 (.p [(1103806595072, 1), (281474993487872, 3), (72057594037993472, 3), (18446744073709551872, 1)]))])], 0⟩⟩
set_option maxRecDepth 1000000 in
theorem step5_ok : step5.Ok Try.prog := Summ.of_run noCount mixed (t := t_mul5) (n := 60) t_mul5_ok (by kernel_rfl)
def t_step5 : List Summ := step5 :: t_mul5
theorem t_step5_ok : ∀ e, e ∈ t_step5 → e.Ok Try.prog := by
  intro e he
  rcases List.mem_cons.1 he with rfl | he
  · exact step5_ok
  · exact t_mul5_ok e he
def com5 : Summ := ⟨70, [.slice [.int .i64 (vx 0), .int .i64 (vx 1), .int .i64 (vx 2), .int .i64 (vx 3), .int .i64 (vx 4)], .slice [.int .i64 (vx 5), .int .i64 (vx 6), .int .i64 (vx 7), .int .i64 (vx 8), .int .i64 (vx 9)]], (.rsl 0 0 5 (some 5)), ⟨7, [(0, [(.int .i64 (.p [(1, 1)])), (.int .i64 (.p [(281474976710912, 1)])), (.int .i64 (.p [(562949953486848, 1), (72057594037928192, 1)])), (.int .i64 (.p [(844424946909184, 1), (72339069014704128, 3), (18446744073709551872, 1)])), (.int .i64 (.p [(1125904201809920, 1), (72620544008126464, 6), (144115188075921408, 3), (18447025548686327808, 4), (4722366482869645213952, 1)]))])], 0⟩⟩
set_option maxRecDepth 1000000 in
theorem com5_ok : com5.Ok Try.prog := Summ.of_run noCount mixed (t := t_step5) (n := 60) t_step5_ok (by kernel_rfl)
def t_com5 : List Summ := com5 :: t_step5
theorem t_com5_ok : ∀ e, e ∈ t_com5 → e.Ok Try.prog := by
  intro e he
  rcases List.mem_cons.1 he with rfl | he
  · exact com5_ok
  · exact t_step5_ok e he
def array5 : Summ := ⟨56, [.agg [.slice [.int .i64 (vx 0), .int .i64 (vx 1), .int .i64 (vx 2), .int .i64 (vx 3), .int .i64 (vx 4)], .slice [.int .i64 (vx 5), .int .i64 (vx 6), .int .i64 (vx 7), .int .i64 (vx 8), .int .i64 (vx 9)]]], (.rsl 16 0 5 none), ⟨87, [(16, [(.rsl 2 0 5 (some 5)), (.rsl 5 0 5 (some 5)), (.rsl 8 0 5 (some 5)), (.rsl 11 0 5 (some 5)), (.rsl 14 0 5 (some 5))]), (14, [(.int .i64 (.p [(4294967296, 1)])), (.int .i64 (.p [(281474993487872, 4), (72057594037993472, 6), (18446744073709551872, 4), (4722366482869645213697, 1)])), (.int .i64 (.p [(562949953486848, 6), (72339069014638848, 12), (144115188075855873, 3), (18447025548686262273, 4)])), (.int .i64 (.p [(844424930132224, 4), (72620543991349249, 6)])), (.int .i64 (.p [(1125899906842625, 1)]))]), (11, [(.int .i64 (.p [(16777216, 1)])), (.int .i64 (.p [(281474976776192, 3), (72057594037928192, 3), (18446744073709551617, 1)])), (.int .i64 (.p [(562949953421568, 3), (72339069014638593, 3)])), (.int .i64 (.p [(844424930131969, 1)])), (.int .i64 (.c 0))]), (8, [(.int .i64 (.p [(65536, 1)])), (.int .i64 (.p [(281474976710912, 2), (72057594037927937, 1)])), (.int .i64 (.p [(562949953421313, 1)])), (.int .i64 (.c 0)), (.int .i64 (.c 0))]), (5, [(.int .i64 (.p [(256, 1)])), (.int .i64 (.p [(281474976710657, 1)])), (.int .i64 (.c 0)), (.int .i64 (.c 0)), (.int .i64 (.c 0))]), (2, [(.int .i64 (.p [(1, 1)])), (.int .i64 (.c 0)), (.int .i64 (.c 0)), (.int .i64 (.c 0)), (.int .i64 (.c 0))])], 0⟩⟩
set_option maxRecDepth 1000000 in
theorem array5_ok : array5.Ok Try.prog := Summ.of_run noCount mixed (t := t_com5) (n := 60) t_com5_ok (by kernel_rfl)
def t_array5 : List Summ := array5 :: t_com5
theorem t_array5_ok : ∀ e, e ∈ t_array5 → e.Ok Try.prog := by
  intro e he
  rcases List.mem_cons.1 he with rfl | he
  · exact array5_ok
  · exact t_com5_ok e he
def rows5 : Summ := ⟨58, [.agg [.int .i64 (vx 0), .int .i64 (vx 1), .int .i64 (vx 2), .int .i64 (vx 3), .int .i64 (vx 4), .int .i64 (vx 5), .int .i64 (vx 6), .int .i64 (vx 7), .int .i64 (vx 8), .int .i64 (vx 9), .int .i64 (vx 10), .int .i64 (vx 11), .int .i64 (.c 5)]], (.rsl 1 0 5 (some 5)), ⟨652, [(376, [(.int .i64 (.p [(1208925819614629174706176, 1)])), (.int .i64 (.p [(281479271677952, 1), (72057594054705152, 4), (18446744073709617152, 6), (4722366482869645213952, 4)])), (.int .i64 (.p [(281474976841728, 3), (281474993488128, 4), (72057594037993728, 12), (18446744073709552128, 6)])), (.int .i64 (.p [(281474976776704, 6), (72057594037928704, 4)])), (.int .i64 (.p [(281474976711680, 1)]))]), (191, [(.int .i64 (.p [(4722366482869645213696, 1)])), (.int .i64 (.p [(281474993487872, 1), (72057594037993472, 3), (18446744073709551872, 3)])), (.int .i64 (.p [(281474976776448, 3), (72057594037928448, 3)])), (.int .i64 (.p [(281474976711424, 1)])), (.int .i64 (.c 0))]), (79, [(.int .i64 (.p [(18446744073709551616, 1)])), (.int .i64 (.p [(281474976776192, 1), (72057594037928192, 2)])), (.int .i64 (.p [(281474976711168, 1)])), (.int .i64 (.c 0)), (.int .i64 (.c 0))]), (22, [(.int .i64 (.p [(72057594037927936, 1)])), (.int .i64 (.p [(281474976710912, 1)])), (.int .i64 (.c 0)), (.int .i64 (.c 0)), (.int .i64 (.c 0))]), (2, [(.int .i64 (.p [(281474976710656, 1)])), (.int .i64 (.c 0)), (.int .i64 (.c 0)), (.int .i64 (.c 0)), (.int .i64 (.c 0))]), (1, [(.rsl 2 0 5 (some 5)), (.rsl 22 0 5 (some 5)), (.rsl 79 0 5 (some 5)), (.rsl 191 0 5 (some 5)), (.rsl 376 0 5 (some 5))])], 0⟩⟩
set_option maxRecDepth 1000000 in
theorem rows5_ok : rows5.Ok Try.prog := Summ.of_run noCount mixed (t := t_array5) (n := 60) t_array5_ok (by kernel_rfl)
def t_rows5 : List Summ := rows5 :: t_array5
theorem t_rows5_ok : ∀ e, e ∈ t_rows5 → e.Ok Try.prog := by
  intro e he
  rcases List.mem_cons.1 he with rfl | he
  · exact rows5_ok
  · exact t_array5_ok e he
def mul6 : Summ := ⟨85, [.slice [.int .i64 (vx 0), .int .i64 (vx 1), .int .i64 (vx 2), .int .i64 (vx 3), .int .i64 (vx 4), .int .i64 (vx 5)], .slice [.int .i64 (vx 6), .int .i64 (vx 7), .int .i64 (vx 8), .int .i64 (vx 9), .int .i64 (vx 10), .int .i64 (vx 11)]], (.rsl 12 0 6 none), ⟨13, [(12, [(.int .i64 (.p [(281474976710657, 1)])), (.int .i64 (.p [(281474976710912, 1), (72057594037927937, 1)])), (.int .i64 (.p [(281474976776192, 1), (72057594037928192, 2), (18446744073709551617, 1)])), (.int .i64 (.p [(281474993487872, 1), (72057594037993472, 3), (18446744073709551872, 3), (4722366482869645213697, 1)])), (.int .i64 (.p [(281479271677952, 1), (72057594054705152, 4), (18446744073709617152, 6), (4722366482869645213952, 4), (1208925819614629174706177, 1)])), (.int .i64 (.p [(282574488338432, 1), (72057598332895232, 5), (18446744073726328832, 10), (4722366482869645279232, 10), (1208925819614629174706432, 5), (309485009821345068724781057, 1)]))])], 0⟩⟩
set_option maxRecDepth 1000000 in
theorem mul6_ok : mul6.Ok Try.prog := Summ.of_run noCount mixed (t := t_rows5) (n := 60) t_rows5_ok (by kernel_rfl)
def t_mul6 : List Summ := mul6 :: t_rows5
theorem t_mul6_ok : ∀ e, e ∈ t_mul6 → e.Ok Try.prog := by
  intro e he
  rcases List.mem_cons.1 he with rfl | he
  · exact mul6_ok
  · exact t_rows5_ok e he
def step6 : Summ := ⟨98, [.slice [.int .i64 (vx 0), .int .i64 (vx 1), .int .i64 (vx 2), .int .i64 (vx 3), .int .i64 (vx 4), .int .i64 (vx 5)], .slice [.int .i64 (vx 6), .int .i64 (vx 7), .int .i64 (vx 8), .int .i64 (vx 9), .int .i64 (vx 10), .int .i64 (vx 11)]], (.rsl 0 0 6 (some 6)), ⟨1, [(0, [(.int .i64 (.c 0)), (.int .i64 (.p [(281474976710912, 1)])), (.int .i64 (.p [(281474976776192, 1), (72057594037928192, 1)])), (.int .i64 (.p [(281474993487872, 1), (72057594037993472, 2), (18446744073709551872, 1)])), (.int .i64 (.p [(281479271677952, 1), (72057594054705152, 3), (18446744073709617152, 3), (4722366482869645213952, 1)])), (.int .i64 (.p [(282574488338432, 1), (72057598332895232, 4), (18446744073726328832, 6), (4722366482869645279232, 4), (1208925819614629174706432, 1)]))])], 0⟩⟩
set_option maxRecDepth 1000000 in
theorem step6_ok : step6.Ok Try.prog := Summ.of_run noCount mixed (t := t_mul6) (n := 60) t_mul6_ok (by kernel_rfl)
def t_step6 : List Summ := step6 :: t_mul6
theorem t_step6_ok : ∀ e, e ∈ t_step6 → e.Ok Try.prog := by
  intro e he
  rcases List.mem_cons.1 he with rfl | he
  · exact step6_ok
  · exact t_mul6_ok e he
def com6 : Summ := ⟨70, [.slice [.int .i64 (vx 0), .int .i64 (vx 1), .int .i64 (vx 2), .int .i64 (vx 3), .int .i64 (vx 4), .int .i64 (vx 5)], .slice [.int .i64 (vx 6), .int .i64 (vx 7), .int .i64 (vx 8), .int .i64 (vx 9), .int .i64 (vx 10), .int .i64 (vx 11)]], (.rsl 0 0 6 (some 6)), ⟨8, [(0, [(.int .i64 (.p [(1, 1)])), (.int .i64 (.p [(72057594037928192, 1)])), (.int .i64 (.p [(144115188075921408, 1), (18446744073709551872, 1)])), (.int .i64 (.p [(216172782130561024, 1), (18518801667747545088, 3), (4722366482869645213952, 1)])), (.int .i64 (.p [(288230380446679040, 1), (18590859261802184704, 6), (36893488147419168768, 3), (4722438540463683207168, 4), (1208925819614629174706432, 1)])), (.int .i64 (.p [(360289069701267456, 1), (18662916860118302720, 10), (36965545741473808384, 15), (4722510598057737846784, 10), (4740813226943354830848, 10), (1208925891672223212699648, 5), (309485009821345068724781312, 1)]))])], 0⟩⟩
set_option maxRecDepth 1000000 in
theorem com6_ok : com6.Ok Try.prog := Summ.of_run noCount mixed (t := t_step6) (n := 60) t_step6_ok (by kernel_rfl)
def t_com6 : List Summ := com6 :: t_step6
theorem t_com6_ok : ∀ e, e ∈ t_com6 → e.Ok Try.prog := by
  intro e he
  rcases List.mem_cons.1 he with rfl | he
  · exact com6_ok
  · exact t_step6_ok e he
def array6 : Summ := ⟨56, [.agg [.slice [.int .i64 (vx 0), .int .i64 (vx 1), .int .i64 (vx 2), .int .i64 (vx 3), .int .i64 (vx 4), .int .i64 (vx 5)], .slice [.int .i64 (vx 6), .int .i64 (vx 7), .int .i64 (vx 8), .int .i64 (vx 9), .int .i64 (vx 10), .int .i64 (vx 11)]]], (.rsl 19 0 6 none), ⟨119, [(19, [(.rsl 2 0 6 (some 6)), (.rsl 5 0 6 (some 6)), (.rsl 8 0 6 (some 6)), (.rsl 11 0 6 (some 6)), (.rsl 14 0 6 (some 6)), (.rsl 17 0 6 (some 6))]), (17, [(.int .i64 (.p [(1099511627776, 1)])), (.int .i64 (.p [(72057598332895232, 5), (18446744073726328832, 10), (4722366482869645279232, 10), (1208925819614629174706432, 5), (309485009821345068724781057, 1)])), (.int .i64 (.p [(144115188092633088, 10), (18518801667747545088, 30), (36893488147419103488, 15), (4722438540463683141888, 20), (4740813226943354765313, 10), (1208925891672223212634113, 5)])), (.int .i64 (.p [(216172782113849344, 10), (18590859261785407744, 30), (36965545741457031169, 15), (4722510598057721069569, 10)])), (.int .i64 (.p [(288230376151712000, 5), (18662916855823335425, 10)])), (.int .i64 (.p [(360287970189639681, 1)]))]), (14, [(.int .i64 (.p [(4294967296, 1)])), (.int .i64 (.p [(72057594054705152, 4), (18446744073709617152, 6), (4722366482869645213952, 4), (1208925819614629174706177, 1)])), (.int .i64 (.p [(144115188075921408, 6), (18518801667747479808, 12), (36893488147419103233, 3), (4722438540463683141633, 4)])), (.int .i64 (.p [(216172782113784064, 4), (18590859261785407489, 6)])), (.int .i64 (.p [(288230376151711745, 1)])), (.int .i64 (.c 0))]), (11, [(.int .i64 (.p [(16777216, 1)])), (.int .i64 (.p [(72057594037993472, 3), (18446744073709551872, 3), (4722366482869645213697, 1)])), (.int .i64 (.p [(144115188075856128, 3), (18518801667747479553, 3)])), (.int .i64 (.p [(216172782113783809, 1)])), (.int .i64 (.c 0)), (.int .i64 (.c 0))]), (8, [(.int .i64 (.p [(65536, 1)])), (.int .i64 (.p [(72057594037928192, 2), (18446744073709551617, 1)])), (.int .i64 (.p [(144115188075855873, 1)])), (.int .i64 (.c 0)), (.int .i64 (.c 0)), (.int .i64 (.c 0))]), (5, [(.int .i64 (.p [(256, 1)])), (.int .i64 (.p [(72057594037927937, 1)])), (.int .i64 (.c 0)), (.int .i64 (.c 0)), (.int .i64 (.c 0)), (.int .i64 (.c 0))]), (2, [(.int .i64 (.p [(1, 1)])), (.int .i64 (.c 0)), (.int .i64 (.c 0)), (.int .i64 (.c 0)), (.int .i64 (.c 0)), (.int .i64 (.c 0))])], 0⟩⟩
set_option maxRecDepth 1000000 in
theorem array6_ok : array6.Ok Try.prog := Summ.of_run noCount mixed (t := t_com6) (n := 60) t_com6_ok (by kernel_rfl)
def t_array6 : List Summ := array6 :: t_com6
theorem t_array6_ok : ∀ e, e ∈ t_array6 → e.Ok Try.prog := by
  intro e he
  rcases List.mem_cons.1 he with rfl | he
  · exact array6_ok
  · exact t_com6_ok e he
def rows6 : Summ := ⟨58, [.agg [.int .i64 (vx 0), .int .i64 (vx 1), .int .i64 (vx 2), .int .i64 (vx 3), .int .i64 (vx 4), .int .i64 (vx 5), .int .i64 (vx 6), .int .i64 (vx 7), .int .i64 (vx 8), .int .i64 (vx 9), .int .i64 (vx 10), .int .i64 (vx 11), .int .i64 (.c 6)]], (.rsl 1 0 6 (some 6)), ⟨1037, [(652, [(.int .i64 (.p [(309485009821345068724781056, 1)])), (.int .i64 (.p [(282574488338432, 1), (72057598332895232, 5), (18446744073726328832, 10), (4722366482869645279232, 10), (1208925819614629174706432, 5)])), (.int .i64 (.p [(281474993553408, 10), (281479271678208, 5), (72057594038059008, 15), (72057594054705408, 20), (18446744073709617408, 30), (4722366482869645214208, 10)])), (.int .i64 (.p [(281474976841984, 15), (281474993488384, 10), (72057594037993984, 30), (18446744073709552384, 10)])), (.int .i64 (.p [(281474976776960, 10), (72057594037928960, 5)])), (.int .i64 (.p [(281474976711936, 1)]))]), (376, [(.int .i64 (.p [(1208925819614629174706176, 1)])), (.int .i64 (.p [(281479271677952, 1), (72057594054705152, 4), (18446744073709617152, 6), (4722366482869645213952, 4)])), (.int .i64 (.p [(281474976841728, 3), (281474993488128, 4), (72057594037993728, 12), (18446744073709552128, 6)])), (.int .i64 (.p [(281474976776704, 6), (72057594037928704, 4)])), (.int .i64 (.p [(281474976711680, 1)])), (.int .i64 (.c 0))]), (191, [(.int .i64 (.p [(4722366482869645213696, 1)])), (.int .i64 (.p [(281474993487872, 1), (72057594037993472, 3), (18446744073709551872, 3)])), (.int .i64 (.p [(281474976776448, 3), (72057594037928448, 3)])), (.int .i64 (.p [(281474976711424, 1)])), (.int .i64 (.c 0)), (.int .i64 (.c 0))]), (79, [(.int .i64 (.p [(18446744073709551616, 1)])), (.int .i64 (.p [(281474976776192, 1), (72057594037928192, 2)])), (.int .i64 (.p [(281474976711168, 1)])), (.int .i64 (.c 0)), (.int .i64 (.c 0)), (.int .i64 (.c 0))]), (22, [(.int .i64 (.p [(72057594037927936, 1)])), (.int .i64 (.p [(281474976710912, 1)])), (.int .i64 (.c 0)), (.int .i64 (.c 0)), (.int .i64 (.c 0)), (.int .i64 (.c 0))]), (2, [(.int .i64 (.p [(281474976710656, 1)])), (.int .i64 (.c 0)), (.int .i64 (.c 0)), (.int .i64 (.c 0)), (.int .i64 (.c 0)), (.int .i64 (.c 0))]), (1, [(.rsl 2 0 6 (some 6)), (.rsl 22 0 6 (some 6)), (.rsl 79 0 6 (some 6)), (.rsl 191 0 6 (some 6)), (.rsl 376 0 6 (some 6)), (.rsl 652 0 6 (some 6))])], 0⟩⟩
set_option maxRecDepth 1000000 in
theorem rows6_ok : rows6.Ok Try.prog := Summ.of_run noCount mixed (t := t_array6) (n := 60) t_array6_ok (by kernel_rfl)
def t_rows6 : List Summ := rows6 :: t_array6
theorem t_rows6_ok : ∀ e, e ∈ t_rows6 → e.Ok Try.prog := by
  intro e he
  rcases List.mem_cons.1 he with rfl | he
  · exact rows6_ok
  · exact t_array6_ok e he
def tab : List Summ := t_rows6
theorem tab_ok : ∀ e, e ∈ tab → e.Ok Try.prog := t_rows6_ok
end Go.Proofs.Ytbjjlimncodmkaa.Summs

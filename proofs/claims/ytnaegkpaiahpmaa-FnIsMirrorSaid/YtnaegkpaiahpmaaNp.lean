/-
  Summaries of named pairs, each by a run. No condition.
-/
import Derived.Test.YtnaegkpaiahpmaaIds
open Go Go.Proofs Go.Sx Go.Proofs.Ytnaegkpaiahpmaa.Ids
namespace Go.Proofs.Ytnaegkpaiahpmaa.Nps
def t0 : List Summ := []
theorem t0_ok : ∀ e, e ∈ t0 → e.Ok Try.prog := by intro e he; cases he

def np_pascal2 : Summ := ⟨64, [.str (ByteArray.mk #[112, 97, 115, 99, 97, 108]), .int .i64 (.c 2)], (.tup [(.agg [(.rsl 8 0 2 none), (.rsl 3 0 2 (some 2))]), (.bool true)]), ⟨9, [(8, [(.int .i64 (.c 1)), (.int .i64 (.c 1))]), (3, [(.int .i64 (.c 0)), (.int .i64 (.c 1))])], 0⟩⟩
set_option maxRecDepth 1000000 in
theorem np_pascal2_ok : np_pascal2.Ok Try.prog := Summ.of_run noCount mixed (t := t0) (n := 60) t0_ok (by kernel_rfl)
def t_np_pascal2 : List Summ := np_pascal2 :: t0
theorem t_np_pascal2_ok : ∀ e, e ∈ t_np_pascal2 → e.Ok Try.prog := by
  intro e he
  rcases List.mem_cons.1 he with rfl | he
  · exact np_pascal2_ok
  · exact t0_ok e he
def np_pascal3 : Summ := ⟨64, [.str (ByteArray.mk #[112, 97, 115, 99, 97, 108]), .int .i64 (.c 3)], (.tup [(.agg [(.rsl 10 0 3 none), (.rsl 3 0 3 (some 3))]), (.bool true)]), ⟨11, [(10, [(.int .i64 (.c 1)), (.int .i64 (.c 1)), (.int .i64 (.c 1))]), (3, [(.int .i64 (.c 0)), (.int .i64 (.c 1)), (.int .i64 (.c 0))])], 0⟩⟩
set_option maxRecDepth 1000000 in
theorem np_pascal3_ok : np_pascal3.Ok Try.prog := Summ.of_run noCount mixed (t := t_np_pascal2) (n := 60) t_np_pascal2_ok (by kernel_rfl)
def t_np_pascal3 : List Summ := np_pascal3 :: t_np_pascal2
theorem t_np_pascal3_ok : ∀ e, e ∈ t_np_pascal3 → e.Ok Try.prog := by
  intro e he
  rcases List.mem_cons.1 he with rfl | he
  · exact np_pascal3_ok
  · exact t_np_pascal2_ok e he
def np_pascal4 : Summ := ⟨64, [.str (ByteArray.mk #[112, 97, 115, 99, 97, 108]), .int .i64 (.c 4)], (.tup [(.agg [(.rsl 12 0 4 none), (.rsl 3 0 4 (some 4))]), (.bool true)]), ⟨13, [(12, [(.int .i64 (.c 1)), (.int .i64 (.c 1)), (.int .i64 (.c 1)), (.int .i64 (.c 1))]), (3, [(.int .i64 (.c 0)), (.int .i64 (.c 1)), (.int .i64 (.c 0)), (.int .i64 (.c 0))])], 0⟩⟩
set_option maxRecDepth 1000000 in
theorem np_pascal4_ok : np_pascal4.Ok Try.prog := Summ.of_run noCount mixed (t := t_np_pascal3) (n := 60) t_np_pascal3_ok (by kernel_rfl)
def t_np_pascal4 : List Summ := np_pascal4 :: t_np_pascal3
theorem t_np_pascal4_ok : ∀ e, e ∈ t_np_pascal4 → e.Ok Try.prog := by
  intro e he
  rcases List.mem_cons.1 he with rfl | he
  · exact np_pascal4_ok
  · exact t_np_pascal3_ok e he
def np_pascal5 : Summ := ⟨64, [.str (ByteArray.mk #[112, 97, 115, 99, 97, 108]), .int .i64 (.c 5)], (.tup [(.agg [(.rsl 14 0 5 none), (.rsl 3 0 5 (some 5))]), (.bool true)]), ⟨15, [(14, [(.int .i64 (.c 1)), (.int .i64 (.c 1)), (.int .i64 (.c 1)), (.int .i64 (.c 1)), (.int .i64 (.c 1))]), (3, [(.int .i64 (.c 0)), (.int .i64 (.c 1)), (.int .i64 (.c 0)), (.int .i64 (.c 0)), (.int .i64 (.c 0))])], 0⟩⟩
set_option maxRecDepth 1000000 in
theorem np_pascal5_ok : np_pascal5.Ok Try.prog := Summ.of_run noCount mixed (t := t_np_pascal4) (n := 60) t_np_pascal4_ok (by kernel_rfl)
def t_np_pascal5 : List Summ := np_pascal5 :: t_np_pascal4
theorem t_np_pascal5_ok : ∀ e, e ∈ t_np_pascal5 → e.Ok Try.prog := by
  intro e he
  rcases List.mem_cons.1 he with rfl | he
  · exact np_pascal5_ok
  · exact t_np_pascal4_ok e he
def np_pascal6 : Summ := ⟨64, [.str (ByteArray.mk #[112, 97, 115, 99, 97, 108]), .int .i64 (.c 6)], (.tup [(.agg [(.rsl 16 0 6 none), (.rsl 3 0 6 (some 6))]), (.bool true)]), ⟨17, [(16, [(.int .i64 (.c 1)), (.int .i64 (.c 1)), (.int .i64 (.c 1)), (.int .i64 (.c 1)), (.int .i64 (.c 1)), (.int .i64 (.c 1))]), (3, [(.int .i64 (.c 0)), (.int .i64 (.c 1)), (.int .i64 (.c 0)), (.int .i64 (.c 0)), (.int .i64 (.c 0)), (.int .i64 (.c 0))])], 0⟩⟩
set_option maxRecDepth 1000000 in
theorem np_pascal6_ok : np_pascal6.Ok Try.prog := Summ.of_run noCount mixed (t := t_np_pascal5) (n := 60) t_np_pascal5_ok (by kernel_rfl)
def t_np_pascal6 : List Summ := np_pascal6 :: t_np_pascal5
theorem t_np_pascal6_ok : ∀ e, e ∈ t_np_pascal6 → e.Ok Try.prog := by
  intro e he
  rcases List.mem_cons.1 he with rfl | he
  · exact np_pascal6_ok
  · exact t_np_pascal5_ok e he
def np_partitions2 : Summ := ⟨64, [.str (ByteArray.mk #[112, 97, 114, 116, 105, 116, 105, 111, 110, 115]), .int .i64 (.c 2)], (.tup [(.agg [(.rsl 2 0 2 (some 2)), (.rsl 8 0 2 none)]), (.bool true)]), ⟨9, [(8, [(.int .i64 (.c 0)), (.int .i64 (.c 1))]), (2, [(.int .i64 (.c 1)), (.int .i64 (.c 0))])], 0⟩⟩
set_option maxRecDepth 1000000 in
theorem np_partitions2_ok : np_partitions2.Ok Try.prog := Summ.of_run noCount mixed (t := t_np_pascal6) (n := 60) t_np_pascal6_ok (by kernel_rfl)
def t_np_partitions2 : List Summ := np_partitions2 :: t_np_pascal6
theorem t_np_partitions2_ok : ∀ e, e ∈ t_np_partitions2 → e.Ok Try.prog := by
  intro e he
  rcases List.mem_cons.1 he with rfl | he
  · exact np_partitions2_ok
  · exact t_np_pascal6_ok e he
def np_partitions3 : Summ := ⟨64, [.str (ByteArray.mk #[112, 97, 114, 116, 105, 116, 105, 111, 110, 115]), .int .i64 (.c 3)], (.tup [(.agg [(.rsl 2 0 3 (some 3)), (.rsl 10 0 3 none)]), (.bool true)]), ⟨11, [(10, [(.int .i64 (.c 0)), (.int .i64 (.c 1)), (.int .i64 (.c 1))]), (2, [(.int .i64 (.c 1)), (.int .i64 (.c 0)), (.int .i64 (.c 0))])], 0⟩⟩
set_option maxRecDepth 1000000 in
theorem np_partitions3_ok : np_partitions3.Ok Try.prog := Summ.of_run noCount mixed (t := t_np_partitions2) (n := 60) t_np_partitions2_ok (by kernel_rfl)
def t_np_partitions3 : List Summ := np_partitions3 :: t_np_partitions2
theorem t_np_partitions3_ok : ∀ e, e ∈ t_np_partitions3 → e.Ok Try.prog := by
  intro e he
  rcases List.mem_cons.1 he with rfl | he
  · exact np_partitions3_ok
  · exact t_np_partitions2_ok e he
def np_partitions4 : Summ := ⟨64, [.str (ByteArray.mk #[112, 97, 114, 116, 105, 116, 105, 111, 110, 115]), .int .i64 (.c 4)], (.tup [(.agg [(.rsl 2 0 4 (some 4)), (.rsl 12 0 4 none)]), (.bool true)]), ⟨13, [(12, [(.int .i64 (.c 0)), (.int .i64 (.c 1)), (.int .i64 (.c 1)), (.int .i64 (.c 1))]), (2, [(.int .i64 (.c 1)), (.int .i64 (.c 0)), (.int .i64 (.c 0)), (.int .i64 (.c 0))])], 0⟩⟩
set_option maxRecDepth 1000000 in
theorem np_partitions4_ok : np_partitions4.Ok Try.prog := Summ.of_run noCount mixed (t := t_np_partitions3) (n := 60) t_np_partitions3_ok (by kernel_rfl)
def t_np_partitions4 : List Summ := np_partitions4 :: t_np_partitions3
theorem t_np_partitions4_ok : ∀ e, e ∈ t_np_partitions4 → e.Ok Try.prog := by
  intro e he
  rcases List.mem_cons.1 he with rfl | he
  · exact np_partitions4_ok
  · exact t_np_partitions3_ok e he
def np_partitions5 : Summ := ⟨64, [.str (ByteArray.mk #[112, 97, 114, 116, 105, 116, 105, 111, 110, 115]), .int .i64 (.c 5)], (.tup [(.agg [(.rsl 2 0 5 (some 5)), (.rsl 14 0 5 none)]), (.bool true)]), ⟨15, [(14, [(.int .i64 (.c 0)), (.int .i64 (.c 1)), (.int .i64 (.c 1)), (.int .i64 (.c 1)), (.int .i64 (.c 1))]), (2, [(.int .i64 (.c 1)), (.int .i64 (.c 0)), (.int .i64 (.c 0)), (.int .i64 (.c 0)), (.int .i64 (.c 0))])], 0⟩⟩
set_option maxRecDepth 1000000 in
theorem np_partitions5_ok : np_partitions5.Ok Try.prog := Summ.of_run noCount mixed (t := t_np_partitions4) (n := 60) t_np_partitions4_ok (by kernel_rfl)
def t_np_partitions5 : List Summ := np_partitions5 :: t_np_partitions4
theorem t_np_partitions5_ok : ∀ e, e ∈ t_np_partitions5 → e.Ok Try.prog := by
  intro e he
  rcases List.mem_cons.1 he with rfl | he
  · exact np_partitions5_ok
  · exact t_np_partitions4_ok e he
def np_partitions6 : Summ := ⟨64, [.str (ByteArray.mk #[112, 97, 114, 116, 105, 116, 105, 111, 110, 115]), .int .i64 (.c 6)], (.tup [(.agg [(.rsl 2 0 6 (some 6)), (.rsl 16 0 6 none)]), (.bool true)]), ⟨17, [(16, [(.int .i64 (.c 0)), (.int .i64 (.c 1)), (.int .i64 (.c 1)), (.int .i64 (.c 1)), (.int .i64 (.c 1)), (.int .i64 (.c 1))]), (2, [(.int .i64 (.c 1)), (.int .i64 (.c 0)), (.int .i64 (.c 0)), (.int .i64 (.c 0)), (.int .i64 (.c 0)), (.int .i64 (.c 0))])], 0⟩⟩
set_option maxRecDepth 1000000 in
theorem np_partitions6_ok : np_partitions6.Ok Try.prog := Summ.of_run noCount mixed (t := t_np_partitions5) (n := 60) t_np_partitions5_ok (by kernel_rfl)
def t_np_partitions6 : List Summ := np_partitions6 :: t_np_partitions5
theorem t_np_partitions6_ok : ∀ e, e ∈ t_np_partitions6 → e.Ok Try.prog := by
  intro e he
  rcases List.mem_cons.1 he with rfl | he
  · exact np_partitions6_ok
  · exact t_np_partitions5_ok e he
def np_cycles2 : Summ := ⟨64, [.str (ByteArray.mk #[99, 121, 99, 108, 101, 115]), .int .i64 (.c 2)], (.tup [(.agg [(.rsl 2 0 2 (some 2)), (.rsl 3 0 2 (some 2))]), (.bool true)]), ⟨6, [(3, [(.int .i64 (.c 0)), (.int .i64 (.c 1))]), (2, [(.int .i64 (.c 1)), (.int .i64 (.c 0))])], 0⟩⟩
set_option maxRecDepth 1000000 in
theorem np_cycles2_ok : np_cycles2.Ok Try.prog := Summ.of_run noCount mixed (t := t_np_partitions6) (n := 60) t_np_partitions6_ok (by kernel_rfl)
def t_np_cycles2 : List Summ := np_cycles2 :: t_np_partitions6
theorem t_np_cycles2_ok : ∀ e, e ∈ t_np_cycles2 → e.Ok Try.prog := by
  intro e he
  rcases List.mem_cons.1 he with rfl | he
  · exact np_cycles2_ok
  · exact t_np_partitions6_ok e he
def np_cycles3 : Summ := ⟨64, [.str (ByteArray.mk #[99, 121, 99, 108, 101, 115]), .int .i64 (.c 3)], (.tup [(.agg [(.rsl 2 0 3 (some 3)), (.rsl 3 0 3 (some 3))]), (.bool true)]), ⟨6, [(3, [(.int .i64 (.c 0)), (.int .i64 (.c 1)), (.int .i64 (.c 1))]), (2, [(.int .i64 (.c 1)), (.int .i64 (.c 0)), (.int .i64 (.c 0))])], 0⟩⟩
set_option maxRecDepth 1000000 in
theorem np_cycles3_ok : np_cycles3.Ok Try.prog := Summ.of_run noCount mixed (t := t_np_cycles2) (n := 60) t_np_cycles2_ok (by kernel_rfl)
def t_np_cycles3 : List Summ := np_cycles3 :: t_np_cycles2
theorem t_np_cycles3_ok : ∀ e, e ∈ t_np_cycles3 → e.Ok Try.prog := by
  intro e he
  rcases List.mem_cons.1 he with rfl | he
  · exact np_cycles3_ok
  · exact t_np_cycles2_ok e he
def np_cycles4 : Summ := ⟨64, [.str (ByteArray.mk #[99, 121, 99, 108, 101, 115]), .int .i64 (.c 4)], (.tup [(.agg [(.rsl 2 0 4 (some 4)), (.rsl 3 0 4 (some 4))]), (.bool true)]), ⟨6, [(3, [(.int .i64 (.c 0)), (.int .i64 (.c 1)), (.int .i64 (.c 1)), (.int .i64 (.c 2))]), (2, [(.int .i64 (.c 1)), (.int .i64 (.c 0)), (.int .i64 (.c 0)), (.int .i64 (.c 0))])], 0⟩⟩
set_option maxRecDepth 1000000 in
theorem np_cycles4_ok : np_cycles4.Ok Try.prog := Summ.of_run noCount mixed (t := t_np_cycles3) (n := 60) t_np_cycles3_ok (by kernel_rfl)
def t_np_cycles4 : List Summ := np_cycles4 :: t_np_cycles3
theorem t_np_cycles4_ok : ∀ e, e ∈ t_np_cycles4 → e.Ok Try.prog := by
  intro e he
  rcases List.mem_cons.1 he with rfl | he
  · exact np_cycles4_ok
  · exact t_np_cycles3_ok e he
def np_cycles5 : Summ := ⟨64, [.str (ByteArray.mk #[99, 121, 99, 108, 101, 115]), .int .i64 (.c 5)], (.tup [(.agg [(.rsl 2 0 5 (some 5)), (.rsl 3 0 5 (some 5))]), (.bool true)]), ⟨6, [(3, [(.int .i64 (.c 0)), (.int .i64 (.c 1)), (.int .i64 (.c 1)), (.int .i64 (.c 2)), (.int .i64 (.c 6))]), (2, [(.int .i64 (.c 1)), (.int .i64 (.c 0)), (.int .i64 (.c 0)), (.int .i64 (.c 0)), (.int .i64 (.c 0))])], 0⟩⟩
set_option maxRecDepth 1000000 in
theorem np_cycles5_ok : np_cycles5.Ok Try.prog := Summ.of_run noCount mixed (t := t_np_cycles4) (n := 60) t_np_cycles4_ok (by kernel_rfl)
def t_np_cycles5 : List Summ := np_cycles5 :: t_np_cycles4
theorem t_np_cycles5_ok : ∀ e, e ∈ t_np_cycles5 → e.Ok Try.prog := by
  intro e he
  rcases List.mem_cons.1 he with rfl | he
  · exact np_cycles5_ok
  · exact t_np_cycles4_ok e he
def np_cycles6 : Summ := ⟨64, [.str (ByteArray.mk #[99, 121, 99, 108, 101, 115]), .int .i64 (.c 6)], (.tup [(.agg [(.rsl 2 0 6 (some 6)), (.rsl 3 0 6 (some 6))]), (.bool true)]), ⟨6, [(3, [(.int .i64 (.c 0)), (.int .i64 (.c 1)), (.int .i64 (.c 1)), (.int .i64 (.c 2)), (.int .i64 (.c 6)), (.int .i64 (.c 24))]), (2, [(.int .i64 (.c 1)), (.int .i64 (.c 0)), (.int .i64 (.c 0)), (.int .i64 (.c 0)), (.int .i64 (.c 0)), (.int .i64 (.c 0))])], 0⟩⟩
set_option maxRecDepth 1000000 in
theorem np_cycles6_ok : np_cycles6.Ok Try.prog := Summ.of_run noCount mixed (t := t_np_cycles5) (n := 60) t_np_cycles5_ok (by kernel_rfl)
def t_np_cycles6 : List Summ := np_cycles6 :: t_np_cycles5
theorem t_np_cycles6_ok : ∀ e, e ∈ t_np_cycles6 → e.Ok Try.prog := by
  intro e he
  rcases List.mem_cons.1 he with rfl | he
  · exact np_cycles6_ok
  · exact t_np_cycles5_ok e he
def np_lists2 : Summ := ⟨64, [.str (ByteArray.mk #[108, 105, 115, 116, 115]), .int .i64 (.c 2)], (.tup [(.agg [(.rsl 2 0 2 (some 2)), (.rsl 3 0 2 (some 2))]), (.bool true)]), ⟨6, [(3, [(.int .i64 (.c 0)), (.int .i64 (.c 1))]), (2, [(.int .i64 (.c 1)), (.int .i64 (.c 0))])], 0⟩⟩
set_option maxRecDepth 1000000 in
theorem np_lists2_ok : np_lists2.Ok Try.prog := Summ.of_run noCount mixed (t := t_np_cycles6) (n := 60) t_np_cycles6_ok (by kernel_rfl)
def t_np_lists2 : List Summ := np_lists2 :: t_np_cycles6
theorem t_np_lists2_ok : ∀ e, e ∈ t_np_lists2 → e.Ok Try.prog := by
  intro e he
  rcases List.mem_cons.1 he with rfl | he
  · exact np_lists2_ok
  · exact t_np_cycles6_ok e he
def np_lists3 : Summ := ⟨64, [.str (ByteArray.mk #[108, 105, 115, 116, 115]), .int .i64 (.c 3)], (.tup [(.agg [(.rsl 2 0 3 (some 3)), (.rsl 3 0 3 (some 3))]), (.bool true)]), ⟨6, [(3, [(.int .i64 (.c 0)), (.int .i64 (.c 1)), (.int .i64 (.c 2))]), (2, [(.int .i64 (.c 1)), (.int .i64 (.c 0)), (.int .i64 (.c 0))])], 0⟩⟩
set_option maxRecDepth 1000000 in
theorem np_lists3_ok : np_lists3.Ok Try.prog := Summ.of_run noCount mixed (t := t_np_lists2) (n := 60) t_np_lists2_ok (by kernel_rfl)
def t_np_lists3 : List Summ := np_lists3 :: t_np_lists2
theorem t_np_lists3_ok : ∀ e, e ∈ t_np_lists3 → e.Ok Try.prog := by
  intro e he
  rcases List.mem_cons.1 he with rfl | he
  · exact np_lists3_ok
  · exact t_np_lists2_ok e he
def np_lists4 : Summ := ⟨64, [.str (ByteArray.mk #[108, 105, 115, 116, 115]), .int .i64 (.c 4)], (.tup [(.agg [(.rsl 2 0 4 (some 4)), (.rsl 3 0 4 (some 4))]), (.bool true)]), ⟨6, [(3, [(.int .i64 (.c 0)), (.int .i64 (.c 1)), (.int .i64 (.c 2)), (.int .i64 (.c 6))]), (2, [(.int .i64 (.c 1)), (.int .i64 (.c 0)), (.int .i64 (.c 0)), (.int .i64 (.c 0))])], 0⟩⟩
set_option maxRecDepth 1000000 in
theorem np_lists4_ok : np_lists4.Ok Try.prog := Summ.of_run noCount mixed (t := t_np_lists3) (n := 60) t_np_lists3_ok (by kernel_rfl)
def t_np_lists4 : List Summ := np_lists4 :: t_np_lists3
theorem t_np_lists4_ok : ∀ e, e ∈ t_np_lists4 → e.Ok Try.prog := by
  intro e he
  rcases List.mem_cons.1 he with rfl | he
  · exact np_lists4_ok
  · exact t_np_lists3_ok e he
def np_lists5 : Summ := ⟨64, [.str (ByteArray.mk #[108, 105, 115, 116, 115]), .int .i64 (.c 5)], (.tup [(.agg [(.rsl 2 0 5 (some 5)), (.rsl 3 0 5 (some 5))]), (.bool true)]), ⟨6, [(3, [(.int .i64 (.c 0)), (.int .i64 (.c 1)), (.int .i64 (.c 2)), (.int .i64 (.c 6)), (.int .i64 (.c 24))]), (2, [(.int .i64 (.c 1)), (.int .i64 (.c 0)), (.int .i64 (.c 0)), (.int .i64 (.c 0)), (.int .i64 (.c 0))])], 0⟩⟩
set_option maxRecDepth 1000000 in
theorem np_lists5_ok : np_lists5.Ok Try.prog := Summ.of_run noCount mixed (t := t_np_lists4) (n := 60) t_np_lists4_ok (by kernel_rfl)
def t_np_lists5 : List Summ := np_lists5 :: t_np_lists4
theorem t_np_lists5_ok : ∀ e, e ∈ t_np_lists5 → e.Ok Try.prog := by
  intro e he
  rcases List.mem_cons.1 he with rfl | he
  · exact np_lists5_ok
  · exact t_np_lists4_ok e he
def np_lists6 : Summ := ⟨64, [.str (ByteArray.mk #[108, 105, 115, 116, 115]), .int .i64 (.c 6)], (.tup [(.agg [(.rsl 2 0 6 (some 6)), (.rsl 3 0 6 (some 6))]), (.bool true)]), ⟨6, [(3, [(.int .i64 (.c 0)), (.int .i64 (.c 1)), (.int .i64 (.c 2)), (.int .i64 (.c 6)), (.int .i64 (.c 24)), (.int .i64 (.c 120))]), (2, [(.int .i64 (.c 1)), (.int .i64 (.c 0)), (.int .i64 (.c 0)), (.int .i64 (.c 0)), (.int .i64 (.c 0)), (.int .i64 (.c 0))])], 0⟩⟩
set_option maxRecDepth 1000000 in
theorem np_lists6_ok : np_lists6.Ok Try.prog := Summ.of_run noCount mixed (t := t_np_lists5) (n := 60) t_np_lists5_ok (by kernel_rfl)
def t_np_lists6 : List Summ := np_lists6 :: t_np_lists5
theorem t_np_lists6_ok : ∀ e, e ∈ t_np_lists6 → e.Ok Try.prog := by
  intro e he
  rcases List.mem_cons.1 he with rfl | he
  · exact np_lists6_ok
  · exact t_np_lists5_ok e he
def tab : List Summ := t_np_lists6
theorem tab_ok : ∀ e, e ∈ tab → e.Ok Try.prog := t_np_lists6_ok
end Go.Proofs.Ytnaegkpaiahpmaa.Nps

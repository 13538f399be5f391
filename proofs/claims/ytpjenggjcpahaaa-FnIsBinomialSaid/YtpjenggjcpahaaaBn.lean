/-
  Summaries of values and shifts of polynomials, each by a run. No condition.
-/
import Derived.Test.YtpjenggjcpahaaaIds
import Derived.Test.YtpjenggjcpahaaaSumm
open Go Go.Proofs Go.Sx Go.Proofs.Ytpjenggjcpahaaa.Ids
namespace Go.Proofs.Ytpjenggjcpahaaa.Bns
def t0 : List Summ := Go.Proofs.Ytpjenggjcpahaaa.Summs.tab
theorem t0_ok : ∀ e, e ∈ t0 → e.Ok Try.prog := Go.Proofs.Ytpjenggjcpahaaa.Summs.tab_ok

def val10 : Summ := ⟨102, [.slice [.int .i64 (vx 0)], .int .i64 (.c 0)], (.int .i64 (.p [(1, 1)])), ⟨0, [], 0⟩⟩
set_option maxRecDepth 1000000 in
theorem val10_ok : val10.Ok Try.prog := Summ.of_run noCount mixed (t := t0) (n := 60) t0_ok (by kernel_rfl)
def t_val10 : List Summ := val10 :: t0
theorem t_val10_ok : ∀ e, e ∈ t_val10 → e.Ok Try.prog := by
  intro e he
  rcases List.mem_cons.1 he with rfl | he
  · exact val10_ok
  · exact t0_ok e he
def shf10 : Summ := ⟨101, [.slice [.int .i64 (vx 0)], .int .i64 (.c 0)], (.rsl 0 0 1 (some 1)), ⟨1, [(0, [(.int .i64 (.p [(1, 1)]))])], 0⟩⟩
set_option maxRecDepth 1000000 in
theorem shf10_ok : shf10.Ok Try.prog := Summ.of_run noCount mixed (t := t_val10) (n := 60) t_val10_ok (by kernel_rfl)
def t_shf10 : List Summ := shf10 :: t_val10
theorem t_shf10_ok : ∀ e, e ∈ t_shf10 → e.Ok Try.prog := by
  intro e he
  rcases List.mem_cons.1 he with rfl | he
  · exact shf10_ok
  · exact t_val10_ok e he
def val20 : Summ := ⟨102, [.slice [.int .i64 (vx 0), .int .i64 (vx 1)], .int .i64 (.c 0)], (.int .i64 (.p [(1, 1)])), ⟨0, [], 0⟩⟩
set_option maxRecDepth 1000000 in
theorem val20_ok : val20.Ok Try.prog := Summ.of_run noCount mixed (t := t_shf10) (n := 60) t_shf10_ok (by kernel_rfl)
def t_val20 : List Summ := val20 :: t_shf10
theorem t_val20_ok : ∀ e, e ∈ t_val20 → e.Ok Try.prog := by
  intro e he
  rcases List.mem_cons.1 he with rfl | he
  · exact val20_ok
  · exact t_shf10_ok e he
def shf20 : Summ := ⟨101, [.slice [.int .i64 (vx 0), .int .i64 (vx 1)], .int .i64 (.c 0)], (.rsl 0 0 2 (some 2)), ⟨1, [(0, [(.int .i64 (.p [(1, 1)])), (.int .i64 (.p [(256, 1)]))])], 0⟩⟩
set_option maxRecDepth 1000000 in
theorem shf20_ok : shf20.Ok Try.prog := Summ.of_run noCount mixed (t := t_val20) (n := 60) t_val20_ok (by kernel_rfl)
def t_shf20 : List Summ := shf20 :: t_val20
theorem t_shf20_ok : ∀ e, e ∈ t_shf20 → e.Ok Try.prog := by
  intro e he
  rcases List.mem_cons.1 he with rfl | he
  · exact shf20_ok
  · exact t_val20_ok e he
def val21 : Summ := ⟨102, [.slice [.int .i64 (vx 0), .int .i64 (vx 1)], .int .i64 (.c 1)], (.int .i64 (.p [(1, 1), (256, 1)])), ⟨0, [], 0⟩⟩
set_option maxRecDepth 1000000 in
theorem val21_ok : val21.Ok Try.prog := Summ.of_run noCount mixed (t := t_shf20) (n := 60) t_shf20_ok (by kernel_rfl)
def t_val21 : List Summ := val21 :: t_shf20
theorem t_val21_ok : ∀ e, e ∈ t_val21 → e.Ok Try.prog := by
  intro e he
  rcases List.mem_cons.1 he with rfl | he
  · exact val21_ok
  · exact t_shf20_ok e he
def shf21 : Summ := ⟨101, [.slice [.int .i64 (vx 0), .int .i64 (vx 1)], .int .i64 (.c 1)], (.rsl 0 0 2 (some 2)), ⟨1, [(0, [(.int .i64 (.p [(1, 1), (256, 1)])), (.int .i64 (.p [(256, 1)]))])], 0⟩⟩
set_option maxRecDepth 1000000 in
theorem shf21_ok : shf21.Ok Try.prog := Summ.of_run noCount mixed (t := t_val21) (n := 60) t_val21_ok (by kernel_rfl)
def t_shf21 : List Summ := shf21 :: t_val21
theorem t_shf21_ok : ∀ e, e ∈ t_shf21 → e.Ok Try.prog := by
  intro e he
  rcases List.mem_cons.1 he with rfl | he
  · exact shf21_ok
  · exact t_val21_ok e he
def val30 : Summ := ⟨102, [.slice [.int .i64 (vx 0), .int .i64 (vx 1), .int .i64 (vx 2)], .int .i64 (.c 0)], (.int .i64 (.p [(1, 1)])), ⟨0, [], 0⟩⟩
set_option maxRecDepth 1000000 in
theorem val30_ok : val30.Ok Try.prog := Summ.of_run noCount mixed (t := t_shf21) (n := 60) t_shf21_ok (by kernel_rfl)
def t_val30 : List Summ := val30 :: t_shf21
theorem t_val30_ok : ∀ e, e ∈ t_val30 → e.Ok Try.prog := by
  intro e he
  rcases List.mem_cons.1 he with rfl | he
  · exact val30_ok
  · exact t_shf21_ok e he
def shf30 : Summ := ⟨101, [.slice [.int .i64 (vx 0), .int .i64 (vx 1), .int .i64 (vx 2)], .int .i64 (.c 0)], (.rsl 0 0 3 (some 3)), ⟨1, [(0, [(.int .i64 (.p [(1, 1)])), (.int .i64 (.p [(256, 1)])), (.int .i64 (.p [(65536, 1)]))])], 0⟩⟩
set_option maxRecDepth 1000000 in
theorem shf30_ok : shf30.Ok Try.prog := Summ.of_run noCount mixed (t := t_val30) (n := 60) t_val30_ok (by kernel_rfl)
def t_shf30 : List Summ := shf30 :: t_val30
theorem t_shf30_ok : ∀ e, e ∈ t_shf30 → e.Ok Try.prog := by
  intro e he
  rcases List.mem_cons.1 he with rfl | he
  · exact shf30_ok
  · exact t_val30_ok e he
def val31 : Summ := ⟨102, [.slice [.int .i64 (vx 0), .int .i64 (vx 1), .int .i64 (vx 2)], .int .i64 (.c 1)], (.int .i64 (.p [(1, 1), (256, 1), (65536, 1)])), ⟨0, [], 0⟩⟩
set_option maxRecDepth 1000000 in
theorem val31_ok : val31.Ok Try.prog := Summ.of_run noCount mixed (t := t_shf30) (n := 60) t_shf30_ok (by kernel_rfl)
def t_val31 : List Summ := val31 :: t_shf30
theorem t_val31_ok : ∀ e, e ∈ t_val31 → e.Ok Try.prog := by
  intro e he
  rcases List.mem_cons.1 he with rfl | he
  · exact val31_ok
  · exact t_shf30_ok e he
def shf31 : Summ := ⟨101, [.slice [.int .i64 (vx 0), .int .i64 (vx 1), .int .i64 (vx 2)], .int .i64 (.c 1)], (.rsl 0 0 3 (some 3)), ⟨1, [(0, [(.int .i64 (.p [(1, 1), (256, 1), (65536, 1)])), (.int .i64 (.p [(256, 1), (65536, 2)])), (.int .i64 (.p [(65536, 1)]))])], 0⟩⟩
set_option maxRecDepth 1000000 in
theorem shf31_ok : shf31.Ok Try.prog := Summ.of_run noCount mixed (t := t_val31) (n := 60) t_val31_ok (by kernel_rfl)
def t_shf31 : List Summ := shf31 :: t_val31
theorem t_shf31_ok : ∀ e, e ∈ t_shf31 → e.Ok Try.prog := by
  intro e he
  rcases List.mem_cons.1 he with rfl | he
  · exact shf31_ok
  · exact t_val31_ok e he
def val32 : Summ := ⟨102, [.slice [.int .i64 (vx 0), .int .i64 (vx 1), .int .i64 (vx 2)], .int .i64 (.c 2)], (.int .i64 (.p [(1, 1), (256, 2), (65536, 4)])), ⟨0, [], 0⟩⟩
set_option maxRecDepth 1000000 in
theorem val32_ok : val32.Ok Try.prog := Summ.of_run noCount mixed (t := t_shf31) (n := 60) t_shf31_ok (by kernel_rfl)
def t_val32 : List Summ := val32 :: t_shf31
theorem t_val32_ok : ∀ e, e ∈ t_val32 → e.Ok Try.prog := by
  intro e he
  rcases List.mem_cons.1 he with rfl | he
  · exact val32_ok
  · exact t_shf31_ok e he
def shf32 : Summ := ⟨101, [.slice [.int .i64 (vx 0), .int .i64 (vx 1), .int .i64 (vx 2)], .int .i64 (.c 2)], (.rsl 0 0 3 (some 3)), ⟨1, [(0, [(.int .i64 (.p [(1, 1), (256, 2), (65536, 4)])), (.int .i64 (.p [(256, 1), (65536, 4)])), (.int .i64 (.p [(65536, 1)]))])], 0⟩⟩
set_option maxRecDepth 1000000 in
theorem shf32_ok : shf32.Ok Try.prog := Summ.of_run noCount mixed (t := t_val32) (n := 60) t_val32_ok (by kernel_rfl)
def t_shf32 : List Summ := shf32 :: t_val32
theorem t_shf32_ok : ∀ e, e ∈ t_shf32 → e.Ok Try.prog := by
  intro e he
  rcases List.mem_cons.1 he with rfl | he
  · exact shf32_ok
  · exact t_val32_ok e he
def val40 : Summ := ⟨102, [.slice [.int .i64 (vx 0), .int .i64 (vx 1), .int .i64 (vx 2), .int .i64 (vx 3)], .int .i64 (.c 0)], (.int .i64 (.p [(1, 1)])), ⟨0, [], 0⟩⟩
set_option maxRecDepth 1000000 in
theorem val40_ok : val40.Ok Try.prog := Summ.of_run noCount mixed (t := t_shf32) (n := 60) t_shf32_ok (by kernel_rfl)
def t_val40 : List Summ := val40 :: t_shf32
theorem t_val40_ok : ∀ e, e ∈ t_val40 → e.Ok Try.prog := by
  intro e he
  rcases List.mem_cons.1 he with rfl | he
  · exact val40_ok
  · exact t_shf32_ok e he
def shf40 : Summ := ⟨101, [.slice [.int .i64 (vx 0), .int .i64 (vx 1), .int .i64 (vx 2), .int .i64 (vx 3)], .int .i64 (.c 0)], (.rsl 0 0 4 (some 4)), ⟨1, [(0, [(.int .i64 (.p [(1, 1)])), (.int .i64 (.p [(256, 1)])), (.int .i64 (.p [(65536, 1)])), (.int .i64 (.p [(16777216, 1)]))])], 0⟩⟩
set_option maxRecDepth 1000000 in
theorem shf40_ok : shf40.Ok Try.prog := Summ.of_run noCount mixed (t := t_val40) (n := 60) t_val40_ok (by kernel_rfl)
def t_shf40 : List Summ := shf40 :: t_val40
theorem t_shf40_ok : ∀ e, e ∈ t_shf40 → e.Ok Try.prog := by
  intro e he
  rcases List.mem_cons.1 he with rfl | he
  · exact shf40_ok
  · exact t_val40_ok e he
def val41 : Summ := ⟨102, [.slice [.int .i64 (vx 0), .int .i64 (vx 1), .int .i64 (vx 2), .int .i64 (vx 3)], .int .i64 (.c 1)], (.int .i64 (.p [(1, 1), (256, 1), (65536, 1), (16777216, 1)])), ⟨0, [], 0⟩⟩
set_option maxRecDepth 1000000 in
theorem val41_ok : val41.Ok Try.prog := Summ.of_run noCount mixed (t := t_shf40) (n := 60) t_shf40_ok (by kernel_rfl)
def t_val41 : List Summ := val41 :: t_shf40
theorem t_val41_ok : ∀ e, e ∈ t_val41 → e.Ok Try.prog := by
  intro e he
  rcases List.mem_cons.1 he with rfl | he
  · exact val41_ok
  · exact t_shf40_ok e he
def shf41 : Summ := ⟨101, [.slice [.int .i64 (vx 0), .int .i64 (vx 1), .int .i64 (vx 2), .int .i64 (vx 3)], .int .i64 (.c 1)], (.rsl 0 0 4 (some 4)), ⟨1, [(0, [(.int .i64 (.p [(1, 1), (256, 1), (65536, 1), (16777216, 1)])), (.int .i64 (.p [(256, 1), (65536, 2), (16777216, 3)])), (.int .i64 (.p [(65536, 1), (16777216, 3)])), (.int .i64 (.p [(16777216, 1)]))])], 0⟩⟩
set_option maxRecDepth 1000000 in
theorem shf41_ok : shf41.Ok Try.prog := Summ.of_run noCount mixed (t := t_val41) (n := 60) t_val41_ok (by kernel_rfl)
def t_shf41 : List Summ := shf41 :: t_val41
theorem t_shf41_ok : ∀ e, e ∈ t_shf41 → e.Ok Try.prog := by
  intro e he
  rcases List.mem_cons.1 he with rfl | he
  · exact shf41_ok
  · exact t_val41_ok e he
def val42 : Summ := ⟨102, [.slice [.int .i64 (vx 0), .int .i64 (vx 1), .int .i64 (vx 2), .int .i64 (vx 3)], .int .i64 (.c 2)], (.int .i64 (.p [(1, 1), (256, 2), (65536, 4), (16777216, 8)])), ⟨0, [], 0⟩⟩
set_option maxRecDepth 1000000 in
theorem val42_ok : val42.Ok Try.prog := Summ.of_run noCount mixed (t := t_shf41) (n := 60) t_shf41_ok (by kernel_rfl)
def t_val42 : List Summ := val42 :: t_shf41
theorem t_val42_ok : ∀ e, e ∈ t_val42 → e.Ok Try.prog := by
  intro e he
  rcases List.mem_cons.1 he with rfl | he
  · exact val42_ok
  · exact t_shf41_ok e he
def shf42 : Summ := ⟨101, [.slice [.int .i64 (vx 0), .int .i64 (vx 1), .int .i64 (vx 2), .int .i64 (vx 3)], .int .i64 (.c 2)], (.rsl 0 0 4 (some 4)), ⟨1, [(0, [(.int .i64 (.p [(1, 1), (256, 2), (65536, 4), (16777216, 8)])), (.int .i64 (.p [(256, 1), (65536, 4), (16777216, 12)])), (.int .i64 (.p [(65536, 1), (16777216, 6)])), (.int .i64 (.p [(16777216, 1)]))])], 0⟩⟩
set_option maxRecDepth 1000000 in
theorem shf42_ok : shf42.Ok Try.prog := Summ.of_run noCount mixed (t := t_val42) (n := 60) t_val42_ok (by kernel_rfl)
def t_shf42 : List Summ := shf42 :: t_val42
theorem t_shf42_ok : ∀ e, e ∈ t_shf42 → e.Ok Try.prog := by
  intro e he
  rcases List.mem_cons.1 he with rfl | he
  · exact shf42_ok
  · exact t_val42_ok e he
def val43 : Summ := ⟨102, [.slice [.int .i64 (vx 0), .int .i64 (vx 1), .int .i64 (vx 2), .int .i64 (vx 3)], .int .i64 (.c 3)], (.int .i64 (.p [(1, 1), (256, 3), (65536, 9), (16777216, 27)])), ⟨0, [], 0⟩⟩
set_option maxRecDepth 1000000 in
theorem val43_ok : val43.Ok Try.prog := Summ.of_run noCount mixed (t := t_shf42) (n := 60) t_shf42_ok (by kernel_rfl)
def t_val43 : List Summ := val43 :: t_shf42
theorem t_val43_ok : ∀ e, e ∈ t_val43 → e.Ok Try.prog := by
  intro e he
  rcases List.mem_cons.1 he with rfl | he
  · exact val43_ok
  · exact t_shf42_ok e he
def shf43 : Summ := ⟨101, [.slice [.int .i64 (vx 0), .int .i64 (vx 1), .int .i64 (vx 2), .int .i64 (vx 3)], .int .i64 (.c 3)], (.rsl 0 0 4 (some 4)), ⟨1, [(0, [(.int .i64 (.p [(1, 1), (256, 3), (65536, 9), (16777216, 27)])), (.int .i64 (.p [(256, 1), (65536, 6), (16777216, 27)])), (.int .i64 (.p [(65536, 1), (16777216, 9)])), (.int .i64 (.p [(16777216, 1)]))])], 0⟩⟩
set_option maxRecDepth 1000000 in
theorem shf43_ok : shf43.Ok Try.prog := Summ.of_run noCount mixed (t := t_val43) (n := 60) t_val43_ok (by kernel_rfl)
def t_shf43 : List Summ := shf43 :: t_val43
theorem t_shf43_ok : ∀ e, e ∈ t_shf43 → e.Ok Try.prog := by
  intro e he
  rcases List.mem_cons.1 he with rfl | he
  · exact shf43_ok
  · exact t_val43_ok e he
def val50 : Summ := ⟨102, [.slice [.int .i64 (vx 0), .int .i64 (vx 1), .int .i64 (vx 2), .int .i64 (vx 3), .int .i64 (vx 4)], .int .i64 (.c 0)], (.int .i64 (.p [(1, 1)])), ⟨0, [], 0⟩⟩
set_option maxRecDepth 1000000 in
theorem val50_ok : val50.Ok Try.prog := Summ.of_run noCount mixed (t := t_shf43) (n := 60) t_shf43_ok (by kernel_rfl)
def t_val50 : List Summ := val50 :: t_shf43
theorem t_val50_ok : ∀ e, e ∈ t_val50 → e.Ok Try.prog := by
  intro e he
  rcases List.mem_cons.1 he with rfl | he
  · exact val50_ok
  · exact t_shf43_ok e he
def shf50 : Summ := ⟨101, [.slice [.int .i64 (vx 0), .int .i64 (vx 1), .int .i64 (vx 2), .int .i64 (vx 3), .int .i64 (vx 4)], .int .i64 (.c 0)], (.rsl 0 0 5 (some 5)), ⟨1, [(0, [(.int .i64 (.p [(1, 1)])), (.int .i64 (.p [(256, 1)])), (.int .i64 (.p [(65536, 1)])), (.int .i64 (.p [(16777216, 1)])), (.int .i64 (.p [(4294967296, 1)]))])], 0⟩⟩
set_option maxRecDepth 1000000 in
theorem shf50_ok : shf50.Ok Try.prog := Summ.of_run noCount mixed (t := t_val50) (n := 60) t_val50_ok (by kernel_rfl)
def t_shf50 : List Summ := shf50 :: t_val50
theorem t_shf50_ok : ∀ e, e ∈ t_shf50 → e.Ok Try.prog := by
  intro e he
  rcases List.mem_cons.1 he with rfl | he
  · exact shf50_ok
  · exact t_val50_ok e he
def val51 : Summ := ⟨102, [.slice [.int .i64 (vx 0), .int .i64 (vx 1), .int .i64 (vx 2), .int .i64 (vx 3), .int .i64 (vx 4)], .int .i64 (.c 1)], (.int .i64 (.p [(1, 1), (256, 1), (65536, 1), (16777216, 1), (4294967296, 1)])), ⟨0, [], 0⟩⟩
set_option maxRecDepth 1000000 in
theorem val51_ok : val51.Ok Try.prog := Summ.of_run noCount mixed (t := t_shf50) (n := 60) t_shf50_ok (by kernel_rfl)
def t_val51 : List Summ := val51 :: t_shf50
theorem t_val51_ok : ∀ e, e ∈ t_val51 → e.Ok Try.prog := by
  intro e he
  rcases List.mem_cons.1 he with rfl | he
  · exact val51_ok
  · exact t_shf50_ok e he
def shf51 : Summ := ⟨101, [.slice [.int .i64 (vx 0), .int .i64 (vx 1), .int .i64 (vx 2), .int .i64 (vx 3), .int .i64 (vx 4)], .int .i64 (.c 1)], (.rsl 0 0 5 (some 5)), ⟨1, [(0, [(.int .i64 (.p [(1, 1), (256, 1), (65536, 1), (16777216, 1), (4294967296, 1)])), (.int .i64 (.p [(256, 1), (65536, 2), (16777216, 3), (4294967296, 4)])), (.int .i64 (.p [(65536, 1), (16777216, 3), (4294967296, 6)])), (.int .i64 (.p [(16777216, 1), (4294967296, 4)])), (.int .i64 (.p [(4294967296, 1)]))])], 0⟩⟩
set_option maxRecDepth 1000000 in
theorem shf51_ok : shf51.Ok Try.prog := Summ.of_run noCount mixed (t := t_val51) (n := 60) t_val51_ok (by kernel_rfl)
def t_shf51 : List Summ := shf51 :: t_val51
theorem t_shf51_ok : ∀ e, e ∈ t_shf51 → e.Ok Try.prog := by
  intro e he
  rcases List.mem_cons.1 he with rfl | he
  · exact shf51_ok
  · exact t_val51_ok e he
def val52 : Summ := ⟨102, [.slice [.int .i64 (vx 0), .int .i64 (vx 1), .int .i64 (vx 2), .int .i64 (vx 3), .int .i64 (vx 4)], .int .i64 (.c 2)], (.int .i64 (.p [(1, 1), (256, 2), (65536, 4), (16777216, 8), (4294967296, 16)])), ⟨0, [], 0⟩⟩
set_option maxRecDepth 1000000 in
theorem val52_ok : val52.Ok Try.prog := Summ.of_run noCount mixed (t := t_shf51) (n := 60) t_shf51_ok (by kernel_rfl)
def t_val52 : List Summ := val52 :: t_shf51
theorem t_val52_ok : ∀ e, e ∈ t_val52 → e.Ok Try.prog := by
  intro e he
  rcases List.mem_cons.1 he with rfl | he
  · exact val52_ok
  · exact t_shf51_ok e he
def shf52 : Summ := ⟨101, [.slice [.int .i64 (vx 0), .int .i64 (vx 1), .int .i64 (vx 2), .int .i64 (vx 3), .int .i64 (vx 4)], .int .i64 (.c 2)], (.rsl 0 0 5 (some 5)), ⟨1, [(0, [(.int .i64 (.p [(1, 1), (256, 2), (65536, 4), (16777216, 8), (4294967296, 16)])), (.int .i64 (.p [(256, 1), (65536, 4), (16777216, 12), (4294967296, 32)])), (.int .i64 (.p [(65536, 1), (16777216, 6), (4294967296, 24)])), (.int .i64 (.p [(16777216, 1), (4294967296, 8)])), (.int .i64 (.p [(4294967296, 1)]))])], 0⟩⟩
set_option maxRecDepth 1000000 in
theorem shf52_ok : shf52.Ok Try.prog := Summ.of_run noCount mixed (t := t_val52) (n := 60) t_val52_ok (by kernel_rfl)
def t_shf52 : List Summ := shf52 :: t_val52
theorem t_shf52_ok : ∀ e, e ∈ t_shf52 → e.Ok Try.prog := by
  intro e he
  rcases List.mem_cons.1 he with rfl | he
  · exact shf52_ok
  · exact t_val52_ok e he
def val53 : Summ := ⟨102, [.slice [.int .i64 (vx 0), .int .i64 (vx 1), .int .i64 (vx 2), .int .i64 (vx 3), .int .i64 (vx 4)], .int .i64 (.c 3)], (.int .i64 (.p [(1, 1), (256, 3), (65536, 9), (16777216, 27), (4294967296, 81)])), ⟨0, [], 0⟩⟩
set_option maxRecDepth 1000000 in
theorem val53_ok : val53.Ok Try.prog := Summ.of_run noCount mixed (t := t_shf52) (n := 60) t_shf52_ok (by kernel_rfl)
def t_val53 : List Summ := val53 :: t_shf52
theorem t_val53_ok : ∀ e, e ∈ t_val53 → e.Ok Try.prog := by
  intro e he
  rcases List.mem_cons.1 he with rfl | he
  · exact val53_ok
  · exact t_shf52_ok e he
def shf53 : Summ := ⟨101, [.slice [.int .i64 (vx 0), .int .i64 (vx 1), .int .i64 (vx 2), .int .i64 (vx 3), .int .i64 (vx 4)], .int .i64 (.c 3)], (.rsl 0 0 5 (some 5)), ⟨1, [(0, [(.int .i64 (.p [(1, 1), (256, 3), (65536, 9), (16777216, 27), (4294967296, 81)])), (.int .i64 (.p [(256, 1), (65536, 6), (16777216, 27), (4294967296, 108)])), (.int .i64 (.p [(65536, 1), (16777216, 9), (4294967296, 54)])), (.int .i64 (.p [(16777216, 1), (4294967296, 12)])), (.int .i64 (.p [(4294967296, 1)]))])], 0⟩⟩
set_option maxRecDepth 1000000 in
theorem shf53_ok : shf53.Ok Try.prog := Summ.of_run noCount mixed (t := t_val53) (n := 60) t_val53_ok (by kernel_rfl)
def t_shf53 : List Summ := shf53 :: t_val53
theorem t_shf53_ok : ∀ e, e ∈ t_shf53 → e.Ok Try.prog := by
  intro e he
  rcases List.mem_cons.1 he with rfl | he
  · exact shf53_ok
  · exact t_val53_ok e he
def val54 : Summ := ⟨102, [.slice [.int .i64 (vx 0), .int .i64 (vx 1), .int .i64 (vx 2), .int .i64 (vx 3), .int .i64 (vx 4)], .int .i64 (.c 4)], (.int .i64 (.p [(1, 1), (256, 4), (65536, 16), (16777216, 64), (4294967296, 256)])), ⟨0, [], 0⟩⟩
set_option maxRecDepth 1000000 in
theorem val54_ok : val54.Ok Try.prog := Summ.of_run noCount mixed (t := t_shf53) (n := 60) t_shf53_ok (by kernel_rfl)
def t_val54 : List Summ := val54 :: t_shf53
theorem t_val54_ok : ∀ e, e ∈ t_val54 → e.Ok Try.prog := by
  intro e he
  rcases List.mem_cons.1 he with rfl | he
  · exact val54_ok
  · exact t_shf53_ok e he
def shf54 : Summ := ⟨101, [.slice [.int .i64 (vx 0), .int .i64 (vx 1), .int .i64 (vx 2), .int .i64 (vx 3), .int .i64 (vx 4)], .int .i64 (.c 4)], (.rsl 0 0 5 (some 5)), ⟨1, [(0, [(.int .i64 (.p [(1, 1), (256, 4), (65536, 16), (16777216, 64), (4294967296, 256)])), (.int .i64 (.p [(256, 1), (65536, 8), (16777216, 48), (4294967296, 256)])), (.int .i64 (.p [(65536, 1), (16777216, 12), (4294967296, 96)])), (.int .i64 (.p [(16777216, 1), (4294967296, 16)])), (.int .i64 (.p [(4294967296, 1)]))])], 0⟩⟩
set_option maxRecDepth 1000000 in
theorem shf54_ok : shf54.Ok Try.prog := Summ.of_run noCount mixed (t := t_val54) (n := 60) t_val54_ok (by kernel_rfl)
def t_shf54 : List Summ := shf54 :: t_val54
theorem t_shf54_ok : ∀ e, e ∈ t_shf54 → e.Ok Try.prog := by
  intro e he
  rcases List.mem_cons.1 he with rfl | he
  · exact shf54_ok
  · exact t_val54_ok e he
def val60 : Summ := ⟨102, [.slice [.int .i64 (vx 0), .int .i64 (vx 1), .int .i64 (vx 2), .int .i64 (vx 3), .int .i64 (vx 4), .int .i64 (vx 5)], .int .i64 (.c 0)], (.int .i64 (.p [(1, 1)])), ⟨0, [], 0⟩⟩
set_option maxRecDepth 1000000 in
theorem val60_ok : val60.Ok Try.prog := Summ.of_run noCount mixed (t := t_shf54) (n := 60) t_shf54_ok (by kernel_rfl)
def t_val60 : List Summ := val60 :: t_shf54
theorem t_val60_ok : ∀ e, e ∈ t_val60 → e.Ok Try.prog := by
  intro e he
  rcases List.mem_cons.1 he with rfl | he
  · exact val60_ok
  · exact t_shf54_ok e he
def shf60 : Summ := ⟨101, [.slice [.int .i64 (vx 0), .int .i64 (vx 1), .int .i64 (vx 2), .int .i64 (vx 3), .int .i64 (vx 4), .int .i64 (vx 5)], .int .i64 (.c 0)], (.rsl 0 0 6 (some 6)), ⟨1, [(0, [(.int .i64 (.p [(1, 1)])), (.int .i64 (.p [(256, 1)])), (.int .i64 (.p [(65536, 1)])), (.int .i64 (.p [(16777216, 1)])), (.int .i64 (.p [(4294967296, 1)])), (.int .i64 (.p [(1099511627776, 1)]))])], 0⟩⟩
set_option maxRecDepth 1000000 in
theorem shf60_ok : shf60.Ok Try.prog := Summ.of_run noCount mixed (t := t_val60) (n := 60) t_val60_ok (by kernel_rfl)
def t_shf60 : List Summ := shf60 :: t_val60
theorem t_shf60_ok : ∀ e, e ∈ t_shf60 → e.Ok Try.prog := by
  intro e he
  rcases List.mem_cons.1 he with rfl | he
  · exact shf60_ok
  · exact t_val60_ok e he
def val61 : Summ := ⟨102, [.slice [.int .i64 (vx 0), .int .i64 (vx 1), .int .i64 (vx 2), .int .i64 (vx 3), .int .i64 (vx 4), .int .i64 (vx 5)], .int .i64 (.c 1)], (.int .i64 (.p [(1, 1), (256, 1), (65536, 1), (16777216, 1), (4294967296, 1), (1099511627776, 1)])), ⟨0, [], 0⟩⟩
set_option maxRecDepth 1000000 in
theorem val61_ok : val61.Ok Try.prog := Summ.of_run noCount mixed (t := t_shf60) (n := 60) t_shf60_ok (by kernel_rfl)
def t_val61 : List Summ := val61 :: t_shf60
theorem t_val61_ok : ∀ e, e ∈ t_val61 → e.Ok Try.prog := by
  intro e he
  rcases List.mem_cons.1 he with rfl | he
  · exact val61_ok
  · exact t_shf60_ok e he
def shf61 : Summ := ⟨101, [.slice [.int .i64 (vx 0), .int .i64 (vx 1), .int .i64 (vx 2), .int .i64 (vx 3), .int .i64 (vx 4), .int .i64 (vx 5)], .int .i64 (.c 1)], (.rsl 0 0 6 (some 6)), ⟨1, [(0, [(.int .i64 (.p [(1, 1), (256, 1), (65536, 1), (16777216, 1), (4294967296, 1), (1099511627776, 1)])), (.int .i64 (.p [(256, 1), (65536, 2), (16777216, 3), (4294967296, 4), (1099511627776, 5)])), (.int .i64 (.p [(65536, 1), (16777216, 3), (4294967296, 6), (1099511627776, 10)])), (.int .i64 (.p [(16777216, 1), (4294967296, 4), (1099511627776, 10)])), (.int .i64 (.p [(4294967296, 1), (1099511627776, 5)])), (.int .i64 (.p [(1099511627776, 1)]))])], 0⟩⟩
set_option maxRecDepth 1000000 in
theorem shf61_ok : shf61.Ok Try.prog := Summ.of_run noCount mixed (t := t_val61) (n := 60) t_val61_ok (by kernel_rfl)
def t_shf61 : List Summ := shf61 :: t_val61
theorem t_shf61_ok : ∀ e, e ∈ t_shf61 → e.Ok Try.prog := by
  intro e he
  rcases List.mem_cons.1 he with rfl | he
  · exact shf61_ok
  · exact t_val61_ok e he
def val62 : Summ := ⟨102, [.slice [.int .i64 (vx 0), .int .i64 (vx 1), .int .i64 (vx 2), .int .i64 (vx 3), .int .i64 (vx 4), .int .i64 (vx 5)], .int .i64 (.c 2)], (.int .i64 (.p [(1, 1), (256, 2), (65536, 4), (16777216, 8), (4294967296, 16), (1099511627776, 32)])), ⟨0, [], 0⟩⟩
set_option maxRecDepth 1000000 in
theorem val62_ok : val62.Ok Try.prog := Summ.of_run noCount mixed (t := t_shf61) (n := 60) t_shf61_ok (by kernel_rfl)
def t_val62 : List Summ := val62 :: t_shf61
theorem t_val62_ok : ∀ e, e ∈ t_val62 → e.Ok Try.prog := by
  intro e he
  rcases List.mem_cons.1 he with rfl | he
  · exact val62_ok
  · exact t_shf61_ok e he
def shf62 : Summ := ⟨101, [.slice [.int .i64 (vx 0), .int .i64 (vx 1), .int .i64 (vx 2), .int .i64 (vx 3), .int .i64 (vx 4), .int .i64 (vx 5)], .int .i64 (.c 2)], (.rsl 0 0 6 (some 6)), ⟨1, [(0, [(.int .i64 (.p [(1, 1), (256, 2), (65536, 4), (16777216, 8), (4294967296, 16), (1099511627776, 32)])), (.int .i64 (.p [(256, 1), (65536, 4), (16777216, 12), (4294967296, 32), (1099511627776, 80)])), (.int .i64 (.p [(65536, 1), (16777216, 6), (4294967296, 24), (1099511627776, 80)])), (.int .i64 (.p [(16777216, 1), (4294967296, 8), (1099511627776, 40)])), (.int .i64 (.p [(4294967296, 1), (1099511627776, 10)])), (.int .i64 (.p [(1099511627776, 1)]))])], 0⟩⟩
set_option maxRecDepth 1000000 in
theorem shf62_ok : shf62.Ok Try.prog := Summ.of_run noCount mixed (t := t_val62) (n := 60) t_val62_ok (by kernel_rfl)
def t_shf62 : List Summ := shf62 :: t_val62
theorem t_shf62_ok : ∀ e, e ∈ t_shf62 → e.Ok Try.prog := by
  intro e he
  rcases List.mem_cons.1 he with rfl | he
  · exact shf62_ok
  · exact t_val62_ok e he
def val63 : Summ := ⟨102, [.slice [.int .i64 (vx 0), .int .i64 (vx 1), .int .i64 (vx 2), .int .i64 (vx 3), .int .i64 (vx 4), .int .i64 (vx 5)], .int .i64 (.c 3)], (.int .i64 (.p [(1, 1), (256, 3), (65536, 9), (16777216, 27), (4294967296, 81), (1099511627776, 243)])), ⟨0, [], 0⟩⟩
set_option maxRecDepth 1000000 in
theorem val63_ok : val63.Ok Try.prog := Summ.of_run noCount mixed (t := t_shf62) (n := 60) t_shf62_ok (by kernel_rfl)
def t_val63 : List Summ := val63 :: t_shf62
theorem t_val63_ok : ∀ e, e ∈ t_val63 → e.Ok Try.prog := by
  intro e he
  rcases List.mem_cons.1 he with rfl | he
  · exact val63_ok
  · exact t_shf62_ok e he
def shf63 : Summ := ⟨101, [.slice [.int .i64 (vx 0), .int .i64 (vx 1), .int .i64 (vx 2), .int .i64 (vx 3), .int .i64 (vx 4), .int .i64 (vx 5)], .int .i64 (.c 3)], (.rsl 0 0 6 (some 6)), ⟨1, [(0, [(.int .i64 (.p [(1, 1), (256, 3), (65536, 9), (16777216, 27), (4294967296, 81), (1099511627776, 243)])), (.int .i64 (.p [(256, 1), (65536, 6), (16777216, 27), (4294967296, 108), (1099511627776, 405)])), (.int .i64 (.p [(65536, 1), (16777216, 9), (4294967296, 54), (1099511627776, 270)])), (.int .i64 (.p [(16777216, 1), (4294967296, 12), (1099511627776, 90)])), (.int .i64 (.p [(4294967296, 1), (1099511627776, 15)])), (.int .i64 (.p [(1099511627776, 1)]))])], 0⟩⟩
set_option maxRecDepth 1000000 in
theorem shf63_ok : shf63.Ok Try.prog := Summ.of_run noCount mixed (t := t_val63) (n := 60) t_val63_ok (by kernel_rfl)
def t_shf63 : List Summ := shf63 :: t_val63
theorem t_shf63_ok : ∀ e, e ∈ t_shf63 → e.Ok Try.prog := by
  intro e he
  rcases List.mem_cons.1 he with rfl | he
  · exact shf63_ok
  · exact t_val63_ok e he
def val64 : Summ := ⟨102, [.slice [.int .i64 (vx 0), .int .i64 (vx 1), .int .i64 (vx 2), .int .i64 (vx 3), .int .i64 (vx 4), .int .i64 (vx 5)], .int .i64 (.c 4)], (.int .i64 (.p [(1, 1), (256, 4), (65536, 16), (16777216, 64), (4294967296, 256), (1099511627776, 1024)])), ⟨0, [], 0⟩⟩
set_option maxRecDepth 1000000 in
theorem val64_ok : val64.Ok Try.prog := Summ.of_run noCount mixed (t := t_shf63) (n := 60) t_shf63_ok (by kernel_rfl)
def t_val64 : List Summ := val64 :: t_shf63
theorem t_val64_ok : ∀ e, e ∈ t_val64 → e.Ok Try.prog := by
  intro e he
  rcases List.mem_cons.1 he with rfl | he
  · exact val64_ok
  · exact t_shf63_ok e he
def shf64 : Summ := ⟨101, [.slice [.int .i64 (vx 0), .int .i64 (vx 1), .int .i64 (vx 2), .int .i64 (vx 3), .int .i64 (vx 4), .int .i64 (vx 5)], .int .i64 (.c 4)], (.rsl 0 0 6 (some 6)), ⟨1, [(0, [(.int .i64 (.p [(1, 1), (256, 4), (65536, 16), (16777216, 64), (4294967296, 256), (1099511627776, 1024)])), (.int .i64 (.p [(256, 1), (65536, 8), (16777216, 48), (4294967296, 256), (1099511627776, 1280)])), (.int .i64 (.p [(65536, 1), (16777216, 12), (4294967296, 96), (1099511627776, 640)])), (.int .i64 (.p [(16777216, 1), (4294967296, 16), (1099511627776, 160)])), (.int .i64 (.p [(4294967296, 1), (1099511627776, 20)])), (.int .i64 (.p [(1099511627776, 1)]))])], 0⟩⟩
set_option maxRecDepth 1000000 in
theorem shf64_ok : shf64.Ok Try.prog := Summ.of_run noCount mixed (t := t_val64) (n := 60) t_val64_ok (by kernel_rfl)
def t_shf64 : List Summ := shf64 :: t_val64
theorem t_shf64_ok : ∀ e, e ∈ t_shf64 → e.Ok Try.prog := by
  intro e he
  rcases List.mem_cons.1 he with rfl | he
  · exact shf64_ok
  · exact t_val64_ok e he
def val65 : Summ := ⟨102, [.slice [.int .i64 (vx 0), .int .i64 (vx 1), .int .i64 (vx 2), .int .i64 (vx 3), .int .i64 (vx 4), .int .i64 (vx 5)], .int .i64 (.c 5)], (.int .i64 (.p [(1, 1), (256, 5), (65536, 25), (16777216, 125), (4294967296, 625), (1099511627776, 3125)])), ⟨0, [], 0⟩⟩
set_option maxRecDepth 1000000 in
theorem val65_ok : val65.Ok Try.prog := Summ.of_run noCount mixed (t := t_shf64) (n := 60) t_shf64_ok (by kernel_rfl)
def t_val65 : List Summ := val65 :: t_shf64
theorem t_val65_ok : ∀ e, e ∈ t_val65 → e.Ok Try.prog := by
  intro e he
  rcases List.mem_cons.1 he with rfl | he
  · exact val65_ok
  · exact t_shf64_ok e he
def shf65 : Summ := ⟨101, [.slice [.int .i64 (vx 0), .int .i64 (vx 1), .int .i64 (vx 2), .int .i64 (vx 3), .int .i64 (vx 4), .int .i64 (vx 5)], .int .i64 (.c 5)], (.rsl 0 0 6 (some 6)), ⟨1, [(0, [(.int .i64 (.p [(1, 1), (256, 5), (65536, 25), (16777216, 125), (4294967296, 625), (1099511627776, 3125)])), (.int .i64 (.p [(256, 1), (65536, 10), (16777216, 75), (4294967296, 500), (1099511627776, 3125)])), (.int .i64 (.p [(65536, 1), (16777216, 15), (4294967296, 150), (1099511627776, 1250)])), (.int .i64 (.p [(16777216, 1), (4294967296, 20), (1099511627776, 250)])), (.int .i64 (.p [(4294967296, 1), (1099511627776, 25)])), (.int .i64 (.p [(1099511627776, 1)]))])], 0⟩⟩
set_option maxRecDepth 1000000 in
theorem shf65_ok : shf65.Ok Try.prog := Summ.of_run noCount mixed (t := t_val65) (n := 60) t_val65_ok (by kernel_rfl)
def t_shf65 : List Summ := shf65 :: t_val65
theorem t_shf65_ok : ∀ e, e ∈ t_shf65 → e.Ok Try.prog := by
  intro e he
  rcases List.mem_cons.1 he with rfl | he
  · exact shf65_ok
  · exact t_val65_ok e he
def tab : List Summ := t_shf65
theorem tab_ok : ∀ e, e ∈ tab → e.Ok Try.prog := t_shf65_ok
end Go.Proofs.Ytpjenggjcpahaaa.Bns

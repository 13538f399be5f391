/-
  Summaries: what functions make of symbols, each by a run. No condition.
-/
import Derived.Test.YtcpnlgjkijcmhaaIds
open Go Go.Proofs Go.Sx Go.Proofs.Ytcpnlgjkijcmhaa.Ids
namespace Go.Proofs.Ytcpnlgjkijcmhaa.Summs
def t0 : List Summ := []
theorem t0_ok : ∀ e, e ∈ t0 → e.Ok Try.prog := by intro e he; cases he

def api0 : Summ := ⟨24, [.int .i64 (.c 0)], (.rsl 5 0 1 none), ⟨6, [(5, [(.rsl 3 0 0 (some 0))]), (3, [])], 0⟩⟩
set_option maxRecDepth 1000000 in
theorem api0_ok : api0.Ok Try.prog := Summ.of_run noCount mixed (t := t0) (n := 200) t0_ok (by kernel_rfl)
def t_api0 : List Summ := api0 :: t0
theorem t_api0_ok : ∀ e, e ∈ t_api0 → e.Ok Try.prog := by
  intro e he
  rcases List.mem_cons.1 he with rfl | he
  · exact api0_ok
  · exact t0_ok e he
def api1 : Summ := ⟨24, [.int .i64 (.c 1)], (.rsl 6 0 1 none), ⟨7, [(6, [(.rsl 4 0 1 none)]), (4, [(.int .i64 (.c 0))])], 0⟩⟩
set_option maxRecDepth 1000000 in
theorem api1_ok : api1.Ok Try.prog := Summ.of_run noCount mixed (t := t_api0) (n := 200) t_api0_ok (by kernel_rfl)
def t_api1 : List Summ := api1 :: t_api0
theorem t_api1_ok : ∀ e, e ∈ t_api1 → e.Ok Try.prog := by
  intro e he
  rcases List.mem_cons.1 he with rfl | he
  · exact api1_ok
  · exact t_api0_ok e he
def api2 : Summ := ⟨24, [.int .i64 (.c 2)], (.rsl 10 0 2 none), ⟨11, [(10, [(.rsl 4 0 2 none), (.rsl 8 0 2 none)]), (8, [(.int .i64 (.c 0)), (.int .i64 (.c 1))]), (4, [(.int .i64 (.c 0)), (.int .i64 (.c 0))])], 0⟩⟩
set_option maxRecDepth 1000000 in
theorem api2_ok : api2.Ok Try.prog := Summ.of_run noCount mixed (t := t_api1) (n := 200) t_api1_ok (by kernel_rfl)
def t_api2 : List Summ := api2 :: t_api1
theorem t_api2_ok : ∀ e, e ∈ t_api2 → e.Ok Try.prog := by
  intro e he
  rcases List.mem_cons.1 he with rfl | he
  · exact api2_ok
  · exact t_api1_ok e he
def api3 : Summ := ⟨24, [.int .i64 (.c 3)], (.rsl 22 0 5 none), ⟨23, [(22, [(.rsl 4 0 3 none), (.rsl 8 0 3 none), (.rsl 12 0 3 none), (.rsl 16 0 3 none), (.rsl 20 0 3 none)]), (20, [(.int .i64 (.c 0)), (.int .i64 (.c 1)), (.int .i64 (.c 2))]), (16, [(.int .i64 (.c 0)), (.int .i64 (.c 1)), (.int .i64 (.c 1))]), (12, [(.int .i64 (.c 0)), (.int .i64 (.c 1)), (.int .i64 (.c 0))]), (8, [(.int .i64 (.c 0)), (.int .i64 (.c 0)), (.int .i64 (.c 1))]), (4, [(.int .i64 (.c 0)), (.int .i64 (.c 0)), (.int .i64 (.c 0))])], 0⟩⟩
set_option maxRecDepth 1000000 in
theorem api3_ok : api3.Ok Try.prog := Summ.of_run noCount mixed (t := t_api2) (n := 200) t_api2_ok (by kernel_rfl)
def t_api3 : List Summ := api3 :: t_api2
theorem t_api3_ok : ∀ e, e ∈ t_api3 → e.Ok Try.prog := by
  intro e he
  rcases List.mem_cons.1 he with rfl | he
  · exact api3_ok
  · exact t_api2_ok e he
def api4 : Summ := ⟨24, [.int .i64 (.c 4)], (.rsl 62 0 15 none), ⟨63, [(62, [(.rsl 4 0 4 none), (.rsl 8 0 4 none), (.rsl 12 0 4 none), (.rsl 16 0 4 none), (.rsl 20 0 4 none), (.rsl 24 0 4 none), (.rsl 28 0 4 none), (.rsl 32 0 4 none), (.rsl 36 0 4 none), (.rsl 40 0 4 none), (.rsl 44 0 4 none), (.rsl 48 0 4 none), (.rsl 52 0 4 none), (.rsl 56 0 4 none), (.rsl 60 0 4 none)]), (60, [(.int .i64 (.c 0)), (.int .i64 (.c 1)), (.int .i64 (.c 2)), (.int .i64 (.c 3))]), (56, [(.int .i64 (.c 0)), (.int .i64 (.c 1)), (.int .i64 (.c 2)), (.int .i64 (.c 2))]), (52, [(.int .i64 (.c 0)), (.int .i64 (.c 1)), (.int .i64 (.c 2)), (.int .i64 (.c 1))]), (48, [(.int .i64 (.c 0)), (.int .i64 (.c 1)), (.int .i64 (.c 2)), (.int .i64 (.c 0))]), (44, [(.int .i64 (.c 0)), (.int .i64 (.c 1)), (.int .i64 (.c 1)), (.int .i64 (.c 2))]), (40, [(.int .i64 (.c 0)), (.int .i64 (.c 1)), (.int .i64 (.c 1)), (.int .i64 (.c 1))]), (36, [(.int .i64 (.c 0)), (.int .i64 (.c 1)), (.int .i64 (.c 1)), (.int .i64 (.c 0))]), (32, [(.int .i64 (.c 0)), (.int .i64 (.c 1)), (.int .i64 (.c 0)), (.int .i64 (.c 2))]), (28, [(.int .i64 (.c 0)), (.int .i64 (.c 1)), (.int .i64 (.c 0)), (.int .i64 (.c 1))]), (24, [(.int .i64 (.c 0)), (.int .i64 (.c 1)), (.int .i64 (.c 0)), (.int .i64 (.c 0))]), (20, [(.int .i64 (.c 0)), (.int .i64 (.c 0)), (.int .i64 (.c 1)), (.int .i64 (.c 2))]), (16, [(.int .i64 (.c 0)), (.int .i64 (.c 0)), (.int .i64 (.c 1)), (.int .i64 (.c 1))]), (12, [(.int .i64 (.c 0)), (.int .i64 (.c 0)), (.int .i64 (.c 1)), (.int .i64 (.c 0))]), (8, [(.int .i64 (.c 0)), (.int .i64 (.c 0)), (.int .i64 (.c 0)), (.int .i64 (.c 1))]), (4, [(.int .i64 (.c 0)), (.int .i64 (.c 0)), (.int .i64 (.c 0)), (.int .i64 (.c 0))])], 0⟩⟩
set_option maxRecDepth 1000000 in
theorem api4_ok : api4.Ok Try.prog := Summ.of_run noCount mixed (t := t_api3) (n := 200) t_api3_ok (by kernel_rfl)
def t_api4 : List Summ := api4 :: t_api3
theorem t_api4_ok : ∀ e, e ∈ t_api4 → e.Ok Try.prog := by
  intro e he
  rcases List.mem_cons.1 he with rfl | he
  · exact api4_ok
  · exact t_api3_ok e he
def api5 : Summ := ⟨24, [.int .i64 (.c 5)], (.rsl 210 0 52 none), ⟨211, [(210, [(.rsl 4 0 5 none), (.rsl 8 0 5 none), (.rsl 12 0 5 none), (.rsl 16 0 5 none), (.rsl 20 0 5 none), (.rsl 24 0 5 none), (.rsl 28 0 5 none), (.rsl 32 0 5 none), (.rsl 36 0 5 none), (.rsl 40 0 5 none), (.rsl 44 0 5 none), (.rsl 48 0 5 none), (.rsl 52 0 5 none), (.rsl 56 0 5 none), (.rsl 60 0 5 none), (.rsl 64 0 5 none), (.rsl 68 0 5 none), (.rsl 72 0 5 none), (.rsl 76 0 5 none), (.rsl 80 0 5 none), (.rsl 84 0 5 none), (.rsl 88 0 5 none), (.rsl 92 0 5 none), (.rsl 96 0 5 none), (.rsl 100 0 5 none), (.rsl 104 0 5 none), (.rsl 108 0 5 none), (.rsl 112 0 5 none), (.rsl 116 0 5 none), (.rsl 120 0 5 none), (.rsl 124 0 5 none), (.rsl 128 0 5 none), (.rsl 132 0 5 none), (.rsl 136 0 5 none), (.rsl 140 0 5 none), (.rsl 144 0 5 none), (.rsl 148 0 5 none), (.rsl 152 0 5 none), (.rsl 156 0 5 none), (.rsl 160 0 5 none), (.rsl 164 0 5 none), (.rsl 168 0 5 none), (.rsl 172 0 5 none), (.rsl 176 0 5 none), (.rsl 180 0 5 none), (.rsl 184 0 5 none), (.rsl 188 0 5 none), (.rsl 192 0 5 none), (.rsl 196 0 5 none), (.rsl 200 0 5 none), (.rsl 204 0 5 none), (.rsl 208 0 5 none)]), (208, [(.int .i64 (.c 0)), (.int .i64 (.c 1)), (.int .i64 (.c 2)), (.int .i64 (.c 3)), (.int .i64 (.c 4))]), (204, [(.int .i64 (.c 0)), (.int .i64 (.c 1)), (.int .i64 (.c 2)), (.int .i64 (.c 3)), (.int .i64 (.c 3))]), (200, [(.int .i64 (.c 0)), (.int .i64 (.c 1)), (.int .i64 (.c 2)), (.int .i64 (.c 3)), (.int .i64 (.c 2))]), (196, [(.int .i64 (.c 0)), (.int .i64 (.c 1)), (.int .i64 (.c 2)), (.int .i64 (.c 3)), (.int .i64 (.c 1))]), (192, [(.int .i64 (.c 0)), (.int .i64 (.c 1)), (.int .i64 (.c 2)), (.int .i64 (.c 3)), (.int .i64 (.c 0))]), (188, [(.int .i64 (.c 0)), (.int .i64 (.c 1)), (.int .i64 (.c 2)), (.int .i64 (.c 2)), (.int .i64 (.c 3))]), (184, [(.int .i64 (.c 0)), (.int .i64 (.c 1)), (.int .i64 (.c 2)), (.int .i64 (.c 2)), (.int .i64 (.c 2))]), (180, [(.int .i64 (.c 0)), (.int .i64 (.c 1)), (.int .i64 (.c 2)), (.int .i64 (.c 2)), (.int .i64 (.c 1))]), (176, [(.int .i64 (.c 0)), (.int .i64 (.c 1)), (.int .i64 (.c 2)), (.int .i64 (.c 2)), (.int .i64 (.c 0))]), (172, [(.int .i64 (.c 0)), (.int .i64 (.c 1)), (.int .i64 (.c 2)), (.int .i64 (.c 1)), (.int .i64 (.c 3))]), (168, [(.int .i64 (.c 0)), (.int .i64 (.c 1)), (.int .i64 (.c 2)), (.int .i64 (.c 1)), (.int .i64 (.c 2))]), (164, [(.int .i64 (.c 0)), (.int .i64 (.c 1)), (.int .i64 (.c 2)), (.int .i64 (.c 1)), (.int .i64 (.c 1))]), (160, [(.int .i64 (.c 0)), (.int .i64 (.c 1)), (.int .i64 (.c 2)), (.int .i64 (.c 1)), (.int .i64 (.c 0))]), (156, [(.int .i64 (.c 0)), (.int .i64 (.c 1)), (.int .i64 (.c 2)), (.int .i64 (.c 0)), (.int .i64 (.c 3))]), (152, [(.int .i64 (.c 0)), (.int .i64 (.c 1)), (.int .i64 (.c 2)), (.int .i64 (.c 0)), (.int .i64 (.c 2))]), (148, [(.int .i64 (.c 0)), (.int .i64 (.c 1)), (.int .i64 (.c 2)), (.int .i64 (.c 0)), (.int .i64 (.c 1))]), (144, [(.int .i64 (.c 0)), (.int .i64 (.c 1)), (.int .i64 (.c 2)), (.int .i64 (.c 0)), (.int .i64 (.c 0))]), (140, [(.int .i64 (.c 0)), (.int .i64 (.c 1)), (.int .i64 (.c 1)), (.int .i64 (.c 2)), (.int .i64 (.c 3))]), (136, [(.int .i64 (.c 0)), (.int .i64 (.c 1)), (.int .i64 (.c 1)), (.int .i64 (.c 2)), (.int .i64 (.c 2))]), (132, [(.int .i64 (.c 0)), (.int .i64 (.c 1)), (.int .i64 (.c 1)), (.int .i64 (.c 2)), (.int .i64 (.c 1))]), (128, [(.int .i64 (.c 0)), (.int .i64 (.c 1)), (.int .i64 (.c 1)), (.int .i64 (.c 2)), (.int .i64 (.c 0))]), (124, [(.int .i64 (.c 0)), (.int .i64 (.c 1)), (.int .i64 (.c 1)), (.int .i64 (.c 1)), (.int .i64 (.c 2))]), (120, [(.int .i64 (.c 0)), (.int .i64 (.c 1)), (.int .i64 (.c 1)), (.int .i64 (.c 1)), (.int .i64 (.c 1))]), (116, [(.int .i64 (.c 0)), (.int .i64 (.c 1)), (.int .i64 (.c 1)), (.int .i64 (.c 1)), (.int .i64 (.c 0))]), (112, [(.int .i64 (.c 0)), (.int .i64 (.c 1)), (.int .i64 (.c 1)), (.int .i64 (.c 0)), (.int .i64 (.c 2))]), (108, [(.int .i64 (.c 0)), (.int .i64 (.c 1)), (.int .i64 (.c 1)), (.int .i64 (.c 0)), (.int .i64 (.c 1))]), (104, [(.int .i64 (.c 0)), (.int .i64 (.c 1)), (.int .i64 (.c 1)), (.int .i64 (.c 0)), (.int .i64 (.c 0))]), (100, [(.int .i64 (.c 0)), (.int .i64 (.c 1)), (.int .i64 (.c 0)), (.int .i64 (.c 2)), (.int .i64 (.c 3))]), (96, [(.int .i64 (.c 0)), (.int .i64 (.c 1)), (.int .i64 (.c 0)), (.int .i64 (.c 2)), (.int .i64 (.c 2))]), (92, [(.int .i64 (.c 0)), (.int .i64 (.c 1)), (.int .i64 (.c 0)), (.int .i64 (.c 2)), (.int .i64 (.c 1))]), (88, [(.int .i64 (.c 0)), (.int .i64 (.c 1)), (.int .i64 (.c 0)), (.int .i64 (.c 2)), (.int .i64 (.c 0))]), (84, [(.int .i64 (.c 0)), (.int .i64 (.c 1)), (.int .i64 (.c 0)), (.int .i64 (.c 1)), (.int .i64 (.c 2))]), (80, [(.int .i64 (.c 0)), (.int .i64 (.c 1)), (.int .i64 (.c 0)), (.int .i64 (.c 1)), (.int .i64 (.c 1))]), (76, [(.int .i64 (.c 0)), (.int .i64 (.c 1)), (.int .i64 (.c 0)), (.int .i64 (.c 1)), (.int .i64 (.c 0))]), (72, [(.int .i64 (.c 0)), (.int .i64 (.c 1)), (.int .i64 (.c 0)), (.int .i64 (.c 0)), (.int .i64 (.c 2))]), (68, [(.int .i64 (.c 0)), (.int .i64 (.c 1)), (.int .i64 (.c 0)), (.int .i64 (.c 0)), (.int .i64 (.c 1))]), (64, [(.int .i64 (.c 0)), (.int .i64 (.c 1)), (.int .i64 (.c 0)), (.int .i64 (.c 0)), (.int .i64 (.c 0))]), (60, [(.int .i64 (.c 0)), (.int .i64 (.c 0)), (.int .i64 (.c 1)), (.int .i64 (.c 2)), (.int .i64 (.c 3))]), (56, [(.int .i64 (.c 0)), (.int .i64 (.c 0)), (.int .i64 (.c 1)), (.int .i64 (.c 2)), (.int .i64 (.c 2))]), (52, [(.int .i64 (.c 0)), (.int .i64 (.c 0)), (.int .i64 (.c 1)), (.int .i64 (.c 2)), (.int .i64 (.c 1))]), (48, [(.int .i64 (.c 0)), (.int .i64 (.c 0)), (.int .i64 (.c 1)), (.int .i64 (.c 2)), (.int .i64 (.c 0))]), (44, [(.int .i64 (.c 0)), (.int .i64 (.c 0)), (.int .i64 (.c 1)), (.int .i64 (.c 1)), (.int .i64 (.c 2))]), (40, [(.int .i64 (.c 0)), (.int .i64 (.c 0)), (.int .i64 (.c 1)), (.int .i64 (.c 1)), (.int .i64 (.c 1))]), (36, [(.int .i64 (.c 0)), (.int .i64 (.c 0)), (.int .i64 (.c 1)), (.int .i64 (.c 1)), (.int .i64 (.c 0))]), (32, [(.int .i64 (.c 0)), (.int .i64 (.c 0)), (.int .i64 (.c 1)), (.int .i64 (.c 0)), (.int .i64 (.c 2))]), (28, [(.int .i64 (.c 0)), (.int .i64 (.c 0)), (.int .i64 (.c 1)), (.int .i64 (.c 0)), (.int .i64 (.c 1))]), (24, [(.int .i64 (.c 0)), (.int .i64 (.c 0)), (.int .i64 (.c 1)), (.int .i64 (.c 0)), (.int .i64 (.c 0))]), (20, [(.int .i64 (.c 0)), (.int .i64 (.c 0)), (.int .i64 (.c 0)), (.int .i64 (.c 1)), (.int .i64 (.c 2))]), (16, [(.int .i64 (.c 0)), (.int .i64 (.c 0)), (.int .i64 (.c 0)), (.int .i64 (.c 1)), (.int .i64 (.c 1))]), (12, [(.int .i64 (.c 0)), (.int .i64 (.c 0)), (.int .i64 (.c 0)), (.int .i64 (.c 1)), (.int .i64 (.c 0))]), (8, [(.int .i64 (.c 0)), (.int .i64 (.c 0)), (.int .i64 (.c 0)), (.int .i64 (.c 0)), (.int .i64 (.c 1))]), (4, [(.int .i64 (.c 0)), (.int .i64 (.c 0)), (.int .i64 (.c 0)), (.int .i64 (.c 0)), (.int .i64 (.c 0))])], 0⟩⟩
set_option maxRecDepth 1000000 in
theorem api5_ok : api5.Ok Try.prog := Summ.of_run noCount mixed (t := t_api4) (n := 200) t_api4_ok (by kernel_rfl)
def t_api5 : List Summ := api5 :: t_api4
theorem t_api5_ok : ∀ e, e ∈ t_api5 → e.Ok Try.prog := by
  intro e he
  rcases List.mem_cons.1 he with rfl | he
  · exact api5_ok
  · exact t_api4_ok e he
def tab : List Summ := t_api5
theorem tab_ok : ∀ e, e ∈ tab → e.Ok Try.prog := t_api5_ok
end Go.Proofs.Ytcpnlgjkijcmhaa.Summs

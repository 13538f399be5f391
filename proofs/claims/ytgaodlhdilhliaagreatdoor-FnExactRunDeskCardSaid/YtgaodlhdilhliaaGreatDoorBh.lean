/-
  Lines that are answered: the law of each list of lines. No condition.
-/
import Derived.Test.YtgaodlhdilhliaaGreatDoorRows
import Derived.Test.YtgaodlhdilhliaaGreatDoorSym
import Derived.Test.YtgaodlhdilhliaaGreatDoorSymD
import Derived.Test.YtgaodlhdilhliaaGreatDoorSymE
import Derived.Test.YtgaodlhdilhliaaGreatDoorSymF
import Derived.Test.YtgaodlhdilhliaaGreatDoorIds
import Derived.Test.YtgaodlhdilhliaaGreatDoorSh
import Derived.Test.YtgaodlhdilhliaaGreatDoorShB
import Derived.Test.YtgaodlhdilhliaaGreatDoorSt
import Derived.Test.YtgaodlhdilhliaaGreatDoorSp
import Derived.Test.YtgaodlhdilhliaaGreatDoorTel
import Derived.Test.YtgaodlhdilhliaaGreatDoorNum
import Derived.Test.YtgaodlhdilhliaaGreatDoorDraw
import Derived.Test.YtgaodlhdilhliaaGreatDoorTx
import Derived.Test.YtgaodlhdilhliaaGreatDoorTy
import Derived.Test.YtgaodlhdilhliaaGreatDoorTg
import Derived.Test.YtgaodlhdilhliaaGreatDoorPb
import Derived.Test.YtgaodlhdilhliaaGreatDoorPd
import Derived.Test.YtgaodlhdilhliaaGreatDoorBe
import Derived.Test.YtgaodlhdilhliaaGreatDoorBf
import Derived.Test.YtgaodlhdilhliaaGreatDoorBg
import Derived.WalkKit
import Derived.ProofKit
import Derived.OpenShut
namespace Go.Proofs.YtgaodlhdilhliaaGreatDoor.St
open Go.ChangeShapes Go.WideShapes Go.ChangeAt Go.RowKit Go.Sx Go.Proofs.YtgaodlhdilhliaaGreatDoor.Ids
set_option linter.unusedVariables false
set_option linter.unusedSimpArgs false

attribute [local simp] aops wants aop apure St.eval setTm_some setTm_none Tr.get_set evals pevals apureB alen tiS tiI tiB tiSs tiStr abin aint isCmp sym_lt sym_eqs sym_neqs sym_eq sym_neq sym_gtr sym_leq sym_geq sym_add sym_sub sym_mul aeff aeffB idx? ofV aindexAddr aindex aggDesc aifc_int aun aifc_str
set_option maxRecDepth 10000 in
theorem law_rd (xs : List ByteArray) (hl : xs.length ≤ 9223372036854775807) (hx : ∀ x, x ∈ xs → x.size ≤ 9223372036854775807) : ∃ r, symRun Tryz.prog KD [] 1048601 4 [.slice (strs xs)] ⟨0, [], 0⟩ = some r ∧ r.1 = .bool true := by
  generalize hN : 1048600 = N
  have hN2 : 1048601 = N + 1 := by omega
  rw [hN2]
  refine own_run2 (n := N) (by rfl) Tryz.func4 rfl rfl ?_
  simp only [Tryz.f4]
  have w0 : Wst ⟨0, [], 0⟩ := ⟨trivial, Nat.le_refl _⟩
  obtain ⟨r, c1, hr⟩ := szRun xs hl hx w0 N (by omega)
  by_cases hneg : r < 0
  · repeat' (first | refine Wp.seq ?_ | refine Wp.block ?_ | (apply Wp.region; focus ((try simp [setArgs, c1, hneg]) <;> rfl)) | (refine Wp.cond_t ?_ ?_; focus (simp [setArgs, c1, hneg]; done)) | (refine Wp.cond_f ?_ ?_; focus (simp [setArgs, c1, hneg]; done)) | refine Wp.skip ?_ | refine Wp.ret ?_ | refine Wp.exit ?_ | refine Blk.here ?_ | (refine Blk.past ?_ ?_; focus (simp; done)))
    exact ⟨rfl, answer_trim1 (v := .bool true) (by simp) rfl⟩
  obtain ⟨_, hl2, hx2⟩ := hr.resolve_left hneg
  have c2 := toRun xs hl2 w0 N (by omega)
  have w1 : Wst ⟨(⟨0, [], 0⟩ : Sto Sy).next + 1, ((⟨0, [], 0⟩ : Sto Sy).next, strs xs) :: (⟨0, [], 0⟩ : Sto Sy).obs, (⟨0, [], 0⟩ : Sto Sy).low⟩ := ⟨⟨Nat.lt_succ_self _, trivial⟩, Nat.zero_le _⟩
  have o1 : Go.Sx.look (⟨(⟨0, [], 0⟩ : Sto Sy).next + 1, ((⟨0, [], 0⟩ : Sto Sy).next, strs xs) :: (⟨0, [], 0⟩ : Sto Sy).obs, (⟨0, [], 0⟩ : Sto Sy).low⟩ : Sto Sy).obs 0 = some (strs xs) := by
    show Go.Sx.look ((0, strs xs) :: []) 0 = _
    rw [look_cons, if_pos rfl]
  generalize (⟨(⟨0, [], 0⟩ : Sto Sy).next + 1, ((⟨0, [], 0⟩ : Sto Sy).next, strs xs) :: (⟨0, [], 0⟩ : Sto Sy).obs, (⟨0, [], 0⟩ : Sto Sy).low⟩ : Sto Sy) = S1 at c2 w1 o1
  have hNe : N = (N - 1) + 1 := by omega
  obtain ⟨S2, c3, g2⟩ := c_sr (n := xs.length) (Nat.le_refl _) hx2 (by omega) w1 (cap := some xs.length) o1 (N - 1)
  rw [← hNe, List.take_length] at c3
  have w2 := g2.wst
  have c4 := toRun xs hl2 w2 N (by omega)
  have w3 : Wst ⟨S2.next + 1, (S2.next, strs xs) :: S2.obs, S2.low⟩ := ⟨⟨Nat.lt_succ_self _, w2.desc⟩, Nat.le_succ_of_le w2.low⟩
  have o3 : Go.Sx.look (⟨S2.next + 1, (S2.next, strs xs) :: S2.obs, S2.low⟩ : Sto Sy).obs S2.next = some (strs xs) := by
    show Go.Sx.look ((S2.next, strs xs) :: S2.obs) S2.next = _
    rw [look_cons, if_pos rfl]
  have n3 : S2.next < (⟨S2.next + 1, (S2.next, strs xs) :: S2.obs, S2.low⟩ : Sto Sy).next := Nat.lt_succ_self _
  generalize (⟨S2.next + 1, (S2.next, strs xs) :: S2.obs, S2.low⟩ : Sto Sy) = S3 at c4 w3 o3 n3
  have c5 := c_ir (n := xs.length) (Nat.le_refl _) hx2 (by omega) w3 (cap := some xs.length) o3 (N - 1) (.inr ⟨_, rfl, Nat.le_refl _⟩)
  rw [← hNe, List.take_length] at c5
  have c6 := toRun xs hl2 w3 N (by omega)
  have w4 : Wst ⟨S3.next + 1, (S3.next, strs xs) :: S3.obs, S3.low⟩ := ⟨⟨Nat.lt_succ_self _, w3.desc⟩, Nat.le_succ_of_le w3.low⟩
  have o4 : Go.Sx.look (⟨S3.next + 1, (S3.next, strs xs) :: S3.obs, S3.low⟩ : Sto Sy).obs S3.next = some (strs xs) := by
    show Go.Sx.look ((S3.next, strs xs) :: S3.obs) S3.next = _
    rw [look_cons, if_pos rfl]
  have o5 : Go.Sx.look (⟨S3.next + 1, (S3.next, strs xs) :: S3.obs, S3.low⟩ : Sto Sy).obs S2.next = some (strs xs) := by
    show Go.Sx.look ((S3.next, strs xs) :: S3.obs) S2.next = _
    rw [look_cons, if_neg (by omega)]
    exact o3
  generalize (⟨S3.next + 1, (S3.next, strs xs) :: S3.obs, S3.low⟩ : Sto Sy) = S4 at c6 w4 o4 o5
  have c7 := eqRun xs hl2 w4 (c1 := some xs.length) (c2 := some xs.length) o5 o4 N (by omega)
  have e0 : (⟨0, [], 0⟩ : Sto Sy).next = 0 := rfl
  rw [e0] at c2
  clear o1 o3 o4 o5
  generalize xs.length = n at c2 c3 c4 c5 c6 c7
  generalize deskV xs = y at c3 c5
  repeat' (first | refine Wp.seq ?_ | refine Wp.block ?_ | (apply Wp.region; focus ((try simp [setArgs, c1, hneg, c2, c3, c4, c5, c6, c7]) <;> rfl)) | (refine Wp.cond_t ?_ ?_; focus (simp [setArgs, c1, hneg, c2, c3, c4, c5, c6, c7]; done)) | (refine Wp.cond_f ?_ ?_; focus (simp [setArgs, c1, hneg, c2, c3, c4, c5, c6, c7]; done)) | refine Wp.skip ?_ | refine Wp.ret ?_ | refine Wp.exit ?_ | refine Blk.here ?_ | (refine Blk.past ?_ ?_; focus (simp; done)))
  exact ⟨rfl, answer_trim1 (v := .bool true) (by simp) rfl⟩
end Go.Proofs.YtgaodlhdilhliaaGreatDoor.St

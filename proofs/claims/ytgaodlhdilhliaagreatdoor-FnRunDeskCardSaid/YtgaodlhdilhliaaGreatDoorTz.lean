/-
  Texts of series: the law, by a run by hand. No condition.
-/
import Derived.Test.YtgaodlhdilhliaaGreatDoorRows
import Derived.Test.YtgaodlhdilhliaaGreatDoorSym
import Derived.Test.YtgaodlhdilhliaaGreatDoorSymD
import Derived.Test.YtgaodlhdilhliaaGreatDoorSymE
import Derived.Test.YtgaodlhdilhliaaGreatDoorSymF
import Derived.Test.YtgaodlhdilhliaaGreatDoorIds
import Derived.Test.YtgaodlhdilhliaaGreatDoorSh
import Derived.Test.YtgaodlhdilhliaaGreatDoorSt
import Derived.Test.YtgaodlhdilhliaaGreatDoorTel
import Derived.Test.YtgaodlhdilhliaaGreatDoorNum
import Derived.Test.YtgaodlhdilhliaaGreatDoorTx
import Derived.Test.YtgaodlhdilhliaaGreatDoorTy
import Derived.WalkKit
import Derived.ProofKit
import Derived.OpenShut
namespace Go.Proofs.YtgaodlhdilhliaaGreatDoor.St
open Go.ChangeShapes Go.WideShapes Go.ChangeAt Go.RowKit Go.Sx Go.Proofs.YtgaodlhdilhliaaGreatDoor.Ids
set_option linter.unusedVariables false
set_option linter.unusedSimpArgs false

noncomputable def txt (zs : List Int) : ByteArray := if validP 600 zs then joinB (zs.map textZ) comma else ⟨#[]⟩
theorem consts_rsl {S : Sto Sy} {q : Nat} {zs : List Int} (h : Go.Sx.look S.obs q = some (ints (nums zs))) : constsOf S (.rsl q 0 zs.length none) = some zs := by
  have hle : S.elems (.rsl q 0 zs.length none) = some (ints (nums zs)) := by
    simp only [Sto.elems, Sto.cells, lookC_ints h]
    simp [List.take_of_length_le]
  simp only [constsOf, hle, numsOf_nums, capOk, bite_true, consts_of]
theorem consts_cap {S : Sto Sy} {q : Nat} {zs : List Int} {cp : Option Nat} (hcp : cp = none ∨ cp = some zs.length) (h : Go.Sx.look S.obs q = some (ints (nums zs))) : constsOf S (.rsl q 0 zs.length cp) = some zs := by
  have hle : S.elems (.rsl q 0 zs.length cp) = some (ints (nums zs)) := by
    simp only [Sto.elems, Sto.cells, lookC_ints h]
    simp [List.take_of_length_le]
  have hc : capOk (.rsl q 0 zs.length cp : V Sy) = true := by
    rcases hcp with rfl | rfl
    · rfl
    · simp [capOk]
  simp only [constsOf, hle, numsOf_nums, hc, bite_true, consts_of]
theorem consts_arg (S : Sto Sy) (zs : List Int) : constsOf S (.slice (ints (nums zs))) = some zs := by
  have hle : S.elems (.slice (ints (nums zs))) = some (ints (nums zs)) := rfl
  simp only [constsOf, hle, numsOf_nums, capOk, bite_true, consts_of]
theorem desc_up {n m : Nat} {l : List (Nat × Ob Sy)} (h : Desc n l) (hm : n ≤ m) : Desc m l := by
  cases l with
  | nil => trivial
  | cons p r => obtain ⟨o, b⟩ := p; exact ⟨Nat.lt_of_lt_of_le h.1 hm, h.2⟩
attribute [local simp] aops wants aop apure St.eval setTm_some setTm_none Tr.get_set evals pevals apureB alen tiS tiI tiB abin aint isCmp sym_lt sym_eqs sym_neqs sym_eq sym_neq sym_gtr sym_leq sym_geq sym_add sym_sub sym_mul aeff aeffB idx? ofV aindexAddr aggDesc aifc_int aun aifc_str
set_option maxRecDepth 10000 in
theorem implST (zs : List Int) (hl9 : zs.length ≤ 1048576) (hn : Nm zs) {S : Sto Sy} (hS : Wst S) {q : Nat} {cp : Option Nat} (hcp : cp = none ∨ cp = some zs.length) (hl : Go.Sx.look S.obs q = some (ints (nums zs))) (f : Nat) (hf : 40 ≤ f) :
    ∃ n', S.next ≤ n' ∧ acallV (symIn Tryz.prog KL [] f) S (.func 58 [] []) [.rsl q 0 zs.length cp] = some (.str (txt zs), ⟨n', S.obs, S.low⟩) := by
  obtain ⟨g, rfl⟩ : ∃ g, f = g + 1 := ⟨f - 1, by omega⟩
  have hS0 : Wst ⟨S.next, S.obs, S.next⟩ := ⟨hS.desc, Nat.le_refl _⟩
  have hv := c_vi hS0 g (by omega) (x := .rsl q 0 zs.length cp) (zs := zs) (consts_cap (S := ⟨S.next, S.obs, S.next⟩) hcp hl) hl9 hn
  by_cases h : validP 600 zs
  · refine ⟨S.next + 1, Nat.le_succ _, call_run1 hS ?_⟩
    rw [decide_eq_true h] at hv
    have ht := implText zs h.1 h.2.1 h.2.2 hS0 (q := q) (cp := cp) hl g (by omega)
    have e : joinB (zs.map textZ) comma = txt zs := by unfold txt; rw [if_pos h]
    rw [e] at ht
    have htr : Sto.trim S.next (.str (txt zs)) (⟨S.next + 1, S.obs, S.next⟩ : Sto Sy) = ⟨S.next + 1, S.obs, S.next⟩ := by
      unfold Sto.trim
      rw [if_neg (by rw [Nat.blt_eq]; show ¬ S.next < S.next; omega)]
      simp only [V.refs, dropNew_id hS.desc]
    refine own_run (by rfl) Tryz.func58 rfl rfl ?_
    simp only [Tryz.f58]
    generalize h0 : (⟨S.next, S.obs, S.next⟩ : Sto Sy) = S0 at hv ht ⊢
    repeat' (first | refine Wp.seq ?_ | refine Wp.block ?_ | (apply Wp.region; focus ((try simp [setArgs, hv, ht]) <;> rfl)) | (refine Wp.cond_t ?_ ?_; focus (simp [setArgs, hv, ht]; done)) | (refine Wp.cond_f ?_ ?_; focus (simp [setArgs, hv, ht]; done)) | refine Wp.skip ?_ | refine Wp.ret ?_ | refine Wp.exit ?_ | refine Blk.here ?_ | (refine Blk.past ?_ ?_; focus (simp; done)))
    refine ⟨rfl, ?_⟩
    simp [answer, aresults, aresult]
    subst h0
    exact htr
  · refine ⟨S.next, Nat.le_refl _, ?_⟩
    have e : txt zs = ⟨#[]⟩ := by unfold txt; rw [if_neg h]
    rw [e]
    rw [decide_eq_false h] at hv
    refine (call_run hS ?_).trans rfl
    refine own_run (by rfl) Tryz.func58 rfl rfl ?_
    simp only [Tryz.f58]
    generalize h0 : (⟨S.next, S.obs, S.next⟩ : Sto Sy) = S0 at hv hS0 ⊢
    repeat' (first | refine Wp.seq ?_ | refine Wp.block ?_ | (apply Wp.region; focus ((try simp [setArgs, hv]) <;> rfl)) | (refine Wp.cond_t ?_ ?_; focus (simp [setArgs, hv]; done)) | (refine Wp.cond_f ?_ ?_; focus (simp [setArgs, hv]; done)) | refine Wp.skip ?_ | refine Wp.ret ?_ | refine Wp.exit ?_ | refine Blk.here ?_ | (refine Blk.past ?_ ?_; focus (simp; done)))
    refine ⟨rfl, ?_⟩
    simp [answer, aresults, aresult]
    subst h0
    exact trim_plain hS0.desc rfl
end Go.Proofs.YtgaodlhdilhliaaGreatDoor.St

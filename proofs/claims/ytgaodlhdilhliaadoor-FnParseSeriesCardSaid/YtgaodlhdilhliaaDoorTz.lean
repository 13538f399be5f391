/-
  Texts of series: the law, by a run by hand. No condition.
-/
import Derived.Test.YtgaodlhdilhliaaDoorRows
import Derived.Test.YtgaodlhdilhliaaDoorSym
import Derived.Test.YtgaodlhdilhliaaDoorSymD
import Derived.Test.YtgaodlhdilhliaaDoorSymE
import Derived.Test.YtgaodlhdilhliaaDoorSymF
import Derived.Test.YtgaodlhdilhliaaDoorIds
import Derived.Test.YtgaodlhdilhliaaDoorSh
import Derived.Test.YtgaodlhdilhliaaDoorSt
import Derived.Test.YtgaodlhdilhliaaDoorTel
import Derived.Test.YtgaodlhdilhliaaDoorNum
import Derived.Test.YtgaodlhdilhliaaDoorTx
import Derived.Test.YtgaodlhdilhliaaDoorTy
import Derived.WalkKit
import Derived.ProofKit
import Derived.OpenShut
namespace Go.Proofs.YtgaodlhdilhliaaDoor.St
open Go.ChangeShapes Go.WideShapes Go.ChangeAt Go.RowKit Go.Sx Go.Proofs.YtgaodlhdilhliaaDoor.Ids
set_option linter.unusedVariables false
set_option linter.unusedSimpArgs false

noncomputable def txt (zs : List Int) : ByteArray := if validP 600 zs then joinB (zs.map textZ) comma else ⟨#[]⟩
theorem consts_rsl {S : Sto Sy} {q : Nat} {zs : List Int} (h : Go.Sx.look S.obs q = some (ints (nums zs))) : constsOf S (.rsl q 0 zs.length none) = some zs := by
  have hle : S.elems (.rsl q 0 zs.length none) = some (ints (nums zs)) := by
    simp only [Sto.elems, Sto.cells, lookC_ints h]
    simp [List.take_of_length_le]
  simp only [constsOf, hle, numsOf_nums, capOk, bite_true, consts_of]
theorem consts_cap {S : Sto Sy} {q : Nat} {zs : List Int} {cp : Option Nat} (hcp : cp = none ∨ cp = some zs.length) (h : Go.Sx.look S.obs q = some (ints (nums zs))) : constsOf S (.rsl q 0 zs.length cp) = some zs := by
  have hle : S.elems (.rsl q 0 zs.length cp) = some (ints (nums zs)) := by
    simp only [Sto.elems, Sto.cells, lookC_ints h]
    simp [List.take_of_length_le]
  have hc : capOk (.rsl q 0 zs.length cp : V Sy) = true := by
    rcases hcp with rfl | rfl
    · rfl
    · simp [capOk]
  simp only [constsOf, hle, numsOf_nums, hc, bite_true, consts_of]
theorem consts_arg (S : Sto Sy) (zs : List Int) : constsOf S (.slice (ints (nums zs))) = some zs := by
  have hle : S.elems (.slice (ints (nums zs))) = some (ints (nums zs)) := rfl
  simp only [constsOf, hle, numsOf_nums, capOk, bite_true, consts_of]
theorem desc_up {n m : Nat} {l : List (Nat × Ob Sy)} (h : Desc n l) (hm : n ≤ m) : Desc m l := by
  cases l with
  | nil => trivial
  | cons p r => obtain ⟨o, b⟩ := p; exact ⟨Nat.lt_of_lt_of_le h.1 hm, h.2⟩
attribute [local simp] aops wants aop apure St.eval setTm_some setTm_none Tr.get_set evals pevals apureB alen tiS tiI tiB abin aint isCmp sym_lt sym_eqs sym_neqs sym_eq sym_neq sym_gtr sym_leq sym_geq sym_add sym_sub sym_mul aeff aeffB idx? ofV aindexAddr aggDesc aifc_int aun aifc_str
set_option maxRecDepth 10000 in
theorem specST (zs : List Int) (hl9 : zs.length ≤ 1048576) {S : Sto Sy} (hS : Wst S) {q : Nat} {cp : Option Nat} (hcp : cp = none ∨ cp = some zs.length) (hl : Go.Sx.look S.obs q = some (ints (nums zs))) (f : Nat) (hf : 40 ≤ f) :
    acallV (symIn Tryd.prog KL [] f) S (.func 9 [] []) [.rsl q 0 zs.length cp] = some (.str (txt zs), S) := by
  refine call_run hS ?_
  obtain ⟨g, rfl⟩ : ∃ g, f = g + 1 := ⟨f - 1, by omega⟩
  have hS0 : Wst ⟨S.next, S.obs, S.next⟩ := ⟨hS.desc, Nat.le_refl _⟩
  generalize hS1 : (⟨S.next, S.obs, S.next⟩ : Sto Sy) = S1 at hS0
  have hl1 : Go.Sx.look S1.obs q = some (ints (nums zs)) := by rw [← hS1]; exact hl
  have hn1 : S1.low = S1.next := by rw [← hS1]
  refine own_run (by rfl) Tryd.func9 rfl rfl ?_
  simp only [Tryd.f9]
  have hv := c_vs hS0 g (by omega) (x := .rsl q 0 zs.length cp) (zs := zs) (consts_cap hcp hl1) hl9
  by_cases h : validP 600 zs
  · rw [decide_eq_true h] at hv
    have ht := specText zs h.1 h.2.2 hS0 (cp := cp) hl1 g (by omega)
    have e : accT zs zs.length = txt zs := by
      have e := acc_join zs zs.length (Nat.le_refl _)
      rw [List.take_length] at e
      rw [e]; unfold txt; rw [if_pos h]
    rw [e] at ht
    repeat' (first | refine Wp.seq ?_ | refine Wp.block ?_ | (apply Wp.region; focus ((try simp [setArgs, hv, ht]) <;> rfl)) | (refine Wp.cond_t ?_ ?_; focus (simp [setArgs, hv, ht]; done)) | (refine Wp.cond_f ?_ ?_; focus (simp [setArgs, hv, ht]; done)) | refine Wp.skip ?_ | refine Wp.ret ?_ | refine Wp.exit ?_ | refine Blk.here ?_ | (refine Blk.past ?_ ?_; focus (simp; done)))
    refine ⟨rfl, ?_⟩
    simp [answer, aresults, aresult]
    exact trim_plain hS0.desc rfl
  · rw [decide_eq_false h] at hv
    have e : txt zs = ⟨#[]⟩ := by unfold txt; rw [if_neg h]
    rw [e]
    repeat' (first | refine Wp.seq ?_ | refine Wp.block ?_ | (apply Wp.region; focus ((try simp [setArgs, hv]) <;> rfl)) | (refine Wp.cond_t ?_ ?_; focus (simp [setArgs, hv]; done)) | (refine Wp.cond_f ?_ ?_; focus (simp [setArgs, hv]; done)) | refine Wp.skip ?_ | refine Wp.ret ?_ | refine Wp.exit ?_ | refine Blk.here ?_ | (refine Blk.past ?_ ?_; focus (simp; done)))
    refine ⟨rfl, ?_⟩
    simp [answer, aresults, aresult]
    exact trim_plain hS0.desc rfl
set_option maxRecDepth 10000 in
theorem implST (zs : List Int) (hl9 : zs.length ≤ 1048576) (hn : Nm zs) {S : Sto Sy} (hS : Wst S) {q : Nat} {cp : Option Nat} (hcp : cp = none ∨ cp = some zs.length) (hl : Go.Sx.look S.obs q = some (ints (nums zs))) (f : Nat) (hf : 40 ≤ f) :
    ∃ n', S.next ≤ n' ∧ acallV (symIn Tryd.prog KL [] f) S (.func 8 [] []) [.rsl q 0 zs.length cp] = some (.str (txt zs), ⟨n', S.obs, S.low⟩) := by
  obtain ⟨g, rfl⟩ : ∃ g, f = g + 1 := ⟨f - 1, by omega⟩
  have hS0 : Wst ⟨S.next, S.obs, S.next⟩ := ⟨hS.desc, Nat.le_refl _⟩
  have hv := c_vi hS0 g (by omega) (x := .rsl q 0 zs.length cp) (zs := zs) (consts_cap (S := ⟨S.next, S.obs, S.next⟩) hcp hl) hl9 hn
  by_cases h : validP 600 zs
  · refine ⟨S.next + 1, Nat.le_succ _, call_run1 hS ?_⟩
    rw [decide_eq_true h] at hv
    have ht := implText zs h.1 h.2.1 h.2.2 hS0 (q := q) (cp := cp) hl g (by omega)
    have e : joinB (zs.map textZ) comma = txt zs := by unfold txt; rw [if_pos h]
    rw [e] at ht
    have htr : Sto.trim S.next (.str (txt zs)) (⟨S.next + 1, S.obs, S.next⟩ : Sto Sy) = ⟨S.next + 1, S.obs, S.next⟩ := by
      unfold Sto.trim
      rw [if_neg (by rw [Nat.blt_eq]; show ¬ S.next < S.next; omega)]
      simp only [V.refs, dropNew_id hS.desc]
    refine own_run (by rfl) Tryd.func8 rfl rfl ?_
    simp only [Tryd.f8]
    generalize h0 : (⟨S.next, S.obs, S.next⟩ : Sto Sy) = S0 at hv ht ⊢
    repeat' (first | refine Wp.seq ?_ | refine Wp.block ?_ | (apply Wp.region; focus ((try simp [setArgs, hv, ht]) <;> rfl)) | (refine Wp.cond_t ?_ ?_; focus (simp [setArgs, hv, ht]; done)) | (refine Wp.cond_f ?_ ?_; focus (simp [setArgs, hv, ht]; done)) | refine Wp.skip ?_ | refine Wp.ret ?_ | refine Wp.exit ?_ | refine Blk.here ?_ | (refine Blk.past ?_ ?_; focus (simp; done)))
    refine ⟨rfl, ?_⟩
    simp [answer, aresults, aresult]
    subst h0
    exact htr
  · refine ⟨S.next, Nat.le_refl _, ?_⟩
    have e : txt zs = ⟨#[]⟩ := by unfold txt; rw [if_neg h]
    rw [e]
    rw [decide_eq_false h] at hv
    refine (call_run hS ?_).trans rfl
    refine own_run (by rfl) Tryd.func8 rfl rfl ?_
    simp only [Tryd.f8]
    generalize h0 : (⟨S.next, S.obs, S.next⟩ : Sto Sy) = S0 at hv hS0 ⊢
    repeat' (first | refine Wp.seq ?_ | refine Wp.block ?_ | (apply Wp.region; focus ((try simp [setArgs, hv]) <;> rfl)) | (refine Wp.cond_t ?_ ?_; focus (simp [setArgs, hv]; done)) | (refine Wp.cond_f ?_ ?_; focus (simp [setArgs, hv]; done)) | refine Wp.skip ?_ | refine Wp.ret ?_ | refine Wp.exit ?_ | refine Blk.here ?_ | (refine Blk.past ?_ ?_; focus (simp; done)))
    refine ⟨rfl, ?_⟩
    simp [answer, aresults, aresult]
    subst h0
    exact trim_plain hS0.desc rfl
set_option maxRecDepth 10000 in
theorem law_st (zs : List Int) (hn : Nm zs) : ∃ r, symRun Tryd.prog KL [] 101 5 [.slice (ints (nums zs))] ⟨0, [], 0⟩ = some r ∧ r.1 = .bool true := by
  refine own_run2 (n := 100) (by rfl) Tryd.func5 rfl rfl ?_
  simp only [Tryd.f5]
  by_cases hbig : (1048576 : Int) < zs.length
  · repeat' (first | refine Wp.seq ?_ | refine Wp.block ?_ | (apply Wp.region; focus ((try simp [setArgs, hbig]) <;> rfl)) | (refine Wp.cond_t ?_ ?_; focus (simp [setArgs, hbig]; done)) | (refine Wp.cond_f ?_ ?_; focus (simp [setArgs, hbig]; done)) | refine Wp.skip ?_ | refine Wp.ret ?_ | refine Wp.exit ?_ | refine Blk.here ?_ | (refine Blk.past ?_ ?_; focus (simp; done)))
    exact ⟨rfl, answer_trim1 (v := .bool true) (by simp) rfl⟩
  have hl9 : zs.length ≤ 1048576 := by omega
  have c1 := c_copy (S := ⟨0, [], 0⟩) ⟨trivial, Nat.le_refl _⟩ 100 (by omega) (consts_arg _ zs) hl9
  obtain ⟨S1, hS1⟩ : ∃ S1 : Sto Sy, S1 = ⟨0 + 1, [(0, ints (nums zs))], 0⟩ := ⟨_, rfl⟩
  have c1 : acallV (symIn Tryd.prog KL [] 100) ⟨0, [], 0⟩ (.func 15 [] []) [.slice (ints (nums zs))] = some (.rsl 0 0 zs.length none, S1) := by rw [hS1]; exact c1
  have w1 : Wst S1 := by rw [hS1]; exact ⟨⟨Nat.lt_succ_self _, trivial⟩, Nat.zero_le _⟩
  have l1 : Go.Sx.look S1.obs 0 = some (ints (nums zs)) := by rw [hS1]; rfl
  have n1 : S1.next = 1 := by rw [hS1]
  have c2 := specST zs hl9 w1 (cp := none) (.inl rfl) l1 100 (by omega)
  have c3 := c_copy w1 100 (by omega) (consts_arg _ zs) hl9
  obtain ⟨S3, hS3⟩ : ∃ S3 : Sto Sy, S3 = ⟨S1.next + 1, (S1.next, ints (nums zs)) :: S1.obs, S1.low⟩ := ⟨_, rfl⟩
  rw [← hS3] at c3
  have w3 : Wst S3 := by rw [hS3]; exact ⟨⟨Nat.lt_succ_self _, w1.desc⟩, Nat.le_succ_of_le w1.low⟩
  have l3 : Go.Sx.look S3.obs S1.next = some (ints (nums zs)) := by rw [hS3, look_cons, if_pos rfl]
  obtain ⟨n4, hn4, c4⟩ := implST zs hl9 hn w3 (cp := none) (.inl rfl) l3 100 (by omega)
  obtain ⟨S4, hS4⟩ : ∃ S4 : Sto Sy, S4 = ⟨n4, S3.obs, S3.low⟩ := ⟨_, rfl⟩
  rw [← hS4] at c4
  have w4 : Wst S4 := by rw [hS4]; exact ⟨desc_up w3.desc hn4, Nat.le_trans w3.low hn4⟩
  have l4 : Go.Sx.look S4.obs S1.next = some (ints (nums zs)) := by rw [hS4]; exact l3
  have c5 := c_copy w4 100 (by omega) (consts_arg _ zs) hl9
  obtain ⟨S5, hS5⟩ : ∃ S5 : Sto Sy, S5 = ⟨S4.next + 1, (S4.next, ints (nums zs)) :: S4.obs, S4.low⟩ := ⟨_, rfl⟩
  rw [← hS5] at c5
  have w5 : Wst S5 := by rw [hS5]; exact ⟨⟨Nat.lt_succ_self _, w4.desc⟩, Nat.le_succ_of_le w4.low⟩
  have l5 : Go.Sx.look S5.obs S4.next = some (ints (nums zs)) := by rw [hS5, look_cons, if_pos rfl]
  have l5' : Go.Sx.look S5.obs S1.next = some (ints (nums zs)) := by
    have := w4.desc.look_lt l4
    rw [hS5, look_cons, if_neg (by omega)]; exact l4
  have c6 := c_same w5 100 (by omega) (consts_rsl (S := ⟨S5.next, S5.obs, S5.next⟩) l5') (consts_rsl (S := ⟨S5.next, S5.obs, S5.next⟩) l5) hl9
  clear hS1 hS3 hS4 hS5
  rw [n1] at c3 c4 c6
  repeat' (first | refine Wp.seq ?_ | refine Wp.block ?_ | (apply Wp.region; focus ((try simp [setArgs, hbig, c1, c2, c3, c4, c5, c6]) <;> rfl)) | (refine Wp.cond_t ?_ ?_; focus (simp [setArgs, hbig, c1, c2, c3, c4, c5, c6]; done)) | (refine Wp.cond_f ?_ ?_; focus (simp [setArgs, hbig, c1, c2, c3, c4, c5, c6]; done)) | refine Wp.skip ?_ | refine Wp.ret ?_ | refine Wp.exit ?_ | refine Blk.here ?_ | (refine Blk.past ?_ ?_; focus (simp; done)))
  exact ⟨rfl, answer_trim1 (v := .bool true) (by simp) rfl⟩
end Go.Proofs.YtgaodlhdilhliaaDoor.St

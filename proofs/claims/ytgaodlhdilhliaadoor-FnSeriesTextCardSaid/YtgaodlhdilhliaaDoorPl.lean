/-
  Texts of series: the law of what is promised, by a run by hand. No condition.
-/
import Derived.Test.YtgaodlhdilhliaaDoorRows
import Derived.Test.YtgaodlhdilhliaaDoorSym
import Derived.Test.YtgaodlhdilhliaaDoorSymD
import Derived.Test.YtgaodlhdilhliaaDoorSymE
import Derived.Test.YtgaodlhdilhliaaDoorSymF
import Derived.Test.YtgaodlhdilhliaaDoorIds
import Derived.Test.YtgaodlhdilhliaaDoorSh
import Derived.Test.YtgaodlhdilhliaaDoorShB
import Derived.Test.YtgaodlhdilhliaaDoorSt
import Derived.Test.YtgaodlhdilhliaaDoorSp
import Derived.Test.YtgaodlhdilhliaaDoorTel
import Derived.Test.YtgaodlhdilhliaaDoorNum
import Derived.Test.YtgaodlhdilhliaaDoorDraw
import Derived.Test.YtgaodlhdilhliaaDoorDrawC
import Derived.Test.YtgaodlhdilhliaaDoorTx
import Derived.Test.YtgaodlhdilhliaaDoorTy
import Derived.Test.YtgaodlhdilhliaaDoorTz
import Derived.Test.YtgaodlhdilhliaaDoorSj
import Derived.Test.YtgaodlhdilhliaaDoorAt
import Derived.Test.YtgaodlhdilhliaaDoorPa
import Derived.WalkKit
import Derived.ProofKit
import Derived.OpenShut
namespace Go.Proofs.YtgaodlhdilhliaaDoor.St
open Go.ChangeShapes Go.WideShapes Go.ChangeAt Go.RowKit Go.Sx Go.Proofs.YtgaodlhdilhliaaDoor.Ids
set_option linter.unusedVariables false
set_option linter.unusedSimpArgs false

attribute [local simp] aops wants aop apure St.eval setTm_some setTm_none Tr.get_set evals pevals apureB alen tiS tiI tiB Draw.tiY Draw.tiU abin aint isCmp sym_lt sym_eqs sym_neqs sym_eq sym_neq sym_gtr sym_leq sym_geq sym_add sym_sub sym_mul aeff aeffB idx? ofV aindexAddr aggDesc aifc_int aun aifc_str u8s_length
theorem text_pos {z : Int} (h : -600 ≤ z ∧ z ≤ 600) : 1 ≤ (textZ z).data.toList.length := by
  unfold textZ
  show 1 ≤ (Lib.itoa z).length
  unfold Lib.itoa
  split
  · simp
  · rw [digN_eq (by omega), List.length_map]
    unfold digN
    rw [bite_eq, bite_eq]
    split
    · simp
    · split <;> simp
theorem txt_pos {zs : List Int} (h : validP 600 zs) : 1 ≤ (txt zs).size := by
  have e2 : txt zs = joinB (zs.map textZ) comma := by unfold txt; rw [if_pos h]
  rw [e2, size_list]
  cases zs with
  | nil => have := h.2.1; simp at this
  | cons z r =>
    have hp := text_pos (h.1 z (by simp))
    show 1 ≤ (Lib.join (((z :: r).map textZ).map (·.data.toList)) comma.data.toList).length
    rw [List.map_cons, List.map_cons, Lib.join_cons, List.length_append]
    omega
theorem ba_len (s : ByteArray) : s.toList.length = s.size := by rw [Lib.toList_data, size_list]
theorem txt_ne {zs : List Int} (h : validP 600 zs) : (txt zs).toList.isEmpty = false := by
  have hs := txt_pos h
  have hl := ba_len (txt zs)
  cases e : (txt zs).toList with
  | nil => rw [e] at hl; simp at hl; omega
  | cons a r => rfl
theorem call_keep {k : FuncId} {args : List (V Sy)} {S : Sto Sy} {r : V Sy × Sto Sy} {n : Nat} (hS : Wst S) (h : symRun Tryd.prog KL [] n k args ⟨S.next, S.obs, S.next⟩ = some r) (hd : Desc r.2.next r.2.obs) (hlo : r.2.low ≤ r.2.next) (hk : (k : Nat) < 1000000 := by decide) :
    ∃ S', acallV (symIn Tryd.prog KL [] n) S (.func k [] []) args = some (r.1, S') ∧ Wst S' ∧ S'.obs = r.2.obs ∧ S'.next = r.2.next := by
  refine ⟨⟨r.2.next, r.2.obs, if Nat.blt r.2.low S.low then r.2.low else S.low⟩, ?_, ⟨hd, ?_⟩, rfl, rfl⟩
  · rw [acallV_func hk, List.nil_append, List.append_nil, symIn_run hk, h]
  · show (if Nat.blt r.2.low S.low then r.2.low else S.low) ≤ r.2.next
    split
    · exact hlo
    · rename_i hb
      rw [Nat.blt_eq] at hb
      omega
set_option maxRecDepth 10000 in
theorem law_pr (bs : List Int) (hbs : ∀ b, b ∈ bs → 0 ≤ b ∧ b < 256) : ∃ r, symRun Tryd.prog KL [] 101 3 [.slice (u8s bs)] ⟨0, [], 0⟩ = some r ∧ r.1 = .bool true := by
  refine own_run2 (n := 100) (by rfl) Tryd.func3 rfl rfl ?_
  simp only [Tryd.f3]
  by_cases hbig : (1048576 : Int) < bs.length
  · repeat' (first | refine Wp.seq ?_ | refine Wp.block ?_ | (apply Wp.region; focus ((try simp [setArgs, hbig]) <;> rfl)) | (refine Wp.cond_t ?_ ?_; focus (simp [setArgs, hbig]; done)) | (refine Wp.cond_f ?_ ?_; focus (simp [setArgs, hbig]; done)) | refine Wp.skip ?_ | refine Wp.ret ?_ | refine Wp.exit ?_ | refine Blk.here ?_ | (refine Blk.past ?_ ?_; focus (simp; done)))
    exact ⟨rfl, answer_trim1 (v := .bool true) (by simp) rfl⟩
  obtain ⟨⟨v0, S0⟩, h1, h2, q, zs, hz, hf⟩ := Draw.drawST bs hbs 1
  simp only at h1 h2 hz
  obtain ⟨cp, hv, hcp⟩ := hz.val
  subst hv
  obtain ⟨S1, hS1⟩ : ∃ S1 : Sto Sy, S1 = ⟨S0.next, S0.obs, if S0.low < 0 then S0.low else 0⟩ := ⟨_, rfl⟩
  have e0 : KL 7 [.slice (u8s bs)] ⟨(⟨0, [], 0⟩ : Sto Sy).next, (⟨0, [], 0⟩ : Sto Sy).obs, (⟨0, [], 0⟩ : Sto Sy).next⟩ = some (.rsl q 0 zs.length cp, S0) := by rw [KL_dr]; exact h1
  have c1 : acallV (symIn Tryd.prog KL [] 100) ⟨0, [], 0⟩ (.func 7 [] []) [.slice (u8s bs)] = some (.rsl q 0 zs.length cp, S1) := by rw [hS1]; exact call_K (P := Tryd.prog) (n := 99) e0 (by decide)
  have w1 : Wst S1 := by rw [hS1]; exact ⟨h2, by simp⟩
  have l1 : Go.Sx.look S1.obs q = some (ints (nums zs)) := by rw [hS1]; exact hz.obj
  have hNm : Nm zs := hf.wf.1
  have hl9 := hf.wf.2
  clear e0 hS1 h1 h2 hz
  obtain ⟨n2, hn2, c2⟩ := implST zs hl9 hNm w1 hcp l1 100 (by omega)
  obtain ⟨S2, hS2⟩ : ∃ S2 : Sto Sy, S2 = ⟨n2, S1.obs, S1.low⟩ := ⟨_, rfl⟩
  rw [← hS2] at c2
  have w2 : Wst S2 := by rw [hS2]; exact ⟨desc_up w1.desc hn2, Nat.le_trans w1.low hn2⟩
  have l2 : Go.Sx.look S2.obs q = some (ints (nums zs)) := by rw [hS2]; exact l1
  have c3 := specST zs hl9 w2 hcp l2 100 (by omega)
  clear hS2
  by_cases h : validP 600 zs
  · have hne := txt_ne h
    obtain ⟨r, h3, q4, hr, _, hlo, hd4, l4, k4⟩ := implPa zs h w2 100 (by omega)
    obtain ⟨S4, c4, w4, o4, _⟩ := call_keep w2 h3 hd4 hlo
    rw [hr] at c4
    rw [← o4] at l4 k4
    have l4' := k4 _ _ l2
    have c5 := c_equal w4 100 (by omega) (consts_cap (S := ⟨S4.next, S4.obs, S4.next⟩) (.inr rfl) l4) (consts_cap (S := ⟨S4.next, S4.obs, S4.next⟩) hcp l4') hl9
    repeat' (first | refine Wp.seq ?_ | refine Wp.block ?_ | (apply Wp.region; focus ((try simp [setArgs, hbig, c1, c2, c3, hne, c4, c5]) <;> rfl)) | (refine Wp.cond_t ?_ ?_; focus (simp [setArgs, hbig, c1, c2, c3, hne, c4, c5]; done)) | (refine Wp.cond_f ?_ ?_; focus (simp [setArgs, hbig, c1, c2, c3, hne, c4, c5]; done)) | refine Wp.skip ?_ | refine Wp.ret ?_ | refine Wp.exit ?_ | refine Blk.here ?_ | (refine Blk.past ?_ ?_; focus (simp; done)))
    exact ⟨rfl, answer_trim1 (v := .bool true) (by simp) rfl⟩
  · have e : txt zs = ⟨#[]⟩ := by unfold txt; rw [if_neg h]
    rw [e] at c2 c3
    repeat' (first | refine Wp.seq ?_ | refine Wp.block ?_ | (apply Wp.region; focus ((try simp [setArgs, hbig, c1, c2, c3]) <;> rfl)) | (refine Wp.cond_t ?_ ?_; focus (simp [setArgs, hbig, c1, c2, c3]; done)) | (refine Wp.cond_f ?_ ?_; focus (simp [setArgs, hbig, c1, c2, c3]; done)) | refine Wp.skip ?_ | refine Wp.ret ?_ | refine Wp.exit ?_ | refine Blk.here ?_ | (refine Blk.past ?_ ?_; focus (simp; done)))
    exact ⟨rfl, answer_trim1 (v := .bool true) (by simp) rfl⟩
end Go.Proofs.YtgaodlhdilhliaaDoor.St

/-
  Texts of series of any numbers: what the document's model makes, beside any contracts. No condition.
-/
import Derived.Test.YtgaodlhdilhliaaGreatDoorRows
import Derived.Test.YtgaodlhdilhliaaGreatDoorSym
import Derived.Test.YtgaodlhdilhliaaGreatDoorSymD
import Derived.Test.YtgaodlhdilhliaaGreatDoorSymE
import Derived.Test.YtgaodlhdilhliaaGreatDoorSymF
import Derived.Test.YtgaodlhdilhliaaGreatDoorIds
import Derived.Test.YtgaodlhdilhliaaGreatDoorSh
import Derived.Test.YtgaodlhdilhliaaGreatDoorSt
import Derived.Test.YtgaodlhdilhliaaGreatDoorTel
import Derived.Test.YtgaodlhdilhliaaGreatDoorNum
import Derived.Test.YtgaodlhdilhliaaGreatDoorTx
import Derived.Test.YtgaodlhdilhliaaGreatDoorTy
import Derived.WalkKit
import Derived.ProofKit
import Derived.OpenShut
namespace Go.Proofs.YtgaodlhdilhliaaGreatDoor.St
open Go.ChangeShapes Go.WideShapes Go.ChangeAt Go.RowKit Go.Sx Go.Proofs.YtgaodlhdilhliaaGreatDoor.Ids
set_option linter.unusedVariables false
set_option linter.unusedSimpArgs false

theorem call_runG {K : Ctr} {k : FuncId} {args : List (V Sy)} {S : Sto Sy} {r : V Sy} {n : Nat} (hS : Wst S) (h : symRun Tryz.prog K [] n k args ⟨S.next, S.obs, S.next⟩ = some (r, ⟨S.next, S.obs, S.next⟩)) (hk : (k : Nat) < 1000000 := by decide) : acallV (symIn Tryz.prog K [] n) S (.func k [] []) args = some (r, S) := by
  have e : (⟨S.next, S.obs, if S.next < S.low then S.next else S.low⟩ : Sto Sy) = S := by rw [if_neg (by have := hS.low; omega)]
  rw [acallV_func hk, List.nil_append, List.append_nil, symIn_run hk, h]
  show some (r, (⟨S.next, S.obs, if Nat.blt S.next S.low then S.next else S.low⟩ : Sto Sy)) = _
  simp only [Nat.blt_eq]
  rw [e]
theorem acc_sizeG {zs : List Int} (h : ∀ z, z ∈ zs → -9223372036854775807 ≤ z ∧ z ≤ 9223372036854775807) : ∀ i, i ≤ zs.length → (accT zs i).size ≤ 21 * i
  | 0, _ => by simp [accT, ByteArray.size]
  | i + 1, hi => by
    have ih := acc_sizeG h i (by omega)
    have ht := textZ_any (h (zs.getD i 0) (by rw [getD_at (by omega)]; exact List.getElem_mem (by omega)))
    unfold accT
    rw [ByteArray.size_append]
    split
    · rw [ByteArray.size_append]
      have : comma.size = 1 := rfl
      omega
    · omega
attribute [local simp] aops wants aop apure St.eval setTm_some setTm_none Tr.get_set evals pevals apureB alen tiS tiI tiB abin aint isCmp sym_lt sym_eqs sym_neqs sym_eq sym_neq sym_gtr sym_leq sym_geq sym_add sym_sub sym_mul aeff aeffB idx? ofV aindexAddr aggDesc aifc_int aun aifc_str
set_option maxRecDepth 10000 in
theorem specTextG {K : Ctr} (hK : ∀ args sto, K 20 args sto = none) (g : Nat) (hnum : ∀ (S : Sto Sy), Wst S → ∀ z : Int, (-9223372036854775807 ≤ z ∧ z ≤ 9223372036854775807) → acallV (symIn Tryz.prog K [] g) S (.func 27 [] []) [.int .i64 (.c z)] = some (.str (textZ z), S))
    (zs : List Int) (hz : ∀ z, z ∈ zs → -9223372036854775807 ≤ z ∧ z ≤ 9223372036854775807) (h6 : zs.length ≤ 1000000) {S : Sto Sy} (hS : Wst S) {q : Nat} {cp : Option Nat} (hl : Go.Sx.look S.obs q = some (ints (nums zs))) (hf : zs.length < g) :
    acallV (symIn Tryz.prog K [] (g + 1)) S (.func 20 [] []) [.rsl q 0 zs.length cp] = some (.str (accT zs zs.length), S) := by
  refine call_runG hS ?_
  have hS0 : Wst ⟨S.next, S.obs, S.next⟩ := ⟨hS.desc, Nat.le_refl _⟩
  generalize hS1 : (⟨S.next, S.obs, S.next⟩ : Sto Sy) = S1 at hS0
  have hl1 : Go.Sx.look S1.obs q = some (ints (nums zs)) := by rw [← hS1]; exact hl
  have hn1 : S1.low = S1.next := by rw [← hS1]
  refine own_run (hK _ _) Tryz.func20 rfl rfl ?_
  simp only [Tryz.f20]
  repeat' (first | refine Wp.seq ?_ | refine Wp.block ?_ | (apply Wp.region; focus ((try simp [setArgs]) <;> rfl)) | (refine Wp.cond_t ?_ ?_; focus (simp [setArgs]; done)) | (refine Wp.cond_f ?_ ?_; focus (simp [setArgs]; done)) | refine Wp.skip ?_ | refine Wp.ret ?_ | refine Wp.exit ?_ | refine Blk.here ?_ | (refine Blk.past ?_ ?_; focus (simp; done)))
  refine Wp.loop rfl rfl (fun i st => st.tm.get .any 0 = .rsl q 0 zs.length cp ∧ st.tm.get .any 3 = .str (accT zs i) ∧ st.tm.get .any 4 = .int .i64 (.c i) ∧ st.sto = S1) zs.length (by omega) ?_ ?_ ?_
  · simp [setArgs, accT]
  · rintro f i ⟨tm, T⟩ hi ⟨h0, h3, h4, rfl⟩
    simp only at h0 h3 h4
    have hlt : (i : Int) < zs.length := by omega
    have hw := wrap_in (a := (i : Int) + 1) (by omega) (by omega)
    have ld : aload (tiOf Tryz.prog) T 3 (.ptr q i) = some (.int .i64 (.c zs[i])) := loadI hl1 (List.getElem?_eq_getElem hi)
    have hzi := hz zs[i] (List.getElem_mem hi)
    have hc := hnum T hS0 zs[i] hzi
    have hs1 := acc_sizeG hz i (by omega)
    have hs2 := textZ_any hzi
    have hs3 : (ByteArray.mk #[44]).size = 1 := rfl
    have e : accT zs (i + 1) = (if 0 < i then accT zs i ++ comma else accT zs i) ++ textZ zs[i] := by
      show (if 0 < i then _ else _) ++ textZ (zs.getD i 0) = _
      rw [getD_at hi]
    generalize hA : accT zs i = A at h3 hs1 e
    by_cases h0i : 0 < i
    · rw [if_pos h0i] at e
      have hA2 : (A ++ comma).size = A.size + 1 := by rw [ByteArray.size_append]; rfl
      have g1 : A.size + (ByteArray.mk #[44]).size ≤ 9223372036854775807 := by omega
      have g2 : (A ++ ByteArray.mk #[44]).size + (textZ zs[i]).size ≤ 9223372036854775807 := by have : (A ++ ByteArray.mk #[44]).size = A.size + 1 := hA2; omega
      have h0z : (0 : Int) < i := by omega
      have g3 : A.size + (ByteArray.mk #[44]).size + (textZ zs[i]).size ≤ 9223372036854775807 := by omega
      repeat' (first | refine Wp.seq ?_ | refine Wp.block ?_ | (apply Wp.region; focus ((try simp [h0, h3, h4, hlt, hi, ld, hc, hw, g1, g3, h0z, h0i]) <;> rfl)) | (refine Wp.cond_t ?_ ?_; focus (simp [h0, h3, h4, hlt, hi, ld, hc, hw, g1, g3, h0z, h0i]; done)) | (refine Wp.cond_f ?_ ?_; focus (simp [h0, h3, h4, hlt, hi, ld, hc, hw, g1, g3, h0z, h0i]; done)) | refine Wp.skip ?_ | refine Wp.ret ?_ | refine Wp.exit ?_ | refine Blk.here ?_ | (refine Blk.past ?_ ?_; focus (simp; done)))
      exact ⟨by simp [h0], by simp [e, comma], by simp, rfl⟩
    · rw [if_neg h0i] at e
      have hi0 : i = 0 := by omega
      have g2 : A.size + (textZ zs[i]).size ≤ 9223372036854775807 := by omega
      have h0z : ¬ (0 : Int) < i := by omega
      repeat' (first | refine Wp.seq ?_ | refine Wp.block ?_ | (apply Wp.region; focus ((try simp [h0, h3, h4, hlt, hi, ld, hc, hw, g2, h0z, h0i]) <;> rfl)) | (refine Wp.cond_t ?_ ?_; focus (simp [h0, h3, h4, hlt, hi, ld, hc, hw, g2, h0z, h0i]; done)) | (refine Wp.cond_f ?_ ?_; focus (simp [h0, h3, h4, hlt, hi, ld, hc, hw, g2, h0z, h0i]; done)) | refine Wp.skip ?_ | refine Wp.ret ?_ | refine Wp.exit ?_ | refine Blk.here ?_ | (refine Blk.past ?_ ?_; focus (simp; done)))
      exact ⟨by simp [h0], by simp [e], by simp, rfl⟩
  · rintro f ⟨tm, T⟩ ⟨h0, h3, h4, rfl⟩
    simp only at h0 h3 h4
    repeat' (first | refine Wp.seq ?_ | refine Wp.block ?_ | (apply Wp.region; focus ((try simp [h0, h3, h4]) <;> rfl)) | (refine Wp.cond_t ?_ ?_; focus (simp [h0, h3, h4]; done)) | (refine Wp.cond_f ?_ ?_; focus (simp [h0, h3, h4]; done)) | refine Wp.skip ?_ | refine Wp.ret ?_ | refine Wp.exit ?_ | refine Blk.here ?_ | (refine Blk.past ?_ ?_; focus (simp; done)))
    refine ⟨rfl, ?_⟩
    simp [answer, aresults, aresult, h3]
    exact trim_plain hS0.desc rfl

end Go.Proofs.YtgaodlhdilhliaaGreatDoor.St

/-
  Lines that are answered: what both sides give, as contracts; the document's model by a run by hand. No condition.
-/
import Derived.Test.YtgaodlhdilhliaaGreatDoorRows
import Derived.Test.YtgaodlhdilhliaaGreatDoorSym
import Derived.Test.YtgaodlhdilhliaaGreatDoorSymD
import Derived.Test.YtgaodlhdilhliaaGreatDoorSymE
import Derived.Test.YtgaodlhdilhliaaGreatDoorSymF
import Derived.Test.YtgaodlhdilhliaaGreatDoorIds
import Derived.Test.YtgaodlhdilhliaaGreatDoorSh
import Derived.Test.YtgaodlhdilhliaaGreatDoorShB
import Derived.Test.YtgaodlhdilhliaaGreatDoorSt
import Derived.Test.YtgaodlhdilhliaaGreatDoorSp
import Derived.Test.YtgaodlhdilhliaaGreatDoorTel
import Derived.Test.YtgaodlhdilhliaaGreatDoorNum
import Derived.Test.YtgaodlhdilhliaaGreatDoorTx
import Derived.Test.YtgaodlhdilhliaaGreatDoorTy
import Derived.Test.YtgaodlhdilhliaaGreatDoorTg
import Derived.Test.YtgaodlhdilhliaaGreatDoorPb
import Derived.Test.YtgaodlhdilhliaaGreatDoorPd
import Derived.Test.YtgaodlhdilhliaaGreatDoorAo
import Derived.Test.YtgaodlhdilhliaaGreatDoorAp
import Derived.Test.YtgaodlhdilhliaaGreatDoorBe
import Derived.WalkKit
import Derived.ProofKit
import Derived.OpenShut
namespace Go.Proofs.YtgaodlhdilhliaaGreatDoor.St
open Go.ChangeShapes Go.WideShapes Go.ChangeAt Go.RowKit Go.Sx Go.Proofs.YtgaodlhdilhliaaGreatDoor.Ids
set_option linter.unusedVariables false
set_option linter.unusedSimpArgs false

def DeskD (sto : Sto Sy) (q n : Nat) (cap : Option Nat) (xs : List ByteArray) : Prop := Go.Sx.look sto.obs q = some (strs xs) ∧ n ≤ xs.length ∧ (cap = none ∨ ∃ m, cap = some m ∧ n ≤ m) ∧ xs.length ≤ 2000000 ∧ ∀ x, x ∈ xs → x.size ≤ 1048576
open Classical in
noncomputable def deskK : Ctr := fun k args sto => match args with
  | [.rsl q 0 n cap] => bite (Nat.beq k 6) (if h : ∃ xs, DeskD sto q n cap xs then some (.str (deskV ((Classical.choose h).take n)), sto) else none) none
  | _ => none
theorem deskK_eq {sto : Sto Sy} {q n : Nat} {cap : Option Nat} {xs : List ByteArray} (h : DeskD sto q n cap xs) : deskK 6 [.rsl q 0 n cap] sto = some (.str (deskV (xs.take n)), sto) := by
  have hx : ∃ xs, DeskD sto q n cap xs := ⟨xs, h⟩
  have hc := Classical.choose_spec hx
  have e := hc.1
  rw [h.1] at e
  have e := strs_inj (Option.some.inj e)
  simp only [deskK, bite_eq]
  rw [if_pos (by rfl), dif_pos hx, ← e]
theorem deskK_ok {ρ : Nat → Int} {s : Sms} {B : Nat} (hs : ∀ w, s.g w → Laid w ∧ LaidM w ∧ LaidE w) : COk Tryz.prog ⟨Sy.den ρ, s⟩ B deskK := by
  intro k args sto r sto' h
  unfold deskK at h
  split at h
  case h_2 => cases h
  rename_i q n cap
  rw [bite_eq] at h
  split at h
  case isFalse => cases h
  rename_i hk
  have hk := Nat.eq_of_beq_eq_true hk
  subst hk
  split at h
  case isFalse => cases h
  rename_i hx
  obtain ⟨h1, h2, h3, h4, h5⟩ := Classical.choose_spec hx
  generalize Classical.choose hx = xs at h h1 h2 h3 h4 h5
  cases h
  refine ⟨fun c rargs hinv hv => ?_, ⟨_, Tryz.func6, rfl⟩⟩
  obtain ⟨v, hv0, hv1⟩ := hv.one
  have hln : (xs.take n).length = n := by rw [List.length_take]; omega
  have main : ∀ (b m cp : Nat), c.κ q = some (b, m) → n ≤ cp → Calls Tryz.prog 6 #[.slice (some ⟨b, 0, none⟩) n cp] c.w fun e w' => ∃ rv c', e = .returned rv ∧ c'.w = w' ∧ Out ⟨Sy.den ρ, s⟩ B c sto (.str (deskV (xs.take n))) sto rv c' := by
    intro b m cp hκ hcp
    obtain ⟨us, u1, u2, u3, u4⟩ := hinv.cells (lookC_iff.2 ⟨h1, strs_nm xs⟩) hκ
    have hW := deskW b cp (xs.take n) c.w (fun j x hj => by
      have hj2 : xs[j]? = some x := by
        rw [List.getElem?_take] at hj
        split at hj
        · exact hj
        · cases hj
      exact u2 j _ (str_cells u3 j x hj2)) (hinv.blk _ _ _ hκ).2 (by omega) (by omega) (fun j x hj => h5 x (List.mem_of_mem_take (List.mem_of_getElem? hj)))
      (fun w' hk => hs _ (hinv.g w' (fun k hkB cur e z hx => hk k (Nat.lt_of_lt_of_le hkB hinv.base) cur e z hx)))
    rw [hln] at hW
    refine hW.mono ?_
    rintro e w' ⟨rfl, hb⟩
    exact ⟨_, ⟨_, c.κ⟩, rfl, rfl, Step.world hinv hb.size (fun b hb' => hb.block b hb') hb.os hb.tape hb.output (fun a ha => World.frozen?_of_block (w := c.w) (hb.block _ ha)), .str _⟩
  have hrv : ∀ (x : Value), v = x → rargs = #[x] := by
    intro x hx'
    subst hx'
    cases rargs with | mk l => simp only at hv0; subst hv0; rfl
  cases hv1 with
  | rsl hκ =>
    rw [hrv _ rfl]
    obtain ⟨m, hm, hnm⟩ : ∃ m, some _ = some m ∧ n ≤ m := h3.elim (fun h => by cases h) id
    cases hm
    exact main _ _ _ hκ hnm
  | rslo hκ hle hn =>
    rw [hrv _ rfl]
    exact main _ _ _ hκ hle
noncomputable def srK : Ctr := fun k args sto => bite (Nat.beq k 7) (symRun Tryz.prog KL [] 1050000 k args sto) none
theorem srK_ok {ρ : Nat → Int} {s : Sms} {B : Nat} (hs : ∀ w, s.g w → Laid w ∧ LaidM w ∧ LaidE w) : COk Tryz.prog ⟨Sy.den ρ, s⟩ B srK := by
  intro k args sto r sto' h
  unfold srK at h
  rw [bite_eq] at h
  split at h
  case isFalse => cases h
  exact symRun_ok noCount mixed (Γ := []) (fun f hf => by cases hf) (KL_ok (fun w h => (hs w h).1) (fun w h => (hs w h).2.1) (fun w h => (hs w h).2.2)) 1050000 k args sto r sto' h

attribute [local simp] aops wants aop apure St.eval setTm_some setTm_none Tr.get_set evals pevals apureB alen tiS tiI tiB tiSs tiStr abin aint isCmp sym_lt sym_eqs sym_neqs sym_eq sym_neq sym_gtr sym_leq sym_geq sym_add sym_sub sym_mul aeff aeffB idx? ofV aindexAddr aindex aggDesc aifc_int aun aifc_str
noncomputable def deskB (xs : List ByteArray) : ByteArray := ⟨(deskL xs).toArray⟩
theorem deskB_size (xs : List ByteArray) (k : Nat) : (deskB (xs.take k)).size ≤ 201 * k := by
  rw [size_list]
  exact deskL_len xs k
theorem deskB_step (xs : List ByteArray) (k : Nat) (hk : k < xs.length) : deskB (xs.take (k + 1)) = deskB (xs.take k) ++ ansL xs[k] ++ ⟨#[10]⟩ := by
  apply ba_ext
  show deskL (xs.take (k + 1)) = _
  rw [deskL_step xs k xs[k] (List.getElem?_eq_getElem hk), ByteArray.data_append, ByteArray.data_append, Array.toList_append, Array.toList_append, List.append_assoc]
  rfl
set_option maxRecDepth 10000 in
theorem specDesk (xs : List ByteArray) (n : Nat) (hn : n ≤ xs.length) (hx : ∀ x, x ∈ xs → x.size ≤ 1048576) (hl : xs.length ≤ 2000000) {S : Sto Sy} (hS : Wst S) {q : Nat} {cap : Option Nat} (ho : Go.Sx.look S.obs q = some (strs xs)) (f : Nat) (hf : 1048576 + 200 ≤ f) :
    ∃ r, symRun Tryz.prog KL [] f 7 [.rsl q 0 n cap] ⟨S.next, S.obs, S.next⟩ = some r ∧ Gro ⟨S.next, S.obs, S.next⟩ r.2 ∧ r.1 = .str (deskV (xs.take n)) := by
  obtain ⟨g, rfl⟩ : ∃ g, f = g + 1 := ⟨f - 1, by omega⟩
  have hS0 : Wst ⟨S.next, S.obs, S.next⟩ := ⟨hS.desc, Nat.le_refl _⟩
  have ho1 : Go.Sx.look (⟨S.next, S.obs, S.next⟩ : Sto Sy).obs q = some (strs xs) := ho
  generalize (⟨S.next, S.obs, S.next⟩ : Sto Sy) = S1 at hS0 ho1 ⊢
  refine own_run2 (by rfl) Tryz.func7 rfl rfl ?_
  simp only [Tryz.f7]
  have hln : (xs.take n).length = n := by rw [List.length_take]; omega
  by_cases h20 : (20 : Int) < n
  · have hv : deskV (xs.take n) = ⟨#[]⟩ := by unfold deskV; rw [hln, if_pos (by omega)]
    rw [hv]
    repeat' (first | refine Wp.seq ?_ | refine Wp.block ?_ | (apply Wp.region; focus ((try simp [setArgs, h20]) <;> rfl)) | (refine Wp.cond_t ?_ ?_; focus (simp [setArgs, h20]; done)) | (refine Wp.cond_f ?_ ?_; focus (simp [setArgs, h20]; done)) | refine Wp.skip ?_ | refine Wp.ret ?_ | refine Wp.exit ?_ | refine Blk.here ?_ | (refine Blk.past ?_ ?_; focus (simp; done)))
    exact ⟨rfl, answer_trim1 (v := .str ⟨#[]⟩) (by simp) ⟨gro_trim hS0 (Gro.refl hS0) (.str ⟨#[]⟩), rfl⟩⟩
  · have hv : deskV (xs.take n) = deskB (xs.take n) := by unfold deskV deskB; rw [hln, if_neg (by omega)]
    rw [hv]
    repeat' (first | refine Wp.seq ?_ | refine Wp.block ?_ | (apply Wp.region; focus ((try simp [setArgs, h20]) <;> rfl)) | (refine Wp.cond_t ?_ ?_; focus (simp [setArgs, h20]; done)) | (refine Wp.cond_f ?_ ?_; focus (simp [setArgs, h20]; done)) | refine Wp.skip ?_ | refine Wp.ret ?_ | refine Wp.exit ?_ | refine Blk.here ?_ | (refine Blk.past ?_ ?_; focus (simp; done)))
    refine Wp.loop rfl rfl (fun i st => st.tm.get .any 0 = .rsl q 0 n cap ∧ st.tm.get .any 3 = .str (deskB (xs.take i)) ∧ st.tm.get .any 4 = .int .i64 (.c i) ∧ Gro S1 st.sto) n (by omega) ?_ ?_ ?_
    · exact ⟨by simp [setArgs], by simp [deskB, deskL], by simp, Gro.refl hS0⟩
    · rintro f i ⟨tm, T⟩ hi ⟨h0, h3, h4, hG⟩
      simp only at h0 h3 h4 hG
      have hlt : (i : Int) < n := by omega
      have hw := wrap_in (a := (i : Int) + 1) (by omega) (by omega)
      have hix : i < xs.length := by omega
      have ld := loadS (hG.keep _ _ ho1) hix
      obtain ⟨⟨rv, rs⟩, r1, r2, r3⟩ := specAns xs[i] (hx _ (List.getElem_mem hix)) hG.wst g (by have := hx _ (List.getElem_mem hix); omega)
      simp only at r3
      subst r3
      obtain ⟨S2, c1, g2, _, _⟩ := call_gro hG.wst r1 r2
      simp only at c1
      have hG2 := hG.trans g2
      have es := deskB_step xs i hix
      have hsz := deskB_size xs (i + 1)
      have hsz0 := deskB_size xs i
      have hsa := ansL_size xs[i]
      generalize deskB (xs.take (i + 1)) = A1 at es hsz
      generalize deskB (xs.take i) = A0 at es h3 hsz0
      generalize xs[i] = x at ld c1 es hsa
      generalize ansL x = y at c1 es hsa
      have e1 : (⟨#[10]⟩ : ByteArray).size = 1 := rfl
      have g1 : A0.size + y.size ≤ 9223372036854775807 := by omega
      have g3 : A0.size + y.size + (ByteArray.mk #[10]).size ≤ 9223372036854775807 := by omega
      repeat' (first | refine Wp.seq ?_ | refine Wp.block ?_ | (apply Wp.region; focus ((try simp [h0, h3, h4, hlt, hi, ld, c1, hw, g1, g3]) <;> rfl)) | (refine Wp.cond_t ?_ ?_; focus (simp [h0, h3, h4, hlt, hi, ld, c1, hw, g1, g3]; done)) | (refine Wp.cond_f ?_ ?_; focus (simp [h0, h3, h4, hlt, hi, ld, c1, hw, g1, g3]; done)) | refine Wp.skip ?_ | refine Wp.ret ?_ | refine Wp.exit ?_ | refine Blk.here ?_ | (refine Blk.past ?_ ?_; focus (simp; done)))
      exact ⟨by simp [h0], by simp [es], by simp, hG2⟩
    · rintro f ⟨tm, T⟩ ⟨h0, h3, h4, hG⟩
      simp only at h0 h3 h4 hG
      repeat' (first | refine Wp.seq ?_ | refine Wp.block ?_ | (apply Wp.region; focus ((try simp [h0, h3, h4]) <;> rfl)) | (refine Wp.cond_t ?_ ?_; focus (simp [h0, h3, h4]; done)) | (refine Wp.cond_f ?_ ?_; focus (simp [h0, h3, h4]; done)) | refine Wp.skip ?_ | refine Wp.ret ?_ | refine Wp.exit ?_ | refine Blk.here ?_ | (refine Blk.past ?_ ?_; focus (simp; done)))
      exact ⟨rfl, answer_trim1 (v := .str (deskB (xs.take n))) (by simp [h3]) ⟨gro_trim hS0 hG (.str (deskB (xs.take n))), rfl⟩⟩
end Go.Proofs.YtgaodlhdilhliaaGreatDoor.St

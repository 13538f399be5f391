/-
  Answers to lines: what the program gives, by a run by hand. No condition.
-/
import Derived.Test.YtgaodlhdilhliaaGreatDoorRows
import Derived.Test.YtgaodlhdilhliaaGreatDoorSym
import Derived.Test.YtgaodlhdilhliaaGreatDoorSymD
import Derived.Test.YtgaodlhdilhliaaGreatDoorSymE
import Derived.Test.YtgaodlhdilhliaaGreatDoorSymF
import Derived.Test.YtgaodlhdilhliaaGreatDoorIds
import Derived.Test.YtgaodlhdilhliaaGreatDoorSh
import Derived.Test.YtgaodlhdilhliaaGreatDoorSt
import Derived.Test.YtgaodlhdilhliaaGreatDoorTel
import Derived.Test.YtgaodlhdilhliaaGreatDoorNum
import Derived.Test.YtgaodlhdilhliaaGreatDoorTx
import Derived.Test.YtgaodlhdilhliaaGreatDoorTy
import Derived.Test.YtgaodlhdilhliaaGreatDoorTg
import Derived.Test.YtgaodlhdilhliaaGreatDoorPe
import Derived.Test.YtgaodlhdilhliaaGreatDoorAx
import Derived.Test.YtgaodlhdilhliaaGreatDoorAn
import Derived.Lib.CutLaws
import Derived.Test.YtgaodlhdilhliaaGreatDoorBp
import Derived.WalkKit
import Derived.ProofKit
import Derived.OpenShut
namespace Go.Proofs.YtgaodlhdilhliaaGreatDoor.St
open Go.ChangeShapes Go.WideShapes Go.ChangeAt Go.RowKit Go.Sx Go.Proofs.YtgaodlhdilhliaaGreatDoor.Ids
set_option linter.unusedVariables false
set_option linter.unusedSimpArgs false

def whatB : ByteArray := ⟨#[119, 104, 97, 116]⟩
def wrongB : ByteArray := ⟨#[119, 114, 111, 110, 103]⟩
def noneB : ByteArray := ⟨#[110, 111, 110, 101]⟩
/-- The answer to the text behind a word. -/
noncomputable def ansJ (j : Nat) (t : ByteArray) : ByteArray := match parseV t with
  | none => wrongB
  | some zs => match funA zs j with
    | none => noneB
    | some ys => joinB (ys.map textZ) comma
/-- The answer to a line. -/
noncomputable def ansL (line : ByteArray) : ByteArray := match cutB 32 line with
  | [w, t] => match wordJ w with
    | none => whatB
    | some j => ansJ j t
  | _ => whatB
theorem wordJ_lt {w : ByteArray} {j : Nat} (h : wordJ w = some j) : j < 7 := by
  unfold wordJ at h
  repeat' split at h
  all_goals cases h
  all_goals omega
theorem parse_ok {s : ByteArray} {zs : List Int} (hp : parseV s = some zs) : OkT s zs := by
  unfold parseV at hp
  split at hp
  · rename_i hx
    have := Classical.choose_spec hx
    cases hp
    exact this
  · cases hp
theorem ansJ_size {j : Nat} (hj : j < 7) (t : ByteArray) : (ansJ j t).size ≤ 200 := by
  unfold ansJ
  cases hp : parseV t with
  | none => show wrongB.size ≤ 200; decide
  | some zs =>
    simp only
    cases hf : funA zs j with
    | none => show noneB.size ≤ 200; decide
    | some ys =>
      have := fun_bnd (parse_ok hp).1 hj hf
      exact joinT_size this.1 this.2.2
theorem ansL_size (line : ByteArray) : (ansL line).size ≤ 200 := by
  have hw : whatB.size ≤ 200 := by decide
  unfold ansL
  split
  · split
    · exact hw
    · rename_i h
      exact ansJ_size (wordJ_lt h) _
  · exact hw
/-! ## A text and a byte -/
theorem ib_hitG {c : UInt8} : ∀ (l r : List UInt8), c ∉ l → Lib.indexByte (l ++ c :: r) c = l.length
  | [], r, _ => by simp [Lib.indexByte]
  | a :: l, r, h => by
    have ih := ib_hitG (c := c) l r (fun h' => h (List.mem_cons_of_mem _ h'))
    have ha : (a == c) = false := by rw [beq_eq_false_iff_ne]; intro e; exact h (by simp [e])
    show (if a == c then (0 : Int) else if Lib.indexByte (l ++ c :: r) c == -1 then -1 else Lib.indexByte (l ++ c :: r) c + 1) = _
    rw [ha, ih]
    have hb : ((l.length : Int) == -1) = false := by rw [beq_eq_false_iff_ne]; omega
    rw [hb]
    simp
theorem ib_noneG {c : UInt8} : ∀ (l : List UInt8), c ∉ l → Lib.indexByte l c = -1
  | [], _ => rfl
  | a :: l, h => by
    have ih := ib_noneG (c := c) l (fun h' => h (List.mem_cons_of_mem _ h'))
    have ha : (a == c) = false := by rw [beq_eq_false_iff_ne]; intro e; exact h (by simp [e])
    show (if a == c then (0 : Int) else if Lib.indexByte l c == -1 then -1 else Lib.indexByte l c + 1) = _
    rw [ha, ih]
    rfl
theorem cut_noneG {l : List UInt8} (h : (32 : UInt8) ∉ l) : Lib.cut l [32] = (l, [], false) := by
  have hi : Lib.index l [32] = -1 := by rw [Lib.index_one]; exact ib_noneG l h
  unfold Lib.cut
  rw [hi, if_neg (by omega)]
theorem cut_hitG {a r : List UInt8} (h : (32 : UInt8) ∉ a) : Lib.cut (a ++ 32 :: r) [32] = (a, r, true) := by
  have hi : Lib.index (a ++ 32 :: r) [32] = a.length := by rw [Lib.index_one]; exact ib_hitG a r h
  unfold Lib.cut
  rw [hi, if_pos (by omega)]
  simp
theorem con_no {l : List UInt8} (h : (32 : UInt8) ∉ l) : Lib.contains l [32] = false := by
  have hi : Lib.index l [32] = -1 := by rw [Lib.index_one]; exact ib_noneG l h
  unfold Lib.contains
  rw [hi]; rfl
theorem split_mem {l : List UInt8} (h : (32 : UInt8) ∈ l) : ∃ a r, l = a ++ 32 :: r ∧ (32 : UInt8) ∉ a := by
  induction l with
  | nil => cases h
  | cons x l ih =>
    by_cases hx : x = 32
    · exact ⟨[], l, by simp [hx], by simp⟩
    · obtain ⟨a, r, e, ha⟩ := ih ((List.mem_cons.1 h).resolve_left (fun e => hx e.symm))
      exact ⟨x :: a, r, by rw [e]; rfl, fun h' => (List.mem_cons.1 h').elim (fun e => hx e.symm) ha⟩
theorem con_yes {l : List UInt8} (h : (32 : UInt8) ∈ l) : Lib.contains l [32] = true := by
  obtain ⟨a, r, rfl, ha⟩ := split_mem h
  have hi : Lib.index (a ++ 32 :: r) [32] = a.length := by rw [Lib.index_one]; exact ib_hitG a r ha
  unfold Lib.contains
  rw [hi]
  exact decide_eq_true (by omega)
/-- A line: no space; a word and a text without one; or more. -/
inductive LineIs (line : ByteArray) : Prop
  | no : (32 : UInt8) ∉ line.data.toList → cutB 32 line = [line] → LineIs line
  | two (w t : ByteArray) : Lib.cut line.data.toList [32] = (w.data.toList, t.data.toList, true) → cutB 32 line = [w, t] → Lib.contains t.data.toList [32] = false → t.size ≤ line.size → LineIs line
  | more (w t : ByteArray) : Lib.cut line.data.toList [32] = (w.data.toList, t.data.toList, true) → (cutB 32 line).length ≠ 2 → Lib.contains t.data.toList [32] = true → t.size ≤ line.size → LineIs line
theorem cutB_one {s : ByteArray} (h : (32 : UInt8) ∉ s.data.toList) : cutB 32 s = [s] := by
  apply lists_inj
  rw [cutB_lists, cutL_none h]; rfl
theorem line_is (line : ByteArray) : LineIs line := by
  by_cases h : (32 : UInt8) ∈ line.data.toList
  · obtain ⟨a, r, e, ha⟩ := split_mem h
    have hc : Lib.cut line.data.toList [32] = ((⟨a.toArray⟩ : ByteArray).data.toList, (⟨r.toArray⟩ : ByteArray).data.toList, true) := by rw [e, cut_hitG ha]
    have hl : cutL 32 line.data.toList = a :: cutL 32 r := by rw [e, cutL_hit _ ha]
    have hsz : (⟨r.toArray⟩ : ByteArray).size ≤ line.size := by
      rw [size_list, size_list, e, List.length_append, List.length_cons]
      show r.length ≤ _
      omega
    by_cases hr : (32 : UInt8) ∈ r
    · refine .more ⟨a.toArray⟩ ⟨r.toArray⟩ hc ?_ (con_yes hr) hsz
      obtain ⟨a2, r2, e2, ha2⟩ := split_mem hr
      have hn := List.length_pos_iff.2 (cutL_ne 32 r2)
      unfold cutB
      rw [List.length_map, hl, e2, cutL_hit _ ha2, List.length_cons, List.length_cons]
      omega
    · refine .two ⟨a.toArray⟩ ⟨r.toArray⟩ hc ?_ (con_no hr) hsz
      apply lists_inj
      rw [cutB_lists, hl, cutL_none hr]
      rfl
  · exact .no h (cutB_one h)
theorem ansL_more {line : ByteArray} (h : (cutB 32 line).length ≠ 2) : ansL line = whatB := by
  unfold ansL
  split
  · rename_i e
    rw [e] at h
    exact (h rfl).elim
  · rfl
theorem ansL_two {line w t : ByteArray} (h : cutB 32 line = [w, t]) : ansL line = (match wordJ w with | none => whatB | some j => ansJ j t) := by
  unfold ansL
  rw [h]
theorem isL_at {S : Sto Sy} {q : Nat} {zs : List Int} {v : V Sy} (h : IsL S.obs q zs v) : constsOf ⟨S.next, S.obs, S.next⟩ v = some zs := isL_consts (S := ⟨S.next, S.obs, S.next⟩) h
attribute [local simp] aops wants aop apure St.eval setTm_some setTm_none Tr.get_set evals pevals apureB alen tiS tiI tiB tiSs tiStr abin aint isCmp sym_lt sym_eqs sym_neqs sym_eq sym_neq sym_gtr sym_leq sym_geq sym_add sym_sub sym_mul aeff aeffB idx? ofV aindexAddr aindex aggDesc aifc_int aun aifc_str
set_option maxRecDepth 10000 in
/-- The functions that answer: by the word. -/
theorem fn_call {j : Nat} (hj : j < 7) {S : Sto Sy} (hS : Wst S) {zs : List Int} (hz : validP 600 zs) {v : V Sy} (hv : constsOf ⟨S.next, S.obs, S.next⟩ v = some zs) (f : Nat) (hf : 10 ≤ f) :
    ∃ v' b S', acallV (symIn Tryz.prog KL [] f) S (.func (fnJ j) [] []) [v] = some (.tup [v', .bool b], S') ∧ Cls S S' (funA zs j) v' b := by
  match j, hj with
  | 0, _ => exact c_i0 hS hz hv f (by omega)
  | 1, _ => exact c_i1 hS hz hv f (by omega)
  | 2, _ => exact c_i2 hS hz hv f (by omega)
  | 3, _ => exact c_i3 hS hz hv f (by omega)
  | 5, _ => exact c_i5 hS hz hv f (by omega)
  | 4, _ =>
    obtain ⟨g, rfl⟩ : ∃ g, f = g + 1 := ⟨f - 1, by omega⟩
    have hS0 : Wst ⟨S.next, S.obs, S.next⟩ := ⟨hS.desc, Nat.le_refl _⟩
    have hv0 : constsOf ⟨(⟨S.next, S.obs, S.next⟩ : Sto Sy).next, (⟨S.next, S.obs, S.next⟩ : Sto Sy).obs, (⟨S.next, S.obs, S.next⟩ : Sto Sy).next⟩ v = some zs := hv
    have key : ∃ r, symRun Tryz.prog KL [] (g + 1) 49 [v] ⟨S.next, S.obs, S.next⟩ = some r ∧ Ans ⟨S.next, S.obs, S.next⟩ (funA zs 4) r := by
      generalize (⟨S.next, S.obs, S.next⟩ : Sto Sy) = S1 at hS0 hv0 ⊢
      obtain ⟨v', b, S2, c1, g2, d⟩ := c_i4 hS0 hz hv0 g (by omega)
      refine own_run2 (by rfl) Tryz.func49 rfl rfl ?_
      simp only [Tryz.f49]
      rcases d with ⟨e, rfl, rfl⟩ | ⟨ys, q, e, hq, hl, rfl⟩
      · rw [e]
        repeat' (first | refine Wp.seq ?_ | refine Wp.block ?_ | (apply Wp.region; focus ((try simp [setArgs, c1]) <;> rfl)) | (refine Wp.cond_t ?_ ?_; focus (simp [setArgs, c1]; done)) | (refine Wp.cond_f ?_ ?_; focus (simp [setArgs, c1]; done)) | refine Wp.skip ?_ | refine Wp.ret ?_ | refine Wp.exit ?_ | refine Blk.here ?_ | (refine Blk.past ?_ ?_; focus (simp; done)))
        exact ⟨rfl, answer_trim2 (v := .nil) (w := .bool false) (by simp) (by simp) (ans_none hS0 g2)⟩
      · rw [e]
        repeat' (first | refine Wp.seq ?_ | refine Wp.block ?_ | (apply Wp.region; focus ((try simp [setArgs, c1]) <;> rfl)) | (refine Wp.cond_t ?_ ?_; focus (simp [setArgs, c1]; done)) | (refine Wp.cond_f ?_ ?_; focus (simp [setArgs, c1]; done)) | refine Wp.skip ?_ | refine Wp.ret ?_ | refine Wp.exit ?_ | refine Blk.here ?_ | (refine Blk.past ?_ ?_; focus (simp; done)))
        exact ⟨rfl, answer_trim2 (v := v') (w := .bool true) (by simp) (by simp) (ans_trim hS0 g2 hq hl)⟩
    exact call_ans hS key
  | 6, _ =>
    obtain ⟨g, rfl⟩ : ∃ g, f = g + 1 := ⟨f - 1, by omega⟩
    have hS0 : Wst ⟨S.next, S.obs, S.next⟩ := ⟨hS.desc, Nat.le_refl _⟩
    have hv0 : constsOf ⟨(⟨S.next, S.obs, S.next⟩ : Sto Sy).next, (⟨S.next, S.obs, S.next⟩ : Sto Sy).obs, (⟨S.next, S.obs, S.next⟩ : Sto Sy).next⟩ v = some zs := hv
    have key : ∃ r, symRun Tryz.prog KL [] (g + 1) 52 [v] ⟨S.next, S.obs, S.next⟩ = some r ∧ Ans ⟨S.next, S.obs, S.next⟩ (funA zs 6) r := by
      generalize (⟨S.next, S.obs, S.next⟩ : Sto Sy) = S1 at hS0 hv0 ⊢
      obtain ⟨v', S2, c1, g2, ys, q, e, hq, hl⟩ := c_i6 hS0 hz hv0 g (by omega)
      refine own_run2 (by rfl) Tryz.func52 rfl rfl ?_
      simp only [Tryz.f52]
      rw [e]
      repeat' (first | refine Wp.seq ?_ | refine Wp.block ?_ | (apply Wp.region; focus ((try simp [setArgs, c1]) <;> rfl)) | (refine Wp.cond_t ?_ ?_; focus (simp [setArgs, c1]; done)) | (refine Wp.cond_f ?_ ?_; focus (simp [setArgs, c1]; done)) | refine Wp.skip ?_ | refine Wp.ret ?_ | refine Wp.exit ?_ | refine Blk.here ?_ | (refine Blk.past ?_ ?_; focus (simp; done)))
      exact ⟨rfl, answer_trim2 (v := v') (w := .bool true) (by simp) (by simp) (ans_trim hS0 g2 hq hl)⟩
    exact call_ans hS key
set_option maxRecDepth 10000 in
theorem implAns (line : ByteArray) (hs : line.size ≤ 1048576) {S : Sto Sy} (hS : Wst S) (f : Nat) (hf : 100 ≤ f) :
    ∃ r, symRun Tryz.prog KL [] f 23 [.str line] ⟨S.next, S.obs, S.next⟩ = some r ∧ Gro ⟨S.next, S.obs, S.next⟩ r.2 ∧ r.1 = .str (ansL line) := by
  obtain ⟨g, rfl⟩ : ∃ g, f = g + 1 := ⟨f - 1, by omega⟩
  have hS0 : Wst ⟨S.next, S.obs, S.next⟩ := ⟨hS.desc, Nat.le_refl _⟩
  generalize (⟨S.next, S.obs, S.next⟩ : Sto Sy) = S1 at hS0 ⊢
  refine own_run2 (by rfl) Tryz.func23 rfl rfl ?_
  simp only [Tryz.f23]
  have c1 := c_cut hS0 g (by omega) (s := line) (sep := ⟨#[32]⟩) (by omega)
  have e32 : (ByteArray.mk #[32]).data.toList = [32] := rfl
  rw [e32] at c1
  have fin : ∀ (S2 : Sto Sy) (x : ByteArray), Gro S1 S2 → x = ansL line → ∀ st : St Sy, st.tm.get .any 2 = .str x → st.sto = S2 → ∃ r, answer (tiOf Tryz.prog) st S1.next [.tmp 2] = some r ∧ Gro S1 r.2 ∧ r.1 = .str (ansL line) := fun S2 x hg hx st h1 h2 => by
    subst hx
    exact answer_trim1 h1 ⟨by show Gro S1 (Sto.trim S1.next (.str (ansL line)) st.sto); rw [h2]; exact gro_trim hS0 hg _, rfl⟩
  have g0 := Gro.refl hS0
  rcases line_is line with ⟨h1, h2⟩ | ⟨w, t, h1, h2, h3, h4⟩ | ⟨w, t, h1, h2, h3, h4⟩
  · rw [cut_noneG h1] at c1
    have hm : (⟨line.data.toList.toArray⟩ : ByteArray) = line := rfl
    rw [hm] at c1
    have c2 := fun_run line hS0 g (by omega)
    have ha := ansL_more (line := line) (by rw [h2]; simp)
    cases hj : wordJ line with
    | none =>
      rw [hj] at c2
      repeat' (first | refine Wp.seq ?_ | refine Wp.block ?_ | (apply Wp.region; focus ((try simp [setArgs, c1, c2]) <;> rfl)) | (refine Wp.cond_t ?_ ?_; focus (simp [setArgs, c1, c2]; done)) | (refine Wp.cond_f ?_ ?_; focus (simp [setArgs, c1, c2]; done)) | refine Wp.skip ?_ | refine Wp.ret ?_ | refine Wp.exit ?_ | refine Blk.here ?_ | (refine Blk.past ?_ ?_; focus (simp; done)))
      exact ⟨rfl, fin S1 whatB g0 ha.symm _ (by simp [whatB]) rfl⟩
    | some j =>
      rw [hj] at c2
      repeat' (first | refine Wp.seq ?_ | refine Wp.block ?_ | (apply Wp.region; focus ((try simp [setArgs, c1, c2]) <;> rfl)) | (refine Wp.cond_t ?_ ?_; focus (simp [setArgs, c1, c2]; done)) | (refine Wp.cond_f ?_ ?_; focus (simp [setArgs, c1, c2]; done)) | refine Wp.skip ?_ | refine Wp.ret ?_ | refine Wp.exit ?_ | refine Blk.here ?_ | (refine Blk.past ?_ ?_; focus (simp; done)))
      exact ⟨rfl, fin S1 whatB g0 ha.symm _ (by simp [whatB]) rfl⟩
  · rw [h1] at c1
    have hm : ∀ x : ByteArray, (⟨x.data.toList.toArray⟩ : ByteArray) = x := fun x => rfl
    simp only [hm] at c1
    have c2 := fun_run w hS0 g (by omega)
    have ha := ansL_two h2
    have c3 := c_con hS0 g (by omega) (s := t) (sep := ⟨#[32]⟩) (by omega)
    rw [e32, h3] at c3
    cases hj : wordJ w with
    | none =>
      rw [hj] at c2 ha
      repeat' (first | refine Wp.seq ?_ | refine Wp.block ?_ | (apply Wp.region; focus ((try simp [setArgs, c1, c2]) <;> rfl)) | (refine Wp.cond_t ?_ ?_; focus (simp [setArgs, c1, c2]; done)) | (refine Wp.cond_f ?_ ?_; focus (simp [setArgs, c1, c2]; done)) | refine Wp.skip ?_ | refine Wp.ret ?_ | refine Wp.exit ?_ | refine Blk.here ?_ | (refine Blk.past ?_ ?_; focus (simp; done)))
      exact ⟨rfl, fin S1 whatB g0 ha.symm _ (by simp [whatB]) rfl⟩
    | some j =>
      rw [hj] at c2 ha
      have hj7 := wordJ_lt hj
      have ha : ansL line = ansJ j t := ha
      unfold ansJ at ha
      obtain ⟨v, b, S2, c4, g4, d4⟩ := call_ans hS0 (implParse t (by omega) hS0 g (by omega))
      cases hp : parseV t with
      | none =>
        rw [hp] at d4 ha
        obtain ⟨rfl, rfl⟩ : v = .nil ∧ b = false := d4.elim (fun h => h.2) (fun ⟨zs, q, h, _⟩ => by cases h)
        repeat' (first | refine Wp.seq ?_ | refine Wp.block ?_ | (apply Wp.region; focus ((try simp [setArgs, c1, c2, c3, c4]) <;> rfl)) | (refine Wp.cond_t ?_ ?_; focus (simp [setArgs, c1, c2, c3, c4]; done)) | (refine Wp.cond_f ?_ ?_; focus (simp [setArgs, c1, c2, c3, c4]; done)) | refine Wp.skip ?_ | refine Wp.ret ?_ | refine Wp.exit ?_ | refine Blk.here ?_ | (refine Blk.past ?_ ?_; focus (simp; done)))
        exact ⟨rfl, fin S2 wrongB g4 ha.symm _ (by simp [wrongB]) rfl⟩
      | some zs =>
        rw [hp] at d4 ha
        have hz := (parse_ok hp).1
        obtain ⟨q, hq, hl, rfl⟩ : ∃ q, S1.next ≤ q ∧ IsL S2.obs q zs v ∧ b = true := d4.elim (fun h => by cases h.1) (fun ⟨ws, q, h, hq, hl, hb⟩ => by cases h; exact ⟨q, hq, hl, hb⟩)
        obtain ⟨v', b', S3, c5, g5, d5⟩ := fn_call hj7 g4.wst hz (isL_at hl) g (by omega)
        have g6 := g4.trans g5
        cases hf : funA zs j with
        | none =>
          simp only [hf] at d5 ha
          obtain ⟨rfl, rfl⟩ : v' = .nil ∧ b' = false := d5.elim (fun h => h.2) (fun ⟨zs, q, h, _⟩ => by cases h)
          repeat' (first | refine Wp.seq ?_ | refine Wp.block ?_ | (apply Wp.region; focus ((try simp [setArgs, c1, c2, c3, c4, c5]) <;> rfl)) | (refine Wp.cond_t ?_ ?_; focus (simp [setArgs, c1, c2, c3, c4, c5]; done)) | (refine Wp.cond_f ?_ ?_; focus (simp [setArgs, c1, c2, c3, c4, c5]; done)) | refine Wp.skip ?_ | refine Wp.ret ?_ | refine Wp.exit ?_ | refine Blk.here ?_ | (refine Blk.past ?_ ?_; focus (simp; done)))
          exact ⟨rfl, fin S3 noneB g6 ha.symm _ (by simp [noneB]) rfl⟩
        | some ys =>
          simp only [hf] at d5 ha
          obtain ⟨q', hq', hl', rfl⟩ : ∃ q, S2.next ≤ q ∧ IsL S3.obs q ys v' ∧ b' = true := d5.elim (fun h => by cases h.1) (fun ⟨ws, q, h, hq, hl, hb⟩ => by cases h; exact ⟨q, hq, hl, hb⟩)
          have hb := fun_bnd hz hj7 hf
          obtain ⟨cp, rfl, _⟩ := hl'.val
          have c6 := implTextG ys hb.1 hb.2.1 hb.2.2 g6.wst hl'.obj g (by omega) (cp := cp)
          have g7 : Gro S1 ⟨S3.next + 1, S3.obs, S3.low⟩ := ⟨desc_up g6.desc (Nat.le_succ _), Nat.le_succ_of_le g6.next, g6.low1, Nat.le_succ_of_le g6.low2, g6.keep⟩
          generalize (⟨S3.next + 1, S3.obs, S3.low⟩ : Sto Sy) = S4 at c6 g7
          repeat' (first | refine Wp.seq ?_ | refine Wp.block ?_ | (apply Wp.region; focus ((try simp [setArgs, c1, c2, c3, c4, c5, c6]) <;> rfl)) | (refine Wp.cond_t ?_ ?_; focus (simp [setArgs, c1, c2, c3, c4, c5, c6]; done)) | (refine Wp.cond_f ?_ ?_; focus (simp [setArgs, c1, c2, c3, c4, c5, c6]; done)) | refine Wp.skip ?_ | refine Wp.ret ?_ | refine Wp.exit ?_ | refine Blk.here ?_ | (refine Blk.past ?_ ?_; focus (simp; done)))
          exact ⟨rfl, fin S4 _ g7 ha.symm _ (by simp) rfl⟩
  · rw [h1] at c1
    have hm : ∀ x : ByteArray, (⟨x.data.toList.toArray⟩ : ByteArray) = x := fun x => rfl
    simp only [hm] at c1
    have c2 := fun_run w hS0 g (by omega)
    have ha := ansL_more h2
    have c3 := c_con hS0 g (by omega) (s := t) (sep := ⟨#[32]⟩) (by omega)
    rw [e32, h3] at c3
    cases hj : wordJ w with
    | none =>
      rw [hj] at c2
      repeat' (first | refine Wp.seq ?_ | refine Wp.block ?_ | (apply Wp.region; focus ((try simp [setArgs, c1, c2]) <;> rfl)) | (refine Wp.cond_t ?_ ?_; focus (simp [setArgs, c1, c2]; done)) | (refine Wp.cond_f ?_ ?_; focus (simp [setArgs, c1, c2]; done)) | refine Wp.skip ?_ | refine Wp.ret ?_ | refine Wp.exit ?_ | refine Blk.here ?_ | (refine Blk.past ?_ ?_; focus (simp; done)))
      exact ⟨rfl, fin S1 whatB g0 ha.symm _ (by simp [whatB]) rfl⟩
    | some j =>
      rw [hj] at c2
      repeat' (first | refine Wp.seq ?_ | refine Wp.block ?_ | (apply Wp.region; focus ((try simp [setArgs, c1, c2, c3]) <;> rfl)) | (refine Wp.cond_t ?_ ?_; focus (simp [setArgs, c1, c2, c3]; done)) | (refine Wp.cond_f ?_ ?_; focus (simp [setArgs, c1, c2, c3]; done)) | refine Wp.skip ?_ | refine Wp.ret ?_ | refine Wp.exit ?_ | refine Blk.here ?_ | (refine Blk.past ?_ ?_; focus (simp; done)))
      exact ⟨rfl, fin S1 whatB g0 ha.symm _ (by simp [whatB]) rfl⟩
end Go.Proofs.YtgaodlhdilhliaaGreatDoor.St

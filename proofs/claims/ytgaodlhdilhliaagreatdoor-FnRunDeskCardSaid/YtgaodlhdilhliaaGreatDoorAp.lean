/-
  Answers to lines: what the document's model gives, by a run by hand. No condition.
-/
import Derived.Test.YtgaodlhdilhliaaGreatDoorRows
import Derived.Test.YtgaodlhdilhliaaGreatDoorSym
import Derived.Test.YtgaodlhdilhliaaGreatDoorSymD
import Derived.Test.YtgaodlhdilhliaaGreatDoorSymE
import Derived.Test.YtgaodlhdilhliaaGreatDoorSymF
import Derived.Test.YtgaodlhdilhliaaGreatDoorIds
import Derived.Test.YtgaodlhdilhliaaGreatDoorSh
import Derived.Test.YtgaodlhdilhliaaGreatDoorSt
import Derived.Test.YtgaodlhdilhliaaGreatDoorTel
import Derived.Test.YtgaodlhdilhliaaGreatDoorNum
import Derived.Test.YtgaodlhdilhliaaGreatDoorTx
import Derived.Test.YtgaodlhdilhliaaGreatDoorTy
import Derived.Test.YtgaodlhdilhliaaGreatDoorTg
import Derived.Test.YtgaodlhdilhliaaGreatDoorPe
import Derived.Test.YtgaodlhdilhliaaGreatDoorAx
import Derived.Test.YtgaodlhdilhliaaGreatDoorAn
import Derived.Test.YtgaodlhdilhliaaGreatDoorAo
import Derived.Test.YtgaodlhdilhliaaGreatDoorPd
import Derived.Lib.CutLaws
import Derived.Test.YtgaodlhdilhliaaGreatDoorBp
import Derived.WalkKit
import Derived.ProofKit
import Derived.OpenShut
namespace Go.Proofs.YtgaodlhdilhliaaGreatDoor.St
open Go.ChangeShapes Go.WideShapes Go.ChangeAt Go.RowKit Go.Sx Go.Proofs.YtgaodlhdilhliaaGreatDoor.Ids
set_option linter.unusedVariables false
set_option linter.unusedSimpArgs false

attribute [local simp] aops wants aop apure St.eval setTm_some setTm_none Tr.get_set evals pevals apureB alen tiS tiI tiB tiSs tiStr abin aint isCmp sym_lt sym_eqs sym_neqs sym_eq sym_neq sym_gtr sym_leq sym_geq sym_add sym_sub sym_mul aeff aeffB idx? ofV aindexAddr aindex aggDesc aifc_int aun aifc_str
set_option maxRecDepth 10000
theorem specAns_no (line : ByteArray) (hs : line.size ≤ 1048576) (h2 : (cutB 32 line).length ≠ 2) {S : Sto Sy} (hS : Wst S) (f : Nat) (hf : line.size + 100 ≤ f) :
    ∃ r, symRun Tryz.prog KL [] f 25 [.str line] ⟨S.next, S.obs, S.next⟩ = some r ∧ Gro ⟨S.next, S.obs, S.next⟩ r.2 ∧ r.1 = .str (ansL line) := by
  obtain ⟨g, rfl⟩ : ∃ g, f = g + 1 := ⟨f - 1, by omega⟩
  have hS0 : Wst ⟨S.next, S.obs, S.next⟩ := ⟨hS.desc, Nat.le_refl _⟩
  generalize (⟨S.next, S.obs, S.next⟩ : Sto Sy) = S1 at hS0 ⊢
  refine own_run2 (by rfl) Tryz.func25 rfl rfl ?_
  simp only [Tryz.f25]
  obtain ⟨g, rfl⟩ : ∃ k, g = k + 1 := ⟨g - 1, by omega⟩
  obtain ⟨r, h1, hg, ql, hql, hT⟩ := splitAt_run line 32 (by omega) hS0 g (by omega)
  obtain ⟨S2, c1, hg2, ho2, hn2⟩ := call_gro hS0 h1 hg
  rw [← ho2] at hT
  obtain ⟨rv, rs⟩ := r
  simp only at c1 hT
  obtain ⟨lcp, hlv, hlcp⟩ := hT.val
  subst hlv
  have hto := hT.obj
  have e32 : ((32 : UInt8).toNat : Int) = 32 := rfl
  rw [e32] at c1
  have fin : ∀ (S3 : Sto Sy) (x : ByteArray), Gro S1 S3 → x = ansL line → ∀ st : St Sy, st.tm.get .any 2 = .str x → st.sto = S3 → ∃ r, answer (tiOf Tryz.prog) st S1.next [.tmp 2] = some r ∧ Gro S1 r.2 ∧ r.1 = .str (ansL line) := fun S3 x hg hx st h1 h2 => by
    subst hx
    exact answer_trim1 h1 ⟨by show Gro S1 (Sto.trim S1.next (.str (ansL line)) st.sto); rw [h2]; exact gro_trim hS0 hg _, rfl⟩
  have ha := ansL_more h2
  generalize cutB 32 line = xs at h2 hto c1
  have h3 : ¬ (xs.length : Int) = 2 := by omega
  repeat' (first | refine Wp.seq ?_ | refine Wp.block ?_ | (apply Wp.region; focus ((try simp [setArgs, c1, h3]) <;> rfl)) | (refine Wp.cond_t ?_ ?_; focus (simp [setArgs, c1, h3]; done)) | (refine Wp.cond_f ?_ ?_; focus (simp [setArgs, c1, h3]; done)) | refine Wp.skip ?_ | refine Wp.ret ?_ | refine Wp.exit ?_ | refine Blk.here ?_ | (refine Blk.past ?_ ?_; focus (simp; done)))
  exact ⟨rfl, fin S2 whatB hg2 ha.symm _ (by simp [whatB]) rfl⟩
theorem specAns_0 (line w t : ByteArray) (hs : line.size ≤ 1048576) (h2 : cutB 32 line = [w, t]) (h4 : t.size ≤ line.size) (hw : w = w0) {S : Sto Sy} (hS : Wst S) (f : Nat) (hf : line.size + 100 ≤ f) :
    ∃ r, symRun Tryz.prog KL [] f 25 [.str line] ⟨S.next, S.obs, S.next⟩ = some r ∧ Gro ⟨S.next, S.obs, S.next⟩ r.2 ∧ r.1 = .str (ansL line) := by
  obtain ⟨g, rfl⟩ : ∃ g, f = g + 1 := ⟨f - 1, by omega⟩
  have hS0 : Wst ⟨S.next, S.obs, S.next⟩ := ⟨hS.desc, Nat.le_refl _⟩
  generalize (⟨S.next, S.obs, S.next⟩ : Sto Sy) = S1 at hS0 ⊢
  refine own_run2 (by rfl) Tryz.func25 rfl rfl ?_
  simp only [Tryz.f25]
  obtain ⟨g, rfl⟩ : ∃ k, g = k + 1 := ⟨g - 1, by omega⟩
  obtain ⟨r, h1, hg, ql, hql, hT⟩ := splitAt_run line 32 (by omega) hS0 g (by omega)
  obtain ⟨S2, c1, hg2, ho2, hn2⟩ := call_gro hS0 h1 hg
  rw [← ho2] at hT
  obtain ⟨rv, rs⟩ := r
  simp only at c1 hT
  obtain ⟨lcp, hlv, hlcp⟩ := hT.val
  subst hlv
  have hto := hT.obj
  have e32 : ((32 : UInt8).toNat : Int) = 32 := rfl
  rw [e32] at c1
  have fin : ∀ (S3 : Sto Sy) (x : ByteArray), Gro S1 S3 → x = ansL line → ∀ st : St Sy, st.tm.get .any 2 = .str x → st.sto = S3 → ∃ r, answer (tiOf Tryz.prog) st S1.next [.tmp 2] = some r ∧ Gro S1 r.2 ∧ r.1 = .str (ansL line) := fun S3 x hg hx st h1 h2 => by
    subst hx
    exact answer_trim1 h1 ⟨by show Gro S1 (Sto.trim S1.next (.str (ansL line)) st.sto); rw [h2]; exact gro_trim hS0 hg _, rfl⟩
  have ha := ansL_two h2
  rw [h2] at hto c1
  have h3 : ((([w, t] : List ByteArray).length : Nat) : Int) = 2 := rfl
  have h3n : ([w, t] : List ByteArray).length = 2 := rfl
  rw [h3n] at c1
  obtain ⟨S3, v, b, c2, g3, d3⟩ : ∃ S3 v b, acallV (symIn Tryz.prog KL [] (g + 1)) S2 (.func 35 [] []) [.str t] = some (.tup [v, .bool b], S3) ∧ Gro S2 S3 ∧ ((parseV t = none ∧ v = .nil ∧ b = false) ∨ ∃ zs q, parseV t = some zs ∧ S2.next ≤ q ∧ IsL S3.obs q zs v ∧ b = true) := by
    obtain ⟨v, b, S3, k1, k2, k3⟩ := call_ans hg2.wst (parse_run t (by omega) hg2.wst g (by omega))
    exact ⟨S3, v, b, k1, k2, k3⟩
  have hG3 := hg2.trans g3
  have hT3 : Go.Sx.look S3.obs ql = some (strs [w, t]) := g3.keep _ _ hto
  have l1 : aload (tiOf Tryz.prog) S2 9 (.ptr ql 1) = some (.str t) := loadS (i := 1) hto (by simp)
  have c3 := litI0 S3
  have hG4 := hG3.new (ints (nums []))
  have hT4 : Go.Sx.look (S3.new (ints (nums []))).obs ql = some (strs [w, t]) := by rw [look_new1 S3 _ (hG3.desc.look_lt hT3)]; exact hT3
  have l0 : aload (tiOf Tryz.prog) (S3.new (ints (nums []))) 9 (.ptr ql 0) = some (.str w) := loadS (i := 0) hT4 (by simp)
  have hL4 : ∀ zs q, IsL S3.obs q zs v → IsL (S3.new (ints (nums []))).obs q zs v := fun zs q h => ⟨h.val, by rw [look_new1 S3 _ (hG3.desc.look_lt h.obj)]; exact h.obj⟩
  generalize S3.new (ints (nums [])) = S4 at c3 hG4 l0 hL4
  have i1 : (1 : Int) < 2 := by decide
  have i0 : (0 : Int) < 2 := by decide
  have hj : wordJ w = some 0 := by subst hw; simp [wordJ, w0, w1, w2, w3, w4, w5, w6]
  rw [hj] at ha
  have ha : ansL line = ansJ 0 t := ha
  subst hw
  unfold ansJ at ha
  cases hp : parseV t with
  | none =>
    rw [hp] at d3 ha
    obtain ⟨rfl, rfl⟩ : v = .nil ∧ b = false := d3.elim (fun h => h.2) (fun ⟨zs, q, h, _⟩ => by cases h)
    repeat' (first | refine Wp.seq ?_ | refine Wp.block ?_ | (apply Wp.region; focus ((try simp [setArgs, str_eq, w0, i1, i0, l1, l0, c1, c2, c3]) <;> rfl)) | (refine Wp.cond_t ?_ ?_; focus (simp [setArgs, str_eq, w0, i1, i0, l1, l0, c1, c2, c3]; done)) | (refine Wp.cond_f ?_ ?_; focus (simp [setArgs, str_eq, w0, i1, i0, l1, l0, c1, c2, c3]; done)) | refine Wp.skip ?_ | refine Wp.ret ?_ | refine Wp.exit ?_ | refine Blk.here ?_ | (refine Blk.past ?_ ?_; focus (simp; done)))
    exact ⟨rfl, fin S4 wrongB hG4 ha.symm _ (by simp [wrongB]) rfl⟩
  | some zs =>
    rw [hp] at d3 ha
    have hz := (parse_ok hp).1
    obtain ⟨q, hq, hl, rfl⟩ : ∃ q, S2.next ≤ q ∧ IsL S3.obs q zs v ∧ b = true := d3.elim (fun h => by cases h.1) (fun ⟨ws, q, h, hq, hl, hb⟩ => by cases h; exact ⟨q, hq, hl, hb⟩)
    obtain ⟨v', b', S5, c5, g5, d5⟩ := c_s0 hG4.wst hz (isL_at (hL4 zs q hl)) (g + 1) (by omega)
    have g6 := hG4.trans g5
    cases hf : funA zs 0 with
    | none =>
      simp only [hf] at d5 ha
      obtain ⟨rfl, rfl⟩ : v' = .nil ∧ b' = false := d5.elim (fun h => h.2) (fun ⟨zs, q, h, _⟩ => by cases h)
      repeat' (first | refine Wp.seq ?_ | refine Wp.block ?_ | (apply Wp.region; focus ((try simp [setArgs, str_eq, w0, i1, i0, l1, l0, c1, c2, c3, c5]) <;> rfl)) | (refine Wp.cond_t ?_ ?_; focus (simp [setArgs, str_eq, w0, i1, i0, l1, l0, c1, c2, c3, c5]; done)) | (refine Wp.cond_f ?_ ?_; focus (simp [setArgs, str_eq, w0, i1, i0, l1, l0, c1, c2, c3, c5]; done)) | refine Wp.skip ?_ | refine Wp.ret ?_ | refine Wp.exit ?_ | refine Blk.here ?_ | (refine Blk.past ?_ ?_; focus (simp; done)))
      exact ⟨rfl, fin S5 noneB g6 ha.symm _ (by simp [noneB]) rfl⟩
    | some ys =>
      simp only [hf] at d5 ha
      obtain ⟨q', hq', hl', rfl⟩ : ∃ q, S4.next ≤ q ∧ IsL S5.obs q ys v' ∧ b' = true := d5.elim (fun h => by cases h.1) (fun ⟨ws, q, h, hq, hl, hb⟩ => by cases h; exact ⟨q, hq, hl, hb⟩)
      have hb := fun_bnd hz (by decide : 0 < 7) hf
      obtain ⟨cp, rfl, _⟩ := hl'.val
      have c6 := specTextA ys hb.1 hb.2.2 g6.wst hl'.obj (g + 1) (by omega) (cp := cp)
      generalize ys.length = ny at c5 c6
      repeat' (first | refine Wp.seq ?_ | refine Wp.block ?_ | (apply Wp.region; focus ((try simp [setArgs, str_eq, w0, i1, i0, l1, l0, c1, c2, c3, c5, c6]) <;> rfl)) | (refine Wp.cond_t ?_ ?_; focus (simp [setArgs, str_eq, w0, i1, i0, l1, l0, c1, c2, c3, c5, c6]; done)) | (refine Wp.cond_f ?_ ?_; focus (simp [setArgs, str_eq, w0, i1, i0, l1, l0, c1, c2, c3, c5, c6]; done)) | refine Wp.skip ?_ | refine Wp.ret ?_ | refine Wp.exit ?_ | refine Blk.here ?_ | (refine Blk.past ?_ ?_; focus (simp; done)))
      exact ⟨rfl, fin S5 _ g6 ha.symm _ (by simp) rfl⟩
theorem specAns_1 (line w t : ByteArray) (hs : line.size ≤ 1048576) (h2 : cutB 32 line = [w, t]) (h4 : t.size ≤ line.size) (hw : w = w1) {S : Sto Sy} (hS : Wst S) (f : Nat) (hf : line.size + 100 ≤ f) :
    ∃ r, symRun Tryz.prog KL [] f 25 [.str line] ⟨S.next, S.obs, S.next⟩ = some r ∧ Gro ⟨S.next, S.obs, S.next⟩ r.2 ∧ r.1 = .str (ansL line) := by
  obtain ⟨g, rfl⟩ : ∃ g, f = g + 1 := ⟨f - 1, by omega⟩
  have hS0 : Wst ⟨S.next, S.obs, S.next⟩ := ⟨hS.desc, Nat.le_refl _⟩
  generalize (⟨S.next, S.obs, S.next⟩ : Sto Sy) = S1 at hS0 ⊢
  refine own_run2 (by rfl) Tryz.func25 rfl rfl ?_
  simp only [Tryz.f25]
  obtain ⟨g, rfl⟩ : ∃ k, g = k + 1 := ⟨g - 1, by omega⟩
  obtain ⟨r, h1, hg, ql, hql, hT⟩ := splitAt_run line 32 (by omega) hS0 g (by omega)
  obtain ⟨S2, c1, hg2, ho2, hn2⟩ := call_gro hS0 h1 hg
  rw [← ho2] at hT
  obtain ⟨rv, rs⟩ := r
  simp only at c1 hT
  obtain ⟨lcp, hlv, hlcp⟩ := hT.val
  subst hlv
  have hto := hT.obj
  have e32 : ((32 : UInt8).toNat : Int) = 32 := rfl
  rw [e32] at c1
  have fin : ∀ (S3 : Sto Sy) (x : ByteArray), Gro S1 S3 → x = ansL line → ∀ st : St Sy, st.tm.get .any 2 = .str x → st.sto = S3 → ∃ r, answer (tiOf Tryz.prog) st S1.next [.tmp 2] = some r ∧ Gro S1 r.2 ∧ r.1 = .str (ansL line) := fun S3 x hg hx st h1 h2 => by
    subst hx
    exact answer_trim1 h1 ⟨by show Gro S1 (Sto.trim S1.next (.str (ansL line)) st.sto); rw [h2]; exact gro_trim hS0 hg _, rfl⟩
  have ha := ansL_two h2
  rw [h2] at hto c1
  have h3 : ((([w, t] : List ByteArray).length : Nat) : Int) = 2 := rfl
  have h3n : ([w, t] : List ByteArray).length = 2 := rfl
  rw [h3n] at c1
  obtain ⟨S3, v, b, c2, g3, d3⟩ : ∃ S3 v b, acallV (symIn Tryz.prog KL [] (g + 1)) S2 (.func 35 [] []) [.str t] = some (.tup [v, .bool b], S3) ∧ Gro S2 S3 ∧ ((parseV t = none ∧ v = .nil ∧ b = false) ∨ ∃ zs q, parseV t = some zs ∧ S2.next ≤ q ∧ IsL S3.obs q zs v ∧ b = true) := by
    obtain ⟨v, b, S3, k1, k2, k3⟩ := call_ans hg2.wst (parse_run t (by omega) hg2.wst g (by omega))
    exact ⟨S3, v, b, k1, k2, k3⟩
  have hG3 := hg2.trans g3
  have hT3 : Go.Sx.look S3.obs ql = some (strs [w, t]) := g3.keep _ _ hto
  have l1 : aload (tiOf Tryz.prog) S2 9 (.ptr ql 1) = some (.str t) := loadS (i := 1) hto (by simp)
  have c3 := litI0 S3
  have hG4 := hG3.new (ints (nums []))
  have hT4 : Go.Sx.look (S3.new (ints (nums []))).obs ql = some (strs [w, t]) := by rw [look_new1 S3 _ (hG3.desc.look_lt hT3)]; exact hT3
  have l0 : aload (tiOf Tryz.prog) (S3.new (ints (nums []))) 9 (.ptr ql 0) = some (.str w) := loadS (i := 0) hT4 (by simp)
  have hL4 : ∀ zs q, IsL S3.obs q zs v → IsL (S3.new (ints (nums []))).obs q zs v := fun zs q h => ⟨h.val, by rw [look_new1 S3 _ (hG3.desc.look_lt h.obj)]; exact h.obj⟩
  generalize S3.new (ints (nums [])) = S4 at c3 hG4 l0 hL4
  have i1 : (1 : Int) < 2 := by decide
  have i0 : (0 : Int) < 2 := by decide
  have hj : wordJ w = some 1 := by subst hw; simp [wordJ, w0, w1, w2, w3, w4, w5, w6]
  rw [hj] at ha
  have ha : ansL line = ansJ 1 t := ha
  subst hw
  unfold ansJ at ha
  cases hp : parseV t with
  | none =>
    rw [hp] at d3 ha
    obtain ⟨rfl, rfl⟩ : v = .nil ∧ b = false := d3.elim (fun h => h.2) (fun ⟨zs, q, h, _⟩ => by cases h)
    repeat' (first | refine Wp.seq ?_ | refine Wp.block ?_ | (apply Wp.region; focus ((try simp [setArgs, str_eq, w1, i1, i0, l1, l0, c1, c2, c3]) <;> rfl)) | (refine Wp.cond_t ?_ ?_; focus (simp [setArgs, str_eq, w1, i1, i0, l1, l0, c1, c2, c3]; done)) | (refine Wp.cond_f ?_ ?_; focus (simp [setArgs, str_eq, w1, i1, i0, l1, l0, c1, c2, c3]; done)) | refine Wp.skip ?_ | refine Wp.ret ?_ | refine Wp.exit ?_ | refine Blk.here ?_ | (refine Blk.past ?_ ?_; focus (simp; done)))
    exact ⟨rfl, fin S4 wrongB hG4 ha.symm _ (by simp [wrongB]) rfl⟩
  | some zs =>
    rw [hp] at d3 ha
    have hz := (parse_ok hp).1
    obtain ⟨q, hq, hl, rfl⟩ : ∃ q, S2.next ≤ q ∧ IsL S3.obs q zs v ∧ b = true := d3.elim (fun h => by cases h.1) (fun ⟨ws, q, h, hq, hl, hb⟩ => by cases h; exact ⟨q, hq, hl, hb⟩)
    obtain ⟨v', b', S5, c5, g5, d5⟩ := c_s1 hG4.wst hz (isL_at (hL4 zs q hl)) (g + 1) (by omega)
    have g6 := hG4.trans g5
    cases hf : funA zs 1 with
    | none =>
      simp only [hf] at d5 ha
      obtain ⟨rfl, rfl⟩ : v' = .nil ∧ b' = false := d5.elim (fun h => h.2) (fun ⟨zs, q, h, _⟩ => by cases h)
      repeat' (first | refine Wp.seq ?_ | refine Wp.block ?_ | (apply Wp.region; focus ((try simp [setArgs, str_eq, w1, i1, i0, l1, l0, c1, c2, c3, c5]) <;> rfl)) | (refine Wp.cond_t ?_ ?_; focus (simp [setArgs, str_eq, w1, i1, i0, l1, l0, c1, c2, c3, c5]; done)) | (refine Wp.cond_f ?_ ?_; focus (simp [setArgs, str_eq, w1, i1, i0, l1, l0, c1, c2, c3, c5]; done)) | refine Wp.skip ?_ | refine Wp.ret ?_ | refine Wp.exit ?_ | refine Blk.here ?_ | (refine Blk.past ?_ ?_; focus (simp; done)))
      exact ⟨rfl, fin S5 noneB g6 ha.symm _ (by simp [noneB]) rfl⟩
    | some ys =>
      simp only [hf] at d5 ha
      obtain ⟨q', hq', hl', rfl⟩ : ∃ q, S4.next ≤ q ∧ IsL S5.obs q ys v' ∧ b' = true := d5.elim (fun h => by cases h.1) (fun ⟨ws, q, h, hq, hl, hb⟩ => by cases h; exact ⟨q, hq, hl, hb⟩)
      have hb := fun_bnd hz (by decide : 1 < 7) hf
      obtain ⟨cp, rfl, _⟩ := hl'.val
      have c6 := specTextA ys hb.1 hb.2.2 g6.wst hl'.obj (g + 1) (by omega) (cp := cp)
      generalize ys.length = ny at c5 c6
      repeat' (first | refine Wp.seq ?_ | refine Wp.block ?_ | (apply Wp.region; focus ((try simp [setArgs, str_eq, w1, i1, i0, l1, l0, c1, c2, c3, c5, c6]) <;> rfl)) | (refine Wp.cond_t ?_ ?_; focus (simp [setArgs, str_eq, w1, i1, i0, l1, l0, c1, c2, c3, c5, c6]; done)) | (refine Wp.cond_f ?_ ?_; focus (simp [setArgs, str_eq, w1, i1, i0, l1, l0, c1, c2, c3, c5, c6]; done)) | refine Wp.skip ?_ | refine Wp.ret ?_ | refine Wp.exit ?_ | refine Blk.here ?_ | (refine Blk.past ?_ ?_; focus (simp; done)))
      exact ⟨rfl, fin S5 _ g6 ha.symm _ (by simp) rfl⟩
theorem specAns_2 (line w t : ByteArray) (hs : line.size ≤ 1048576) (h2 : cutB 32 line = [w, t]) (h4 : t.size ≤ line.size) (hw : w = w2) {S : Sto Sy} (hS : Wst S) (f : Nat) (hf : line.size + 100 ≤ f) :
    ∃ r, symRun Tryz.prog KL [] f 25 [.str line] ⟨S.next, S.obs, S.next⟩ = some r ∧ Gro ⟨S.next, S.obs, S.next⟩ r.2 ∧ r.1 = .str (ansL line) := by
  obtain ⟨g, rfl⟩ : ∃ g, f = g + 1 := ⟨f - 1, by omega⟩
  have hS0 : Wst ⟨S.next, S.obs, S.next⟩ := ⟨hS.desc, Nat.le_refl _⟩
  generalize (⟨S.next, S.obs, S.next⟩ : Sto Sy) = S1 at hS0 ⊢
  refine own_run2 (by rfl) Tryz.func25 rfl rfl ?_
  simp only [Tryz.f25]
  obtain ⟨g, rfl⟩ : ∃ k, g = k + 1 := ⟨g - 1, by omega⟩
  obtain ⟨r, h1, hg, ql, hql, hT⟩ := splitAt_run line 32 (by omega) hS0 g (by omega)
  obtain ⟨S2, c1, hg2, ho2, hn2⟩ := call_gro hS0 h1 hg
  rw [← ho2] at hT
  obtain ⟨rv, rs⟩ := r
  simp only at c1 hT
  obtain ⟨lcp, hlv, hlcp⟩ := hT.val
  subst hlv
  have hto := hT.obj
  have e32 : ((32 : UInt8).toNat : Int) = 32 := rfl
  rw [e32] at c1
  have fin : ∀ (S3 : Sto Sy) (x : ByteArray), Gro S1 S3 → x = ansL line → ∀ st : St Sy, st.tm.get .any 2 = .str x → st.sto = S3 → ∃ r, answer (tiOf Tryz.prog) st S1.next [.tmp 2] = some r ∧ Gro S1 r.2 ∧ r.1 = .str (ansL line) := fun S3 x hg hx st h1 h2 => by
    subst hx
    exact answer_trim1 h1 ⟨by show Gro S1 (Sto.trim S1.next (.str (ansL line)) st.sto); rw [h2]; exact gro_trim hS0 hg _, rfl⟩
  have ha := ansL_two h2
  rw [h2] at hto c1
  have h3 : ((([w, t] : List ByteArray).length : Nat) : Int) = 2 := rfl
  have h3n : ([w, t] : List ByteArray).length = 2 := rfl
  rw [h3n] at c1
  obtain ⟨S3, v, b, c2, g3, d3⟩ : ∃ S3 v b, acallV (symIn Tryz.prog KL [] (g + 1)) S2 (.func 35 [] []) [.str t] = some (.tup [v, .bool b], S3) ∧ Gro S2 S3 ∧ ((parseV t = none ∧ v = .nil ∧ b = false) ∨ ∃ zs q, parseV t = some zs ∧ S2.next ≤ q ∧ IsL S3.obs q zs v ∧ b = true) := by
    obtain ⟨v, b, S3, k1, k2, k3⟩ := call_ans hg2.wst (parse_run t (by omega) hg2.wst g (by omega))
    exact ⟨S3, v, b, k1, k2, k3⟩
  have hG3 := hg2.trans g3
  have hT3 : Go.Sx.look S3.obs ql = some (strs [w, t]) := g3.keep _ _ hto
  have l1 : aload (tiOf Tryz.prog) S2 9 (.ptr ql 1) = some (.str t) := loadS (i := 1) hto (by simp)
  have c3 := litI0 S3
  have hG4 := hG3.new (ints (nums []))
  have hT4 : Go.Sx.look (S3.new (ints (nums []))).obs ql = some (strs [w, t]) := by rw [look_new1 S3 _ (hG3.desc.look_lt hT3)]; exact hT3
  have l0 : aload (tiOf Tryz.prog) (S3.new (ints (nums []))) 9 (.ptr ql 0) = some (.str w) := loadS (i := 0) hT4 (by simp)
  have hL4 : ∀ zs q, IsL S3.obs q zs v → IsL (S3.new (ints (nums []))).obs q zs v := fun zs q h => ⟨h.val, by rw [look_new1 S3 _ (hG3.desc.look_lt h.obj)]; exact h.obj⟩
  generalize S3.new (ints (nums [])) = S4 at c3 hG4 l0 hL4
  have i1 : (1 : Int) < 2 := by decide
  have i0 : (0 : Int) < 2 := by decide
  have hj : wordJ w = some 2 := by subst hw; simp [wordJ, w0, w1, w2, w3, w4, w5, w6]
  rw [hj] at ha
  have ha : ansL line = ansJ 2 t := ha
  subst hw
  unfold ansJ at ha
  cases hp : parseV t with
  | none =>
    rw [hp] at d3 ha
    obtain ⟨rfl, rfl⟩ : v = .nil ∧ b = false := d3.elim (fun h => h.2) (fun ⟨zs, q, h, _⟩ => by cases h)
    repeat' (first | refine Wp.seq ?_ | refine Wp.block ?_ | (apply Wp.region; focus ((try simp [setArgs, str_eq, w2, i1, i0, l1, l0, c1, c2, c3]) <;> rfl)) | (refine Wp.cond_t ?_ ?_; focus (simp [setArgs, str_eq, w2, i1, i0, l1, l0, c1, c2, c3]; done)) | (refine Wp.cond_f ?_ ?_; focus (simp [setArgs, str_eq, w2, i1, i0, l1, l0, c1, c2, c3]; done)) | refine Wp.skip ?_ | refine Wp.ret ?_ | refine Wp.exit ?_ | refine Blk.here ?_ | (refine Blk.past ?_ ?_; focus (simp; done)))
    exact ⟨rfl, fin S4 wrongB hG4 ha.symm _ (by simp [wrongB]) rfl⟩
  | some zs =>
    rw [hp] at d3 ha
    have hz := (parse_ok hp).1
    obtain ⟨q, hq, hl, rfl⟩ : ∃ q, S2.next ≤ q ∧ IsL S3.obs q zs v ∧ b = true := d3.elim (fun h => by cases h.1) (fun ⟨ws, q, h, hq, hl, hb⟩ => by cases h; exact ⟨q, hq, hl, hb⟩)
    obtain ⟨v', b', S5, c5, g5, d5⟩ := c_s2 hG4.wst hz (isL_at (hL4 zs q hl)) (g + 1) (by omega)
    have g6 := hG4.trans g5
    cases hf : funA zs 2 with
    | none =>
      simp only [hf] at d5 ha
      obtain ⟨rfl, rfl⟩ : v' = .nil ∧ b' = false := d5.elim (fun h => h.2) (fun ⟨zs, q, h, _⟩ => by cases h)
      repeat' (first | refine Wp.seq ?_ | refine Wp.block ?_ | (apply Wp.region; focus ((try simp [setArgs, str_eq, w2, i1, i0, l1, l0, c1, c2, c3, c5]) <;> rfl)) | (refine Wp.cond_t ?_ ?_; focus (simp [setArgs, str_eq, w2, i1, i0, l1, l0, c1, c2, c3, c5]; done)) | (refine Wp.cond_f ?_ ?_; focus (simp [setArgs, str_eq, w2, i1, i0, l1, l0, c1, c2, c3, c5]; done)) | refine Wp.skip ?_ | refine Wp.ret ?_ | refine Wp.exit ?_ | refine Blk.here ?_ | (refine Blk.past ?_ ?_; focus (simp; done)))
      exact ⟨rfl, fin S5 noneB g6 ha.symm _ (by simp [noneB]) rfl⟩
    | some ys =>
      simp only [hf] at d5 ha
      obtain ⟨q', hq', hl', rfl⟩ : ∃ q, S4.next ≤ q ∧ IsL S5.obs q ys v' ∧ b' = true := d5.elim (fun h => by cases h.1) (fun ⟨ws, q, h, hq, hl, hb⟩ => by cases h; exact ⟨q, hq, hl, hb⟩)
      have hb := fun_bnd hz (by decide : 2 < 7) hf
      obtain ⟨cp, rfl, _⟩ := hl'.val
      have c6 := specTextA ys hb.1 hb.2.2 g6.wst hl'.obj (g + 1) (by omega) (cp := cp)
      generalize ys.length = ny at c5 c6
      repeat' (first | refine Wp.seq ?_ | refine Wp.block ?_ | (apply Wp.region; focus ((try simp [setArgs, str_eq, w2, i1, i0, l1, l0, c1, c2, c3, c5, c6]) <;> rfl)) | (refine Wp.cond_t ?_ ?_; focus (simp [setArgs, str_eq, w2, i1, i0, l1, l0, c1, c2, c3, c5, c6]; done)) | (refine Wp.cond_f ?_ ?_; focus (simp [setArgs, str_eq, w2, i1, i0, l1, l0, c1, c2, c3, c5, c6]; done)) | refine Wp.skip ?_ | refine Wp.ret ?_ | refine Wp.exit ?_ | refine Blk.here ?_ | (refine Blk.past ?_ ?_; focus (simp; done)))
      exact ⟨rfl, fin S5 _ g6 ha.symm _ (by simp) rfl⟩
theorem specAns_3 (line w t : ByteArray) (hs : line.size ≤ 1048576) (h2 : cutB 32 line = [w, t]) (h4 : t.size ≤ line.size) (hw : w = w3) {S : Sto Sy} (hS : Wst S) (f : Nat) (hf : line.size + 100 ≤ f) :
    ∃ r, symRun Tryz.prog KL [] f 25 [.str line] ⟨S.next, S.obs, S.next⟩ = some r ∧ Gro ⟨S.next, S.obs, S.next⟩ r.2 ∧ r.1 = .str (ansL line) := by
  obtain ⟨g, rfl⟩ : ∃ g, f = g + 1 := ⟨f - 1, by omega⟩
  have hS0 : Wst ⟨S.next, S.obs, S.next⟩ := ⟨hS.desc, Nat.le_refl _⟩
  generalize (⟨S.next, S.obs, S.next⟩ : Sto Sy) = S1 at hS0 ⊢
  refine own_run2 (by rfl) Tryz.func25 rfl rfl ?_
  simp only [Tryz.f25]
  obtain ⟨g, rfl⟩ : ∃ k, g = k + 1 := ⟨g - 1, by omega⟩
  obtain ⟨r, h1, hg, ql, hql, hT⟩ := splitAt_run line 32 (by omega) hS0 g (by omega)
  obtain ⟨S2, c1, hg2, ho2, hn2⟩ := call_gro hS0 h1 hg
  rw [← ho2] at hT
  obtain ⟨rv, rs⟩ := r
  simp only at c1 hT
  obtain ⟨lcp, hlv, hlcp⟩ := hT.val
  subst hlv
  have hto := hT.obj
  have e32 : ((32 : UInt8).toNat : Int) = 32 := rfl
  rw [e32] at c1
  have fin : ∀ (S3 : Sto Sy) (x : ByteArray), Gro S1 S3 → x = ansL line → ∀ st : St Sy, st.tm.get .any 2 = .str x → st.sto = S3 → ∃ r, answer (tiOf Tryz.prog) st S1.next [.tmp 2] = some r ∧ Gro S1 r.2 ∧ r.1 = .str (ansL line) := fun S3 x hg hx st h1 h2 => by
    subst hx
    exact answer_trim1 h1 ⟨by show Gro S1 (Sto.trim S1.next (.str (ansL line)) st.sto); rw [h2]; exact gro_trim hS0 hg _, rfl⟩
  have ha := ansL_two h2
  rw [h2] at hto c1
  have h3 : ((([w, t] : List ByteArray).length : Nat) : Int) = 2 := rfl
  have h3n : ([w, t] : List ByteArray).length = 2 := rfl
  rw [h3n] at c1
  obtain ⟨S3, v, b, c2, g3, d3⟩ : ∃ S3 v b, acallV (symIn Tryz.prog KL [] (g + 1)) S2 (.func 35 [] []) [.str t] = some (.tup [v, .bool b], S3) ∧ Gro S2 S3 ∧ ((parseV t = none ∧ v = .nil ∧ b = false) ∨ ∃ zs q, parseV t = some zs ∧ S2.next ≤ q ∧ IsL S3.obs q zs v ∧ b = true) := by
    obtain ⟨v, b, S3, k1, k2, k3⟩ := call_ans hg2.wst (parse_run t (by omega) hg2.wst g (by omega))
    exact ⟨S3, v, b, k1, k2, k3⟩
  have hG3 := hg2.trans g3
  have hT3 : Go.Sx.look S3.obs ql = some (strs [w, t]) := g3.keep _ _ hto
  have l1 : aload (tiOf Tryz.prog) S2 9 (.ptr ql 1) = some (.str t) := loadS (i := 1) hto (by simp)
  have c3 := litI0 S3
  have hG4 := hG3.new (ints (nums []))
  have hT4 : Go.Sx.look (S3.new (ints (nums []))).obs ql = some (strs [w, t]) := by rw [look_new1 S3 _ (hG3.desc.look_lt hT3)]; exact hT3
  have l0 : aload (tiOf Tryz.prog) (S3.new (ints (nums []))) 9 (.ptr ql 0) = some (.str w) := loadS (i := 0) hT4 (by simp)
  have hL4 : ∀ zs q, IsL S3.obs q zs v → IsL (S3.new (ints (nums []))).obs q zs v := fun zs q h => ⟨h.val, by rw [look_new1 S3 _ (hG3.desc.look_lt h.obj)]; exact h.obj⟩
  generalize S3.new (ints (nums [])) = S4 at c3 hG4 l0 hL4
  have i1 : (1 : Int) < 2 := by decide
  have i0 : (0 : Int) < 2 := by decide
  have hj : wordJ w = some 3 := by subst hw; simp [wordJ, w0, w1, w2, w3, w4, w5, w6]
  rw [hj] at ha
  have ha : ansL line = ansJ 3 t := ha
  subst hw
  unfold ansJ at ha
  cases hp : parseV t with
  | none =>
    rw [hp] at d3 ha
    obtain ⟨rfl, rfl⟩ : v = .nil ∧ b = false := d3.elim (fun h => h.2) (fun ⟨zs, q, h, _⟩ => by cases h)
    repeat' (first | refine Wp.seq ?_ | refine Wp.block ?_ | (apply Wp.region; focus ((try simp [setArgs, str_eq, w3, i1, i0, l1, l0, c1, c2, c3]) <;> rfl)) | (refine Wp.cond_t ?_ ?_; focus (simp [setArgs, str_eq, w3, i1, i0, l1, l0, c1, c2, c3]; done)) | (refine Wp.cond_f ?_ ?_; focus (simp [setArgs, str_eq, w3, i1, i0, l1, l0, c1, c2, c3]; done)) | refine Wp.skip ?_ | refine Wp.ret ?_ | refine Wp.exit ?_ | refine Blk.here ?_ | (refine Blk.past ?_ ?_; focus (simp; done)))
    exact ⟨rfl, fin S4 wrongB hG4 ha.symm _ (by simp [wrongB]) rfl⟩
  | some zs =>
    rw [hp] at d3 ha
    have hz := (parse_ok hp).1
    obtain ⟨q, hq, hl, rfl⟩ : ∃ q, S2.next ≤ q ∧ IsL S3.obs q zs v ∧ b = true := d3.elim (fun h => by cases h.1) (fun ⟨ws, q, h, hq, hl, hb⟩ => by cases h; exact ⟨q, hq, hl, hb⟩)
    obtain ⟨v', b', S5, c5, g5, d5⟩ := c_s3 hG4.wst hz (isL_at (hL4 zs q hl)) (g + 1) (by omega)
    have g6 := hG4.trans g5
    cases hf : funA zs 3 with
    | none =>
      simp only [hf] at d5 ha
      obtain ⟨rfl, rfl⟩ : v' = .nil ∧ b' = false := d5.elim (fun h => h.2) (fun ⟨zs, q, h, _⟩ => by cases h)
      repeat' (first | refine Wp.seq ?_ | refine Wp.block ?_ | (apply Wp.region; focus ((try simp [setArgs, str_eq, w3, i1, i0, l1, l0, c1, c2, c3, c5]) <;> rfl)) | (refine Wp.cond_t ?_ ?_; focus (simp [setArgs, str_eq, w3, i1, i0, l1, l0, c1, c2, c3, c5]; done)) | (refine Wp.cond_f ?_ ?_; focus (simp [setArgs, str_eq, w3, i1, i0, l1, l0, c1, c2, c3, c5]; done)) | refine Wp.skip ?_ | refine Wp.ret ?_ | refine Wp.exit ?_ | refine Blk.here ?_ | (refine Blk.past ?_ ?_; focus (simp; done)))
      exact ⟨rfl, fin S5 noneB g6 ha.symm _ (by simp [noneB]) rfl⟩
    | some ys =>
      simp only [hf] at d5 ha
      obtain ⟨q', hq', hl', rfl⟩ : ∃ q, S4.next ≤ q ∧ IsL S5.obs q ys v' ∧ b' = true := d5.elim (fun h => by cases h.1) (fun ⟨ws, q, h, hq, hl, hb⟩ => by cases h; exact ⟨q, hq, hl, hb⟩)
      have hb := fun_bnd hz (by decide : 3 < 7) hf
      obtain ⟨cp, rfl, _⟩ := hl'.val
      have c6 := specTextA ys hb.1 hb.2.2 g6.wst hl'.obj (g + 1) (by omega) (cp := cp)
      generalize ys.length = ny at c5 c6
      repeat' (first | refine Wp.seq ?_ | refine Wp.block ?_ | (apply Wp.region; focus ((try simp [setArgs, str_eq, w3, i1, i0, l1, l0, c1, c2, c3, c5, c6]) <;> rfl)) | (refine Wp.cond_t ?_ ?_; focus (simp [setArgs, str_eq, w3, i1, i0, l1, l0, c1, c2, c3, c5, c6]; done)) | (refine Wp.cond_f ?_ ?_; focus (simp [setArgs, str_eq, w3, i1, i0, l1, l0, c1, c2, c3, c5, c6]; done)) | refine Wp.skip ?_ | refine Wp.ret ?_ | refine Wp.exit ?_ | refine Blk.here ?_ | (refine Blk.past ?_ ?_; focus (simp; done)))
      exact ⟨rfl, fin S5 _ g6 ha.symm _ (by simp) rfl⟩
theorem specAns_4 (line w t : ByteArray) (hs : line.size ≤ 1048576) (h2 : cutB 32 line = [w, t]) (h4 : t.size ≤ line.size) (hw : w = w4) {S : Sto Sy} (hS : Wst S) (f : Nat) (hf : line.size + 100 ≤ f) :
    ∃ r, symRun Tryz.prog KL [] f 25 [.str line] ⟨S.next, S.obs, S.next⟩ = some r ∧ Gro ⟨S.next, S.obs, S.next⟩ r.2 ∧ r.1 = .str (ansL line) := by
  obtain ⟨g, rfl⟩ : ∃ g, f = g + 1 := ⟨f - 1, by omega⟩
  have hS0 : Wst ⟨S.next, S.obs, S.next⟩ := ⟨hS.desc, Nat.le_refl _⟩
  generalize (⟨S.next, S.obs, S.next⟩ : Sto Sy) = S1 at hS0 ⊢
  refine own_run2 (by rfl) Tryz.func25 rfl rfl ?_
  simp only [Tryz.f25]
  obtain ⟨g, rfl⟩ : ∃ k, g = k + 1 := ⟨g - 1, by omega⟩
  obtain ⟨r, h1, hg, ql, hql, hT⟩ := splitAt_run line 32 (by omega) hS0 g (by omega)
  obtain ⟨S2, c1, hg2, ho2, hn2⟩ := call_gro hS0 h1 hg
  rw [← ho2] at hT
  obtain ⟨rv, rs⟩ := r
  simp only at c1 hT
  obtain ⟨lcp, hlv, hlcp⟩ := hT.val
  subst hlv
  have hto := hT.obj
  have e32 : ((32 : UInt8).toNat : Int) = 32 := rfl
  rw [e32] at c1
  have fin : ∀ (S3 : Sto Sy) (x : ByteArray), Gro S1 S3 → x = ansL line → ∀ st : St Sy, st.tm.get .any 2 = .str x → st.sto = S3 → ∃ r, answer (tiOf Tryz.prog) st S1.next [.tmp 2] = some r ∧ Gro S1 r.2 ∧ r.1 = .str (ansL line) := fun S3 x hg hx st h1 h2 => by
    subst hx
    exact answer_trim1 h1 ⟨by show Gro S1 (Sto.trim S1.next (.str (ansL line)) st.sto); rw [h2]; exact gro_trim hS0 hg _, rfl⟩
  have ha := ansL_two h2
  rw [h2] at hto c1
  have h3 : ((([w, t] : List ByteArray).length : Nat) : Int) = 2 := rfl
  have h3n : ([w, t] : List ByteArray).length = 2 := rfl
  rw [h3n] at c1
  obtain ⟨S3, v, b, c2, g3, d3⟩ : ∃ S3 v b, acallV (symIn Tryz.prog KL [] (g + 1)) S2 (.func 35 [] []) [.str t] = some (.tup [v, .bool b], S3) ∧ Gro S2 S3 ∧ ((parseV t = none ∧ v = .nil ∧ b = false) ∨ ∃ zs q, parseV t = some zs ∧ S2.next ≤ q ∧ IsL S3.obs q zs v ∧ b = true) := by
    obtain ⟨v, b, S3, k1, k2, k3⟩ := call_ans hg2.wst (parse_run t (by omega) hg2.wst g (by omega))
    exact ⟨S3, v, b, k1, k2, k3⟩
  have hG3 := hg2.trans g3
  have hT3 : Go.Sx.look S3.obs ql = some (strs [w, t]) := g3.keep _ _ hto
  have l1 : aload (tiOf Tryz.prog) S2 9 (.ptr ql 1) = some (.str t) := loadS (i := 1) hto (by simp)
  have c3 := litI0 S3
  have hG4 := hG3.new (ints (nums []))
  have hT4 : Go.Sx.look (S3.new (ints (nums []))).obs ql = some (strs [w, t]) := by rw [look_new1 S3 _ (hG3.desc.look_lt hT3)]; exact hT3
  have l0 : aload (tiOf Tryz.prog) (S3.new (ints (nums []))) 9 (.ptr ql 0) = some (.str w) := loadS (i := 0) hT4 (by simp)
  have hL4 : ∀ zs q, IsL S3.obs q zs v → IsL (S3.new (ints (nums []))).obs q zs v := fun zs q h => ⟨h.val, by rw [look_new1 S3 _ (hG3.desc.look_lt h.obj)]; exact h.obj⟩
  generalize S3.new (ints (nums [])) = S4 at c3 hG4 l0 hL4
  have i1 : (1 : Int) < 2 := by decide
  have i0 : (0 : Int) < 2 := by decide
  have hj : wordJ w = some 4 := by subst hw; simp [wordJ, w0, w1, w2, w3, w4, w5, w6]
  rw [hj] at ha
  have ha : ansL line = ansJ 4 t := ha
  subst hw
  unfold ansJ at ha
  cases hp : parseV t with
  | none =>
    rw [hp] at d3 ha
    obtain ⟨rfl, rfl⟩ : v = .nil ∧ b = false := d3.elim (fun h => h.2) (fun ⟨zs, q, h, _⟩ => by cases h)
    repeat' (first | refine Wp.seq ?_ | refine Wp.block ?_ | (apply Wp.region; focus ((try simp [setArgs, str_eq, w4, i1, i0, l1, l0, c1, c2, c3]) <;> rfl)) | (refine Wp.cond_t ?_ ?_; focus (simp [setArgs, str_eq, w4, i1, i0, l1, l0, c1, c2, c3]; done)) | (refine Wp.cond_f ?_ ?_; focus (simp [setArgs, str_eq, w4, i1, i0, l1, l0, c1, c2, c3]; done)) | refine Wp.skip ?_ | refine Wp.ret ?_ | refine Wp.exit ?_ | refine Blk.here ?_ | (refine Blk.past ?_ ?_; focus (simp; done)))
    exact ⟨rfl, fin S4 wrongB hG4 ha.symm _ (by simp [wrongB]) rfl⟩
  | some zs =>
    rw [hp] at d3 ha
    have hz := (parse_ok hp).1
    obtain ⟨q, hq, hl, rfl⟩ : ∃ q, S2.next ≤ q ∧ IsL S3.obs q zs v ∧ b = true := d3.elim (fun h => by cases h.1) (fun ⟨ws, q, h, hq, hl, hb⟩ => by cases h; exact ⟨q, hq, hl, hb⟩)
    obtain ⟨v', b', S5, c5, g5, d5⟩ := c_s4 hG4.wst hz (isL_at (hL4 zs q hl)) (g + 1) (by omega)
    have g6 := hG4.trans g5
    cases hf : funA zs 4 with
    | none =>
      simp only [hf] at d5 ha
      obtain ⟨rfl, rfl⟩ : v' = .nil ∧ b' = false := d5.elim (fun h => h.2) (fun ⟨zs, q, h, _⟩ => by cases h)
      repeat' (first | refine Wp.seq ?_ | refine Wp.block ?_ | (apply Wp.region; focus ((try simp [setArgs, str_eq, w4, i1, i0, l1, l0, c1, c2, c3, c5]) <;> rfl)) | (refine Wp.cond_t ?_ ?_; focus (simp [setArgs, str_eq, w4, i1, i0, l1, l0, c1, c2, c3, c5]; done)) | (refine Wp.cond_f ?_ ?_; focus (simp [setArgs, str_eq, w4, i1, i0, l1, l0, c1, c2, c3, c5]; done)) | refine Wp.skip ?_ | refine Wp.ret ?_ | refine Wp.exit ?_ | refine Blk.here ?_ | (refine Blk.past ?_ ?_; focus (simp; done)))
      exact ⟨rfl, fin S5 noneB g6 ha.symm _ (by simp [noneB]) rfl⟩
    | some ys =>
      simp only [hf] at d5 ha
      obtain ⟨q', hq', hl', rfl⟩ : ∃ q, S4.next ≤ q ∧ IsL S5.obs q ys v' ∧ b' = true := d5.elim (fun h => by cases h.1) (fun ⟨ws, q, h, hq, hl, hb⟩ => by cases h; exact ⟨q, hq, hl, hb⟩)
      have hb := fun_bnd hz (by decide : 4 < 7) hf
      obtain ⟨cp, rfl, _⟩ := hl'.val
      have c6 := specTextA ys hb.1 hb.2.2 g6.wst hl'.obj (g + 1) (by omega) (cp := cp)
      generalize ys.length = ny at c5 c6
      repeat' (first | refine Wp.seq ?_ | refine Wp.block ?_ | (apply Wp.region; focus ((try simp [setArgs, str_eq, w4, i1, i0, l1, l0, c1, c2, c3, c5, c6]) <;> rfl)) | (refine Wp.cond_t ?_ ?_; focus (simp [setArgs, str_eq, w4, i1, i0, l1, l0, c1, c2, c3, c5, c6]; done)) | (refine Wp.cond_f ?_ ?_; focus (simp [setArgs, str_eq, w4, i1, i0, l1, l0, c1, c2, c3, c5, c6]; done)) | refine Wp.skip ?_ | refine Wp.ret ?_ | refine Wp.exit ?_ | refine Blk.here ?_ | (refine Blk.past ?_ ?_; focus (simp; done)))
      exact ⟨rfl, fin S5 _ g6 ha.symm _ (by simp) rfl⟩
theorem specAns_5 (line w t : ByteArray) (hs : line.size ≤ 1048576) (h2 : cutB 32 line = [w, t]) (h4 : t.size ≤ line.size) (hw : w = w5) {S : Sto Sy} (hS : Wst S) (f : Nat) (hf : line.size + 100 ≤ f) :
    ∃ r, symRun Tryz.prog KL [] f 25 [.str line] ⟨S.next, S.obs, S.next⟩ = some r ∧ Gro ⟨S.next, S.obs, S.next⟩ r.2 ∧ r.1 = .str (ansL line) := by
  obtain ⟨g, rfl⟩ : ∃ g, f = g + 1 := ⟨f - 1, by omega⟩
  have hS0 : Wst ⟨S.next, S.obs, S.next⟩ := ⟨hS.desc, Nat.le_refl _⟩
  generalize (⟨S.next, S.obs, S.next⟩ : Sto Sy) = S1 at hS0 ⊢
  refine own_run2 (by rfl) Tryz.func25 rfl rfl ?_
  simp only [Tryz.f25]
  obtain ⟨g, rfl⟩ : ∃ k, g = k + 1 := ⟨g - 1, by omega⟩
  obtain ⟨r, h1, hg, ql, hql, hT⟩ := splitAt_run line 32 (by omega) hS0 g (by omega)
  obtain ⟨S2, c1, hg2, ho2, hn2⟩ := call_gro hS0 h1 hg
  rw [← ho2] at hT
  obtain ⟨rv, rs⟩ := r
  simp only at c1 hT
  obtain ⟨lcp, hlv, hlcp⟩ := hT.val
  subst hlv
  have hto := hT.obj
  have e32 : ((32 : UInt8).toNat : Int) = 32 := rfl
  rw [e32] at c1
  have fin : ∀ (S3 : Sto Sy) (x : ByteArray), Gro S1 S3 → x = ansL line → ∀ st : St Sy, st.tm.get .any 2 = .str x → st.sto = S3 → ∃ r, answer (tiOf Tryz.prog) st S1.next [.tmp 2] = some r ∧ Gro S1 r.2 ∧ r.1 = .str (ansL line) := fun S3 x hg hx st h1 h2 => by
    subst hx
    exact answer_trim1 h1 ⟨by show Gro S1 (Sto.trim S1.next (.str (ansL line)) st.sto); rw [h2]; exact gro_trim hS0 hg _, rfl⟩
  have ha := ansL_two h2
  rw [h2] at hto c1
  have h3 : ((([w, t] : List ByteArray).length : Nat) : Int) = 2 := rfl
  have h3n : ([w, t] : List ByteArray).length = 2 := rfl
  rw [h3n] at c1
  obtain ⟨S3, v, b, c2, g3, d3⟩ : ∃ S3 v b, acallV (symIn Tryz.prog KL [] (g + 1)) S2 (.func 35 [] []) [.str t] = some (.tup [v, .bool b], S3) ∧ Gro S2 S3 ∧ ((parseV t = none ∧ v = .nil ∧ b = false) ∨ ∃ zs q, parseV t = some zs ∧ S2.next ≤ q ∧ IsL S3.obs q zs v ∧ b = true) := by
    obtain ⟨v, b, S3, k1, k2, k3⟩ := call_ans hg2.wst (parse_run t (by omega) hg2.wst g (by omega))
    exact ⟨S3, v, b, k1, k2, k3⟩
  have hG3 := hg2.trans g3
  have hT3 : Go.Sx.look S3.obs ql = some (strs [w, t]) := g3.keep _ _ hto
  have l1 : aload (tiOf Tryz.prog) S2 9 (.ptr ql 1) = some (.str t) := loadS (i := 1) hto (by simp)
  have c3 := litI0 S3
  have hG4 := hG3.new (ints (nums []))
  have hT4 : Go.Sx.look (S3.new (ints (nums []))).obs ql = some (strs [w, t]) := by rw [look_new1 S3 _ (hG3.desc.look_lt hT3)]; exact hT3
  have l0 : aload (tiOf Tryz.prog) (S3.new (ints (nums []))) 9 (.ptr ql 0) = some (.str w) := loadS (i := 0) hT4 (by simp)
  have hL4 : ∀ zs q, IsL S3.obs q zs v → IsL (S3.new (ints (nums []))).obs q zs v := fun zs q h => ⟨h.val, by rw [look_new1 S3 _ (hG3.desc.look_lt h.obj)]; exact h.obj⟩
  generalize S3.new (ints (nums [])) = S4 at c3 hG4 l0 hL4
  have i1 : (1 : Int) < 2 := by decide
  have i0 : (0 : Int) < 2 := by decide
  have hj : wordJ w = some 5 := by subst hw; simp [wordJ, w0, w1, w2, w3, w4, w5, w6]
  rw [hj] at ha
  have ha : ansL line = ansJ 5 t := ha
  subst hw
  unfold ansJ at ha
  cases hp : parseV t with
  | none =>
    rw [hp] at d3 ha
    obtain ⟨rfl, rfl⟩ : v = .nil ∧ b = false := d3.elim (fun h => h.2) (fun ⟨zs, q, h, _⟩ => by cases h)
    repeat' (first | refine Wp.seq ?_ | refine Wp.block ?_ | (apply Wp.region; focus ((try simp [setArgs, str_eq, w5, i1, i0, l1, l0, c1, c2, c3]) <;> rfl)) | (refine Wp.cond_t ?_ ?_; focus (simp [setArgs, str_eq, w5, i1, i0, l1, l0, c1, c2, c3]; done)) | (refine Wp.cond_f ?_ ?_; focus (simp [setArgs, str_eq, w5, i1, i0, l1, l0, c1, c2, c3]; done)) | refine Wp.skip ?_ | refine Wp.ret ?_ | refine Wp.exit ?_ | refine Blk.here ?_ | (refine Blk.past ?_ ?_; focus (simp; done)))
    exact ⟨rfl, fin S4 wrongB hG4 ha.symm _ (by simp [wrongB]) rfl⟩
  | some zs =>
    rw [hp] at d3 ha
    have hz := (parse_ok hp).1
    obtain ⟨q, hq, hl, rfl⟩ : ∃ q, S2.next ≤ q ∧ IsL S3.obs q zs v ∧ b = true := d3.elim (fun h => by cases h.1) (fun ⟨ws, q, h, hq, hl, hb⟩ => by cases h; exact ⟨q, hq, hl, hb⟩)
    obtain ⟨v', b', S5, c5, g5, d5⟩ := c_s5 hG4.wst hz (isL_at (hL4 zs q hl)) (g + 1) (by omega)
    have g6 := hG4.trans g5
    cases hf : funA zs 5 with
    | none =>
      simp only [hf] at d5 ha
      obtain ⟨rfl, rfl⟩ : v' = .nil ∧ b' = false := d5.elim (fun h => h.2) (fun ⟨zs, q, h, _⟩ => by cases h)
      repeat' (first | refine Wp.seq ?_ | refine Wp.block ?_ | (apply Wp.region; focus ((try simp [setArgs, str_eq, w5, i1, i0, l1, l0, c1, c2, c3, c5]) <;> rfl)) | (refine Wp.cond_t ?_ ?_; focus (simp [setArgs, str_eq, w5, i1, i0, l1, l0, c1, c2, c3, c5]; done)) | (refine Wp.cond_f ?_ ?_; focus (simp [setArgs, str_eq, w5, i1, i0, l1, l0, c1, c2, c3, c5]; done)) | refine Wp.skip ?_ | refine Wp.ret ?_ | refine Wp.exit ?_ | refine Blk.here ?_ | (refine Blk.past ?_ ?_; focus (simp; done)))
      exact ⟨rfl, fin S5 noneB g6 ha.symm _ (by simp [noneB]) rfl⟩
    | some ys =>
      simp only [hf] at d5 ha
      obtain ⟨q', hq', hl', rfl⟩ : ∃ q, S4.next ≤ q ∧ IsL S5.obs q ys v' ∧ b' = true := d5.elim (fun h => by cases h.1) (fun ⟨ws, q, h, hq, hl, hb⟩ => by cases h; exact ⟨q, hq, hl, hb⟩)
      have hb := fun_bnd hz (by decide : 5 < 7) hf
      obtain ⟨cp, rfl, _⟩ := hl'.val
      have c6 := specTextA ys hb.1 hb.2.2 g6.wst hl'.obj (g + 1) (by omega) (cp := cp)
      generalize ys.length = ny at c5 c6
      repeat' (first | refine Wp.seq ?_ | refine Wp.block ?_ | (apply Wp.region; focus ((try simp [setArgs, str_eq, w5, i1, i0, l1, l0, c1, c2, c3, c5, c6]) <;> rfl)) | (refine Wp.cond_t ?_ ?_; focus (simp [setArgs, str_eq, w5, i1, i0, l1, l0, c1, c2, c3, c5, c6]; done)) | (refine Wp.cond_f ?_ ?_; focus (simp [setArgs, str_eq, w5, i1, i0, l1, l0, c1, c2, c3, c5, c6]; done)) | refine Wp.skip ?_ | refine Wp.ret ?_ | refine Wp.exit ?_ | refine Blk.here ?_ | (refine Blk.past ?_ ?_; focus (simp; done)))
      exact ⟨rfl, fin S5 _ g6 ha.symm _ (by simp) rfl⟩
theorem specAns_6 (line w t : ByteArray) (hs : line.size ≤ 1048576) (h2 : cutB 32 line = [w, t]) (h4 : t.size ≤ line.size) (hw : w = w6) {S : Sto Sy} (hS : Wst S) (f : Nat) (hf : line.size + 100 ≤ f) :
    ∃ r, symRun Tryz.prog KL [] f 25 [.str line] ⟨S.next, S.obs, S.next⟩ = some r ∧ Gro ⟨S.next, S.obs, S.next⟩ r.2 ∧ r.1 = .str (ansL line) := by
  obtain ⟨g, rfl⟩ : ∃ g, f = g + 1 := ⟨f - 1, by omega⟩
  have hS0 : Wst ⟨S.next, S.obs, S.next⟩ := ⟨hS.desc, Nat.le_refl _⟩
  generalize (⟨S.next, S.obs, S.next⟩ : Sto Sy) = S1 at hS0 ⊢
  refine own_run2 (by rfl) Tryz.func25 rfl rfl ?_
  simp only [Tryz.f25]
  obtain ⟨g, rfl⟩ : ∃ k, g = k + 1 := ⟨g - 1, by omega⟩
  obtain ⟨r, h1, hg, ql, hql, hT⟩ := splitAt_run line 32 (by omega) hS0 g (by omega)
  obtain ⟨S2, c1, hg2, ho2, hn2⟩ := call_gro hS0 h1 hg
  rw [← ho2] at hT
  obtain ⟨rv, rs⟩ := r
  simp only at c1 hT
  obtain ⟨lcp, hlv, hlcp⟩ := hT.val
  subst hlv
  have hto := hT.obj
  have e32 : ((32 : UInt8).toNat : Int) = 32 := rfl
  rw [e32] at c1
  have fin : ∀ (S3 : Sto Sy) (x : ByteArray), Gro S1 S3 → x = ansL line → ∀ st : St Sy, st.tm.get .any 2 = .str x → st.sto = S3 → ∃ r, answer (tiOf Tryz.prog) st S1.next [.tmp 2] = some r ∧ Gro S1 r.2 ∧ r.1 = .str (ansL line) := fun S3 x hg hx st h1 h2 => by
    subst hx
    exact answer_trim1 h1 ⟨by show Gro S1 (Sto.trim S1.next (.str (ansL line)) st.sto); rw [h2]; exact gro_trim hS0 hg _, rfl⟩
  have ha := ansL_two h2
  rw [h2] at hto c1
  have h3 : ((([w, t] : List ByteArray).length : Nat) : Int) = 2 := rfl
  have h3n : ([w, t] : List ByteArray).length = 2 := rfl
  rw [h3n] at c1
  obtain ⟨S3, v, b, c2, g3, d3⟩ : ∃ S3 v b, acallV (symIn Tryz.prog KL [] (g + 1)) S2 (.func 35 [] []) [.str t] = some (.tup [v, .bool b], S3) ∧ Gro S2 S3 ∧ ((parseV t = none ∧ v = .nil ∧ b = false) ∨ ∃ zs q, parseV t = some zs ∧ S2.next ≤ q ∧ IsL S3.obs q zs v ∧ b = true) := by
    obtain ⟨v, b, S3, k1, k2, k3⟩ := call_ans hg2.wst (parse_run t (by omega) hg2.wst g (by omega))
    exact ⟨S3, v, b, k1, k2, k3⟩
  have hG3 := hg2.trans g3
  have hT3 : Go.Sx.look S3.obs ql = some (strs [w, t]) := g3.keep _ _ hto
  have l1 : aload (tiOf Tryz.prog) S2 9 (.ptr ql 1) = some (.str t) := loadS (i := 1) hto (by simp)
  have c3 := litI0 S3
  have hG4 := hG3.new (ints (nums []))
  have hT4 : Go.Sx.look (S3.new (ints (nums []))).obs ql = some (strs [w, t]) := by rw [look_new1 S3 _ (hG3.desc.look_lt hT3)]; exact hT3
  have l0 : aload (tiOf Tryz.prog) (S3.new (ints (nums []))) 9 (.ptr ql 0) = some (.str w) := loadS (i := 0) hT4 (by simp)
  have hL4 : ∀ zs q, IsL S3.obs q zs v → IsL (S3.new (ints (nums []))).obs q zs v := fun zs q h => ⟨h.val, by rw [look_new1 S3 _ (hG3.desc.look_lt h.obj)]; exact h.obj⟩
  generalize S3.new (ints (nums [])) = S4 at c3 hG4 l0 hL4
  have i1 : (1 : Int) < 2 := by decide
  have i0 : (0 : Int) < 2 := by decide
  have hj : wordJ w = some 6 := by subst hw; simp [wordJ, w0, w1, w2, w3, w4, w5, w6]
  rw [hj] at ha
  have ha : ansL line = ansJ 6 t := ha
  subst hw
  unfold ansJ at ha
  cases hp : parseV t with
  | none =>
    rw [hp] at d3 ha
    obtain ⟨rfl, rfl⟩ : v = .nil ∧ b = false := d3.elim (fun h => h.2) (fun ⟨zs, q, h, _⟩ => by cases h)
    repeat' (first | refine Wp.seq ?_ | refine Wp.block ?_ | (apply Wp.region; focus ((try simp [setArgs, str_eq, w6, i1, i0, l1, l0, c1, c2, c3]) <;> rfl)) | (refine Wp.cond_t ?_ ?_; focus (simp [setArgs, str_eq, w6, i1, i0, l1, l0, c1, c2, c3]; done)) | (refine Wp.cond_f ?_ ?_; focus (simp [setArgs, str_eq, w6, i1, i0, l1, l0, c1, c2, c3]; done)) | refine Wp.skip ?_ | refine Wp.ret ?_ | refine Wp.exit ?_ | refine Blk.here ?_ | (refine Blk.past ?_ ?_; focus (simp; done)))
    exact ⟨rfl, fin S4 wrongB hG4 ha.symm _ (by simp [wrongB]) rfl⟩
  | some zs =>
    rw [hp] at d3 ha
    have hz := (parse_ok hp).1
    obtain ⟨q, hq, hl, rfl⟩ : ∃ q, S2.next ≤ q ∧ IsL S3.obs q zs v ∧ b = true := d3.elim (fun h => by cases h.1) (fun ⟨ws, q, h, hq, hl, hb⟩ => by cases h; exact ⟨q, hq, hl, hb⟩)
    obtain ⟨v', S5, c5, g5, ys, q', hf, hq', hl'⟩ := c_s6 hG4.wst hz (isL_at (hL4 zs q hl)) (g + 1) (by omega)
    have g6 := hG4.trans g5
    simp only [hf] at ha
    have hb := fun_bnd hz (by decide : 6 < 7) hf
    obtain ⟨cp, rfl, _⟩ := hl'.val
    have c6 := specTextA ys hb.1 hb.2.2 g6.wst hl'.obj (g + 1) (by omega) (cp := cp)
    generalize ys.length = ny at c5 c6
    repeat' (first | refine Wp.seq ?_ | refine Wp.block ?_ | (apply Wp.region; focus ((try simp [setArgs, str_eq, w6, i1, i0, l1, l0, c1, c2, c3, c5, c6]) <;> rfl)) | (refine Wp.cond_t ?_ ?_; focus (simp [setArgs, str_eq, w6, i1, i0, l1, l0, c1, c2, c3, c5, c6]; done)) | (refine Wp.cond_f ?_ ?_; focus (simp [setArgs, str_eq, w6, i1, i0, l1, l0, c1, c2, c3, c5, c6]; done)) | refine Wp.skip ?_ | refine Wp.ret ?_ | refine Wp.exit ?_ | refine Blk.here ?_ | (refine Blk.past ?_ ?_; focus (simp; done)))
    exact ⟨rfl, fin S5 _ g6 ha.symm _ (by simp) rfl⟩
theorem specAns_what (line w t : ByteArray) (hs : line.size ≤ 1048576) (h2 : cutB 32 line = [w, t]) (h4 : t.size ≤ line.size) (hw : wordJ w = none) {S : Sto Sy} (hS : Wst S) (f : Nat) (hf : line.size + 100 ≤ f) :
    ∃ r, symRun Tryz.prog KL [] f 25 [.str line] ⟨S.next, S.obs, S.next⟩ = some r ∧ Gro ⟨S.next, S.obs, S.next⟩ r.2 ∧ r.1 = .str (ansL line) := by
  obtain ⟨g, rfl⟩ : ∃ g, f = g + 1 := ⟨f - 1, by omega⟩
  have hS0 : Wst ⟨S.next, S.obs, S.next⟩ := ⟨hS.desc, Nat.le_refl _⟩
  generalize (⟨S.next, S.obs, S.next⟩ : Sto Sy) = S1 at hS0 ⊢
  refine own_run2 (by rfl) Tryz.func25 rfl rfl ?_
  simp only [Tryz.f25]
  obtain ⟨g, rfl⟩ : ∃ k, g = k + 1 := ⟨g - 1, by omega⟩
  obtain ⟨r, h1, hg, ql, hql, hT⟩ := splitAt_run line 32 (by omega) hS0 g (by omega)
  obtain ⟨S2, c1, hg2, ho2, hn2⟩ := call_gro hS0 h1 hg
  rw [← ho2] at hT
  obtain ⟨rv, rs⟩ := r
  simp only at c1 hT
  obtain ⟨lcp, hlv, hlcp⟩ := hT.val
  subst hlv
  have hto := hT.obj
  have e32 : ((32 : UInt8).toNat : Int) = 32 := rfl
  rw [e32] at c1
  have fin : ∀ (S3 : Sto Sy) (x : ByteArray), Gro S1 S3 → x = ansL line → ∀ st : St Sy, st.tm.get .any 2 = .str x → st.sto = S3 → ∃ r, answer (tiOf Tryz.prog) st S1.next [.tmp 2] = some r ∧ Gro S1 r.2 ∧ r.1 = .str (ansL line) := fun S3 x hg hx st h1 h2 => by
    subst hx
    exact answer_trim1 h1 ⟨by show Gro S1 (Sto.trim S1.next (.str (ansL line)) st.sto); rw [h2]; exact gro_trim hS0 hg _, rfl⟩
  have ha := ansL_two h2
  rw [h2] at hto c1
  have h3 : ((([w, t] : List ByteArray).length : Nat) : Int) = 2 := rfl
  have h3n : ([w, t] : List ByteArray).length = 2 := rfl
  rw [h3n] at c1
  obtain ⟨S3, v, b, c2, g3, d3⟩ : ∃ S3 v b, acallV (symIn Tryz.prog KL [] (g + 1)) S2 (.func 35 [] []) [.str t] = some (.tup [v, .bool b], S3) ∧ Gro S2 S3 ∧ ((parseV t = none ∧ v = .nil ∧ b = false) ∨ ∃ zs q, parseV t = some zs ∧ S2.next ≤ q ∧ IsL S3.obs q zs v ∧ b = true) := by
    obtain ⟨v, b, S3, k1, k2, k3⟩ := call_ans hg2.wst (parse_run t (by omega) hg2.wst g (by omega))
    exact ⟨S3, v, b, k1, k2, k3⟩
  have hG3 := hg2.trans g3
  have hT3 : Go.Sx.look S3.obs ql = some (strs [w, t]) := g3.keep _ _ hto
  have l1 : aload (tiOf Tryz.prog) S2 9 (.ptr ql 1) = some (.str t) := loadS (i := 1) hto (by simp)
  have c3 := litI0 S3
  have hG4 := hG3.new (ints (nums []))
  have hT4 : Go.Sx.look (S3.new (ints (nums []))).obs ql = some (strs [w, t]) := by rw [look_new1 S3 _ (hG3.desc.look_lt hT3)]; exact hT3
  have l0 : aload (tiOf Tryz.prog) (S3.new (ints (nums []))) 9 (.ptr ql 0) = some (.str w) := loadS (i := 0) hT4 (by simp)
  have hL4 : ∀ zs q, IsL S3.obs q zs v → IsL (S3.new (ints (nums []))).obs q zs v := fun zs q h => ⟨h.val, by rw [look_new1 S3 _ (hG3.desc.look_lt h.obj)]; exact h.obj⟩
  generalize S3.new (ints (nums [])) = S4 at c3 hG4 l0 hL4
  have i1 : (1 : Int) < 2 := by decide
  have i0 : (0 : Int) < 2 := by decide
  rw [hw] at ha
  have ha : ansL line = whatB := ha
  have n0 : ¬ w = w0 := fun e => by subst e; simp [wordJ, w0, w1, w2, w3, w4, w5, w6] at hw
  have q0 : (w.toList == [101, 120, 112]) = false := str_ne n0
  have n1 : ¬ w = w1 := fun e => by subst e; simp [wordJ, w0, w1, w2, w3, w4, w5, w6] at hw
  have q1 : (w.toList == [108, 111, 103]) = false := str_ne n1
  have n2 : ¬ w = w2 := fun e => by subst e; simp [wordJ, w0, w1, w2, w3, w4, w5, w6] at hw
  have q2 : (w.toList == [105, 110, 118, 101, 114, 116]) = false := str_ne n2
  have n3 : ¬ w = w3 := fun e => by subst e; simp [wordJ, w0, w1, w2, w3, w4, w5, w6] at hw
  have q3 : (w.toList == [114, 101, 118, 101, 114, 115, 101]) = false := str_ne n3
  have n4 : ¬ w = w4 := fun e => by subst e; simp [wordJ, w0, w1, w2, w3, w4, w5, w6] at hw
  have q4 : (w.toList == [98, 105, 110, 111, 109, 105, 97, 108]) = false := str_ne n4
  have n5 : ¬ w = w5 := fun e => by subst e; simp [wordJ, w0, w1, w2, w3, w4, w5, w6] at hw
  have q5 : (w.toList == [122, 105, 103, 122, 97, 103]) = false := str_ne n5
  have n6 : ¬ w = w6 := fun e => by subst e; simp [wordJ, w0, w1, w2, w3, w4, w5, w6] at hw
  have q6 : (w.toList == [104, 97, 110, 107, 101, 108]) = false := str_ne n6
  repeat' (first | refine Wp.seq ?_ | refine Wp.block ?_ | (apply Wp.region; focus ((try simp [setArgs, i1, i0, l1, l0, c1, c2, c3, q0, q1, q2, q3, q4, q5, q6]) <;> rfl)) | (refine Wp.cond_t ?_ ?_; focus (simp [setArgs, i1, i0, l1, l0, c1, c2, c3, q0, q1, q2, q3, q4, q5, q6]; done)) | (refine Wp.cond_f ?_ ?_; focus (simp [setArgs, i1, i0, l1, l0, c1, c2, c3, q0, q1, q2, q3, q4, q5, q6]; done)) | refine Wp.skip ?_ | refine Wp.ret ?_ | refine Wp.exit ?_ | refine Blk.here ?_ | (refine Blk.past ?_ ?_; focus (simp; done)))
  exact ⟨rfl, fin S4 whatB hG4 ha.symm _ (by simp [whatB]) rfl⟩
theorem specAns (line : ByteArray) (hs : line.size ≤ 1048576) {S : Sto Sy} (hS : Wst S) (f : Nat) (hf : line.size + 100 ≤ f) :
    ∃ r, symRun Tryz.prog KL [] f 25 [.str line] ⟨S.next, S.obs, S.next⟩ = some r ∧ Gro ⟨S.next, S.obs, S.next⟩ r.2 ∧ r.1 = .str (ansL line) := by
  have two : ∀ w t : ByteArray, cutB 32 line = [w, t] → t.size ≤ line.size → ∃ r, symRun Tryz.prog KL [] f 25 [.str line] ⟨S.next, S.obs, S.next⟩ = some r ∧ Gro ⟨S.next, S.obs, S.next⟩ r.2 ∧ r.1 = .str (ansL line) := fun w t h2 h4 => by
    by_cases n0 : w = w0
    · exact specAns_0 line w t hs h2 h4 n0 hS f hf
    by_cases n1 : w = w1
    · exact specAns_1 line w t hs h2 h4 n1 hS f hf
    by_cases n2 : w = w2
    · exact specAns_2 line w t hs h2 h4 n2 hS f hf
    by_cases n3 : w = w3
    · exact specAns_3 line w t hs h2 h4 n3 hS f hf
    by_cases n4 : w = w4
    · exact specAns_4 line w t hs h2 h4 n4 hS f hf
    by_cases n5 : w = w5
    · exact specAns_5 line w t hs h2 h4 n5 hS f hf
    by_cases n6 : w = w6
    · exact specAns_6 line w t hs h2 h4 n6 hS f hf
    exact specAns_what line w t hs h2 h4 (by unfold wordJ; rw [if_neg n0, if_neg n1, if_neg n2, if_neg n3, if_neg n4, if_neg n5, if_neg n6]) hS f hf
  rcases line_is line with ⟨h1, h2⟩ | ⟨w, t, h1, h2, h3, h4⟩ | ⟨w, t, h1, h2, h3, h4⟩
  · exact specAns_no line hs (by rw [h2]; simp) hS f hf
  · exact two w t h2 h4
  · exact specAns_no line hs h2 hS f hf
end Go.Proofs.YtgaodlhdilhliaaGreatDoor.St

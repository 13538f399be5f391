/-
  Series that are read: the law that ParseSeries answers as its model, by a run by hand. No condition.
-/
import Derived.Test.YtgaodlhdilhliaaDoorRows
import Derived.Test.YtgaodlhdilhliaaDoorSym
import Derived.Test.YtgaodlhdilhliaaDoorSymD
import Derived.Test.YtgaodlhdilhliaaDoorSymE
import Derived.Test.YtgaodlhdilhliaaDoorSymF
import Derived.Test.YtgaodlhdilhliaaDoorIds
import Derived.Test.YtgaodlhdilhliaaDoorSh
import Derived.Test.YtgaodlhdilhliaaDoorShB
import Derived.Test.YtgaodlhdilhliaaDoorSt
import Derived.Test.YtgaodlhdilhliaaDoorSp
import Derived.Test.YtgaodlhdilhliaaDoorTel
import Derived.Test.YtgaodlhdilhliaaDoorNum
import Derived.Test.YtgaodlhdilhliaaDoorTx
import Derived.Test.YtgaodlhdilhliaaDoorTy
import Derived.Test.YtgaodlhdilhliaaDoorTz
import Derived.Test.YtgaodlhdilhliaaDoorSj
import Derived.Test.YtgaodlhdilhliaaDoorAt
import Derived.Test.YtgaodlhdilhliaaDoorPa
import Derived.Test.YtgaodlhdilhliaaDoorCut
import Derived.Test.YtgaodlhdilhliaaDoorPm
import Derived.Test.YtgaodlhdilhliaaDoorPb
import Derived.Test.YtgaodlhdilhliaaDoorPc
import Derived.Test.YtgaodlhdilhliaaDoorPd
import Derived.Test.YtgaodlhdilhliaaDoorPe
import Derived.Test.YtgaodlhdilhliaaDoorMk
import Derived.WalkKit
import Derived.ProofKit
import Derived.OpenShut
namespace Go.Proofs.YtgaodlhdilhliaaDoor.St
open Go.ChangeShapes Go.WideShapes Go.ChangeAt Go.RowKit Go.Sx Go.Proofs.YtgaodlhdilhliaaDoor.Ids
set_option linter.unusedVariables false
set_option linter.unusedSimpArgs false

theorem isL_made {S : Sto Sy} {q : Nat} {zs : List Int} {v : V Sy} (h : IsL S.obs q zs v) : Made S zs q v := by
  obtain ⟨cp, rfl, hcp⟩ := h.val
  refine ⟨?_, h.obj⟩
  rcases hcp with rfl | rfl
  · exact .inl rfl
  · exact .inr rfl
theorem nil_consts {S : Sto Sy} : constsOf S .nil = some [] := rfl
theorem isL_at {S : Sto Sy} {q : Nat} {zs : List Int} {v : V Sy} (h : IsL S.obs q zs v) : constsOf ⟨S.next, S.obs, S.next⟩ v = some zs := isL_consts (S := ⟨S.next, S.obs, S.next⟩) h
theorem aifc_bool {T : TypeId → Option Ti} {op : BinOp} {t : TypeId} {ox oy : Operand} {a b : Bool} : aifc (I := Sy) T op t ox oy (.bool a) (.bool b) = none := rfl
attribute [local simp] aops wants aop apure St.eval setTm_some setTm_none Tr.get_set evals pevals apureB alen tiS tiI tiB Draw.tiU tiSs tiStr abin aint isCmp sym_lt sym_eqs sym_neqs sym_eq sym_neq sym_gtr sym_leq sym_geq sym_add sym_sub sym_sub8 sym_mul aeff aeffB idx? ofV aindexAddr aindex aggDesc aifc_int aun aifc_str aifc_bool
set_option maxRecDepth 10000 in
theorem law_ps (s : ByteArray) : ∃ r, symRun Tryd.prog KL [] (s.size + 201) 6 [.str s] ⟨0, [], 0⟩ = some r ∧ r.1 = .bool true := by
  refine own_run2 (n := s.size + 200) (by rfl) Tryd.func6 rfl rfl ?_
  simp only [Tryd.f6]
  by_cases hbig : (1048576 : Int) < s.size
  · repeat' (first | refine Wp.seq ?_ | refine Wp.block ?_ | (apply Wp.region; focus ((try simp [setArgs, hbig]) <;> rfl)) | (refine Wp.cond_t ?_ ?_; focus (simp [setArgs, hbig]; done)) | (refine Wp.cond_f ?_ ?_; focus (simp [setArgs, hbig]; done)) | refine Wp.skip ?_ | refine Wp.ret ?_ | refine Wp.exit ?_ | refine Blk.here ?_ | (refine Blk.past ?_ ?_; focus (simp; done)))
    exact ⟨rfl, answer_trim1 (v := .bool true) (by simp) rfl⟩
  have hs : s.size ≤ 1048577 := by omega
  have w0 : Wst ⟨0, [], 0⟩ := ⟨trivial, Nat.le_refl _⟩
  obtain ⟨v0, b0, S1, c1, g1, d1⟩ := call_ans w0 (specParse s hs w0 (s.size + 198) (by omega))
  have w1 := g1.wst
  obtain ⟨v1, b1, S2, c2, g2, d2⟩ := call_ans w1 (implParse s hs w1 (s.size + 200) (by omega))
  have w2 := g2.wst
  cases hp : parseV s with
  | none =>
    rw [hp] at d1 d2
    obtain ⟨rfl, rfl⟩ : v0 = .nil ∧ b0 = false := d1.elim (fun h => h.2) (fun ⟨zs, q, h, _⟩ => by cases h)
    obtain ⟨rfl, rfl⟩ : v1 = .nil ∧ b1 = false := d2.elim (fun h => h.2) (fun ⟨zs, q, h, _⟩ => by cases h)
    have c3 := c_same w2 (s.size + 200) (by omega) (x := .nil) (y := .nil) nil_consts nil_consts (by simp)
    have c4 := markNil 1 S2 w2 (s.size + 199) (by omega)
    have c5 := heldNil 1 S2 w2 (s.size + 199) (by omega)
    obtain ⟨v2, b2, S3, c6, g3, d3⟩ := call_ans w2 (implParse s hs w2 (s.size + 200) (by omega))
    have w3 := g3.wst
    rw [hp] at d3
    obtain ⟨rfl, rfl⟩ : v2 = .nil ∧ b2 = false := d3.elim (fun h => h.2) (fun ⟨zs, q, h, _⟩ => by cases h)
    have c7 := c_same w3 (s.size + 200) (by omega) (x := .nil) (y := .nil) nil_consts nil_consts (by simp)
    have c8 := heldNil 1 S3 w3 (s.size + 199) (by omega)
    repeat' (first | refine Wp.seq ?_ | refine Wp.block ?_ | (apply Wp.region; focus ((try simp [setArgs, hbig, c1, c2, c3, c4, c5, c6, c7, c8]) <;> rfl)) | (refine Wp.cond_t ?_ ?_; focus (simp [setArgs, hbig, c1, c2, c3, c4, c5, c6, c7, c8]; done)) | (refine Wp.cond_f ?_ ?_; focus (simp [setArgs, hbig, c1, c2, c3, c4, c5, c6, c7, c8]; done)) | refine Wp.skip ?_ | refine Wp.ret ?_ | refine Wp.exit ?_ | refine Blk.here ?_ | (refine Blk.past ?_ ?_; focus (simp; done)))
    exact ⟨rfl, answer_trim1 (v := .bool true) (by simp) rfl⟩
  | some zs =>
    rw [hp] at d1 d2
    have hval : validP 600 zs := by
      unfold parseV at hp
      split at hp
      · rename_i hx
        have := Classical.choose_spec hx
        cases hp
        exact this.1
      · cases hp
    have h6 := hval.2.2
    obtain ⟨q0, hq0, l0, rfl⟩ : ∃ q, 0 ≤ q ∧ IsL S1.obs q zs v0 ∧ b0 = true := d1.elim (fun h => by cases h.1) (fun ⟨ws, q, h, hq, hl, hb⟩ => by cases h; exact ⟨q, Nat.zero_le _, hl, hb⟩)
    obtain ⟨q1, hq1, l1, rfl⟩ : ∃ q, S1.next ≤ q ∧ IsL S2.obs q zs v1 ∧ b1 = true := d2.elim (fun h => by cases h.1) (fun ⟨ws, q, h, hq, hl, hb⟩ => by cases h; exact ⟨q, hq, hl, hb⟩)
    have hq01 : q0 < S1.next := w1.desc.look_lt l0.obj
    have l02 : IsL S2.obs q0 zs v0 := ⟨l0.val, g2.keep _ _ l0.obj⟩
    have c3 := c_same w2 (s.size + 200) (by omega) (isL_at l1) (isL_at l02) (by omega)
    obtain ⟨S3, c4, m3, e3⟩ := mark1 zs 1 ⟨by omega, by omega⟩ (by omega) S2 w2 q1 v1 (isL_made l1) (s.size + 199) (by omega)
    have w3 := m3.ws
    have c5 := held1 zs.length 1 ⟨by omega, by omega⟩ (by omega) S3 w3 q1 v1 e3 (s.size + 199) (by omega)
    obtain ⟨v2, b2, S4, c6, g4, d4⟩ := call_ans w3 (implParse s hs w3 (s.size + 200) (by omega))
    have w4 := g4.wst
    rw [hp] at d4
    obtain ⟨q2, hq2, l2, rfl⟩ : ∃ q, S3.next ≤ q ∧ IsL S4.obs q zs v2 ∧ b2 = true := d4.elim (fun h => by cases h.1) (fun ⟨ws, q, h, hq, hl, hb⟩ => by cases h; exact ⟨q, hq, hl, hb⟩)
    have l04 : IsL S4.obs q0 zs v0 := ⟨l0.val, g4.keep _ _ (by rw [m3.other q0 (by omega)]; exact l02.obj)⟩
    have c7 := c_same w4 (s.size + 200) (by omega) (isL_at l2) (isL_at l04) (by omega)
    have e4 : Made S4 (seqF 1 zs.length) q1 v1 := ⟨e3.val, g4.keep _ _ e3.obj⟩
    have c8 := held1 zs.length 1 ⟨by omega, by omega⟩ (by omega) S4 w4 q1 v1 e4 (s.size + 199) (by omega)
    have hpos : ¬ (1 : Int) + (zs.length : Int) < 0 := by omega
    clear d1 d2 d4 l1 l0 l02 l2 l04 e3 e4
    generalize (1 : Int) + (zs.length : Int) = n at c4 c5 c8 hpos
    repeat' (first | refine Wp.seq ?_ | refine Wp.block ?_ | (apply Wp.region; focus ((try simp [setArgs, hbig, c1, c2, c3, c4, c5, c6, c7, c8, hpos]) <;> rfl)) | (refine Wp.cond_t ?_ ?_; focus (simp [setArgs, hbig, c1, c2, c3, c4, c5, c6, c7, c8, hpos]; done)) | (refine Wp.cond_f ?_ ?_; focus (simp [setArgs, hbig, c1, c2, c3, c4, c5, c6, c7, c8, hpos]; done)) | refine Wp.skip ?_ | refine Wp.ret ?_ | refine Wp.exit ?_ | refine Blk.here ?_ | (refine Blk.past ?_ ?_; focus (simp; done)))
    exact ⟨rfl, answer_trim1 (v := .bool true) (by simp) rfl⟩
end Go.Proofs.YtgaodlhdilhliaaDoor.St

/-
  Series that are read: the law of what is promised, by a run by hand. No condition.
-/
import Derived.Test.YtgaodlhdilhliaaDoorRows
import Derived.Test.YtgaodlhdilhliaaDoorSym
import Derived.Test.YtgaodlhdilhliaaDoorSymD
import Derived.Test.YtgaodlhdilhliaaDoorSymE
import Derived.Test.YtgaodlhdilhliaaDoorSymF
import Derived.Test.YtgaodlhdilhliaaDoorIds
import Derived.Test.YtgaodlhdilhliaaDoorSh
import Derived.Test.YtgaodlhdilhliaaDoorShB
import Derived.Test.YtgaodlhdilhliaaDoorSt
import Derived.Test.YtgaodlhdilhliaaDoorSp
import Derived.Test.YtgaodlhdilhliaaDoorTel
import Derived.Test.YtgaodlhdilhliaaDoorNum
import Derived.Test.YtgaodlhdilhliaaDoorTx
import Derived.Test.YtgaodlhdilhliaaDoorTy
import Derived.Test.YtgaodlhdilhliaaDoorTz
import Derived.Test.YtgaodlhdilhliaaDoorSj
import Derived.Test.YtgaodlhdilhliaaDoorAt
import Derived.Test.YtgaodlhdilhliaaDoorPa
import Derived.Test.YtgaodlhdilhliaaDoorCut
import Derived.Test.YtgaodlhdilhliaaDoorPm
import Derived.Test.YtgaodlhdilhliaaDoorPb
import Derived.Test.YtgaodlhdilhliaaDoorPc
import Derived.Test.YtgaodlhdilhliaaDoorPd
import Derived.Test.YtgaodlhdilhliaaDoorPe
import Derived.Test.YtgaodlhdilhliaaDoorMk
import Derived.Test.YtgaodlhdilhliaaDoorPf
import Derived.Test.YtgaodlhdilhliaaDoorDraw
import Derived.Test.YtgaodlhdilhliaaDoorDrawC
import Derived.Test.YtgaodlhdilhliaaDoorDrawX
import Derived.Test.YtgaodlhdilhliaaDoorTg
import Derived.Test.YtgaodlhdilhliaaDoorDrawP
import Derived.WalkKit
import Derived.ProofKit
import Derived.OpenShut
namespace Go.Proofs.YtgaodlhdilhliaaDoor.St
open Go.ChangeShapes Go.WideShapes Go.ChangeAt Go.RowKit Go.Sx Go.Proofs.YtgaodlhdilhliaaDoor.Ids
set_option linter.unusedVariables false
set_option linter.unusedSimpArgs false

attribute [local simp] aops wants aop apure St.eval setTm_some setTm_none Tr.get_set evals pevals apureB alen tiS tiI tiB Draw.tiU tiSs tiStr abin aint isCmp sym_lt sym_eqs sym_neqs sym_eq sym_neq sym_gtr sym_leq sym_geq sym_add sym_sub sym_sub8 sym_mul aeff aeffB idx? ofV aindexAddr aindex aggDesc aifc_int aun aifc_str aifc_bool Draw.tiY u8s_length
theorem parse_valid {s : ByteArray} {zs : List Int} (hp : parseV s = some zs) : OkT s zs := by
  unfold parseV at hp
  split at hp
  · rename_i hx
    have := Classical.choose_spec hx
    cases hp
    exact this
  · cases hp
set_option maxRecDepth 10000 in
theorem law_pp (bs : List Int) (hbs : ∀ b, b ∈ bs → 0 ≤ b ∧ b < 256) : ∃ r, symRun Tryd.prog KL [] 4001 4 [.slice (u8s bs)] ⟨0, [], 0⟩ = some r ∧ r.1 = .bool true := by
  refine own_run2 (n := 4000) (by rfl) Tryd.func4 rfl rfl ?_
  simp only [Tryd.f4]
  by_cases hbig : (1048576 : Int) < bs.length
  · repeat' (first | refine Wp.seq ?_ | refine Wp.block ?_ | (apply Wp.region; focus ((try simp [setArgs, hbig]) <;> rfl)) | (refine Wp.cond_t ?_ ?_; focus (simp [setArgs, hbig]; done)) | (refine Wp.cond_f ?_ ?_; focus (simp [setArgs, hbig]; done)) | refine Wp.skip ?_ | refine Wp.ret ?_ | refine Wp.exit ?_ | refine Blk.here ?_ | (refine Blk.past ?_ ?_; focus (simp; done)))
    exact ⟨rfl, answer_trim1 (v := .bool true) (by simp) rfl⟩
  obtain ⟨⟨v0, S0⟩, h1, h2, s, hv, hsz⟩ := Draw.drawPS bs hbs 1
  simp only at h1 h2 hv
  subst hv
  obtain ⟨S1, hS1⟩ : ∃ S1 : Sto Sy, S1 = ⟨S0.next, S0.obs, if S0.low < 0 then S0.low else 0⟩ := ⟨_, rfl⟩
  have e0 : KL 12 [.slice (u8s bs)] ⟨(⟨0, [], 0⟩ : Sto Sy).next, (⟨0, [], 0⟩ : Sto Sy).obs, (⟨0, [], 0⟩ : Sto Sy).next⟩ = some (.str s, S0) := by rw [KL_dr]; exact h1
  generalize hN : 4000 = N
  have hN' : N = 3999 + 1 := by omega
  have c0 : acallV (symIn Tryd.prog KL [] N) ⟨0, [], 0⟩ (.func 12 [] []) [.slice (u8s bs)] = some (.str s, S1) := by rw [hS1, hN']; exact call_K (P := Tryd.prog) (n := 3999) e0 (by decide)
  have w1 : Wst S1 := by rw [hS1]; exact ⟨h2, by simp⟩
  clear e0 hS1 h1 h2
  obtain ⟨v1, b1, S2, c1, g1, d1⟩ := call_ans w1 (implParse s (by omega) w1 N (by omega))
  have w2 := g1.wst
  obtain ⟨m, rfl⟩ : ∃ m, N = m + 2 := ⟨N - 2, by omega⟩
  obtain ⟨v2, b2, S3, c2, g2, d2⟩ := call_ans w2 (specParse s (by omega) w2 m (by omega))
  have w3 := g2.wst
  cases hp : parseV s with
  | none =>
    rw [hp] at d1 d2
    obtain ⟨rfl, rfl⟩ : v1 = .nil ∧ b1 = false := d1.elim (fun h => h.2) (fun ⟨zs, q, h, _⟩ => by cases h)
    obtain ⟨rfl, rfl⟩ : v2 = .nil ∧ b2 = false := d2.elim (fun h => h.2) (fun ⟨zs, q, h, _⟩ => by cases h)
    have c3 := c_equal w3 (m + 2) (by omega) (x := .nil) (y := .nil) nil_consts nil_consts (by simp)
    repeat' (first | refine Wp.seq ?_ | refine Wp.block ?_ | (apply Wp.region; focus ((try simp [setArgs, hbig, c0, c1, c2, c3]) <;> rfl)) | (refine Wp.cond_t ?_ ?_; focus (simp [setArgs, hbig, c0, c1, c2, c3]; done)) | (refine Wp.cond_f ?_ ?_; focus (simp [setArgs, hbig, c0, c1, c2, c3]; done)) | refine Wp.skip ?_ | refine Wp.ret ?_ | refine Wp.exit ?_ | refine Blk.here ?_ | (refine Blk.past ?_ ?_; focus (simp; done)))
    exact ⟨rfl, answer_trim1 (v := .bool true) (by simp) rfl⟩
  | some zs =>
    rw [hp] at d1 d2
    have hok := parse_valid hp
    have h6 := hok.1.2.2
    obtain ⟨q1, hq1, l1, rfl⟩ : ∃ q, S1.next ≤ q ∧ IsL S2.obs q zs v1 ∧ b1 = true := d1.elim (fun h => by cases h.1) (fun ⟨ws, q, h, hq, hl, hb⟩ => by cases h; exact ⟨q, hq, hl, hb⟩)
    obtain ⟨q2, hq2, l2, rfl⟩ : ∃ q, S2.next ≤ q ∧ IsL S3.obs q zs v2 ∧ b2 = true := d2.elim (fun h => by cases h.1) (fun ⟨ws, q, h, hq, hl, hb⟩ => by cases h; exact ⟨q, hq, hl, hb⟩)
    have l13 : IsL S3.obs q1 zs v1 := ⟨l1.val, g2.keep _ _ l1.obj⟩
    have c3 := c_equal w3 (m + 2) (by omega) (isL_at l13) (isL_at l2) (by omega)
    have hNm : Nm zs := fun z hz => by have := hok.1.1 z hz; exact wrap_in (by omega) (by omega)
    obtain ⟨cp, hv1, hcp⟩ := l13.val
    obtain ⟨n4, hn4, c4⟩ := implST zs (by omega) hNm w3 hcp l13.obj (m + 2) (by omega)
    rw [← hv1] at c4
    obtain ⟨S4, hS4⟩ : ∃ S4 : Sto Sy, S4 = ⟨n4, S3.obs, S3.low⟩ := ⟨_, rfl⟩
    rw [← hS4] at c4
    have w4 : Wst S4 := by rw [hS4]; exact ⟨desc_up w3.desc hn4, Nat.le_trans w3.low hn4⟩
    have l14 : IsL S4.obs q1 zs v1 := by rw [hS4]; exact l13
    have c5 := c_vi w4 (m + 2) (by omega) (isL_at l14) (by omega) hNm
    rw [decide_eq_true hok.1] at c5
    rw [← hok.2] at c4
    clear d1 d2 l1 l2 l13 l14 hS4
    repeat' (first | refine Wp.seq ?_ | refine Wp.block ?_ | (apply Wp.region; focus ((try simp [setArgs, hbig, c0, c1, c2, c3, c4, c5]) <;> rfl)) | (refine Wp.cond_t ?_ ?_; focus (simp [setArgs, hbig, c0, c1, c2, c3, c4, c5]; done)) | (refine Wp.cond_f ?_ ?_; focus (simp [setArgs, hbig, c0, c1, c2, c3, c4, c5]; done)) | refine Wp.skip ?_ | refine Wp.ret ?_ | refine Wp.exit ?_ | refine Blk.here ?_ | (refine Blk.past ?_ ?_; focus (simp; done)))
    exact ⟨rfl, answer_trim1 (v := .bool true) (by simp) rfl⟩
end Go.Proofs.YtgaodlhdilhliaaDoor.St

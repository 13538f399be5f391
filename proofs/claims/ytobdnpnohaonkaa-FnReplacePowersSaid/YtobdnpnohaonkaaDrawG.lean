import Derived.Test.YtobdnpnohaonkaaRows
import Derived.Test.YtobdnpnohaonkaaSym
import Derived.Test.YtobdnpnohaonkaaSymD
import Derived.Test.YtobdnpnohaonkaaSymE
import Derived.Test.YtobdnpnohaonkaaSymF
import Derived.Test.YtobdnpnohaonkaaIds
import Derived.Test.YtobdnpnohaonkaaNp
import Derived.Test.YtobdnpnohaonkaaSeq
import Derived.Test.YtobdnpnohaonkaaSeqG
import Derived.Test.YtobdnpnohaonkaaTel
import Derived.Test.YtobdnpnohaonkaaTelC
import Derived.Test.YtobdnpnohaonkaaTelD
import Derived.Test.YtobdnpnohaonkaaDraw
import Derived.Test.YtobdnpnohaonkaaDrawC
import Derived.Test.YtobdnpnohaonkaaDrawD
import Derived.Test.YtobdnpnohaonkaaDrawE
import Derived.Test.YtobdnpnohaonkaaDrawF
import Derived.WalkKit
import Derived.ProofKit
import Derived.OpenShut
namespace Go.Proofs.Ytobdnpnohaonkaa.Draw
open Go.ChangeShapes Go.WideShapes Go.ChangeAt Go.RowKit Go.Sx Go.Proofs.Ytobdnpnohaonkaa.Ids Go.Proofs.Ytobdnpnohaonkaa.Seq Go.Proofs.Ytobdnpnohaonkaa.Tel
set_option linter.unusedVariables false
set_option linter.unusedSimpArgs false

theorem nodup_set {x : Nat} : ∀ {l : List Nat} {k : Nat}, l.Nodup → x ∉ l → (l.set k x).Nodup
  | [], _, _, _ => by simp
  | a :: l, 0, h, hx => by
    rw [List.set_cons_zero]
    exact List.nodup_cons.2 ⟨fun hm => hx (by simp [hm]), (List.nodup_cons.1 h).2⟩
  | a :: l, k + 1, h, hx => by
    rw [List.set_cons_succ]
    refine List.nodup_cons.2 ⟨fun hm => ?_, nodup_set (List.nodup_cons.1 h).2 (fun hm => hx (by simp [hm]))⟩
    rcases List.mem_or_eq_of_mem_set hm with hm | e
    · exact (List.nodup_cons.1 h).1 hm
    · exact hx (by simp [e])
theorem rowsW_set (rs : List Rw) (k : Nat) (r : Rw) : (rowsW rs).set k (rwV r) = rowsW (rs.set k r) := by simp [rowsW, List.map_set]
theorem storeRow {S : Sto Sy} {q : Nat} {rs : List Rw} {v : V Sy} (h : IsR S.obs q rs v) {k : Nat} (hk : k < rs.length) (r : Rw) : astore (tiOf Try.prog) S 23 (.ptr q k) (rwV r) = some (S.write q (rowsW (rs.set k r))) := by
  have h1 : k + 1 ≤ (rowsW rs).length := by simp [rowsW]; omega
  have ho : lookC S.obs q = some (rowsW rs) := by simp only [lookC, h.obj, (rowsW_nm rs).1]; rfl
  have hc : (rwV r).cells = [rwV r] := rfl
  have h2 : k + [rwV r].length ≤ (rowsW rs).length := h1
  simp only [astore, tiS, hc, ho]
  rw [← rowsW_set]
  simp [setRange, V.oneCell, rwV, h2, hk, rowsW]
  omega
theorem IsR.setRow {S : Sto Sy} {q : Nat} {rs : List Rw} {v : V Sy} (h : IsR S.obs q rs v) (k : Nat) (r : Rw) (hr : IsL S.obs r.1 r.2.1 (rwV r)) (hrq : r.1 ≠ q) (hrn : r.1 ∉ rs.map (·.1)) : IsR (S.write q (rowsW (rs.set k r))).obs q (rs.set k r) v := by
  have hw : ∀ j, j ≠ q → ∀ x, Go.Sx.look S.obs j = some x → Go.Sx.look (S.write q (rowsW (rs.set k r))).obs j = some x := fun j hj x hx => by
    show Go.Sx.look (put S.obs q _) j = _
    rw [look_put_ne hj]; exact hx
  refine ⟨by rw [List.length_set]; exact h.val, ?_, fun x hx => ?_, ?_⟩
  · show Go.Sx.look (put S.obs q (noBc _)) q = _
    rw [(rowsW_nm _).2.1]; exact look_put_self h.obj
  · rcases List.mem_or_eq_of_mem_set hx with hx | rfl
    · have := h.row x hx
      exact ⟨this.val, hw _ (fun e => (List.nodup_cons.1 h.nd).1 (by rw [← e]; exact List.mem_map.2 ⟨x, hx, rfl⟩)) _ this.obj⟩
    · exact ⟨hr.val, hw _ hrq _ hr.obj⟩
  · rw [List.map_set]
    refine List.nodup_cons.2 ⟨fun hm => ?_, nodup_set (List.nodup_cons.1 h.nd).2 hrn⟩
    rcases List.mem_or_eq_of_mem_set hm with hm | e
    · exact (List.nodup_cons.1 h.nd).1 hm
    · exact hrq e.symm
theorem IsR.setIn {S : Sto Sy} {q : Nat} {rs : List Rw} {v : V Sy} (h : IsR S.obs q rs v) {k : Nat} {r : Rw} (hk : rs[k]? = some r) (i : Nat) (x : Int) : IsR (S.write r.1 (ints (nums (r.2.1.set i x)))).obs q (rs.set k (r.1, r.2.1.set i x, r.2.2)) v := by
  obtain ⟨hkl, hke⟩ := List.getElem?_eq_some_iff.1 hk
  have hrm : r ∈ rs := List.mem_of_getElem? hk
  have hrq : q ≠ r.1 := fun e => (List.nodup_cons.1 h.nd).1 (by rw [e]; exact List.mem_map.2 ⟨r, hrm, rfl⟩)
  have hid : (rs.set k (r.1, r.2.1.set i x, r.2.2)).map (fun x : Rw => x.1) = rs.map (fun x : Rw => x.1) := by
    rw [List.map_set]
    apply List.ext_getElem?
    intro j
    rw [List.getElem?_set]
    split
    · rename_i e
      subst e
      simp [hkl, hke]
    · rfl
  have hrows : rowsW (rs.set k (r.1, r.2.1.set i x, r.2.2)) = rowsW rs := by
    unfold rowsW
    rw [List.map_set]
    apply List.ext_getElem?
    intro j
    rw [List.getElem?_set]
    split
    · rename_i e
      subst e
      simp [hkl, hke, rwV]
    · rfl
  refine ⟨by rw [List.length_set]; exact h.val, ?_, fun y hy => ?_, ?_⟩
  · show Go.Sx.look (put S.obs r.1 _) q = _
    rw [look_put_ne hrq, hrows]; exact h.obj
  · have h0 := h.row r hrm
    obtain ⟨j, hj, hye⟩ := List.mem_iff_getElem.1 hy
    rw [List.getElem_set] at hye
    split at hye
    · subst hye
      refine ⟨?_, ?_⟩
      · obtain ⟨cp, h1, h2⟩ := h0.val
        exact ⟨cp, by simpa [rwV] using h1, by simpa using h2⟩
      · exact (h0.wrote i x).obj
    · rename_i hne
      have hym : y ∈ rs := by rw [← hye]; exact List.getElem_mem _
      have hyr : y.1 ≠ r.1 := by
        intro e
        have nd := (List.nodup_cons.1 h.nd).2
        have hj' : j < rs.length := by simpa using hj
        have e1 : (rs.map (fun x : Rw => x.1))[k]'(by simpa using hkl) = (rs.map (fun x : Rw => x.1))[j]'(by simpa using hj') := by
          simp only [List.getElem_map, hke, hye]
          exact e.symm
        rcases Nat.lt_trichotomy k j with hlt | rfl | hlt
        · exact List.pairwise_iff_getElem.1 nd k j (by simpa using hkl) (by simpa using hj') hlt e1
        · exact hne rfl
        · exact List.pairwise_iff_getElem.1 nd j k (by simpa using hj') (by simpa using hkl) hlt e1.symm
      have := h.row y hym
      refine ⟨this.val, ?_⟩
      show Go.Sx.look (put S.obs r.1 _) y.1 = _
      rw [look_put_ne hyr]; exact this.obj
  · rw [show (rs.set k (r.1, r.2.1.set i x, r.2.2)).map (·.1) = rs.map (·.1) from hid]; exact h.nd
def Rwz (n0 : Nat) (v : V Sy) (obs : List (Nat × Ob Sy)) : Prop := ∃ q rs, n0 ≤ q ∧ IsR obs q rs v ∧ 1 ≤ rs.length ∧ rs.length ≤ 6 ∧ ∀ r, r ∈ rs → n0 ≤ r.1 ∧ r.2.1.length ≤ 6

attribute [local simp] aops wants aop apure St.eval setTm_some setTm_none Tr.get_set evals pevals apureB alen tiS tiI tiB tiY tiU tiSs tiSr tiSS abin aint isCmp sym_lt sym_eqs sym_neqs sym_eq sym_neq sym_gtr sym_leq sym_geq sym_add sym_sub sym_mul aeff aeffB idx? ofV aindexAddr aggDesc aifc_int fldP0 fldP1
set_option maxRecDepth 10000 in
theorem someSequence (bs : List Int) (hbs : ∀ b, b ∈ bs → 0 ≤ b ∧ b < 256) {o : Nat} {P : Int} {S : Sto Sy} (h : Rdy bs o P S) (hP : P ≤ 300000) (f : Nat) (hf : 90 ≤ f) :
    ∃ v S1, acallV (symIn Try.prog K0 [] f) S (.func 12 [] []) [.ptr o 0] = some (v, S1) ∧ Nw bs o (P + 4000) [] S S1 ∧ Rwz S.next v S1.obs := by
  obtain ⟨g, rfl⟩ : ∃ g, f = g + 1 := ⟨f - 1, by omega⟩
  refine run_call (Φ := fun v obs => Rwz S.next v obs) (own_run2 hK0 Try.func12 rfl rfl ?_)
  simp only [Try.f12]
  have h0 := h.lows S.next
  have hlt := h.lt
  have hN : (⟨S.next, S.obs, S.next⟩ : Sto Sy).next = S.next := rfl
  generalize (⟨S.next, S.obs, S.next⟩ : Sto Sy) = S0 at h0 hN ⊢
  obtain ⟨_, S1, hc1, hn1, n, rfl, hx1, hx2⟩ := longOf bs hbs h0 (by omega) g (by omega)
  obtain ⟨v, S2, hc2, hn2, q, rs, hq, hz, hl1, hl2, hb⟩ := sequenceOf bs hbs hn1.rd (by omega) n (by omega) (by omega) g (by omega)
  have e1 := hn1.next
  have t2 := hn1.trans h0.desc hn2 (by simp)
  have hqo : q ≠ o := by have := h0.lt; omega
  have hro : ∀ r, r ∈ rs → r.1 ≠ o := fun r hr => by have := (hb r hr).1; have := h0.lt; omega
  obtain ⟨cq, rfl, hcq⟩ := hz.val
  obtain ⟨x, S3, hc3, hn3, hk1, hk2⟩ := pickC bs hbs t2.rd (by omega) (rs.length : Int) (by omega) g (by omega)
  obtain ⟨k, rfl⟩ : ∃ k : Nat, x = k := ⟨x.toNat, by omega⟩
  have hkl : k < rs.length := by omega
  have t3 := t2.trans h0.desc hn3 (by simp)
  have z3 := hz.keep hn3 hqo hro
  obtain ⟨y, S4, hc4, hn4, hy1, hy2⟩ := pickC bs hbs t3.rd (by omega) 40 (by omega) g (by omega)
  have t4 := t3.trans h0.desc hn4 (by simp)
  have z4 := z3.keep hn4 hqo hro
  have hS4 := hn4.rd.desc
  by_cases hy0 : y = 0
  · subst hy0
    have z5 := z4.new hS4 (ints (nums [1]))
    have w5 : IsL (S4.new (ints (nums [1]))).obs S4.next [1] (rwV (S4.next, [1], some 1)) := ⟨⟨some 1, rfl, .inr rfl⟩, look_new _ _⟩
    have hq4 := hS4.look_lt z4.obj
    have hrn : S4.next ∉ rs.map (fun x : Rw => x.1) := fun hm => by
      obtain ⟨r, hr, e⟩ := List.mem_map.1 hm
      have := hS4.look_lt (z4.row r hr).obj
      omega
    have st := storeRow z5 hkl (S4.next, [1], some 1)
    have z6 := z5.setRow k (S4.next, [1], some 1) w5 (by simp only; omega) hrn
    have t6 := (t4.behind (ints (nums [1]))).wrote h0.desc hqo (.inr (by omega)) (rowsW (rs.set k (S4.next, [1], some 1)))
    generalize (S4.new (ints (nums [1]))).write q (rowsW (rs.set k (S4.next, [1], some 1))) = S6 at st z6 t6
    replace st : astore (tiOf Try.prog) (S4.new (ints (nums [1]))) 23 (.ptr q k) (.rsl S4.next 0 1 (some 1)) = some S6 := st
    repeat' (first | refine Wp.seq ?_ | refine Wp.block ?_ | (apply Wp.region; focus ((try simp [setArgs, hc1, hc2, hc3, hc4, litx, hkl, hk2, st]) <;> rfl)) | (refine Wp.cond_t ?_ ?_; focus (simp [setArgs, hc1, hc2, hc3, hc4, litx, hkl, hk2, st]; done)) | (refine Wp.cond_f ?_ ?_; focus (simp [setArgs, hc1, hc2, hc3, hc4, litx, hkl, hk2, st]; done)) | refine Wp.skip ?_ | refine Wp.ret ?_ | refine Wp.exit ?_ | refine Blk.here ?_ | (refine Blk.past ?_ ?_; focus (simp; done)))
    refine ⟨rfl, answer_one (v := .rsl q 0 rs.length cq) (by simp) (t6.lowlt h0 hN) ⟨t6.more (by omega), q, _, by omega, z6, by rw [List.length_set]; omega, by rw [List.length_set]; omega, fun r hr => ?_⟩⟩
    have := t4.next
    rcases List.mem_or_eq_of_mem_set hr with hr | rfl
    · exact ⟨by have := (hb r hr).1; omega, by rw [(hb r hr).2]; omega⟩
    · exact ⟨by simp only; omega, by simp⟩
  have fin : ∀ (k i : Nat) (x : Int) (hk : k < rs.length) (hi : i < rs.length), ∃ (a : Nat) (c : Option Nat) (T : Sto Sy), aload (tiOf Try.prog) S4 23 (.ptr q k) = some (.rsl a 0 rs.length c) ∧ astore (tiOf Try.prog) S4 3 (.ptr a i) (.int .i64 (.c x)) = some T ∧ Nw bs o (P + 4000) [] S0 T ∧ Rwz S.next (.rsl q 0 rs.length cq) T.obs := by
    intro k i x hk hi
    have hrk : rs[k]? = some rs[k] := List.getElem?_eq_getElem hk
    obtain ⟨b1, b2⟩ := hb rs[k] (List.getElem_mem hk)
    have hrow := z4.row rs[k] (List.getElem_mem hk)
    have st := store_ok (T := tiOf Try.prog) tiI hrow (i := i) (x := x) (by omega)
    refine ⟨rs[k].1, rs[k].2.2, _, ?_, st, (t4.wrote h0.desc (hro _ (List.getElem_mem hk)) (.inr (by omega)) _).more (by omega), q, _, by omega, z4.setIn hrk i x, by rw [List.length_set]; omega, by rw [List.length_set]; omega, fun r hr => ?_⟩
    · refine loadS z4.obj ?_ (rowsW_nm rs).1
      simp [rowsW, hk, rwV, b2]
    · rcases List.mem_or_eq_of_mem_set hr with hr | rfl
      · exact ⟨by have := (hb r hr).1; omega, by rw [(hb r hr).2]; omega⟩
      · exact ⟨by simp only; omega, by simp only [List.length_set]; omega⟩
  by_cases hy1' : y = 1
  · subst hy1'
    obtain ⟨m, hm⟩ : ∃ m : Nat, (rs.length : Int) - 1 = m := ⟨rs.length - 1, by omega⟩
    have hml : m < rs.length := by omega
    have hml2 : (m : Int) < rs.length := by omega
    obtain ⟨a, c, T, k1, k2, k3, k4⟩ := fin 0 m 5 (by omega) hml
    have hw : IntKind.i64.wrap ((rs.length : Int) - 1) = m := by rw [hm]; exact wrap_in (by omega) (by omega)
    have hpos : (0 : Int) < rs.length := by omega
    have hpos2 : 0 < rs.length := by omega
    repeat' (first | refine Wp.seq ?_ | refine Wp.block ?_ | (apply Wp.region; focus ((try simp [setArgs, hc1, hc2, hc3, hc4, k1, k2, hw, hpos, hpos2, hml, hml2]) <;> rfl)) | (refine Wp.cond_t ?_ ?_; focus (simp [setArgs, hc1, hc2, hc3, hc4, k1, k2, hw, hpos, hpos2, hml, hml2]; done)) | (refine Wp.cond_f ?_ ?_; focus (simp [setArgs, hc1, hc2, hc3, hc4, k1, k2, hw, hpos, hpos2, hml, hml2]; done)) | refine Wp.skip ?_ | refine Wp.ret ?_ | refine Wp.exit ?_ | refine Blk.here ?_ | (refine Blk.past ?_ ?_; focus (simp; done)))
    exact ⟨rfl, answer_one (v := .rsl q 0 rs.length cq) (by simp) (k3.lowlt h0 hN) ⟨k3, k4⟩⟩
  by_cases hy2' : y = 2
  · subst hy2'
    obtain ⟨a, c, T, k1, k2, k3, k4⟩ := fin k k 0 hkl hkl
    repeat' (first | refine Wp.seq ?_ | refine Wp.block ?_ | (apply Wp.region; focus ((try simp [setArgs, hc1, hc2, hc3, hc4, k1, k2, hkl, hk2]) <;> rfl)) | (refine Wp.cond_t ?_ ?_; focus (simp [setArgs, hc1, hc2, hc3, hc4, k1, k2, hkl, hk2]; done)) | (refine Wp.cond_f ?_ ?_; focus (simp [setArgs, hc1, hc2, hc3, hc4, k1, k2, hkl, hk2]; done)) | refine Wp.skip ?_ | refine Wp.ret ?_ | refine Wp.exit ?_ | refine Blk.here ?_ | (refine Blk.past ?_ ?_; focus (simp; done)))
    exact ⟨rfl, answer_one (v := .rsl q 0 rs.length cq) (by simp) (k3.lowlt h0 hN) ⟨k3, k4⟩⟩
  repeat' (first | refine Wp.seq ?_ | refine Wp.block ?_ | (apply Wp.region; focus ((try simp [setArgs, hc1, hc2, hc3, hc4, hy0, hy1', hy2']) <;> rfl)) | (refine Wp.cond_t ?_ ?_; focus (simp [setArgs, hc1, hc2, hc3, hc4, hy0, hy1', hy2']; done)) | (refine Wp.cond_f ?_ ?_; focus (simp [setArgs, hc1, hc2, hc3, hc4, hy0, hy1', hy2']; done)) | refine Wp.skip ?_ | refine Wp.ret ?_ | refine Wp.exit ?_ | refine Blk.here ?_ | (refine Blk.past ?_ ?_; focus (simp; done)))
  refine ⟨rfl, answer_one (v := .rsl q 0 rs.length cq) (by simp) (t4.lowlt h0 hN) ⟨t4.more (by omega), q, rs, by omega, z4, hl1, hl2, fun r hr => ⟨by have := (hb r hr).1; omega, by rw [(hb r hr).2]; omega⟩⟩⟩
end Go.Proofs.Ytobdnpnohaonkaa.Draw

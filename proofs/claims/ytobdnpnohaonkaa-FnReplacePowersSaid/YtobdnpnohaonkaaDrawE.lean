import Derived.Test.YtobdnpnohaonkaaRows
import Derived.Test.YtobdnpnohaonkaaSym
import Derived.Test.YtobdnpnohaonkaaSymD
import Derived.Test.YtobdnpnohaonkaaSymE
import Derived.Test.YtobdnpnohaonkaaSymF
import Derived.Test.YtobdnpnohaonkaaIds
import Derived.Test.YtobdnpnohaonkaaNp
import Derived.Test.YtobdnpnohaonkaaSeq
import Derived.Test.YtobdnpnohaonkaaSeqG
import Derived.Test.YtobdnpnohaonkaaTel
import Derived.Test.YtobdnpnohaonkaaTelC
import Derived.Test.YtobdnpnohaonkaaTelD
import Derived.Test.YtobdnpnohaonkaaDraw
import Derived.Test.YtobdnpnohaonkaaDrawC
import Derived.Test.YtobdnpnohaonkaaDrawD
import Derived.WalkKit
import Derived.ProofKit
import Derived.OpenShut
namespace Go.Proofs.Ytobdnpnohaonkaa.Draw
open Go.ChangeShapes Go.WideShapes Go.ChangeAt Go.RowKit Go.Sx Go.Proofs.Ytobdnpnohaonkaa.Ids Go.Proofs.Ytobdnpnohaonkaa.Seq Go.Proofs.Ytobdnpnohaonkaa.Tel
set_option linter.unusedVariables false
set_option linter.unusedSimpArgs false

theorem tiSS : tiOf Try.prog 24 = some ⟨.slice 23, 1, 24, .slice none 0 0, true⟩ := by kernel_rfl
abbrev Rw := Nat × List Int × Option Nat
def rwV (r : Rw) : V Sy := .rsl r.1 0 r.2.1.length r.2.2
def rowsW (rs : List Rw) : List (V Sy) := rs.map rwV
theorem rsl_nm {cs : List (V Sy)} (h : ∀ x, x ∈ cs → ∃ o a b c, x = V.rsl o a b c) : isMp cs = false ∧ noBc cs = cs ∧ cs.all V.oneCell = true := by
  refine ⟨?_, ?_, ?_⟩
  · match cs, h with
    | [], _ => rfl
    | [x], h => obtain ⟨o, a, b, c, rfl⟩ := h x (by simp); rfl
    | x :: y :: r, h => simp
  · match cs, h with
    | [], _ => rfl
    | [x], h => obtain ⟨o, a, b, c, rfl⟩ := h x (by simp); rfl
    | x :: y :: r, h => obtain ⟨o, a, b, c, rfl⟩ := h x (by simp); rfl
  · rw [List.all_eq_true]
    intro x hx
    obtain ⟨o, a, b, c, rfl⟩ := h x hx
    rfl
theorem rowsW_nm (rs : List Rw) : isMp (rowsW rs) = false ∧ noBc (rowsW rs) = rowsW rs ∧ (rowsW rs).all V.oneCell = true :=
  rsl_nm (fun x hx => by obtain ⟨r, _, rfl⟩ := List.mem_map.1 hx; exact ⟨_, _, _, _, rfl⟩)
structure IsR (obs : List (Nat × Ob Sy)) (q : Nat) (rs : List Rw) (v : V Sy) : Prop where
  val : ∃ cp, v = .rsl q 0 rs.length cp ∧ (cp = none ∨ cp = some rs.length)
  obj : Go.Sx.look obs q = some (rowsW rs)
  row : ∀ r, r ∈ rs → IsL obs r.1 r.2.1 (rwV r)
  nd : (q :: rs.map (·.1)).Nodup
theorem IsR.mono {a b : List (Nat × Ob Sy)} {q : Nat} {rs : List Rw} {v : V Sy} (h : IsR a q rs v) (hq : ∀ x, Go.Sx.look a q = some x → Go.Sx.look b q = some x) (hr : ∀ r, r ∈ rs → ∀ x, Go.Sx.look a r.1 = some x → Go.Sx.look b r.1 = some x) : IsR b q rs v :=
  ⟨h.val, hq _ h.obj, fun r hm => ⟨(h.row r hm).val, hr r hm _ (h.row r hm).obj⟩, h.nd⟩
theorem IsR.keep {bs : List Int} {o : Nat} {P : Int} {a b : Sto Sy} {q : Nat} {rs : List Rw} {v : V Sy} (h : IsR a.obs q rs v) (hn : Nw bs o P [] a b) (h1 : q ≠ o) (h2 : ∀ r, r ∈ rs → r.1 ≠ o) : IsR b.obs q rs v :=
  h.mono (fun x hx => hn.keep q x h1 (by simp) hx) (fun r hr x hx => hn.keep r.1 x (h2 r hr) (by simp) hx)
theorem IsR.new {a : Sto Sy} {q : Nat} {rs : List Rw} {v : V Sy} (h : IsR a.obs q rs v) (hd : Desc a.next a.obs) (cs : List (V Sy)) : IsR (a.new cs).obs q rs v := by
  have key : ∀ k x, Go.Sx.look a.obs k = some x → Go.Sx.look (a.new cs).obs k = some x := fun k x hx => by
    show Go.Sx.look ((a.next, noBc cs) :: a.obs) k = _
    rw [look_cons, if_neg (by have := hd.look_lt hx; omega)]; exact hx
  exact h.mono (key q) (fun r _ => key r.1)
theorem IsR.wrote {a : Sto Sy} {q k : Nat} {rs : List Rw} {v : V Sy} (h : IsR a.obs q rs v) (h1 : q ≠ k) (h2 : ∀ r, r ∈ rs → r.1 ≠ k) (cs : Ob Sy) : IsR (a.write k cs).obs q rs v :=
  h.mono (fun x hx => by show Go.Sx.look (put a.obs k _) q = _; rw [look_put_ne h1]; exact hx) (fun r hr x hx => by show Go.Sx.look (put a.obs k _) r.1 = _; rw [look_put_ne (h2 r hr)]; exact hx)
theorem IsR.rows {S : Sto Sy} {q : Nat} {rs : List Rw} {v : V Sy} (h : IsR S.obs q rs v) : rowsOf S v = some (rs.map (·.2.1)) := by
  obtain ⟨⟨cp, rfl, hcp⟩, ho, hr, _⟩ := h
  have he : S.elems (.rsl q 0 rs.length cp) = some (rowsW rs) := by
    simp only [Sto.elems, Sto.cells, lookC, ho, (rowsW_nm rs).1]
    simp [rowsW, List.take_of_length_le]
  unfold rowsOf
  rw [he]
  have hc : capOk (.rsl q 0 rs.length cp : V Sy) = true := by rcases hcp with rfl | rfl <;> simp [capOk]
  simp only [hc, bite_true]
  have key : ∀ (l : List Rw), (∀ r, r ∈ l → IsL S.obs r.1 r.2.1 (rwV r)) → rowsFrom S (rowsW l) = some (l.map (·.2.1)) := by
    intro l
    induction l with
    | nil => intro _; rfl
    | cons r l ih =>
      intro hl
      have h0 := hl r (by simp)
      obtain ⟨c2, hv, hc2⟩ := h0.val
      have e1 : constsOf S (rwV r) = some r.2.1 := by
        have hle : S.elems (rwV r) = some (ints (nums r.2.1)) := by
          simp only [rwV, Sto.elems, Sto.cells, lookC_ints h0.obj]
          simp [List.take_of_length_le]
        have hcc : capOk (rwV r) = true := by
          rw [hv]; rcases hc2 with rfl | rfl <;> simp [capOk]
        simp only [constsOf, hle, numsOf_nums, hcc, bite_true, consts_of]
      simp only [rowsW, List.map_cons, rowsFrom, e1]
      rw [show l.map rwV = rowsW l from rfl, ih (fun r hr => hl r (by simp [hr]))]
  exact key rs hr
theorem isL_consts {S : Sto Sy} {q : Nat} {zs : List Int} {v : V Sy} (h : IsL S.obs q zs v) : constsOf S v = some zs := by
  obtain ⟨c2, hv, hc2⟩ := h.val
  have hle : S.elems v = some (ints (nums zs)) := by
    subst hv
    simp only [Sto.elems, Sto.cells, lookC_ints h.obj]
    simp [List.take_of_length_le]
  have hcc : capOk v = true := by
    rw [hv]; rcases hc2 with rfl | rfl <;> simp [capOk]
  simp only [constsOf, hle, numsOf_nums, hcc, bite_true, consts_of]

theorem rowAppend {bs : List Int} {o : Nat} {P : Int} {S0 S : Sto Sy} {q : Nat} {rs : List Rw} {v : V Sy} (h : IsR S.obs q rs v) (hq : q ≠ o) (hx : S0.next ≤ q) (hd : Desc S0.next S0.obs) (hn : Nw bs o P [] S0 S) (r : Rw) (hr : IsL S.obs r.1 r.2.1 (rwV r)) (hrq : r.1 ≠ q) (hrn : r.1 ∉ rs.map (·.1)) (hl : rs.length ≤ 1000) :
    ∃ v' S', aappend (symNum []) (tiOf Try.prog) (S.new [rwV r]) 24 24 v (.rsl S.next 0 1 (some 1)) = some (v', S') ∧ Nw bs o P [] S0 S' ∧ ∃ q', S.next ≤ q' ∧ IsR S'.obs q' (rs ++ [r]) v' := by
  obtain ⟨cp, rfl, hcp⟩ := h.val
  have hqn := hn.rd.desc.look_lt h.obj
  have h1 := h.new hn.rd.desc [rwV r]
  have ho : lookC (S.new [rwV r]).obs q = some (rowsW rs) := by simp only [lookC, h1.obj, (rowsW_nm rs).1]; rfl
  have hnb : noBc [rwV r] = [rwV r] := rfl
  have hlo : Go.Sx.look (S.new [rwV r]).obs S.next = some [rwV r] := by
    show Go.Sx.look ((S.next, noBc [rwV r]) :: S.obs) S.next = _
    rw [look_cons, if_pos rfl, hnb]
  have he : (S.new [rwV r]).elems (.rsl S.next 0 1 (some 1)) = some [rwV r] := by
    simp only [Sto.elems, Sto.cells, lookC, hlo]
    rfl
  have hone : [rwV r].all V.oneCell = true := rfl
  have hz : (ofV (symNum []) (Value.slice none 0 0)).oneCell = true := rfl
  have hwl : (rowsW rs).length = rs.length := by simp [rowsW]
  have happ : rowsW rs ++ [rwV r] = rowsW (rs ++ [r]) := by simp [rowsW]
  have hnm := rowsW_nm (rs ++ [r])
  have hb1 : (rs.length + [rwV r].length) * 24 ≤ 140737488355328 := by simp; omega
  have hb2 : rs.length + [rwV r].length ≤ 9223372036854775807 := by simp; omega
  have hlen : rs.length + [rwV r].length = (rs ++ [r]).length := by simp
  have rowlt : ∀ x, x ∈ rs ++ [r] → x.1 < S.next := fun x hx => by
    rcases List.mem_append.1 hx with hx | hx
    · exact hn.rd.desc.look_lt (h.row x hx).obj
    · simp at hx; subst hx; exact hn.rd.desc.look_lt hr.obj
  have rowne : ∀ x, x ∈ rs ++ [r] → x.1 ≠ q := fun x hx => by
    rcases List.mem_append.1 hx with hx | hx
    · intro e
      have := (List.nodup_cons.1 h.nd).1
      exact this (by rw [← e]; exact List.mem_map.2 ⟨x, hx, rfl⟩)
    · simp at hx; subst hx; exact hrq
  have rowis : ∀ x, x ∈ rs ++ [r] → IsL S.obs x.1 x.2.1 (rwV x) := fun x hx => by
    rcases List.mem_append.1 hx with hx | hx
    · exact h.row x hx
    · simp at hx; subst hx; exact hr
  have nd2 : List.Nodup ((S.next + 1) :: (rs ++ [r]).map (fun x : Rw => x.1)) := by
    refine List.nodup_cons.2 ⟨fun hm => ?_, ?_⟩
    · obtain ⟨x, hx, e⟩ := List.mem_map.1 hm
      have := rowlt x hx
      omega
    · rw [List.map_append, List.nodup_append]
      refine ⟨(List.nodup_cons.1 h.nd).2, by simp, fun a ha b hb e => ?_⟩
      simp at hb
      subst hb
      subst e
      exact hrn ha
  rcases hcp with rfl | rfl
  · refine ⟨.rsl (S.next + 1) 0 (rs ++ [r]).length none, ⟨S.next + 1 + 1, (S.next + 1, rowsW (rs ++ [r])) :: del (S.new [rwV r]).obs q, if Nat.blt q (S.new [rwV r]).low then q else (S.new [rwV r]).low⟩, ?_, (hn.behind _).grown hd hq (.inr hx) _, S.next + 1, by omega, ⟨_, rfl, .inl rfl⟩, ?_, fun x hx => ⟨(rowis x hx).val, ?_⟩, nd2⟩
    · have htk : (rowsW rs).take rs.length = rowsW rs := List.take_of_length_le (by omega)
      rw [hlen] at hb1 hb2
      simp only [aappend, tiSS, tiS, he, ho, hz, hone, true_and, and_true, if_true, hwl, htk, happ, hlen, Nat.le_refl]
      rw [if_pos ⟨hb1, hb2⟩]
      rfl
    · rw [look_cons, if_pos rfl]
    · have h5 := rowlt x hx
      rw [look_cons, if_neg (by omega), look_del_ne (rowne x hx)]
      show Go.Sx.look ((S.next, noBc [rwV r]) :: S.obs) x.1 = _
      rw [look_cons, if_neg (by omega)]; exact (rowis x hx).obj
  · have hc : ¬ rs.length + [rwV r].length ≤ rs.length := by simp
    refine ⟨.rsl (S.next + 1) 0 (rs ++ [r]).length none, (S.new [rwV r]).new (rowsW (rs ++ [r])), ?_, (hn.behind _).behind _, S.next + 1, by omega, ⟨_, rfl, .inl rfl⟩, ?_, fun x hx => ⟨(rowis x hx).val, ?_⟩, nd2⟩
    · have hdt : ((rowsW rs).drop 0).take rs.length ++ [rwV r] = rowsW (rs ++ [r]) := by rw [← happ, List.drop_zero, List.take_of_length_le (by omega)]
      rw [hlen] at hc hb1 hb2
      simp only [aappend, tiSS, tiS, he, ho, hz, hone, true_and, and_true, if_true, hwl, hlen, hdt, Nat.le_refl, Nat.zero_add]
      rw [if_pos ⟨hb1, hb2⟩, if_neg hc]
      rfl
    · show Go.Sx.look (((S.new [rwV r]).next, noBc (rowsW (rs ++ [r]))) :: (S.new [rwV r]).obs) (S.next + 1) = _
      rw [look_cons, hnm.2.1]; exact if_pos rfl
    · have h5 := rowlt x hx
      show Go.Sx.look ((S.next + 1, noBc (rowsW (rs ++ [r]))) :: (S.next, noBc [rwV r]) :: S.obs) x.1 = _
      rw [look_cons, if_neg (by omega), look_cons, if_neg (by omega)]; exact (rowis x hx).obj

theorem numO_get : ∀ (l : List (Ob Sy)) (o : Nat) (acc : List (Nat × Ob Sy)) (i : Nat) (x : Ob Sy), l[i]? = some x → Go.Sx.look (numO o l acc) (o + i) = some x
  | [], o, acc, i, x, h => by simp at h
  | b :: r, o, acc, 0, x, h => by
    simp at h
    subst h
    simp only [numO]
    rw [numO_old r (o + 1) _ (o + 0) (by omega), look_cons, if_pos (by omega)]
  | b :: r, o, acc, i + 1, x, h => by
    simp only [numO]
    rw [show o + (i + 1) = o + 1 + i by omega]
    exact numO_get r _ _ i x (by simpa using h)
where numO_old : ∀ (l : List (Ob Sy)) (o : Nat) (acc : List (Nat × Ob Sy)) (k : Nat), k < o → Go.Sx.look (numO o l acc) k = Go.Sx.look acc k
  | [], o, acc, k, h => rfl
  | b :: r, o, acc, k, h => by
    simp only [numO]
    rw [numO_old r (o + 1) _ k (by omega), look_cons, if_neg (by omega)]
theorem telCall {α : Type} {k0 : FuncId} {D : List (V Sy) → Sto Sy → Option α} {R : α → Nat → V Sy} {O : α → Nat → List (Ob Sy)} {args : List (V Sy)} {bs : List Int} {o : Nat} {P : Int} {S : Sto Sy} {a : α} (h : Rdy bs o P S) (hl : S.low ≤ o) (hk : ∀ args sto, K0 k0 args sto = telK k0 D R O k0 args sto) (hD : D args ⟨S.next, S.obs, S.next⟩ = some a) (f : Nat) (hf : 1 ≤ f) (hk9 : (k0 : Nat) < 1000000 := by decide) :
    ∃ S1, acallV (symIn Try.prog K0 [] f) S (.func k0 [] []) args = some (R a S.next, S1) ∧ Nw bs o P [] S S1 ∧ S1.next = S.next + (O a S.next).length ∧ (∀ i x, (O a S.next)[i]? = some x → Go.Sx.look S1.obs (S.next + i) = some x) ∧ ∀ k x, Go.Sx.look S.obs k = some x → Go.Sx.look S1.obs k = some x := by
  obtain ⟨g, rfl⟩ : ∃ g, f = g + 1 := ⟨f - 1, by omega⟩
  have hlt := h.lt
  have e : K0 k0 args ⟨S.next, S.obs, S.next⟩ = some (R a S.next, ⟨S.next + (O a S.next).length, numO S.next (O a S.next) S.obs, S.next⟩) := by
    rw [hk]
    unfold telK
    rw [Nat.beq_refl, bite_true, hD]
  obtain ⟨p, p1, p2⟩ := h
  have old : ∀ k x, Go.Sx.look S.obs k = some x → Go.Sx.look (numO S.next (O a S.next) S.obs) k = some x := fun k x hx => by
    rw [numO_get.numO_old _ _ _ _ (p2.desc.look_lt hx)]; exact hx
  refine ⟨_, call_K (n := g) e hk9, ⟨⟨p, p1, old _ _ p2.obj, desc_numO _ _ _ p2.desc, p2.p0⟩, Nat.le_add_right _ _, ?_, fun k x _ _ hx => old k x hx⟩, rfl, fun i x hx => numO_get _ _ _ _ _ hx, old⟩
  simp only
  split <;> omega

def rwsN : Nat → List (List Int) → List Rw
  | _, [] => []
  | o, z :: r => (o, z, none) :: rwsN (o + 1) r
theorem rwsN_len : ∀ (o : Nat) (l : List (List Int)), (rwsN o l).length = l.length
  | _, [] => rfl
  | o, z :: r => by simp [rwsN, rwsN_len (o + 1) r]
theorem rwsN_rows : ∀ (o : Nat) (l : List (List Int)), rowsW (rwsN o l) = rowsV o l
  | _, [] => rfl
  | o, z :: r => by
    have := rwsN_rows (o + 1) r
    simp only [rowsW] at this
    simp [rwsN, rowsW, rowsV, rwV, this]
theorem rwsN_nums : ∀ (o : Nat) (l : List (List Int)), (rwsN o l).map (·.2.1) = l
  | _, [] => rfl
  | o, z :: r => by simp [rwsN, rwsN_nums (o + 1) r]
theorem rwsN_mem : ∀ (o : Nat) (l : List (List Int)) (r : Rw), r ∈ rwsN o l → ∃ i, l[i]? = some r.2.1 ∧ r.1 = o + i ∧ r.2.2 = none
  | _, [], r, h => by simp [rwsN] at h
  | o, z :: l, r, h => by
    simp only [rwsN, List.mem_cons] at h
    rcases h with rfl | h
    · exact ⟨0, rfl, rfl, rfl⟩
    · obtain ⟨i, h1, h2, h3⟩ := rwsN_mem (o + 1) l r h
      exact ⟨i + 1, by simpa using h1, by omega, h3⟩
theorem rwsN_nd : ∀ (o : Nat) (l : List (List Int)), ((rwsN o l).map (·.1)).Nodup
  | _, [] => List.nodup_nil
  | o, z :: l => by
    simp only [rwsN, List.map_cons]
    refine List.nodup_cons.2 ⟨fun h => ?_, rwsN_nd (o + 1) l⟩
    obtain ⟨r, hr, e⟩ := List.mem_map.1 h
    obtain ⟨i, _, h2, _⟩ := rwsN_mem _ _ _ hr
    omega
theorem isR_tel {obs : List (Nat × Ob Sy)} {n : Nat} {l : List (List Int)} (h : ∀ i x, (rowsO l n)[i]? = some x → Go.Sx.look obs (n + i) = some x) : IsR obs n (rwsN (n + 1) l) (rowsR l n) := by
  refine ⟨⟨none, by rw [rwsN_len]; rfl, .inl rfl⟩, ?_, fun r hr => ?_, ?_⟩
  · rw [rwsN_rows]
    exact h 0 _ rfl
  · obtain ⟨i, h1, h2, h3⟩ := rwsN_mem _ _ _ hr
    obtain ⟨a, b, c⟩ := r
    simp only at h1 h2 h3
    subst h2 h3
    refine ⟨⟨none, rfl, .inl rfl⟩, ?_⟩
    have := h (i + 1) (ints (nums b)) (by simp [rowsO, objsO, h1])
    rwa [show n + (i + 1) = n + 1 + i by omega] at this
  · refine List.nodup_cons.2 ⟨fun hm => ?_, rwsN_nd _ _⟩
    obtain ⟨r, hr, e⟩ := List.mem_map.1 hm
    obtain ⟨i, _, h2, _⟩ := rwsN_mem _ _ _ hr
    omega
def Rws (n0 : Nat) (v : V Sy) (obs : List (Nat × Ob Sy)) : Prop := ∃ q rs, n0 ≤ q ∧ IsR obs q rs v ∧ 1 ≤ rs.length ∧ rs.length ≤ 6 ∧ ∀ r, r ∈ rs → n0 ≤ r.1 ∧ r.2.1.length = rs.length
end Go.Proofs.Ytobdnpnohaonkaa.Draw

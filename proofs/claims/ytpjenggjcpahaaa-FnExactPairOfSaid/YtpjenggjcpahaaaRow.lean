/-
  Lists, and lists of lists: copied, compared, measured, marked, beside any other contract. No condition.
-/
import Derived.Test.YtpjenggjcpahaaaRows
import Derived.Test.YtpjenggjcpahaaaSym
import Derived.Test.YtpjenggjcpahaaaSymD
import Derived.Test.YtpjenggjcpahaaaSymE
import Derived.Test.YtpjenggjcpahaaaSymF
import Derived.Test.YtpjenggjcpahaaaIds
import Derived.Test.YtpjenggjcpahaaaSeq
import Derived.Test.YtpjenggjcpahaaaSeqB
import Derived.Test.YtpjenggjcpahaaaSeqC
import Derived.Test.YtpjenggjcpahaaaSeqE
import Derived.Test.YtpjenggjcpahaaaSeqF
import Derived.Test.YtpjenggjcpahaaaSeqG
import Derived.Test.YtpjenggjcpahaaaSeqH
import Derived.WalkKit
import Derived.ProofKit
import Derived.OpenShut
namespace Go.Proofs.Ytpjenggjcpahaaa.Row
open Go.ChangeShapes Go.WideShapes Go.ChangeAt Go.RowKit Go.Sx Go.Proofs.Ytpjenggjcpahaaa.Ids Go.Proofs.Ytpjenggjcpahaaa.Seq
set_option linter.unusedVariables false
set_option linter.unusedSimpArgs false

noncomputable def KX (X : Ctr) : Ctr := orK (copyK 37) (orK (sameSK 33) (orK (sameK 38) X))
theorem KX_ok {X : Ctr} {ρ : Nat → Int} {s : Sms} {B : Nat} (hX : COk Try.prog ⟨Sy.den ρ, s⟩ B X) : COk Try.prog ⟨Sy.den ρ, s⟩ B (KX X) :=
  orK_ok (copyK_ok noCount mixed (body_of Try.func37 rfl) copy_ok)
    (orK_ok (sameSK_ok noCount mixed (body_of Try.func33 rfl) eqSS_ok)
      (orK_ok (sameK_ok noCount mixed (body_of Try.func38 rfl) same_ok) hX))
theorem KX_other {X : Ctr} {k : FuncId} {args : List (V Sy)} {sto : Sto Sy} (h1 : Nat.beq k 37 = false) (h2 : Nat.beq k 33 = false) (h3 : Nat.beq k 38 = false) : KX X k args sto = X k args sto := by
  unfold KX orK copyK sameSK sameK
  simp only [h1, h2, h3, bite_false]
/-- What the law's own functions are not told by. -/
def NoX (X : Ctr) : Prop := ∀ k, k ∈ ([31, 30, 75, 39, 34, 40] : List FuncId) → ∀ args sto, X k args sto = none
theorem NoX.at {X : Ctr} (h : NoX X) {k : FuncId} (hk : k ∈ ([31, 30, 75, 39, 34, 40] : List FuncId)) {args : List (V Sy)} {sto : Sto Sy} : KX X k args sto = none := by
  rw [KX_other]
  · exact h k hk args sto
  all_goals
    simp only [List.mem_cons, List.not_mem_nil, or_false] at hk
    rcases hk with rfl | rfl | rfl | rfl | rfl | rfl <;> rfl

/-- A store as a run has it. -/
structure WS (S : Sto Sy) : Prop where
  desc : Desc S.next S.obs
  low : S.low ≤ S.next
theorem WS.zero : WS ⟨0, [], 0⟩ := ⟨trivial, Nat.le_refl _⟩
def Keep (S S' : Sto Sy) : Prop := ∀ k x, Go.Sx.look S.obs k = some x → Go.Sx.look S'.obs k = some x
theorem Keep.refl (S : Sto Sy) : Keep S S := fun _ _ h => h
theorem Keep.trans {S S' S'' : Sto Sy} (h : Keep S S') (h' : Keep S' S'') : Keep S S'' := fun k x hk => h' k x (h k x hk)
theorem made_keep {S S' : Sto Sy} {zs : List Int} {q : Nat} {v : V Sy} (h : Made S zs q v) (hk : Keep S S') : Made S' zs q v := ⟨h.val, hk _ _ h.obj⟩
theorem made_consts {S : Sto Sy} {zs : List Int} {q : Nat} {v : V Sy} (h : Made S zs q v) : constsOf S v = some zs := by
  have hl := h.obj
  rcases h.val with rfl | rfl
  · have he : S.elems (.rsl q 0 zs.length none) = some (ints (nums zs)) := by
      simp only [Sto.elems, Sto.cells, lookC_ints hl]
      simp [List.take_of_length_le]
    simp only [constsOf, he, numsOf_nums, capOk, bite_true, consts_of]
  · have he : S.elems (.rsl q 0 zs.length (some zs.length)) = some (ints (nums zs)) := by
      simp only [Sto.elems, Sto.cells, lookC_ints hl]
      simp [List.take_of_length_le]
    have hc : capOk (.rsl q 0 zs.length (some zs.length) : V Sy) = true := by simp [capOk]
    simp only [constsOf, he, numsOf_nums, hc, bite_true, consts_of]

section
variable {X : Ctr}
/-- A call by a contract that leaves the store alone. -/
theorem call_same {k : FuncId} {args : List (V Sy)} {S : Sto Sy} {r : V Sy} (hS : WS S) (h : KX X k args ⟨S.next, S.obs, S.next⟩ = some (r, ⟨S.next, S.obs, S.next⟩)) (f : Nat) (hk : (k : Nat) < 1000000 := by decide) : acallV (symIn Try.prog (KX X) [] (f + 1)) S (.func k [] []) args = some (r, S) := by
  have e : (⟨S.next, S.obs, if S.next < S.low then S.next else S.low⟩ : Sto Sy) = S := by rw [if_neg (by have := hS.low; omega)]
  refine (call_K (hk := hk) h).trans ?_
  show some (r, (⟨S.next, S.obs, if S.next < S.low then S.next else S.low⟩ : Sto Sy)) = _
  rw [e]
theorem copy1 (zs : List Int) (hl : zs.length ≤ 1048576) (S : Sto Sy) (hS : WS S) (f : Nat) : ∃ v S', acallV (symIn Try.prog (KX X) [] (f + 1)) S (.func 37 [] []) [patL zs] = some (v, S') ∧ WS S' ∧ Made S' zs S.next v ∧ S'.next = S.next + 1 ∧ Keep S S' := by
  have h := call_K (P := Try.prog) (K := KX X) (n := f) (k := 37) (args := [patL zs]) (sto := S) (r := .rsl S.next 0 zs.length none) (s1 := ⟨S.next + 1, (S.next, ints (nums zs)) :: S.obs, S.next⟩) (by
    have hb : Nat.ble zs.length 1048576 = true := by rw [Nat.ble_eq]; exact hl
    have e : copyK 37 37 [patL zs] ⟨S.next, S.obs, S.next⟩ = some (.rsl S.next 0 zs.length none, ⟨S.next + 1, (S.next, ints (nums zs)) :: S.obs, S.next⟩) := by
      unfold copyK
      simp only [constsOf_patL, hb, bite_true]
      rfl
    unfold KX orK
    rw [e])
  have hlow := hS.low
  refine ⟨_, _, h, ⟨⟨Nat.lt_succ_self _, hS.desc⟩, ?_⟩, ⟨.inl rfl, ?_⟩, rfl, fun k x hk => ?_⟩
  · show (if S.next < S.low then S.next else S.low) ≤ S.next + 1
    split <;> omega
  · show Go.Sx.look ((S.next, ints (nums zs)) :: S.obs) S.next = _
    rw [look_cons, if_pos rfl]
  · show Go.Sx.look ((S.next, ints (nums zs)) :: S.obs) k = _
    rw [look_cons, if_neg (by have := hS.desc.look_lt hk; omega)]; exact hk
theorem eq1 {zs : List Int} (hl : zs.length ≤ 1048576) {S : Sto Sy} (hS : WS S) {v v' : V Sy} (h : constsOf ⟨S.next, S.obs, S.next⟩ v = some zs) (h' : constsOf ⟨S.next, S.obs, S.next⟩ v' = some zs) (f : Nat) : acallV (symIn Try.prog (KX X) [] (f + 1)) S (.func 38 [] []) [v, v'] = some (.bool true, S) := by
  refine call_same hS ?_ f
  have hb : Nat.ble zs.length 1048576 = true := by rw [Nat.ble_eq]; exact hl
  have e1 : copyK 37 38 [v, v'] ⟨S.next, S.obs, S.next⟩ = none := rfl
  have e2 : sameSK 33 38 [v, v'] ⟨S.next, S.obs, S.next⟩ = none := rfl
  have e3 : sameK 38 38 [v, v'] ⟨S.next, S.obs, S.next⟩ = some (.bool true, ⟨S.next, S.obs, S.next⟩) := by
    unfold sameK
    simp only [h, h', hb, sameI_self, bite_true]
    rfl
  unfold KX orK
  rw [e1, e2, e3]
theorem eq2 {zss : List (List Int)} (hl0 : zss.length ≤ 1048576) (hl : ∀ zs, zs ∈ zss → zs.length ≤ 1048576) {S : Sto Sy} (hS : WS S) {v v' : V Sy} (h : rowsOf ⟨S.next, S.obs, S.next⟩ v = some zss) (h' : rowsOf ⟨S.next, S.obs, S.next⟩ v' = some zss) (f : Nat) : acallV (symIn Try.prog (KX X) [] (f + 1)) S (.func 33 [] []) [v, v'] = some (.bool true, S) := by
  refine call_same hS ?_ f
  have hb0 : Nat.ble zss.length 1048576 = true := by rw [Nat.ble_eq]; exact hl0
  have hb : (zss.all fun zs => Nat.ble zs.length 1048576) = true := by rw [List.all_eq_true]; intro zs hzs; rw [Nat.ble_eq]; exact hl zs hzs
  have hself : sameII zss zss = true := by
    have : ∀ l : List (List Int), sameII l l = true := by
      intro l
      induction l with
      | nil => rfl
      | cons a r ih => simp only [sameII, sameI_self, bite_true]; exact ih
    exact this zss
  have e1 : copyK 37 33 [v, v'] ⟨S.next, S.obs, S.next⟩ = none := rfl
  have e2 : sameSK 33 33 [v, v'] ⟨S.next, S.obs, S.next⟩ = some (.bool true, ⟨S.next, S.obs, S.next⟩) := by
    unfold sameSK
    simp only [h, h', hb0, hb, hself, bite_true]
    rfl
  unfold KX orK
  rw [e1, e2]

section
attribute [local simp] aops wants aop apure St.eval setTm_some setTm_none Tr.get_set aload evals pevals apureB tiS tiI tiB abin aint isCmp sym_lt sym_eqs sym_neqs sym_eq sym_neq sym_gtr sym_leq sym_geq sym_add sym_sub sym_mul aeff aeffB idx? ofV aindexAddr aggDesc aifc_int aun
set_option maxRecDepth 10000 in
theorem szRow_run (hX : NoX X) (zs : List Int) (x : Int) (hx : 0 ≤ x ∧ x ≤ 1048576) (hl : zs.length ≤ 9223372036854775807) (m : Nat) : ∃ r, symRun Try.prog (KX X) [] (m + 1) 75 [patL zs, .int .i64 (.c x)] ⟨0, [], 0⟩ = some r ∧ r.2 = ⟨0, [], 0⟩ ∧ ∃ y, r.1 = .int .i64 (.c y) ∧ (y < 0 ∨ (0 ≤ y ∧ y ≤ x ∧ zs.length ≤ 1048576)) := by
  refine own_run2 (n := m) (hX.at (by decide)) Try.func75 rfl rfl ?_
  simp only [Try.f75]
  have al := alen_patL zs
  generalize hp : patL zs = p at al ⊢
  have hw := wrap_in (a := x - (zs.length : Int)) (by omega) (by omega)
  by_cases h : x - (zs.length : Int) < 0
  · repeat' (first | refine Wp.seq ?_ | refine Wp.block ?_ | (apply Wp.region; focus ((try simp [setArgs, al, hw, h]) <;> rfl)) | (refine Wp.cond_t ?_ ?_; focus (simp [setArgs, al, hw, h]; done)) | (refine Wp.cond_f ?_ ?_; focus (simp [setArgs, al, hw, h]; done)) | refine Wp.skip ?_ | refine Wp.ret ?_ | refine Wp.exit ?_ | refine Blk.here ?_ | (refine Blk.past ?_ ?_; focus (simp; done)))
    refine ⟨rfl, answer_trim1 (v := .int .i64 (.c (-1))) (by simp) ⟨rfl, -1, rfl, .inl (by omega)⟩⟩
  · repeat' (first | refine Wp.seq ?_ | refine Wp.block ?_ | (apply Wp.region; focus ((try simp [setArgs, al, hw, h]) <;> rfl)) | (refine Wp.cond_t ?_ ?_; focus (simp [setArgs, al, hw, h]; done)) | (refine Wp.cond_f ?_ ?_; focus (simp [setArgs, al, hw, h]; done)) | refine Wp.skip ?_ | refine Wp.ret ?_ | refine Wp.exit ?_ | refine Blk.here ?_ | (refine Blk.past ?_ ?_; focus (simp; done)))
    refine ⟨rfl, answer_trim1 (v := .int .i64 (.c (x - zs.length))) (by simp) ⟨rfl, _, rfl, .inr ⟨by omega, by omega, by omega⟩⟩⟩
theorem szRow (hX : NoX X) (zs : List Int) (x : Int) (hx : 0 ≤ x ∧ x ≤ 1048576) (hl : zs.length ≤ 9223372036854775807) (m : Nat) : ∃ y, acallV (symIn Try.prog (KX X) [] (m + 1)) ⟨0, [], 0⟩ (.func 75 [] []) [patL zs, .int .i64 (.c x)] = some (.int .i64 (.c y), ⟨0, [], 0⟩) ∧ (y < 0 ∨ (0 ≤ y ∧ y ≤ x ∧ zs.length ≤ 1048576)) := by
  obtain ⟨⟨v, S⟩, h1, rfl, y, rfl, h2⟩ := szRow_run hX zs x hx hl m
  refine ⟨y, ?_, h2⟩
  rw [acallV_func (by decide), List.nil_append, List.append_nil, symIn_run (by decide), show (⟨(⟨0, [], 0⟩ : Sto Sy).next, (⟨0, [], 0⟩ : Sto Sy).obs, (⟨0, [], 0⟩ : Sto Sy).next⟩ : Sto Sy) = ⟨0, [], 0⟩ from rfl, h1]
  rfl
set_option maxRecDepth 10000 in
theorem szAll_run (hX : NoX X) (zss : List (List Int)) (hl0 : zss.length ≤ 9223372036854775807) (hl : ∀ zs, zs ∈ zss → zs.length ≤ 9223372036854775807) (C : Int) (hC : 0 ≤ C ∧ C ≤ 1048576) (m : Nat) (hm : zss.length < m) :
    ∃ r, symRun Try.prog (KX X) [] (m + 2) 30 [patS zss, .int .i64 (.c C)] ⟨0, [], 0⟩ = some r ∧ r.2 = ⟨0, [], 0⟩ ∧ ∃ y, r.1 = .int .i64 (.c y) ∧ (y < 0 ∨ (0 ≤ y ∧ zss.length ≤ 1048576 ∧ ∀ zs, zs ∈ zss → zs.length ≤ 1048576)) := by
  refine own_run2 (n := m + 1) (hX.at (by decide)) Try.func30 rfl rfl ?_
  simp only [Try.f30]
  obtain ⟨p, hp⟩ : ∃ p, p = patS zss := ⟨_, rfl⟩
  have hxp : ∀ i, i < zss.length → p = .slice (zss.map patL) := fun i hi => by
    rw [hp]
    cases zss with
    | nil => simp at hi
    | cons a r => rfl
  have hlen : (zss.map patL).length = zss.length := List.length_map ..
  have alS : alen (symNum []) (tiOf Try.prog) 23 p = some (.int .i64 (.c zss.length)) := by
    rw [hp]
    cases zss with
    | nil => simp [alen, patS, tiSS, symNum]
    | cons a r => simp [alen, patS, tiSS, symNum]
  rw [← hp]
  clear hp
  have hw0 := wrap_in (a := C - (zss.length : Int)) (by omega) (by omega)
  by_cases h : C - (zss.length : Int) < 0
  · repeat' (first | refine Wp.seq ?_ | refine Wp.block ?_ | (apply Wp.region; focus ((try simp [setArgs, alS, hw0, h]) <;> rfl)) | (refine Wp.cond_t ?_ ?_; focus (simp [setArgs, alS, hw0, h]; done)) | (refine Wp.cond_f ?_ ?_; focus (simp [setArgs, alS, hw0, h]; done)) | refine Wp.skip ?_ | refine Wp.ret ?_ | refine Wp.exit ?_ | refine Blk.here ?_ | (refine Blk.past ?_ ?_; focus (simp; done)))
    refine ⟨rfl, answer_trim1 (v := .int .i64 (.c (-1))) (by simp) ⟨rfl, -1, rfl, .inl (by omega)⟩⟩
  · repeat' (first | refine Wp.seq ?_ | refine Wp.block ?_ | (apply Wp.region; focus ((try simp [setArgs, alS, hw0, h]) <;> rfl)) | (refine Wp.cond_t ?_ ?_; focus (simp [setArgs, alS, hw0, h]; done)) | (refine Wp.cond_f ?_ ?_; focus (simp [setArgs, alS, hw0, h]; done)) | refine Wp.skip ?_ | refine Wp.ret ?_ | refine Wp.exit ?_ | refine Blk.here ?_ | (refine Blk.past ?_ ?_; focus (simp; done)))
    refine Wp.loop rfl rfl (fun i st => st.tm.get .any 0 = p ∧ st.tm.get .any 5 = .int .i64 (.c i) ∧ st.sto = ⟨0, [], 0⟩ ∧ (∃ x, st.tm.get .any 1 = .int .i64 (.c x) ∧ 0 ≤ x ∧ x ≤ 1048576) ∧
      ∀ j, j < i → j < zss.length → (zss.getD j []).length ≤ 1048576) zss.length (by omega) ?_ ?_ ?_
    · exact ⟨by simp, by simp, rfl, ⟨C - zss.length, by simp, by omega, by omega⟩, fun j h => by omega⟩
    · rintro f i ⟨tm, S⟩ hi ⟨h0, h5, rfl, ⟨x, h1, hx⟩, hall⟩
      simp only at h0 h1 h5
      have hpe := hxp i hi
      have alS' := alS
      rw [hpe] at alS' h0
      have hlt : (i : Int) < zss.length := by omega
      have hxi : (zss.map patL)[i]? = some (patL (zss.getD i [])) := by simp [List.getD, hi]
      have hxs : zss[i]? = some (zss.getD i []) := by simp [List.getD, hi]
      have hw := wrap_in (a := (i : Int) + 1) (by omega) (by omega)
      have hzl : (zss.getD i []).length ≤ 9223372036854775807 := hl _ (List.mem_of_getElem? hxs)
      generalize hz : zss.getD i [] = zs at hxi hxs hzl
      have hzi : zss[i] = zs := by rw [← hz]; simp [List.getD, hi]
      have hii : i < (zss.map patL).length := by omega
      obtain ⟨y, hc, hy⟩ := szRow hX zs x hx hzl m
      by_cases hy0 : y < 0
      · repeat' (first | refine Wp.seq ?_ | refine Wp.block ?_ | (apply Wp.region; focus ((try simp [h0, h1, h5, hlt, alS', hxi, hi, hii, hzi, hlen, tiSS, hc, hy0]) <;> rfl)) | (refine Wp.cond_t ?_ ?_; focus (simp [h0, h1, h5, hlt, alS', hxi, hi, hii, hzi, hlen, tiSS, hc, hy0]; done)) | (refine Wp.cond_f ?_ ?_; focus (simp [h0, h1, h5, hlt, alS', hxi, hi, hii, hzi, hlen, tiSS, hc, hy0]; done)) | refine Wp.skip ?_ | refine Wp.ret ?_ | refine Wp.exit ?_ | refine Blk.here ?_ | (refine Blk.past ?_ ?_; focus (simp; done)))
        exact ⟨rfl, answer_trim1 (v := .int .i64 (.c (-1))) (by simp) ⟨rfl, -1, rfl, .inl (by omega)⟩⟩
      · repeat' (first | refine Wp.seq ?_ | refine Wp.block ?_ | (apply Wp.region; focus ((try simp [h0, h1, h5, hlt, alS', hxi, hi, hii, hzi, hlen, tiSS, hc, hy0, hw]) <;> rfl)) | (refine Wp.cond_t ?_ ?_; focus (simp [h0, h1, h5, hlt, alS', hxi, hi, hii, hzi, hlen, tiSS, hc, hy0, hw]; done)) | (refine Wp.cond_f ?_ ?_; focus (simp [h0, h1, h5, hlt, alS', hxi, hi, hii, hzi, hlen, tiSS, hc, hy0, hw]; done)) | refine Wp.skip ?_ | refine Wp.ret ?_ | refine Wp.exit ?_ | refine Blk.here ?_ | (refine Blk.past ?_ ?_; focus (simp; done)))
        exact ⟨by simp [h0, hpe], by simp, rfl, ⟨y, by simp, by omega, by omega⟩, fun j h1 h2 => by
          rcases Nat.lt_succ_iff_lt_or_eq.1 h1 with q | rfl
          · exact hall j q h2
          · rw [hz]; omega⟩
    · rintro f ⟨tm, S⟩ ⟨h0, h5, rfl, ⟨x, h1, hx⟩, hall⟩
      simp only at h0 h1 h5
      repeat' (first | refine Wp.seq ?_ | refine Wp.block ?_ | (apply Wp.region; focus ((try simp [h0, h1, h5, alS]) <;> rfl)) | (refine Wp.cond_t ?_ ?_; focus (simp [h0, h1, h5, alS]; done)) | (refine Wp.cond_f ?_ ?_; focus (simp [h0, h1, h5, alS]; done)) | refine Wp.skip ?_ | refine Wp.ret ?_ | refine Wp.exit ?_ | refine Blk.here ?_ | (refine Blk.past ?_ ?_; focus (simp; done)))
      refine ⟨rfl, answer_trim1 (v := .int .i64 (.c x)) (by simp [h1]) ⟨rfl, x, rfl, .inr ⟨hx.1, by omega, fun zs hzs => ?_⟩⟩⟩
      obtain ⟨j, hj, rfl⟩ := List.mem_iff_getElem.1 hzs
      have := hall j hj hj
      simpa [List.getD, hj] using this
theorem szAll (hX : NoX X) (zss : List (List Int)) (hl0 : zss.length ≤ 9223372036854775807) (hl : ∀ zs, zs ∈ zss → zs.length ≤ 9223372036854775807) (m : Nat) (hm : zss.length < m) :
    ∃ y, acallV (symIn Try.prog (KX X) [] (m + 2)) ⟨0, [], 0⟩ (.func 30 [] []) [patS zss, .int .i64 (.c 1048576)] = some (.int .i64 (.c y), ⟨0, [], 0⟩) ∧ (y < 0 ∨ (0 ≤ y ∧ zss.length ≤ 1048576 ∧ ∀ zs, zs ∈ zss → zs.length ≤ 1048576)) := by
  obtain ⟨⟨v, S⟩, h1, rfl, y, rfl, h2⟩ := szAll_run hX zss hl0 hl 1048576 ⟨by omega, by omega⟩ m hm
  refine ⟨y, ?_, h2⟩
  rw [acallV_func (by decide), List.nil_append, List.append_nil, symIn_run (by decide), show (⟨(⟨0, [], 0⟩ : Sto Sy).next, (⟨0, [], 0⟩ : Sto Sy).obs, (⟨0, [], 0⟩ : Sto Sy).next⟩ : Sto Sy) = ⟨0, [], 0⟩ from rfl, h1]
  rfl
end
end
end Go.Proofs.Ytpjenggjcpahaaa.Row

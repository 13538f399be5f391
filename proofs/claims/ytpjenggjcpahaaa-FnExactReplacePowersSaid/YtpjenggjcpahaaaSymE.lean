/-
  Laws over lists that are drawn, of which some may be nil.
-/
import Derived.Test.YtpjenggjcpahaaaSymD
import Derived.ProofKit
import Derived.OpenShut
import Derived.Lib.SmallJoins
import Derived.Deep.Matrix
set_option linter.unusedVariables false
set_option linter.unusedSimpArgs false
/-
  Laws over what a function draws from bytes, where a list that is drawn may be nil.
-/
namespace Go.Sx.Nn
open Go.RowKit Go.Sx

/-- A list that a run has made, or nil. -/
def Made (S : Sto Sy) (zs : List Int) (o : Nat) (v : V Sy) : Prop := Go.Sx.Made S zs o v ∨ (zs = [] ∧ v = .nil)
theorem Made.some {S : Sto Sy} {zs : List Int} {o : Nat} {v : V Sy} (h : Made S zs o v) (hn : zs ≠ []) : Go.Sx.Made S zs o v := h.elim id (fun h => (hn h.1).elim)
def Drawn (P : Program) (k : FuncId) (outs : List Tp) (bs : List Int) (Ls : List (List Int)) (I : List Int) : Prop :=
  ∃ (K : Ctr) (n : Nat) (os : List Nat) (lvs : List (V Sy)) (S : Sto Sy), (∀ (ρ : Nat → Int) (s : Sms) (B : Nat), COk P ⟨Sy.den ρ, s⟩ B K) ∧ symRun P K [] n k [.slice (u8s bs)] ⟨0, [], 0⟩ = some (outV outs lvs (ints (nums I)), S) ∧ lvs.length = Ls.length ∧ os.length = Ls.length ∧ os.Nodup ∧ ∀ j, j < Ls.length → Made S (Ls.getD j []) (os.getD j 0) (lvs.getD j .any)

theorem drawK_ok {P : Program} (hG : NoCount P) (hm : P.follows .mixedOrders = true) {ρ : Nat → Int} {s : Sms} {B : Nat} {dk : FuncId} {outs : List Tp} {bds : List Int} {sts : List Nat} {xs : List Sy} {Ls : List (List Int)} {I : List Int}
    {I' : List Int} (hD : Drawn P dk outs (bytesOf (s.s 0 [])) Ls I) (hbody : ∃ fn, P.funcs[dk]? = some fn ∧ fn.body.isSome = true) (hst : StsOk bds sts Ls) (hx : xs.map (Sy.den ρ) = flat Ls (I ++ I')) (hs : ∀ (i : Nat) (l : List Int), Ls[i]? = some l → l ≠ [] → s.l (0 + i) = l) :
    COk P ⟨Sy.den ρ, s⟩ B (drawK dk outs I.length sts xs) := by
  intro k args sto r sto' h
  unfold drawK at h
  split at h
  · rename_i j mm
    simp only [bite_eq] at h
    split at h
    · rename_i hk
      have hk := Nat.eq_of_beq_eq_true hk
      subst hk
      split at h
      · rename_i hj
        have hj := Nat.eq_of_beq_eq_true hj
        subst hj
        cases h
        refine ⟨?_, hbody⟩
        intro c rargs hinv hra
        obtain ⟨K, n, os, lvs, S, hK, hrun, hl1, hl2, hnd, hmade⟩ := hD
        have hinv0 : SInv ⟨Sy.den ρ, s⟩ c.w.heap.size ⟨c.w, fun _ => none⟩ (⟨0, [], 0⟩ : Sto Sy) :=
          ⟨Nat.le_refl _, fun _ _ => rfl, fun o b n h => (by cases h), fun o x h => (by cases h), fun o o' x x' b n n' h => (by cases h), trivial⟩
        obtain ⟨v0, hv0, hv1⟩ := hra.one
        refine Calls.mono (run_goodK hG hm hK ρ hrun c.w.heap.size ⟨c.w, fun _ => none⟩ rargs hinv0 (by rw [hv0]; exact .cons (bys_data hinv hv1) .nil)) ?_
        rintro ev w' ⟨rv, c', rfl, rfl, hst', hv⟩
        have hbe : Below c.w.heap.size c.w c'.w := hst'.below
        have hsl : sts.length = Ls.length := hst.l1
        let c'' : Cx := ⟨c'.w, fun o => if o < sto.next then c.κ o else if o - sto.next < Ls.length then c'.κ (os.getD (o - sto.next) 0) else none⟩
        have hκ : ∀ i b, i < Ls.length → c'.κ (os.getD i 0) = some b → c''.κ (sto.next + i) = some b := by
          intro i b hi hb
          simp only [c'']
          rw [if_neg (by omega), Nat.add_sub_cancel_left, if_pos hi]; exact hb
        have hold : ∀ o x, c.κ o = some x → c''.κ o = some x := by
          intro o x hx
          have : o < sto.next := by
            rcases Nat.lt_or_ge o sto.next with h1 | h1
            · exact h1
            · rw [hinv.fresh o h1] at hx; cases hx
          simp only [c'']; rw [if_pos this]; exact hx
        have hle : Cx.le B c c'' := ⟨fun b hb => hbe.block b (Nat.lt_of_lt_of_le hb hinv.base), hold, hst'.oth⟩
        have hnew : ∀ o b n, c'.κ o = some (b, n) → c.w.heap.size ≤ b ∧ b < c'.w.heap.size := fun o b n hk => hst'.inv.blk o b n hk
        have hnewκ : ∀ {o b n}, ¬ o < sto.next → c''.κ o = some (b, n) → ∃ i, i < Ls.length ∧ o = sto.next + i ∧ c'.κ (os.getD i 0) = some (b, n) := by
          intro o b n ho hk
          simp only [c''] at hk
          rw [if_neg ho] at hk
          split at hk
          · rename_i h1; exact ⟨_, h1, by omega, hk⟩
          · cases hk
        have hcase : ∀ o x, look (drawnO sts xs 0 sto.next sto.obs) o = some x → (∃ i, i < Ls.length ∧ o = sto.next + i ∧ sts.getD i 0 ≠ 0 ∧ x = if sts.getD i 0 < 4 then [.bc (0 + i)] else ints (((xs.drop (7 * i)).drop 1).take (sts.getD i 0 - 3))) ∨ (o < sto.next ∧ look sto.obs o = some x) := by
          intro o x hx
          rcases look_drawnO _ _ _ _ _ _ _ hx with ⟨i, h1, h2⟩ | h
          · exact .inl ⟨i, by omega, h2⟩
          · exact .inr ⟨hinv.desc.look_lt h, h⟩
        have hosne : ∀ {i i' : Nat}, i < Ls.length → i' < Ls.length → os.getD i 0 = os.getD i' 0 → i = i' := by
          intro i i' hi hi' he
          have e1 : os.getD i 0 = os[i]'(by omega) := by simp [List.getD, show i < os.length by omega]
          have e2 : os.getD i' 0 = os[i']'(by omega) := by simp [List.getD, show i' < os.length by omega]
          rw [e1, e2] at he
          have hp := List.pairwise_iff_getElem.1 hnd
          rcases Nat.lt_trichotomy i i' with h | h | h
          · exact (hp i i' (by omega) (by omega) h he).elim
          · exact h
          · exact (hp i' i (by omega) (by omega) h he.symm).elim
        have hfl := fun {i} hi => flat_at (i := i) hx hi
        have hne : ∀ {i : Nat}, i < Ls.length → sts.getD i 0 ≠ 0 → Ls.getD i [] ≠ [] ∧ s.l i = Ls.getD i [] := by
          intro i hi h0
          have h1 := ((hst.ok i hi).some h0).1
          have := hs i (Ls.getD i []) (by simp [List.getD, hi]) h1
          rw [Nat.zero_add] at this
          exact ⟨h1, this⟩
        refine ⟨rv, c'', rfl, rfl, ⟨⟨Nat.le_trans hinv.base hbe.size, fun o ho => ?_, fun o b n hk => ?_, fun o x hx => ?_, fun o o' x x' b n n' hx hx' hk hk' => ?_, ?_⟩, hold,
          hbe.mono hinv.base, Nat.le_add_right _ _, Nat.le_refl _, fun b hb _ => hbe.block b hb, fun o b n hk hn hb => ?_, fun o x hk hn => ?_, hst'.frz, hst'.oth⟩, ?_⟩
        · simp only at ho
          simp only [c'']
          rw [if_neg (by omega), if_neg (by omega)]
        · by_cases ho : o < sto.next
          · simp only [c''] at hk
            rw [if_pos ho] at hk
            have := hinv.blk o b n hk
            exact ⟨this.1, Nat.lt_of_lt_of_le this.2 hbe.size⟩
          · obtain ⟨i, h1, h2, h3⟩ := hnewκ ho hk
            have := hnew _ _ _ h3
            exact ⟨Nat.le_trans hinv.base this.1, this.2⟩
        · rcases hcase o x hx with ⟨i, h1, rfl, h0, rfl⟩ | ⟨h1, h2⟩
          · obtain ⟨hval, hobj⟩ := (hmade i h1).some (hne h1 h0).1
            obtain ⟨b, cur, el, e1, e2, e3, e4⟩ := hst'.inv.obc _ _ (lookC_iff.2 ⟨hobj, isMp_ints _⟩)
            obtain ⟨f1, f2⟩ := hfl h1
            have hln : (ints (nums (Ls.getD i []))).length = (Ls.getD i []).length := by simp
            rw [hln] at e3
            have hus := intVs_of e4.vrs
            rw [hln] at hus
            obtain ⟨hn1, hn2⟩ := hne h1 h0
            have hpos : 1 ≤ (Ls.getD i []).length := by
              cases hz : Ls.getD i [] with
              | nil => exact (hn1 hz).elim
              | cons a r => simp
            refine ⟨b, _, cur.size, hκ i _ h1 e1, e2, .cells el ?_ ?_ ?_⟩
            · split
              · simp; omega
              · rename_i h4
                have := (hst.ok i h1).len (by omega)
                rw [ints_length]
                exact Nat.le_trans (List.length_take_le _ _) (by omega)
            · split
              · refine ⟨⟨by simp; omega, fun q x v hx hv => ?_⟩, fun q hq => ?_⟩
                · cases q with
                  | zero => simp at hx; subst hx; exact .bc _ _
                  | succ q => simp at hx
                · simp at hq
                  subst hq
                  refine ⟨cur.toList.drop (Ls.getD i []).length, ?_⟩
                  show cur.toList = intVs (s.l i) ++ _
                  rw [hn2, ← hus, List.take_append_drop]
              · rename_i h4
                have hlen := (hst.ok i h1).len (by omega)
                have hv6 := ((hst.ok i h1).good (by omega)).2.2
                have hmap := f2 hv6
                have hL3 : sts.getD i 0 - 3 = (Ls.getD i []).length := by omega
                rw [hL3]
                have hll : (ints (((xs.drop (7 * i)).drop 1).take (Ls.getD i []).length)).length = (Ls.getD i []).length := by
                  have := congrArg List.length hmap
                  simpa using this
                refine ⟨?_, fun q hq => ?_⟩
                · rw [hll, hus]
                  exact ints_rel (ρ := ρ) (ρ' := ρ) (ts := nums (Ls.getD i [])) (by rw [hmap]; simp [nums, Sy.den, Function.comp_def]) (VRs_intVs (B := B) (c := c''))
                · have := congrArg List.length hq
                  rw [hll] at this
                  cases hz : ((xs.drop (7 * i)).drop 1).take (Ls.getD i []).length with
                  | nil => rw [hz] at hq; simp [ints] at hq
                  | cons a r => rw [hz] at hq; simp [ints] at hq
            · split
              · intro ks vs h; simp at h
              · exact ints_nm _
          · obtain ⟨b, cur, el, e1, e2, e4⟩ := hinv.ob o x h2
            refine ⟨b, cur, el, hold _ _ e1, ?_, e4.mono hle⟩
            show c'.w.heap[b]? = _
            rw [hbe.block b (hinv.blk _ _ _ e1).2]; exact e2
        · rcases hcase o x hx with ⟨i, h1, rfl, h0, _⟩ | ⟨h1, h2⟩ <;> rcases hcase o' x' hx' with ⟨i', h1', rfl, h0', _⟩ | ⟨h1', h2'⟩
          · obtain ⟨a, a1, a2, a3⟩ := hnewκ (by omega) hk
            obtain ⟨a', a1', a2', a3'⟩ := hnewκ (by omega) hk'
            have : a = i := by omega
            subst this
            have : a' = i' := by omega
            subst this
            have := hst'.inv.inj _ _ _ _ b n n' ((hmade _ a1).some (hne a1 h0).1).obj ((hmade _ a1').some (hne a1' h0').1).obj a3 a3'
            rw [hosne a1 a1' this]
          · obtain ⟨a, a1, a2, a3⟩ := hnewκ (by omega) hk
            simp only [c''] at hk'
            rw [if_pos h1'] at hk'
            have h1 := (hnew _ _ _ a3).1
            have h2 := (hinv.blk _ _ _ hk').2
            omega
          · obtain ⟨a, a1, a2, a3⟩ := hnewκ (by omega) hk'
            simp only [c''] at hk
            rw [if_pos h1] at hk
            have h1 := (hnew _ _ _ a3).1
            have h2 := (hinv.blk _ _ _ hk).2
            omega
          · simp only [c''] at hk hk'
            rw [if_pos h1] at hk
            rw [if_pos h1'] at hk'
            exact hinv.inj o o' x x' b n n' h2 h2' hk hk'
        · exact desc_drawnO _ _ _ _ _ hinv.desc
        · by_cases ho : o < sto.next
          · simp only [c''] at hk
            rw [if_pos ho] at hk
            rw [hn] at hk; cases hk
          · obtain ⟨i, h1, h2, h3⟩ := hnewκ ho hk
            have := (hnew _ _ _ h3).1; omega
        · by_cases ho : o < sto.next
          · simp only [c''] at hk
            rw [if_pos ho] at hk
            rw [hn] at hk; cases hk
          · omega
        · refine outV_tell (fun j v hv => ?_) (fun j v hv => ?_) hv
          · by_cases hj : j < Ls.length
            · rcases hmade j hj with hmd | ⟨hz0, hvn⟩
              case inr =>
                rw [drawnV_get _ _ _ _ _ (by omega)]
                rw [hvn] at hv
                have h0 : sts.getD j 0 = 0 := by
                  rcases Nat.eq_zero_or_pos (sts.getD j 0) with h | h
                  · exact h
                  · exact ((hne hj (by omega)).1 hz0).elim
                rw [if_pos h0]
                cases hv
                exact .emp _ _ (.inr fun b hb => by cases hb)
              obtain ⟨hval, hobj⟩ := hmd
              rw [drawnV_get _ _ _ _ _ (by omega)]
              obtain ⟨b0, cur0, el0, e10, _, e30, _⟩ := hst'.inv.obc _ _ (lookC_iff.2 ⟨hobj, isMp_ints _⟩)
              have hsz : (Ls.getD j []).length ≤ cur0.size := by simpa using e30
              have hown : ∃ b cap, c'.κ (os.getD j 0) = some (b, cur0.size) ∧ (Ls.getD j []).length ≤ cap ∧ cap ≤ cur0.size ∧ v = .slice (some ⟨b, 0, none⟩) (Ls.getD j []).length cap := by
                rcases hval with hval | hval
                · rw [hval] at hv
                  cases hv with
                  | rslo hk h1 h2 => rw [e10] at hk; cases hk; exact ⟨_, _, e10, h1, by omega, rfl⟩
                · rw [hval] at hv
                  cases hv with
                  | rsl hk => rw [e10] at hk; cases hk; exact ⟨_, _, e10, Nat.le_refl _, hsz, rfl⟩
              obtain ⟨b, cap, hk, hc1, hc2, rfl⟩ := hown
              split
              · rename_i h0
                have := (hst.ok j hj).none h0
                rw [this]
                exact .emp _ _ (.inr fun b hb => by cases hb; rfl)
              · rename_i h0
                obtain ⟨hn1, hn2⟩ := hne hj h0
                split
                · have := VR.brs (Δ := ⟨Sy.den ρ, s⟩) (B := B) (c := c'') (o := sto.next + j) (j := 0 + j) (b := b) (n := cur0.size) (cap := cap) (m := (xs.drop (7 * j)).headD (.c 0))
                    (by rw [Nat.zero_add]; show _ = ((s.l j).length : Int); rw [hn2]; exact (hfl hj).1) (by rw [Nat.zero_add]; show (s.l j).length ≤ cap; rw [hn2]; exact hc1) (hκ j _ hj hk)
                  rw [Nat.zero_add] at this
                  have e : (({ d := Sy.den ρ, s := s } : Den Sy).s.l j) = Ls.getD j [] := hn2
                  rw [e] at this
                  rw [Nat.zero_add]
                  exact this
                · rename_i h4
                  have hlen := (hst.ok j hj).len (by omega)
                  rw [show sts.getD j 0 - 3 = (Ls.getD j []).length by omega]
                  exact .rslo (hκ j _ hj hk) hc1 (by omega)
            · rw [show lvs.getD j .any = V.any by simp [List.getD, List.getElem?_eq_none (show lvs.length ≤ j by omega)]] at hv
              rw [show (drawnV sts xs 0 sto.next).getD j .any = V.any by simp [List.getD, List.getElem?_eq_none (show (drawnV sts xs 0 sto.next).length ≤ j by rw [drawnV_len]; omega)]]
              exact .any _
          · have hrest : (restL sts xs).map (Sy.den ρ) = I ++ I' := by
              rw [restL_drop, hsl]
              have key : ∀ {Ls : List (List Int)} {xs : List Sy} {J : List Int}, xs.map (Sy.den ρ) = flat Ls J → (xs.drop (7 * Ls.length)).map (Sy.den ρ) = J := by
                intro Ls
                induction Ls with
                | nil => intro xs J h; simpa [flat] using h
                | cons l r ih =>
                  intro xs J h
                  obtain ⟨_, c2, _⟩ := flat_cut h
                  have := ih c2
                  rwa [List.drop_drop, show 7 + 7 * r.length = 7 * (l :: r).length by simp; omega] at this
              exact key hx
            by_cases hj : j < I.length
            · have e1 : (ints (nums I)).getD j .any = V.int .i64 (.c I[j]) := by simp [List.getD, hj]
              rw [e1] at hv
              have h2 : ((restL sts xs).take I.length)[j]?.map (Sy.den ρ) = some I[j] := by
                rw [← List.getElem?_map, List.map_take, hrest, List.take_left, List.getElem?_eq_getElem hj]
              rw [Option.map_eq_some_iff] at h2
              obtain ⟨y, hy1, hy2⟩ := h2
              have e2 : (ints ((restL sts xs).take I.length)).getD j .any = V.int .i64 y := by simp [List.getD, hy1]
              rw [e2]
              cases hv
              exact VR_int' hy2
            · have e1 : (ints ((restL sts xs).take I.length)).getD j .any = V.any := by simp [List.getD, List.getElem?_eq_none (show ((restL sts xs).take I.length).length ≤ j by simp; omega)]
              rw [e1]
              exact .any _
      · cases h
    · cases h
  · cases h
structure LawD where
  k : FuncId
  dk : FuncId
  outs : List Tp
  bds : List Int
  m : Nat
  tree : List Nat → LSp

noncomputable def LawD.xs (l : LawD) : List Sy := vxs (7 * l.bds.length + (l.m + 1))
/-- How many bytes there are. -/
noncomputable def LawD.lenv (l : LawD) : Sy := vx (7 * l.bds.length + l.m)

noncomputable def runD (P : Program) (D : Ids) (t : List Summ) (Vb : List BEnt) (N : Nat) (l : LawD) (sts : List Nat) (Γ0 : List Fact) : List Sy → List Fact → List VEnt → Bool :=
  fun xs Γ Vt => bite (saysTrue (symRun P (orK (drawK l.dk l.outs l.m sts xs) (orK (orK (bigK D (Vt ++ entsL sts l.bds xs) Vb) (uK D (Γ ++ Γ0) (Vt ++ entsL sts l.bds xs) Vb)) (summK t))) (Γ ++ Γ0) N l.k [.bys 0 l.lenv] ⟨0, [], 0⟩)) true (clash (Γ ++ Γ0))

noncomputable def LawD.facts (l : LawD) (sts : List Nat) : List Fact := ⟨true, .c 1048576, l.lenv, false⟩ :: ⟨true, l.lenv, .c 0, false⟩ :: (factsL sts l.xs ++ rngL sts l.bds l.xs)
noncomputable def LawD.run (P : Program) (D : Ids) (t : List Summ) (N : Nat) (l : LawD) (sts : List Nat) (xs : List Sy) (Γ : List Fact) (Vt : List VEnt) (sp : Sp) : Bool :=
  chk (runD P D t (bentsL sts l.bds 0) N l sts (Γ ++ l.facts sts)) sp xs [] Vt
noncomputable def LawD.at (P : Program) (D : Ids) (t : List Summ) (N : Nat) (l : LawD) (es : List Nat) : Bool :=
  chkL (l.run P D t N) (l.tree es) es l.xs [] []
noncomputable def LawD.huge (P : Program) (N : Nat) (l : LawD) : Bool := saysTrue (symRun P noK [⟨true, .c 1048576, l.lenv, true⟩] N l.k [.bys 0 l.lenv] ⟨0, [], 0⟩)

theorem LawD.okAt {P : Program} (hG : NoCount P) (hm : P.follows .mixedOrders = true) {D : Ids} (hD : D.Ok P) {t : List Summ} (ht : ∀ e, e ∈ t → e.Ok P) {N : Nat} {l : LawD}
    (h1 : l.huge P N = true) (h2 : ∀ es : List Nat, es.length = l.bds.length → (∀ x, x ∈ es → x ≤ 1) → l.at P D t N es = true) (hn : 7 * l.bds.length + l.m + 1 ≤ 40)
    (hb : ∃ fn, P.funcs[l.dk]? = some fn ∧ fn.body.isSome = true)
    {w : World} {bs : List Int} {v : Value} (hd : ∃ Ls I, Drawn P l.dk l.outs bs Ls I ∧ Ls.length = l.bds.length ∧ I.length = l.m ∧ (∀ ls, ls ∈ Ls → (∀ z, z ∈ ls → IntKind.i64.wrap z = z) ∧ ls.length ≤ 1048576) ∧ ∀ z, z ∈ I → IntKind.i64.wrap z = z)
    (hv : IsBytes w bs v) (hbl : bs.length ≤ 9223372036854775807) : LawTrue P l.k #[v] w := by
  obtain ⟨Ls, I, hdr, hlen, hI, hwf, hwI⟩ := hd
  have hfl := flat_len Ls (I ++ [(bs.length : Int)])
  rw [hlen, List.length_append, hI] at hfl
  simp only [List.length_cons, List.length_nil] at hfl
  have hvx := vxs_den (zs := flat Ls (I ++ [(bs.length : Int)])) (by rw [hfl]; omega) (flat_wf (fun ls hls => ⟨(hwf ls hls).1, by have := (hwf ls hls).2; omega⟩) (fun z hz => by
    rcases List.mem_append.1 hz with hz | hz
    · exact hwI z hz
    · simp at hz; subst hz; exact wrap_in (by omega) (by omega)))
  rw [hfl] at hvx
  generalize hρ : (fun i => (flat Ls (I ++ [(bs.length : Int)])).getD i 0) = ρ at hvx
  have hxs : l.xs.map (Sy.den ρ) = flat Ls (I ++ [(bs.length : Int)]) := hvx
  let s : Sms := ⟨fun _ _ => toBytes bs, fun j => if (Ls.getD j []) = [] then [0] else Ls.getD j []⟩
  have hs0 : bytesOf (s.s 0 []) = bs := toBytes_of hv.1
  have hlv : l.lenv.den ρ = (bs.length : Int) := by
    have e1 : (l.xs.map (Sy.den ρ))[7 * l.bds.length + l.m]? = some (bs.length : Int) := by
      rw [hxs]
      have : ∀ (Ls : List (List Int)) (J : List Int), (flat Ls J).drop (7 * Ls.length) = J := by
        intro Ls
        induction Ls with
        | nil => intro J; simp [flat]
        | cons a r ih =>
          intro J
          have h7 : (flat (a :: r) J).drop 7 = flat r J := by
            rw [flat]
            show (pad6 a ++ flat r J).drop 6 = _
            exact List.drop_left' (pad6_length a)
          rw [List.length_cons, show 7 * (r.length + 1) = 7 + 7 * r.length by omega, ← List.drop_drop, h7, ih]
      have h3 := this Ls (I ++ [(bs.length : Int)])
      have h4 : ((flat Ls (I ++ [(bs.length : Int)])).drop (7 * Ls.length))[l.m]? = some (bs.length : Int) := by rw [h3, ← hI]; simp
      rw [List.getElem?_drop, hlen] at h4
      exact h4
    rw [List.getElem?_map] at e1
    have e2 : l.xs[7 * l.bds.length + l.m]? = some (vx (7 * l.bds.length + l.m)) := by
      unfold LawD.xs vxs
      rw [List.getElem?_map, List.getElem?_range (by omega)]; rfl
    rw [e2] at e1
    exact Option.some.inj e1
  have hvr := hv.2 ρ s l.lenv hs0 hlv
  have hargs : VRs ⟨Sy.den ρ, s⟩ w.heap.size ⟨w, fun _ => none⟩ [.bys 0 l.lenv] (#[v] : Array Value).toList := .cons hvr .nil
  have hsl : ∀ (i : Nat) (ls : List Int), Ls[i]? = some ls → ls ≠ [] → s.l (0 + i) = ls := by
    intro i ls hi hne
    have : Ls.getD i [] = ls := by simp [List.getD, hi]
    simp only [s, Nat.zero_add]
    rw [this, if_neg hne]
  have hget : ∀ j, Ls.getD j [] = [] ∨ Ls.getD j [] ∈ Ls := by
    intro j
    rcases Nat.lt_or_ge j Ls.length with h | h
    · right; simp [List.getD, h]
    · left; simp [List.getD, List.getElem?_eq_none h]
  by_cases hbig : (1048576 : Int) < (bs.length : Int)
  · refine calls_true (Δ := ⟨Sy.den ρ, s⟩) (symRun_ok hG hm (fun f hf => ?_) noK_ok N) hargs h1
    simp only [List.mem_cons, List.not_mem_nil, or_false] at hf
    subst hf
    exact Fact.lt_yes (by rw [hlv]; exact hbig)
  · let es : List Nat := Ls.map fun ls => if ls = [] then 0 else 1
    have hes : l.at P D t N es = true := h2 es (by simp [es, hlen]) (fun x hx => by
      obtain ⟨ls, _, rfl⟩ := List.mem_map.1 hx
      split <;> omega)
    have hst0 : StsOk l.bds es Ls := by
      refine ⟨by simp [es], hlen.symm, fun j hj => ?_⟩
      have e1 : es.getD j 0 = if Ls.getD j [] = [] then 0 else 1 := by simp [es, List.getD, hj]
      rw [e1]
      have hmem : Ls.getD j [] ∈ Ls := by simp [List.getD, hj]
      by_cases he : Ls.getD j [] = []
      · rw [if_pos he]; exact ⟨fun _ => he, fun h => (h rfl).elim, fun h => by omega, fun h => by omega, fun h => by omega⟩
      · rw [if_neg he]; exact ⟨fun h => by omega, fun _ => ⟨he, (hwf _ hmem).2⟩, fun h => by omega, fun h => by omega, fun h => by omega⟩
    refine chkL_ok (ρ := ρ) (bds := l.bds) (Ls := Ls) (I := I ++ [(bs.length : Int)]) (fun sts xs Γ Vt sp hr hst hxc hΓ hVt => ?_) _ _ _ _ _ hes hst0 hxs (by simp) (by simp)
    refine chk_ok (ρ := ρ) (zs := flat Ls (I ++ [(bs.length : Int)])) (fun xs Γ' Vt hr hz hΓ' hV => ?_) _ _ _ _ hr hxc (by simp) hVt
    have hF : ∀ f, f ∈ Γ' ++ (Γ ++ l.facts sts) → f.Ok ρ := by
      intro f hf
      rcases List.mem_append.1 hf with hf | hf
      · exact hΓ' f hf
      · rcases List.mem_append.1 hf with hf | hf
        · exact hΓ f hf
        · simp only [LawD.facts, List.mem_cons] at hf
          rcases hf with rfl | rfl | hf
          · exact Fact.lt_no (by rw [hlv]; exact hbig)
          · exact Fact.lt_no (by rw [hlv]; simp only [Sy.den]; omega)
          · exact (List.mem_append.1 hf).elim (fun hf => factsL_ok hst hxs f hf) (fun hf => rngL_ok hst hxs f hf)
    have hVe : ∀ e, e ∈ Vt ++ entsL sts l.bds xs → e.Ok ρ := fun e he => by
      rcases List.mem_append.1 he with he | he
      · exact hV e he
      · exact entsL_ok hst hz e he
    have hs1 : ∀ j, 1 ≤ (s.l j).length ∧ (s.l j).length ≤ 1048576 := by
      intro j
      simp only [s]
      split
      · simp
      · rename_i hne
        rcases hget j with h | h
        · exact (hne h).elim
        · refine ⟨?_, (hwf _ h).2⟩
          cases hg : Ls.getD j [] with
          | nil => exact (hne hg).elim
          | cons a b => simp
    have hs2 : ∀ j z, z ∈ s.l j → IntKind.i64.wrap z = z := by
      intro j z hz
      simp only [s] at hz
      split at hz
      · simp at hz; subst hz; exact wrap0
      · rename_i hne
        rcases hget j with h | h
        · exact (hne h).elim
        · exact (hwf _ h).1 z hz
    have hrunD : runD P D t (bentsL sts l.bds 0) N l sts (Γ ++ l.facts sts) xs Γ' Vt = true := hr
    unfold runD at hrunD
    rw [bite_eq] at hrunD
    split at hrunD
    case isFalse => exact (clash_no hF hrunD).elim
    rename_i hrunE
    replace hrunD := hrunE
    refine calls_true (Δ := ⟨Sy.den ρ, s⟩) (symRun_ok hG hm hF (orK_ok ?_ (orK_ok (orK_ok (bigK_ok hG hm hD hVe (fun e he => bentsL_ok (s := s) (j := 0) hst hsl e he) hs1 hs2) (uK_ok hG hm hD hD.pok hF hVe (fun e he => bentsL_ok (s := s) (j := 0) hst hsl e he) hs1 hs2)) (summK_ok ht))) N) hargs hrunD
    · rw [← hI]
      exact drawK_ok hG hm (I' := [(bs.length : Int)]) (by rw [hs0]; exact hdr) hb hst hz hsl

theorem LawD.ok {P : Program} (hG : NoCount P) (hm : P.follows .mixedOrders = true) {D : Ids} (hD : D.Ok P) {t : List Summ} (ht : ∀ e, e ∈ t → e.Ok P) {N : Nat} {l : LawD}
    (h1 : l.huge P N = true) (h2 : ∀ es : List Nat, es.length = l.bds.length → (∀ x, x ∈ es → x ≤ 1) → l.at P D t N es = true) (hn : 7 * l.bds.length + l.m + 1 ≤ 40)
    (hb : ∃ fn, P.funcs[l.dk]? = some fn ∧ fn.body.isSome = true)
    (hd : ∀ bs : List Int, (∀ b, b ∈ bs → 0 ≤ b ∧ b < 256) → ∃ Ls I, Drawn P l.dk l.outs bs Ls I ∧ Ls.length = l.bds.length ∧ I.length = l.m ∧ (∀ ls, ls ∈ Ls → (∀ z, z ∈ ls → IntKind.i64.wrap z = z) ∧ ls.length ≤ 1048576) ∧ ∀ z, z ∈ I → IntKind.i64.wrap z = z)
    {w : World} {bs : List Int} {v : Value} (hv : IsBytes w bs v) (hbl : bs.length ≤ 9223372036854775807) : LawTrue P l.k #[v] w :=
  LawD.okAt hG hm hD ht h1 h2 hn hb (hd bs hv.1) hv hbl

noncomputable def LawD.runN (P : Program) (D : Ids) (t : List Summ) (N : Nat) (l : LawD) (sts : List Nat) (xs : List Sy) (Γ : List Fact) (Vt : List VEnt) (sp : Sp) (j : Nat) : Bool :=
  chkN (runD P D t (bentsL sts l.bds 0) N l sts (Γ ++ l.facts sts)) sp j xs [] Vt
noncomputable def LawD.atN (P : Program) (D : Ids) (t : List Summ) (N : Nat) (l : LawD) (es : List Nat) (j : Nat) : Bool :=
  chkLN (l.runN P D t N) (l.tree es) j es l.xs [] []
/-- Some leaves, one after the other. -/
noncomputable def LawD.blk (P : Program) (D : Ids) (t : List Summ) (N : Nat) (l : LawD) (es : List Nat) (a n : Nat) : Bool := allTo (fun i => l.atN P D t N es (Nat.add a i)) n

theorem LawD.at_of {P : Program} {D : Ids} {t : List Summ} {N : Nat} {l : LawD} {es : List Nat} (h : ∀ j, j < (l.tree es).count → l.atN P D t N es j = true) : l.at P D t N es = true :=
  chkLN_ok (runN := l.runN P D t N) (fun sts xs Γ Vt sp h => chkN_ok sp _ _ _ h) (l.tree es) es l.xs [] [] h

theorem LawD.of_blk {P : Program} {D : Ids} {t : List Summ} {N : Nat} {l : LawD} {es : List Nat} {a n : Nat} (h : l.blk P D t N es a n = true) {j : Nat} (h1 : a ≤ j) (h2 : j < a + n) : l.atN P D t N es j = true := by
  have := allTo_ok h (j - a) (by omega)
  rwa [show Nat.add a (j - a) = j from by show a + (j - a) = j; omega] at this


/-- A list that a run has made, or nil. -/
def IsN (obs : List (Nat × Ob Sy)) (q : Nat) (zs : List Int) (v : V Sy) : Prop := IsL obs q zs v ∨ (zs = [] ∧ v = .nil)
theorem IsN.made {S : Sto Sy} {q : Nat} {zs : List Int} {v : V Sy} (h : IsN S.obs q zs v) : Made S zs q v := h.imp IsL.made id
theorem IsN.to {a b : List (Nat × Ob Sy)} {q : Nat} {zs : List Int} {v : V Sy} (h : IsN a q zs v) (hk : ∀ x, Go.Sx.look a q = some x → Go.Sx.look b q = some x) : IsN b q zs v := h.imp (fun h => ⟨h.val, hk _ h.obj⟩) id
theorem IsN.trimIn {sto : Sto Sy} {q n0 : Nat} {zs : List Int} {v r : V Sy} (h : IsN sto.obs q zs v) (hr : ∀ k, k ∈ v.refs → k ∈ r.refs) : IsN (sto.trim n0 r).obs q zs v := h.imp (fun h => h.trimIn hr) id
theorem IsN.keep {bs : List Int} {o : Nat} {P : Int} {ex : List Nat} {a b : Sto Sy} {q : Nat} {zs : List Int} {v : V Sy} (h : IsN a.obs q zs v) (hn : Nw bs o P ex a b) (h1 : q ≠ o) (h2 : q ∉ ex) : IsN b.obs q zs v := h.imp (fun h => h.keep hn h1 h2) id
theorem IsN.one {obs : List (Nat × Ob Sy)} {q : Nat} {zs : List Int} {v : V Sy} (h : IsN obs q zs v) : v.oneCell = true := by
  rcases h with ⟨⟨cp, rfl, _⟩, _⟩ | ⟨_, rfl⟩ <;> rfl

/-- What a law is to know of what is drawn. -/
def DrawnOk (P : Program) (dk : FuncId) (outs : List Tp) (bs : List Int) (n m : Nat) : Prop :=
  ∃ Ls I, Drawn P dk outs bs Ls I ∧ Ls.length = n ∧ I.length = m ∧ (∀ ls, ls ∈ Ls → (∀ z, z ∈ ls → IntKind.i64.wrap z = z) ∧ ls.length ≤ 1048576) ∧ ∀ z, z ∈ I → IntKind.i64.wrap z = z

theorem drawn_pp {P : Program} {dk : FuncId} {bs : List Int} {n : Nat} {K : Ctr} (hK : ∀ (ρ : Nat → Int) (s : Sms) (B : Nat), COk P ⟨Sy.den ρ, s⟩ B K)
    (h : ∃ r, symRun P K [] n dk [.slice (u8s bs)] ⟨0, [], 0⟩ = some r ∧ ∃ v1 v2 v3 v4 q1 q2 q3 q4 z1 z2 z3 z4, r.1 = .tup [.agg [v1, v2], .agg [v3, v4]] ∧ [q1, q2, q3, q4].Nodup ∧ IsN r.2.obs q1 z1 v1 ∧ IsN r.2.obs q2 z2 v2 ∧ IsN r.2.obs q3 z3 v3 ∧ IsN r.2.obs q4 z4 v4 ∧ Fit z1 ∧ Fit z2 ∧ Fit z3 ∧ Fit z4) : DrawnOk P dk [.a [.l 0, .l 1], .a [.l 2, .l 3]] bs 4 0 := by
  obtain ⟨⟨w, S⟩, hr, v1, v2, v3, v4, q1, q2, q3, q4, z1, z2, z3, z4, rfl, hq, h1, h2, h3, h4, f1, f2, f3, f4⟩ := h
  refine ⟨[z1, z2, z3, z4], [], ⟨K, n, [q1, q2, q3, q4], [v1, v2, v3, v4], S, hK, hr, rfl, rfl, hq, fun j hj => ?_⟩, rfl, rfl, fun ls hls => ?_, fun z hz => by cases hz⟩
  · have h0 : j = 0 ∨ j = 1 ∨ j = 2 ∨ j = 3 := by simp at hj; omega
    rcases h0 with rfl | rfl | rfl | rfl
    · exact h1.made
    · exact h2.made
    · exact h3.made
    · exact h4.made
  · simp at hls
    rcases hls with rfl | rfl | rfl | rfl
    · exact f1.wf
    · exact f2.wf
    · exact f3.wf
    · exact f4.wf
end Go.Sx.Nn

/-
  Lists of lists of numbers that are known: contracts of functions that ask something of them.
-/
namespace Go.Sx
open Go.RowKit

/-- A list that is known, as an argument. -/
def patL : List Int → V Sy
  | [] => .emp
  | z :: r => .slice (ints (nums (z :: r)))
/-- A list of lists, as an argument. -/
def patS : List (List Int) → V Sy
  | [] => .emp
  | z :: r => .slice ((z :: r).map patL)

theorem patL_rel {ρ ρ' : Nat → Int} {s : Sms} {B : Nat} {c : Cx} {sto : Sto Sy} {x : V Sy} {v : Value} {zs : List Int} (h : constsOf sto x = some zs) (hl : zs.length ≤ 1048576) (hinv : SInv ⟨Sy.den ρ, s⟩ B c sto) (hx : VR ⟨Sy.den ρ, s⟩ B c x v) :
    VR ⟨Sy.den ρ', s⟩ c.w.heap.size ⟨c.w, fun _ => none⟩ (patL zs) v := by
  cases zs with
  | nil =>
    obtain ⟨h1, h2⟩ := constsOf_ok h
    exact (elems_data (ρ' := ρ') hinv hx h1 h2).1 rfl
  | cons z r => exact constsOf_rel h (by simp) hl hinv hx

noncomputable def rowsFrom (sto : Sto Sy) : List (V Sy) → Option (List (List Int))
  | [] => some []
  | x :: r => match constsOf sto x with
    | some zs => match rowsFrom sto r with
      | some l => some (zs :: l)
      | none => none
    | none => none
/-- The lists of a slice of slices, their numbers known. -/
noncomputable def rowsOf (sto : Sto Sy) (x : V Sy) : Option (List (List Int)) := match sto.elems x with
  | some xs => bite (capOk x) (rowsFrom sto xs) none
  | none => none

theorem rowsFrom_at {sto : Sto Sy} : ∀ {xs : List (V Sy)} {zss : List (List Int)}, rowsFrom sto xs = some zss → xs.length = zss.length ∧ ∀ (i : Nat) (x : V Sy) (zs : List Int), xs[i]? = some x → zss[i]? = some zs → constsOf sto x = some zs := by
  intro xs
  induction xs with
  | nil => intro zss h; cases h; exact ⟨rfl, fun i x zs h => by simp at h⟩
  | cons x r ih =>
    intro zss h
    simp only [rowsFrom] at h
    split at h
    · rename_i zs hz
      split at h
      · rename_i l hl
        cases h
        obtain ⟨h1, h2⟩ := ih hl
        refine ⟨by simp [h1], fun i y ys hy hys => ?_⟩
        cases i with
        | zero => simp at hy hys; subst hy hys; exact hz
        | succ i => exact h2 i y ys (by simpa using hy) (by simpa using hys)
      · cases h
    · cases h
theorem rowsOf_ok {sto : Sto Sy} {x : V Sy} {zss : List (List Int)} (h : rowsOf sto x = some zss) : ∃ xs, sto.elems x = some xs ∧ capOk x = true ∧ rowsFrom sto xs = some zss := by
  unfold rowsOf at h
  split at h
  · rename_i xs hxs
    rw [bite_eq] at h
    split at h
    · rename_i hc; exact ⟨xs, hxs, hc, h⟩
    · cases h
  · cases h

theorem patS_rel {ρ ρ' : Nat → Int} {s : Sms} {B : Nat} {c : Cx} {sto : Sto Sy} {x : V Sy} {v : Value} {zss : List (List Int)} (h : rowsOf sto x = some zss) (hl : ∀ zs, zs ∈ zss → zs.length ≤ 1048576) (hinv : SInv ⟨Sy.den ρ, s⟩ B c sto) (hx : VR ⟨Sy.den ρ, s⟩ B c x v) :
    VR ⟨Sy.den ρ', s⟩ c.w.heap.size ⟨c.w, fun _ => none⟩ (patS zss) v := by
  obtain ⟨xs, he, hc, hf⟩ := rowsOf_ok h
  obtain ⟨hlen, hat⟩ := rowsFrom_at hf
  obtain ⟨ad, cap, us, rfl, hr, hor⟩ := hinv.elems hx he
  cases zss with
  | nil =>
    have : xs = [] := List.eq_nil_of_length_eq_zero (by simpa using hlen)
    subst this
    rcases hor with ⟨_, h2⟩ | ⟨b, off, rfl, _⟩
    · exact .emp _ _ h2
    · exact .emp _ _ (.inr fun b hb => by cases hb; rfl)
  | cons z r =>
    have hpos : 0 < xs.length := by rw [hlen]; simp
    rcases hor with ⟨h1, _⟩ | ⟨b, off, rfl, hcell⟩
    · rw [h1] at hpos; simp at hpos
    · have hus : us.length = xs.length := hr.1.symm
      have hcap : xs.length ≤ cap := by
        generalize hg : xs.length = n at hx
        rw [hg] at hpos
        cases x <;> simp [Sto.elems] at he
        case nil => cases hx
        case emp => cases hx; omega
        case slice => cases hx with
          | slice _ _ h2 _ _ _ => exact h2
        case rsl => cases hx with
          | rsl hk => simpa [capOk, Nat.ble_eq] using hc
          | rslo hk hlc hn => omega
      have hb : b < c.w.heap.size := by
        have hp : 0 < us.length := by omega
        have := hcell 0 us[0] (List.getElem?_eq_getElem hp)
        exact lt_of_cell this
      have hlm : ((z :: r).map patL).length = xs.length := by rw [List.length_map, hlen]
      rw [show patS (z :: r) = .slice ((z :: r).map patL) from rfl, ← hlm]
      refine .slice us (by omega) (by omega) hb hcell (fun j y u hy hu => ?_)
      rw [List.getElem?_map, Option.map_eq_some_iff] at hy
      obtain ⟨zs, hzs, rfl⟩ := hy
      have hj : j < xs.length := by rw [hlen]; exact (List.getElem?_eq_some_iff.1 hzs).1
      exact patL_rel (hat j xs[j] zs (List.getElem?_eq_getElem hj) hzs) (hl zs (List.mem_of_getElem? hzs)) hinv (hr.2 j xs[j] u (List.getElem?_eq_getElem hj) hu)

/-- What a function asks of one list. -/
noncomputable def askK (k0 : FuncId) (F : List Int → Bool) : Ctr := fun k args sto =>
  bite (Nat.beq k k0) (match args with
  | [x] => match constsOf sto x with
    | some zs => bite (Nat.ble zs.length 1048576) (some (.bool (F zs), sto)) none
    | none => none
  | _ => none) none
theorem askK_ok {P : Program} (hG : NoCount P) (hm : P.follows .mixedOrders = true) {k0 : FuncId} {F : List Int → Bool} (hb : ∃ fn, P.funcs[k0]? = some fn ∧ fn.body.isSome = true)
    (hF : ∀ zs : List Int, zs.length ≤ 1048576 → ∃ (K : Ctr) (n : Nat) (S : Sto Sy), (∀ (ρ : Nat → Int) (s : Sms) (B : Nat), COk P ⟨Sy.den ρ, s⟩ B K) ∧ symRun P K [] n k0 [patL zs] ⟨0, [], 0⟩ = some (.bool (F zs), S)) {ρ : Nat → Int} {s : Sms} {B : Nat} : COk P ⟨Sy.den ρ, s⟩ B (askK k0 F) := by
  intro k args sto r sto' h
  unfold askK at h
  rw [bite_eq] at h
  split at h
  case isFalse => cases h
  rename_i hk
  have hk := Nat.eq_of_beq_eq_true hk
  subst hk
  split at h
  · rename_i x
    split at h
    · rename_i zs hz
      rw [bite_eq] at h
      split at h
      · rename_i hl
        rw [Nat.ble_eq] at hl
        cases h
        obtain ⟨K, n, S, hK, hrun⟩ := hF _ hl
        refine ⟨lift_plain (ρ' := ρ) (run_goodK hG hm hK ρ hrun) (fun c hinv vs hv => ?_) rfl (.bool _), hb⟩
        obtain ⟨v, rfl, hv2⟩ := hv.one
        exact .cons (patL_rel hz hl hinv hv2) .nil
      · cases h
    · cases h
  · cases h

/-- What a function asks of one list and a number. -/
noncomputable def askIK (k0 : FuncId) (F : List Int → Int → Option Bool) : Ctr := fun k args sto =>
  bite (Nat.beq k k0) (match args with
  | [x, .int .i64 (.c n)] => match constsOf sto x with
    | some zs => bite (Nat.ble zs.length 1048576) (match F zs n with
      | some q => some (.bool q, sto)
      | none => none) none
    | none => none
  | _ => none) none
theorem askIK_ok {P : Program} (hG : NoCount P) (hm : P.follows .mixedOrders = true) {k0 : FuncId} {F : List Int → Int → Option Bool} (hb : ∃ fn, P.funcs[k0]? = some fn ∧ fn.body.isSome = true)
    (hF : ∀ (zs : List Int) (n : Int) (q : Bool), F zs n = some q → ∃ (K : Ctr) (m : Nat) (S : Sto Sy), (∀ (ρ : Nat → Int) (s : Sms) (B : Nat), COk P ⟨Sy.den ρ, s⟩ B K) ∧ symRun P K [] m k0 [patL zs, .int .i64 (.c n)] ⟨0, [], 0⟩ = some (.bool q, S)) {ρ : Nat → Int} {s : Sms} {B : Nat} : COk P ⟨Sy.den ρ, s⟩ B (askIK k0 F) := by
  intro k args sto r sto' h
  unfold askIK at h
  rw [bite_eq] at h
  split at h
  case isFalse => cases h
  rename_i hk
  have hk := Nat.eq_of_beq_eq_true hk
  subst hk
  split at h
  · rename_i x n
    split at h
    · rename_i zs hz
      rw [bite_eq] at h
      split at h
      · rename_i hl
        rw [Nat.ble_eq] at hl
        split at h
        · rename_i q hq
          cases h
          obtain ⟨K, m, S, hK, hrun⟩ := hF _ _ _ hq
          refine ⟨lift_plain (ρ' := ρ) (run_goodK hG hm hK ρ hrun) (fun c hinv vs hv => ?_) rfl (.bool _), hb⟩
          obtain ⟨v, u, rfl, hv, hu⟩ := hv.two
          refine .cons (patL_rel hz hl hinv hv) (.cons ?_ .nil)
          cases hu
          exact .int _ _
        · cases h
      · cases h
    · cases h
  · cases h

/-- What a function asks of a list of lists. -/
noncomputable def askSK (k0 : FuncId) (F : List (List Int) → Bool) : Ctr := fun k args sto =>
  bite (Nat.beq k k0) (match args with
  | [x] => match rowsOf sto x with
    | some zss => bite (Nat.ble zss.length 1048576) (bite (zss.all fun zs => Nat.ble zs.length 1048576) (some (.bool (F zss), sto)) none) none
    | none => none
  | _ => none) none
theorem askSK_ok {P : Program} (hG : NoCount P) (hm : P.follows .mixedOrders = true) {k0 : FuncId} {F : List (List Int) → Bool} (hb : ∃ fn, P.funcs[k0]? = some fn ∧ fn.body.isSome = true)
    (hF : ∀ zss : List (List Int), zss.length ≤ 1048576 → (∀ zs, zs ∈ zss → zs.length ≤ 1048576) → ∃ (K : Ctr) (n : Nat) (S : Sto Sy), (∀ (ρ : Nat → Int) (s : Sms) (B : Nat), COk P ⟨Sy.den ρ, s⟩ B K) ∧ symRun P K [] n k0 [patS zss] ⟨0, [], 0⟩ = some (.bool (F zss), S)) {ρ : Nat → Int} {s : Sms} {B : Nat} : COk P ⟨Sy.den ρ, s⟩ B (askSK k0 F) := by
  intro k args sto r sto' h
  unfold askSK at h
  rw [bite_eq] at h
  split at h
  case isFalse => cases h
  rename_i hk
  have hk := Nat.eq_of_beq_eq_true hk
  subst hk
  split at h
  · rename_i x
    split at h
    · rename_i zss hz
      rw [bite_eq] at h
      split at h
      · rename_i hl0
        rw [Nat.ble_eq] at hl0
        rw [bite_eq] at h
        split at h
        · rename_i hl
          have hl : ∀ zs, zs ∈ zss → zs.length ≤ 1048576 := fun zs hzs => by
            have := List.all_eq_true.1 hl zs hzs
            rwa [Nat.ble_eq] at this
          cases h
          obtain ⟨K, n, S, hK, hrun⟩ := hF _ hl0 hl
          refine ⟨lift_plain (ρ' := ρ) (run_goodK hG hm hK ρ hrun) (fun c hinv vs hv => ?_) rfl (.bool _), hb⟩
          obtain ⟨v, rfl, hv2⟩ := hv.one
          exact .cons (patS_rel hz hl hinv hv2) .nil
        · cases h
      · cases h
    · cases h
  · cases h

/-- The contract of a function that copies one list. -/
noncomputable def copyK (k0 : FuncId) : Ctr := fun k args sto =>
  bite (Nat.beq k k0) (match args with
  | [x] => match constsOf sto x with
    | some zs => bite (Nat.ble zs.length 1048576) (some (.rsl sto.next 0 zs.length none, ⟨sto.next + 1, (sto.next, ints (nums zs)) :: sto.obs, sto.low⟩)) none
    | none => none
  | _ => none) none
theorem copyK_ok {P : Program} (hG : NoCount P) (hm : P.follows .mixedOrders = true) {k0 : FuncId} (hb : ∃ fn, P.funcs[k0]? = some fn ∧ fn.body.isSome = true)
    (hF : ∀ zs : List Int, zs.length ≤ 1048576 → OneOk P k0 [patL zs] zs) {ρ : Nat → Int} {s : Sms} {B : Nat} : COk P ⟨Sy.den ρ, s⟩ B (copyK k0) := by
  intro k args sto r sto' h
  unfold copyK at h
  rw [bite_eq] at h
  split at h
  case isFalse => cases h
  rename_i hk
  have hk := Nat.eq_of_beq_eq_true hk
  subst hk
  split at h
  · rename_i x
    split at h
    · rename_i zs hz
      rw [bite_eq] at h
      split at h
      · rename_i hl
        rw [Nat.ble_eq] at hl
        cases h
        obtain ⟨K, n, q, R, S, hK, hrun, hM⟩ := (hF _ hl).run
        refine ⟨lift_one (ρ' := ρ) (fun B' => run_goodK hG hm hK ρ hrun B') hM (fun c hinv vs hv => ?_), hb⟩
        obtain ⟨v, rfl, hv2⟩ := hv.one
        exact .cons (patL_rel hz hl hinv hv2) .nil
      · cases h
    · cases h
  · cases h

/-- Two lists that are known and equal. -/
noncomputable def sameK (k0 : FuncId) : Ctr := fun k args sto =>
  bite (Nat.beq k k0) (match args with
  | [x, y] => match constsOf sto x, constsOf sto y with
    | some l, some l' => bite (Nat.ble l.length 1048576) (bite (sameI l l') (some (.bool true, sto)) none) none
    | _, _ => none
  | _ => none) none
theorem sameK_ok {P : Program} (hG : NoCount P) (hm : P.follows .mixedOrders = true) {k0 : FuncId} (hb : ∃ fn, P.funcs[k0]? = some fn ∧ fn.body.isSome = true)
    (hF : ∀ zs : List Int, zs.length ≤ 1048576 → ∃ n S, symRun P noK [] n k0 [patL zs, patL zs] ⟨0, [], 0⟩ = some (.bool true, S)) {ρ : Nat → Int} {s : Sms} {B : Nat} : COk P ⟨Sy.den ρ, s⟩ B (sameK k0) := by
  intro k args sto r sto' h
  unfold sameK at h
  rw [bite_eq] at h
  split at h
  case isFalse => cases h
  rename_i hk
  have hk := Nat.eq_of_beq_eq_true hk
  subst hk
  split at h
  · rename_i x y
    split at h
    · rename_i l l' hz hz'
      rw [bite_eq] at h
      split at h
      · rename_i hl
        rw [Nat.ble_eq] at hl
        rw [bite_eq] at h
        split at h
        · rename_i he
          have he := sameI_eq he
          subst he
          cases h
          obtain ⟨n, S, hrun⟩ := hF _ hl
          refine ⟨lift_plain (ρ' := ρ) (run_good hG hm ρ hrun) (fun c hinv vs hv => ?_) rfl (.bool _), hb⟩
          obtain ⟨v, u, rfl, hv, hu⟩ := hv.two
          exact .cons (patL_rel hz hl hinv hv) (.cons (patL_rel hz' hl hinv hu) .nil)
        · cases h
      · cases h
    · cases h
  · cases h


/-- Two lists of lists that are known and equal. -/
noncomputable def sameII : List (List Int) → List (List Int) → Bool
  | [], [] => true
  | a :: r, b :: r' => bite (sameI a b) (sameII r r') false
  | _, _ => false
theorem sameII_eq : ∀ {l l' : List (List Int)}, sameII l l' = true → l = l' := by
  intro l
  induction l with
  | nil => intro l' h; cases l' with
    | nil => rfl
    | cons b r => simp [sameII] at h
  | cons a r ih =>
    intro l' h
    cases l' with
    | nil => simp [sameII] at h
    | cons b r' =>
      simp only [sameII, bite_eq] at h
      split at h
      · rename_i h1; rw [sameI_eq h1, ih h]
      · cases h
noncomputable def sameSK (k0 : FuncId) : Ctr := fun k args sto =>
  bite (Nat.beq k k0) (match args with
  | [x, y] => match rowsOf sto x, rowsOf sto y with
    | some l, some l' => bite (Nat.ble l.length 1048576) (bite (l.all fun zs => Nat.ble zs.length 1048576) (bite (sameII l l') (some (.bool true, sto)) none) none) none
    | _, _ => none
  | _ => none) none
theorem sameSK_ok {P : Program} (hG : NoCount P) (hm : P.follows .mixedOrders = true) {k0 : FuncId} (hb : ∃ fn, P.funcs[k0]? = some fn ∧ fn.body.isSome = true)
    (hF : ∀ zss : List (List Int), zss.length ≤ 1048576 → (∀ zs, zs ∈ zss → zs.length ≤ 1048576) → ∃ (K : Ctr) (n : Nat) (S : Sto Sy), (∀ (ρ : Nat → Int) (s : Sms) (B : Nat), COk P ⟨Sy.den ρ, s⟩ B K) ∧ symRun P K [] n k0 [patS zss, patS zss] ⟨0, [], 0⟩ = some (.bool true, S)) {ρ : Nat → Int} {s : Sms} {B : Nat} : COk P ⟨Sy.den ρ, s⟩ B (sameSK k0) := by
  intro k args sto r sto' h
  unfold sameSK at h
  rw [bite_eq] at h
  split at h
  case isFalse => cases h
  rename_i hk
  have hk := Nat.eq_of_beq_eq_true hk
  subst hk
  split at h
  · rename_i x y
    split at h
    · rename_i l l' hz hz'
      rw [bite_eq] at h
      split at h
      · rename_i hl0
        rw [Nat.ble_eq] at hl0
        rw [bite_eq] at h
        split at h
        · rename_i hl
          have hl : ∀ zs, zs ∈ l → zs.length ≤ 1048576 := fun zs hzs => by
            have := List.all_eq_true.1 hl zs hzs
            rwa [Nat.ble_eq] at this
          rw [bite_eq] at h
          split at h
          · rename_i he
            have he := sameII_eq he
            subst he
            cases h
            obtain ⟨K, n, S, hK, hrun⟩ := hF _ hl0 hl
            refine ⟨lift_plain (ρ' := ρ) (run_goodK hG hm hK ρ hrun) (fun c hinv vs hv => ?_) rfl (.bool _), hb⟩
            obtain ⟨v, u, rfl, hv, hu⟩ := hv.two
            exact .cons (patS_rel hz hl hinv hv) (.cons (patS_rel hz' hl hinv hu) .nil)
          · cases h
        · cases h
      · cases h
    · cases h
  · cases h
end Go.Sx

/-
  Lists of lists among a row's arguments.
-/
namespace Go.Sx
open Go.ChangeShapes Go.WideShapes Go.ChangeAt Go.RowKit

theorem plain_of_cell {W : World} {a : Addr} {v : Value} (h : W.cell? a = some v) : a.spot = none := by
  unfold World.cell? at h
  split at h
  · split at h
    · cases h
    · rename_i hs; cases hp : a.spot with
      | none => rfl
      | some x => rw [hp] at hs; simp at hs
  · cases h

theorem row_rel {W : World} {A : Option Addr} {L C : Nat} {Z : List Int} (hL : L ≤ C) (hz : Z.length = C) (hn : A = none → C = 0) (hc : ∀ a', A = some a' → ∀ c, c < C → W.cell? (a'.add c) = some (.int .i64 (Z.getD c 0))) (ρ : Nat → Int) (s : Sms) :
    VR ⟨Sy.den ρ, s⟩ W.heap.size ⟨W, fun _ => none⟩ (patL (Z.take L)) (.slice A L C) := by
  have hlen : (Z.take L).length = L := by simp [List.length_take]; omega
  by_cases h0 : L = 0
  · subst h0
    rw [List.take_zero]
    refine .emp _ _ ?_
    by_cases hC : C = 0
    · exact .inl hC
    · refine .inr fun b hb => ?_
      have := hc b hb 0 (by omega)
      rw [show b.add 0 = b from rfl] at this
      exact plain_of_cell this
  · cases hA : A with
    | none => have := hn hA; omega
    | some a' =>
      have h1 := hc a' hA 0 (by omega)
      rw [show a'.add 0 = a' from rfl] at h1
      have hs := plain_of_cell h1
      obtain ⟨b, off, spot⟩ := a'
      simp only at hs
      subst hs
      have hb := lt_of_cell h1
      have hp : patL (Z.take L) = .slice (ints (nums (Z.take L))) := by
        cases hq : Z.take L with
        | nil => rw [hq] at hlen; simp at hlen; omega
        | cons x r => rfl
      rw [hp]
      have hil : (ints (nums (Z.take L))).length = L := by simp [hlen]
      have := VR.slice (Δ := ⟨Sy.den ρ, s⟩) (B := W.heap.size) (c := ⟨W, fun _ => none⟩) (xs := ints (nums (Z.take L))) (b := b) (off := off) (cap := C) ((Z.take L).map (Value.int .i64)) (by rw [hil, List.length_map]; exact hlen) (by rw [hil]; exact hL) hb
        (fun j u hj => by
          rw [List.getElem?_map, Option.map_eq_some_iff] at hj
          obtain ⟨z, hz', rfl⟩ := hj
          have hj' : j < L := by have := (List.getElem?_eq_some_iff.1 hz').1; omega
          rw [List.getElem?_take, if_pos hj'] at hz'
          have := hc _ hA j (by omega)
          rw [add_plain] at this
          rw [this]
          simp [List.getD, hz'])
        (fun j x u hx hu => by
          rw [ints_get, nums_get] at hx
          rw [List.getElem?_map] at hu
          cases hz' : (Z.take L)[j]? with
          | none => rw [hz'] at hx; simp at hx
          | some z =>
            rw [hz'] at hx hu
            simp at hx hu
            subst hx; subst hu
            exact VR_int' rfl)
      rwa [hil] at this

theorem open_rows {H : Type} {enc : TypeId × Value → H} {P : Program} {t e q : TypeId} {r : Reach} {base b0 : Nat} {W : World} {hd : Bool} {v : Value} {d : DataW H} {p : List MemPlace}
    (ht : P.underlying t = some (.slice e)) (he : P.underlying e = some (.slice q)) (hq : P.underlying q = some (.int .i64)) (ce : P.cellsOf e = 1) (cq : P.cellsOf q = 1) (hval : Value.okWide P W r base t v) (h : DataW.Trod enc P W b0 (fun _ => true) hd t v d p) :
    ∃ zss : List (List Int), (∀ (ρ : Nat → Int) (s : Sms), VR ⟨Sy.den ρ, s⟩ W.heap.size ⟨W, fun _ => none⟩ (patS zss) v) ∧ zss.length ≤ 9223372036854775807 ∧ ∀ zs, zs ∈ zss → zs.length ≤ 9223372036854775807 := by
  have hmax : maxLen = 9223372036854775807 := by decide
  obtain ⟨a, len, cap, rfl⟩ := okWide_slice ht hval
  obtain ⟨fuel, hf⟩ := h
  rcases Go.Deep.open_int_rows ht he hq ce cq hf with ⟨hcs, _⟩ | ⟨x, l, c, A, L, C, Z, hcs, _, hl, hm, _, hrow⟩
  · simp [Value.cells] at hcs
    obtain ⟨rfl, rfl, rfl⟩ := hcs
    exact ⟨[], fun ρ s => .emp _ _ (.inl rfl), by simp, by simp⟩
  · simp [Value.cells] at hcs
    obtain ⟨rfl, rfl, rfl⟩ := hcs
    obtain ⟨hs, hb⟩ := has_plain ht hval
    obtain ⟨b, off, spot⟩ := x
    simp only at hs hb
    subst hs
    refine ⟨(List.range len).map fun r => (Z r).take (L r), fun ρ s => ?_, by simp; omega, fun zs hzs => ?_⟩
    · by_cases h0 : len = 0
      · subst h0
        exact .emp _ _ (.inr fun b hb => by cases hb; rfl)
      · generalize hg : ((List.range len).map fun r => (Z r).take (L r)) = zss
        have hzl : zss.length = len := by rw [← hg]; simp
        have hp : patS zss = .slice (zss.map patL) := by
          cases zss with
          | nil => simp at hzl; omega
          | cons x r => rfl
        rw [hp]
        have hml : (zss.map patL).length = len := by rw [List.length_map]; exact hzl
        have := VR.slice (Δ := ⟨Sy.den ρ, s⟩) (B := W.heap.size) (c := ⟨W, fun _ => none⟩) (xs := zss.map patL) (b := b) (off := off) (cap := cap) ((List.range len).map fun r => Value.slice (A r) (L r) (C r)) (by rw [hml]; simp) (by rw [hml]; exact hl) hb
          (fun j u hj => by
            rw [List.getElem?_map, Option.map_eq_some_iff] at hj
            obtain ⟨i, hi, rfl⟩ := hj
            have hj' : j < len := by have := (List.getElem?_eq_some_iff.1 hi).1; simpa using this
            rw [List.getElem?_range hj'] at hi
            cases hi
            have := (hrow j (by omega)).1
            rwa [add_plain] at this)
          (fun j y u hy hu => by
            rw [List.getElem?_map, Option.map_eq_some_iff] at hy
            obtain ⟨zs, hzs, rfl⟩ := hy
            rw [List.getElem?_map, Option.map_eq_some_iff] at hu
            obtain ⟨i, hi, rfl⟩ := hu
            have hj' : j < len := by have := (List.getElem?_eq_some_iff.1 hi).1; simpa using this
            rw [List.getElem?_range hj'] at hi
            cases hi
            rw [← hg, List.getElem?_map, List.getElem?_range hj'] at hzs
            cases hzs
            obtain ⟨_, k1, k2, k3, _, k5, k6⟩ := hrow j (by omega)
            exact row_rel k1 k3 k5 (fun a' ha' => (k6 a' ha').2) ρ s)
        rwa [hml] at this
    · obtain ⟨i, hi, rfl⟩ := List.mem_map.1 hzs
      obtain ⟨_, k1, k2, k3, _⟩ := hrow i (by have := List.mem_range.1 hi; omega)
      simp [List.length_take]
      omega
end Go.Sx

/-
  Lists of lists whose numbers are symbols.
-/
namespace Go.Sx
open Go.RowKit

theorem ints_sym {ρ : Nat → Int} {s : Sms} {B : Nat} {c : Cx} {ps : List Sy} {zs : List Int} {v : Value} (hp : ps.map (Sy.den ρ) = zs) (hne : zs ≠ []) (h : VR ⟨Sy.den ρ, s⟩ B c (patL zs) v) : VR ⟨Sy.den ρ, s⟩ B c (.slice (ints ps)) v := by
  have hq : patL zs = .slice (ints (nums zs)) := by cases zs with
    | nil => exact (hne rfl).elim
    | cons a r => rfl
  rw [hq] at h
  have hl : (ints (nums zs)).length = (ints ps).length := by rw [← hp]; simp
  generalize hg : ints (nums zs) = xs at h hl
  cases h with
  | @slice _ b off cap us h1 h2 h3 h4 h5 =>
    rw [hl]
    refine .slice us (by omega) (by omega) h3 h4 (fun j x u hx hu => ?_)
    rw [ints_get] at hx
    obtain ⟨p, hpj, rfl⟩ := Option.map_eq_some_iff.1 hx
    have hz : zs[j]? = some (p.den ρ) := by rw [← hp, List.getElem?_map, hpj]; rfl
    have := h5 j (.int .i64 (.c (p.den ρ))) u (by rw [← hg, ints_get, nums_get, hz]; rfl) hu
    cases this
    exact VR_int' rfl
  | snil => cases zs with
    | nil => exact (hne rfl).elim
    | cons a r => simp [ints, nums] at hg

theorem patS_sym {ρ : Nat → Int} {s : Sms} {B : Nat} {c : Cx} {pss : List (List Sy)} {zss : List (List Int)} {v : Value} (hp : pss.map (fun ps => ps.map (Sy.den ρ)) = zss) (hne : zss ≠ []) (hn : ∀ zs, zs ∈ zss → zs ≠ []) (h : VR ⟨Sy.den ρ, s⟩ B c (patS zss) v) :
    VR ⟨Sy.den ρ, s⟩ B c (.slice (pss.map fun ps => V.slice (ints ps))) v := by
  have hq : patS zss = .slice (zss.map patL) := by cases zss with
    | nil => exact (hne rfl).elim
    | cons a r => rfl
  rw [hq] at h
  have hl : (zss.map patL).length = (pss.map fun ps => V.slice (ints ps)).length := by rw [← hp]; simp
  generalize hg : zss.map patL = xs at h hl
  cases h with
  | @slice _ b off cap us h1 h2 h3 h4 h5 =>
    rw [hl]
    refine .slice us (by omega) (by omega) h3 h4 (fun j x u hx hu => ?_)
    rw [List.getElem?_map] at hx
    obtain ⟨ps, hpj, rfl⟩ := Option.map_eq_some_iff.1 hx
    have hz : zss[j]? = some (ps.map (Sy.den ρ)) := by rw [← hp, List.getElem?_map, hpj]; rfl
    exact ints_sym rfl (hn _ (List.mem_of_getElem? hz)) (h5 j (patL (ps.map (Sy.den ρ))) u (by rw [← hg, List.getElem?_map, hz]; rfl) hu)
  | snil => cases zss with
    | nil => exact (hne rfl).elim
    | cons a r => simp at hg

/-- What a function asks of a list of lists, by what it does at symbols. -/
theorem askSK_okG {P : Program} {k0 : FuncId} {F : List (List Int) → Bool} (hb : ∃ fn, P.funcs[k0]? = some fn ∧ fn.body.isSome = true)
    (hF : ∀ zss : List (List Int), zss.length ≤ 1048576 → (∀ zs, zs ∈ zss → zs.length ≤ 1048576) → ∃ (ρ' : Nat → Int) (pat : V Sy) (S : Sto Sy), (∀ (s : Sms) (B' : Nat), Good P ⟨Sy.den ρ', s⟩ B' k0 [pat] ⟨0, [], 0⟩ (.bool (F zss)) S) ∧
      ∀ (s : Sms) (B : Nat) (c : Cx) (v : Value), VR ⟨Sy.den ρ', s⟩ B c (patS zss) v → VR ⟨Sy.den ρ', s⟩ B c pat v) {ρ : Nat → Int} {s : Sms} {B : Nat} : COk P ⟨Sy.den ρ, s⟩ B (askSK k0 F) := by
  intro k args sto r sto' h
  unfold askSK at h
  rw [bite_eq] at h
  split at h
  case isFalse => cases h
  rename_i hk
  have hk := Nat.eq_of_beq_eq_true hk
  subst hk
  split at h
  · rename_i x
    split at h
    · rename_i zss hz
      rw [bite_eq] at h
      split at h
      · rename_i hl0
        rw [Nat.ble_eq] at hl0
        rw [bite_eq] at h
        split at h
        · rename_i hl
          have hl : ∀ zs, zs ∈ zss → zs.length ≤ 1048576 := fun zs hzs => by
            have := List.all_eq_true.1 hl zs hzs
            rwa [Nat.ble_eq] at this
          cases h
          obtain ⟨ρ', pat, S, hG, hp⟩ := hF _ hl0 hl
          refine ⟨lift_plain (ρ' := ρ') (hG s) (fun c hinv vs hv => ?_) rfl (.bool _), hb⟩
          obtain ⟨v, rfl, hv2⟩ := hv.one
          exact .cons (hp _ _ _ _ (patS_rel hz hl hinv hv2)) .nil
        · cases h
      · cases h
    · cases h
  · cases h
end Go.Sx


import Derived.Test.YtpjenggjcpahaaaRows
import Derived.Test.YtpjenggjcpahaaaSym
import Derived.Test.YtpjenggjcpahaaaSymD
import Derived.Test.YtpjenggjcpahaaaSymE
import Derived.Test.YtpjenggjcpahaaaSymF
import Derived.Test.YtpjenggjcpahaaaIds
import Derived.Test.YtpjenggjcpahaaaNp
import Derived.Test.YtpjenggjcpahaaaSeq
import Derived.Test.YtpjenggjcpahaaaSeqG
import Derived.Test.YtpjenggjcpahaaaTel
import Derived.Test.YtpjenggjcpahaaaTelB
import Derived.Test.YtpjenggjcpahaaaTelC
import Derived.Test.YtpjenggjcpahaaaTelD
import Derived.Test.YtpjenggjcpahaaaDraw
import Derived.Test.YtpjenggjcpahaaaDrawC
import Derived.Test.YtpjenggjcpahaaaDrawD
import Derived.Test.YtpjenggjcpahaaaDrawE
import Derived.Test.YtpjenggjcpahaaaDrawF
import Derived.Test.YtpjenggjcpahaaaDrawG
import Derived.Test.YtpjenggjcpahaaaDrawH
import Derived.Test.YtpjenggjcpahaaaDrawX
import Derived.Test.YtpjenggjcpahaaaVsT
import Derived.WalkKit
import Derived.ProofKit
import Derived.OpenShut
namespace Go.Proofs.Ytpjenggjcpahaaa.Draw
open Go.ChangeShapes Go.WideShapes Go.ChangeAt Go.RowKit Go.Sx Go.Proofs.Ytpjenggjcpahaaa.Ids Go.Proofs.Ytpjenggjcpahaaa.Seq Go.Proofs.Ytpjenggjcpahaaa.Tel
set_option linter.unusedVariables false
set_option linter.unusedSimpArgs false

theorem aslS (q off len : Nat) (h : 2 ≤ len) : aslice (symNum []) (tiOf Try.prog) 25 (.rsl q off len none) (some (.int .i64 (.c 1))) none none = some (.rsl q (off + 1) (len - 1) none) := by
  have h1 : ¬ 1 = len := by omega
  have h2 : 1 ≤ len := by omega
  simp [aslice, tiS, tiI, bound, idx?, symNum, h1, h2]
theorem aslSS (q off len : Nat) (h : 2 ≤ len) : aslice (symNum []) (tiOf Try.prog) 23 (.rsl q off len none) (some (.int .i64 (.c 1))) none none = some (.rsl q (off + 1) (len - 1) none) := by
  have h1 : ¬ 1 = len := by omega
  have h2 : 1 ≤ len := by omega
  simp [aslice, tiSS, tiS, bound, idx?, symNum, h1, h2]
theorem storeAny {S : Sto Sy} {q : Nat} {rs : List Rw} {v : V Sy} (h : IsR S.obs q rs v) {k : Nat} (hk : k < rs.length) (a b l : Nat) (c : Option Nat) : astore (tiOf Try.prog) S 25 (.ptr q k) (.rsl a b l c) = some (S.write q ((rowsW rs).set k (.rsl a b l c))) := by
  have h2 : k + 1 ≤ (rowsW rs).length := by simp [rowsW]; omega
  have ho : lookC S.obs q = some (rowsW rs) := by simp only [lookC, h.obj, (rowsW_nm rs).1]; rfl
  simp only [astore, tiS, V.cells, ho]
  simp [setRange, V.oneCell, hk, rowsW]
  omega
attribute [local simp] aops wants aop apure St.eval setTm_some setTm_none Tr.get_set evals pevals apureB alen tiS tiI tiB tiY tiU tiSs tiSr tiSS abin aint isCmp sym_lt sym_eqs sym_neqs sym_eq sym_neq sym_gtr sym_leq sym_geq sym_add sym_sub sym_mul aeff aeffB idx? ofV aindexAddr aggDesc aifc_int fldP0 fldP1 aun
set_option maxRecDepth 10000 in
theorem drawPO_run (bs : List Int) (hbs0 : ∀ b, b ∈ bs → 0 ≤ b ∧ b < 256) (m : Nat) : ∃ r, symRun Try.prog K0 [] (m + 100) 11 [.slice (u8s bs)] ⟨0, [], 0⟩ = some r ∧ Ws r.2 ∧ Dn r.2 r.1 := by
  refine own_run2 (n := m + 99) hK0 Try.func11 rfl rfl ?_
  simp only [Try.f11]
  have hr := readerC bs (m + 99) (by omega)
  obtain ⟨S1, e1, h1⟩ := reader0 bs
  rw [← e1] at hr
  have hbs := take2000 hbs0
  generalize bs.take 2000 = bs1 at h1 hbs
  have n1 : S1.next = 1 := by rw [e1]
  clear e1
  obtain ⟨_, T1, c1, hn1, n, rfl, hx1, hx2⟩ := lengthOf bs1 hbs h1 (by omega) (m + 99) (by omega)
  obtain ⟨_, T2, c2, hn2, v1, v2, rfl, q1, q2, z1, z2, a1, a2, a3, a4, a5, a6, a7, a8, a9⟩ := pairOf bs1 hbs hn1.rd (by omega) n (by omega) (by omega) (m + 99) (by omega)
  have t2 := hn1.trans h1.desc hn2 (by simp)
  have e1 := hn1.next
  have e2 := hn2.next
  have st2 := storeP (S := T2.new [V.nil, V.nil]) (v := v1) (w := v2) (lookN T2 V.nil V.nil) (by obtain ⟨cp, rfl, _⟩ := a4.val; rfl) (by obtain ⟨cp, rfl, _⟩ := a5.val; rfl)
  have t3 := (t2.behind [V.nil, V.nil]).wrote h1.desc (q := T2.next) (by omega) (.inr (by omega)) [v1, v2]
  have m3 := lookW (a := v1) (b := v2) (lookN T2 V.nil V.nil)
  have b1 := hn2.rd.desc.look_lt a4.obj
  have b2 := hn2.rd.desc.look_lt a5.obj
  have j1 := islW (cs := [v1, v2]) (r := T2.next) (a4.new (n := 0) hn2.rd.desc [V.nil, V.nil]) (by omega)
  have j2 := islW (cs := [v1, v2]) (r := T2.next) (a5.new (n := 0) hn2.rd.desc [V.nil, V.nil]) (by omega)
  have e3 : ((T2.new [V.nil, V.nil]).write T2.next [v1, v2]).next = T2.next + 1 := rfl
  generalize (T2.new [V.nil, V.nil]).write T2.next [v1, v2] = T3 at t3 m3 st2 j1 j2 e3
  have hp : PairL z1 z2 := ⟨by omega, by omega, by omega, a8, a9⟩
  obtain ⟨T4, c4, hn4, e4, o4, k4⟩ := telCall (args := [.agg [v1, v2]]) t3.rd t3.low K0_vp (dPair_eq (isL_consts (S := ⟨T3.next, T3.obs, T3.next⟩) j1) (isL_consts (S := ⟨T3.next, T3.obs, T3.next⟩) j2) hp) (m + 99) (by omega)
  have t4 := t3.trans h1.desc hn4 (by simp)
  have m4 := k4 _ _ m3
  have fin : ∀ (T : Sto Sy) (q off len : Nat) (cp : Option Nat) (zss : List (List Int)) {P : Int}, Nw bs1 0 P [] S1 T → rowsOf T (.rsl q off len cp) = some zss → zss.length ≤ 6 → (∀ r, r ∈ zss → r.length ≤ 6) → (∀ r, r ∈ zss → ∀ z, z ∈ r → IntKind.i64.wrap z = z) → Ws (T.trim 0 (.rsl q off len cp)) ∧ Dn (T.trim 0 (.rsl q off len cp)) (.rsl q off len cp) := by
    intro T q off len cp zss P hT hz h1 h2 h3
    exact ⟨⟨trim_desc hT.rd.desc, by rw [trim_lowW, trim_next]; have := hT.low; omega⟩, zss, rowsOf_trim hz, h1, h2, h3⟩
  cases hb : vpB z1 z2 with
  | false =>
    rw [hb] at c4
    have ho := look_new T4 (nums [1])
    have hw : Go.Sx.look ((T4.new (ints (nums [1]))).new [V.rsl T4.next 0 1 (some 1)]).obs (T4.next + 1) = some [V.rsl T4.next 0 1 (some 1)] := by
      show Go.Sx.look ((T4.next + 1, noBc [V.rsl T4.next 0 1 (some 1)]) :: (T4.new (ints (nums [1]))).obs) (T4.next + 1) = _
      rw [look_cons, if_pos rfl]; rfl
    have ho2 : Go.Sx.look ((T4.new (ints (nums [1]))).new [V.rsl T4.next 0 1 (some 1)]).obs T4.next = some (ints (nums [1])) := by
      show Go.Sx.look ((T4.next + 1, noBc [V.rsl T4.next 0 1 (some 1)]) :: (T4.new (ints (nums [1]))).obs) T4.next = _
      rw [look_cons, if_neg (by omega)]; exact ho
    have hz := rowsOf_mk (S := (T4.new (ints (nums [1]))).new [V.rsl T4.next 0 1 (some 1)]) (q := T4.next + 1) (off := 0) (len := 1) (cp := some 1) (ps := [(V.rsl T4.next 0 1 (some 1), [1])]) hw rfl (by simp) rfl (by simp [capOk]) (fun p hp => by
      simp at hp
      subst hp
      exact isL_consts (S := (T4.new (ints (nums [1]))).new [V.rsl T4.next 0 1 (some 1)]) ⟨⟨some 1, rfl, .inr rfl⟩, ho2⟩)
    have t5 := (t4.behind (ints (nums [1]))).behind [V.rsl T4.next 0 1 (some 1)]
    have eN : (T4.new (ints (nums [1]))).next = T4.next + 1 := rfl
    have hL := litRw (T4.new (ints (nums [1]))) T4.next 1 (some 1)
    rw [eN] at hL
    generalize (T4.new (ints (nums [1]))).new [V.rsl T4.next 0 1 (some 1)] = T5 at hz t5 hL
    repeat' (first | refine Wp.seq ?_ | refine Wp.block ?_ | (apply Wp.region; focus ((try simp [setArgs, hr, c1, c2, allocP, st2, loadP m3, c4, litx, hL]) <;> rfl)) | (refine Wp.cond_t ?_ ?_; focus (simp [setArgs, hr, c1, c2, allocP, st2, loadP m3, c4, litx, hL]; done)) | (refine Wp.cond_f ?_ ?_; focus (simp [setArgs, hr, c1, c2, allocP, st2, loadP m3, c4, litx, hL]; done)) | refine Wp.skip ?_ | refine Wp.ret ?_ | refine Wp.exit ?_ | refine Blk.here ?_ | (refine Blk.past ?_ ?_; focus (simp; done)))
    refine ⟨rfl, answer_trim1 (v := .rsl (T4.next + 1) 0 1 (some 1)) (by simp) (fin T5 _ _ _ _ _ t5 hz (by simp) (by simp) (fun r hr z hz => by simp at hr; subst hr; simp at hz; subst hz; decide))⟩
  | true =>
    rw [hb] at c4
    obtain ⟨T5, c5, hn5, e5, o5, k5⟩ := telCall (args := [.agg [v1, v2]]) t4.rd t4.low K0_arr (dPair_eq (isL_consts (S := ⟨T4.next, T4.obs, T4.next⟩) ⟨j1.val, k4 _ _ j1.obj⟩) (isL_consts (S := ⟨T4.next, T4.obs, T4.next⟩) ⟨j2.val, k4 _ _ j2.obj⟩) hp) (m + 99) (by omega)
    have t5 := t4.trans h1.desc hn5 (by simp)
    obtain ⟨al1, al2⟩ := arrF_len (p := (z1, z2)) hp
    have anr := arrF_nrm (p := (z1, z2)) hp
    have z5 := isR_tel o5
    have hrl : (rwsN (T4.next + 1) (arrF (z1, z2))).length = n := by rw [rwsN_len, al1]; exact a6
    have hrm : ∀ r, r ∈ rwsN (T4.next + 1) (arrF (z1, z2)) → T4.next < r.1 ∧ r.2.1.length = n ∧ r.2.2 = none ∧ ∀ z, z ∈ r.2.1 → IntKind.i64.wrap z = z := fun r hr => by
      obtain ⟨i, f1, f2, f3⟩ := rwsN_mem _ _ _ hr
      have := List.mem_of_getElem? f1
      exact ⟨by omega, by rw [al2 _ this]; exact a6, f3, anr _ this⟩
    have hnums : (rwsN (T4.next + 1) (arrF (z1, z2))).map (·.2.1) = arrF (z1, z2) := rwsN_nums _ _
    have hRl : (arrF (z1, z2)).length = n := by rw [al1]; exact a6
    simp only [rowsR, hRl] at c5 z5
    generalize hrs : rwsN (T4.next + 1) (arrF (z1, z2)) = rs at z5 hrl hrm hnums
    obtain ⟨q, hq⟩ : ∃ q, q = T4.next := ⟨_, rfl⟩
    rw [← hq] at c5 z5 hrm
    have hqo : q ≠ 0 := by omega
    have hro : ∀ r, r ∈ rs → r.1 ≠ 0 := fun r hr => by have := (hrm r hr).1; omega
    obtain ⟨x, T6, c6, hn6, hk1, hk2⟩ := pickC bs1 hbs t5.rd (by omega) (n : Int) (by omega) (m + 99) (by omega)
    obtain ⟨k, rfl⟩ : ∃ k : Nat, x = k := ⟨x.toNat, by omega⟩
    have hkn : k < n := by omega
    have hkl : k < rs.length := by omega
    have t6 := t5.trans h1.desc hn6 (by simp)
    have z6 := z5.keep hn6 hqo hro
    obtain ⟨y, T7, c7, hn7, hy1, hy2⟩ := pickC bs1 hbs t6.rd (by omega) 12 (by omega) (m + 99) (by omega)
    have t7 := t6.trans h1.desc hn7 (by simp)
    have z7 := z6.keep hn7 hqo hro
    have bnd : ∀ r, r ∈ rs.map (·.2.1) → r.length ≤ 6 ∧ ∀ z, z ∈ r → IntKind.i64.wrap z = z := fun r hr => by
      obtain ⟨w, hw, rfl⟩ := List.mem_map.1 hr
      exact ⟨by rw [(hrm w hw).2.1]; omega, (hrm w hw).2.2.2⟩
    have hcell := loadP m3
    have hcell4 := loadP m4
    by_cases hy0 : y = 0
    · subst hy0
      repeat' (first | refine Wp.seq ?_ | refine Wp.block ?_ | (apply Wp.region; focus ((try simp [setArgs, hr, c1, c2, allocP, st2, hcell, c4, hcell4, c5, c6, c7]) <;> rfl)) | (refine Wp.cond_t ?_ ?_; focus (simp [setArgs, hr, c1, c2, allocP, st2, hcell, c4, hcell4, c5, c6, c7]; done)) | (refine Wp.cond_f ?_ ?_; focus (simp [setArgs, hr, c1, c2, allocP, st2, hcell, c4, hcell4, c5, c6, c7]; done)) | refine Wp.skip ?_ | refine Wp.ret ?_ | refine Wp.exit ?_ | refine Blk.here ?_ | (refine Blk.past ?_ ?_; focus (simp; done)))
      have dU := t7.rd.desc
      have lU : T7.low ≤ T7.next := by have := t7.low; omega
      have lt0 := t7.rd.lt
      obtain ⟨pU, hpU, rU⟩ := t7.rd
      have oU := rU.obj
      have mU := z7.obj
      have hqU := dU.look_lt mU
      obtain ⟨Q, hQ⟩ : ∃ Q, Q = rs.map (·.1) := ⟨_, rfl⟩
      have hrefs : refsL (rowsW rs) = Q := by
        rw [hQ]
        clear hQ
        have : ∀ l : List Rw, refsL (rowsW l) = l.map (·.1) := by
          intro l
          induction l with
          | nil => rfl
          | cons r l ih =>
            show refsL (rwV r :: rowsW l) = _
            simp only [refsL, rwV, V.refs, ih]; rfl
        exact this rs
      have hQm : ∀ a, a ∈ Q → a < T7.next ∧ a ≠ 0 ∧ a ≠ q ∧ ∃ zs, Go.Sx.look T7.obs a = some (ints (nums zs)) := fun a ha => by
        rw [hQ] at ha
        obtain ⟨r, hr, rfl⟩ := List.mem_map.1 ha
        have hrow := z7.row r hr
        exact ⟨dU.look_lt hrow.obj, hro r hr, by have := (hrm r hr).1; omega, _, hrow.obj⟩
      have hdq : deeper T7.obs [q] = Q := by simp only [deeper, mU, hrefs, List.append_nil]
      have hQne : Q ≠ [] := by
        rw [hQ]; intro e
        have := congrArg List.length e
        simp at this
        rw [this] at hrl
        simp at hrl
        omega
      have hreach := reach_rows hdq hQne (deeper_ints Q (fun a ha => (hQm a ha).2.2.2))
      have ob0 : ∀ ok : Nat → Bool, obsIn ok (onlyObs [] T7.obs) = true := fun ok => by rw [onlyObs_nil]; rfl
      have ob3 : obsIn (fun o => (q :: Q).contains o) (onlyObs [q] T7.obs) = true := obsIn_of dU (fun a ha b hb => by
        have ha : a = q := by simpa using ha
        subst ha
        rw [mU] at hb
        cases hb
        rw [hQ]
        have : ∀ l : List Rw, (∀ r, r ∈ l → r ∈ rs) → inNs (fun o => (a :: rs.map (·.1)).contains o) (rowsW l) = true := by
          intro l
          induction l with
          | nil => intro _; rfl
          | cons r l ih =>
            intro h
            show ((rwV r).inN _ && inNs _ (rowsW l)) = true
            rw [ih (fun x hx => h x (by simp [hx]))]
            simp only [rwV, V.inN, Bool.and_true, List.contains_iff_mem]
            exact List.mem_cons_of_mem _ (List.mem_map.2 ⟨r, h r (by simp), rfl⟩)
        exact this rs (fun r hr => hr))
      have ob6 : obsIn (fun o => (q :: Q).contains o) (onlyObs (q :: Q) T7.obs) = true := obsIn_of dU (fun a ha b hb => by
        rw [List.contains_iff_mem] at ha
        rcases List.mem_cons.1 ha with rfl | ha
        · have := ob3
          have h9 : ∀ {n : Nat} {l : List (Nat × Ob Sy)}, Desc n l → obsIn (fun o => (a :: Q).contains o) (onlyObs [a] l) = true → ∀ b, Go.Sx.look l a = some b → inNs (fun o => (a :: Q).contains o) b = true := by
            intro n l hd
            induction l generalizing n with
            | nil => intro _ b hb; cases hb
            | cons x r ih =>
              obtain ⟨k', c⟩ := x
              intro ho b hb
              rw [look_cons] at hb
              by_cases hk : k' = a
              · subst hk
                rw [if_pos rfl] at hb
                cases hb
                simp only [onlyObs, List.contains_cons, beq_self_eq_true, Bool.true_or, if_true, obsIn, Bool.and_eq_true] at ho
                exact ho.1
              · rw [if_neg (by first | exact hk | exact fun h => hk h.symm)] at hb
                have hc : ([a].contains k') = false := by simp [hk]
                simp only [onlyObs, hc, Bool.false_eq_true, if_false] at ho
                exact ih hd.2 ho b hb
          exact h9 dU ob3 b hb
        · obtain ⟨_, _, _, zs, hz⟩ := hQm a ha
          rw [hz] at hb
          cases hb
          exact inNs_nums _)
      obtain ⟨x9, S9, hc9, hn9, hx91, hx92⟩ := pickC bs1 hbs (rdyOnly t7.rd) (by omega) (n : Int) (by omega) (m + 99) (by omega)
      obtain ⟨i9, rfl⟩ : ∃ i9 : Nat, x9 = i9 := ⟨x9.toNat, by omega⟩
      have hi9 : i9 < n := by omega
      obtain ⟨w9, W9, hd9, hm9, _⟩ := pickC bs1 hbs (t7.rd.lows T7.next) (by omega) (n : Int) (by omega) (m + 99) (by omega)
      have hble : Nat.ble T7.next W9.low = false := by have := hm9.low; rw [Bool.eq_false_iff, ne_eq, Nat.ble_eq]; omega
      obtain ⟨j9, j9b⟩ := joined t7.rd hn9
      have hS9n : T7.next ≤ S9.next := hn9.next
      have hS9l : S9.low ≤ 0 := hn9.low
      obtain ⟨J1, hJ1⟩ : ∃ J1 : Sto Sy, J1 = ⟨S9.next, takeNew T7.next S9.obs ++ over [0] S9.obs T7.obs, if Nat.blt S9.low T7.low then S9.low else T7.low⟩ := ⟨_, rfl⟩
      rw [← hJ1] at j9
      have eJ1n : J1.next = S9.next := by rw [hJ1]
      have eJ1o : J1.obs = takeNew T7.next S9.obs ++ over [0] S9.obs T7.obs := by rw [hJ1]
      have eJ1l : J1.low = if Nat.blt S9.low T7.low then S9.low else T7.low := by rw [hJ1]
      have jl := j9.low
      have k2' := j9.behind (ints (nums [2, 0, -1, 4611686018427387904]))
      have eN2 : (J1.new (ints (nums [2, 0, -1, 4611686018427387904]))).obs = (S9.next, ints (nums [2, 0, -1, 4611686018427387904])) :: J1.obs := by
        show (J1.next, noBc (ints (nums [2, 0, -1, 4611686018427387904]))) :: J1.obs = _
        rw [noBc_ints, eJ1n]
      have hl2 := look_new J1 (nums [2, 0, -1, 4611686018427387904])
      have eNn : (J1.new (ints (nums [2, 0, -1, 4611686018427387904]))).next = S9.next + 1 := by show J1.next + 1 = _; rw [eJ1n]
      obtain ⟨J2, hJ2⟩ : ∃ J2 : Sto Sy, J2 = J1.new (ints (nums [2, 0, -1, 4611686018427387904])) := ⟨_, rfl⟩
      rw [← hJ2] at k2' eN2 hl2 eNn
      rw [eJ1n] at hl2
      have d2 := k2'.rd.desc
      obtain ⟨v10, S10, hc10, hn10, x10, rfl, hx10⟩ : ∃ v S, acallV (symIn Try.prog K0 [] (m + 99)) ⟨J2.next, onlyObs [0, S9.next] J2.obs, J2.next⟩ (.func 47 [] []) [.ptr 0 0, .rsl S9.next 0 4 (some 4)] = some (v, S) ∧ Nw bs1 0 (0 + 1 + 1000 + 1 + 1 + 1 + 1) [] ⟨J2.next, onlyObs [0, S9.next] J2.obs, J2.next⟩ S ∧ ∃ x, v = .int .i64 (.c x) ∧ x ∈ ([2, 0, -1, 4611686018427387904] : List Int) := by
        obtain ⟨p, hp, hr'⟩ := k2'.rd
        have hZ : Rd bs1 0 p (⟨J2.next, onlyObs [0, S9.next] J2.obs, J2.next⟩ : Sto Sy) := ⟨by show Go.Sx.look (onlyObs [0, S9.next] J2.obs) 0 = _; rw [onlyObs_look, if_pos (by simp)]; exact hr'.obj, onlyObs_desc hr'.desc, hr'.p0⟩
        obtain ⟨_, h1', x, s1, rfl, h2', h4'⟩ := one bs1 hbs 0 p [2, 0, -1, 4611686018427387904] _ hZ (by omega) S9.next (by omega) (by show Go.Sx.look (onlyObs [0, S9.next] J2.obs) S9.next = _; rw [onlyObs_look, if_pos (by simp)]; exact hl2) (by simp) (by simp) (m + 97)
        exact run_call (Φ := fun v _ => ∃ x, v = .int .i64 (.c x) ∧ x ∈ ([2, 0, -1, 4611686018427387904] : List Int)) ⟨_, h1', h4'.nw (by omega), x, rfl, h2'⟩
      have j10 := joined2 k2'.rd hl2 (by omega) hn10 J1.low jl
      obtain ⟨J3, hJ3⟩ : ∃ J3 : Sto Sy, J3 = ⟨S10.next, takeNew J2.next S10.obs ++ over [0, S9.next] S10.obs J2.obs, if Nat.blt S10.low J1.low then S10.low else J1.low⟩ := ⟨_, rfl⟩
      rw [← hJ3] at j10
      have tkU := takeNew_id dU
      have ldO : aload (tiOf Try.prog) ⟨T7.next, onlyObs [q] T7.obs, T7.next⟩ 25 (.ptr q k) = some (.rsl rs[k].1 0 n none) := by
        obtain ⟨g1, g2, g3, g4⟩ := hrm rs[k] (List.getElem_mem hkl)
        refine loadS (S := ⟨T7.next, onlyObs [q] T7.obs, T7.next⟩) (b := rowsW rs) (by show Go.Sx.look (onlyObs [q] T7.obs) q = _; rw [onlyObs_look, if_pos (by simp)]; exact mU) ?_ (rowsW_nm rs).1
        simp [rowsW, hkl, rwV, g2, g3]
      have ldF : aload (tiOf Try.prog) ⟨T7.next, T7.obs, T7.next⟩ 25 (.ptr q k) = some (.rsl rs[k].1 0 n none) := by
        obtain ⟨g1, g2, g3, g4⟩ := hrm rs[k] (List.getElem_mem hkl)
        refine loadS (S := ⟨T7.next, T7.obs, T7.next⟩) (b := rowsW rs) mU ?_ (rowsW_nm rs).1
        simp [rowsW, hkl, rwV, g2, g3]
      have lit4 : ∀ sto : Sto Sy, abuildSlice (symNum []) (tiOf Try.prog) sto 25 4 [(0, .int .i64 (.c 2)), (1, .int .i64 (.c 0)), (2, .int .i64 (.c (-1))), (3, .int .i64 (.c 4611686018427387904))] = some (.rsl sto.next 0 4 (some 4), sto.new (ints (nums [2, 0, -1, 4611686018427387904]))) := fun sto => by kernel_rfl
      have hrk : rs[k]? = some rs[k] := List.getElem?_eq_getElem hkl
      obtain ⟨g1, g2, g3, g4⟩ := hrm rs[k] (List.getElem_mem hkl)
      have zJ := (z7.keep k2' hqo hro).keep j10 hqo hro
      have hrowJ := zJ.row rs[k] (List.getElem_mem hkl)
      have stJ := store_ok (T := tiOf Try.prog) tiI hrowJ (i := i9) (x := x10) (by omega)
      have tJ := ((t7.trans h1.desc k2' (by simp)).trans h1.desc j10 (by simp)).wrote h1.desc (hro _ (List.getElem_mem hkl)) (.inr (by omega)) (ints (nums (rs[k].2.1.set i9 x10)))
      have zz := (zJ.setIn hrk i9 x10).rows
      have hx10w : IntKind.i64.wrap x10 = x10 := by
        simp at hx10
        rcases hx10 with rfl | rfl | rfl | rfl <;> decide
      generalize J3.write rs[k].1 (ints (nums (rs[k].2.1.set i9 x10))) = J4 at stJ tJ zz
      refine drawX2 (tm2 := ?tm9) (st' := ?st9) (s2 := J3) 11 10 7 9 (by kernel_rfl) (by kernel_rfl) (by kernel_rfl) (fun F => ?g1) (fun F hF7 hF9 => ?g2) ?g3 ?g4
      case g1 =>
        simp [dhead, seenBy, keepOnly, looks, joinN, addN, bite_eq, Op.operands, Call.operands, tkU, hd9, hble, ldF, hkn, hk2]
      case g2 =>
        have hQall : (Q.all fun o => Nat.blt o T7.next) = true := List.all_eq_true.2 (fun a ha => by rw [Nat.blt_eq]; exact (hQm a ha).1)
        have hQap : ∀ a, a ∈ Q → a < T7.next := fun a ha => (hQm a ha).1
        have hQl2 : ∀ a, a ∈ q :: Q → a < T7.next := fun a ha => by
          rcases List.mem_cons.1 ha with rfl | ha
          · exact hqU
          · exact hQap a ha
        have hQself : ((q :: Q).all fun o => (q :: Q).contains o) = true := List.all_eq_true.2 (fun a ha => by rw [List.contains_iff_mem]; exact ha)
        refine (xpure (v := .rsl q 0 n none) [] [q] (by simp [shown, sightOf, rootsOf, looks, Op.operands, Call.operands, V.refs, deeper, mU, hrefs, refsL, hreach]) (by simp only [fitX, ob0]; simp [temsIn, looks, Op.operands, Call.operands, V.inN, hqU, lt0, hQall, hQself]) (by simp [wants]) (by simp [seenX, keepOnly, looks, Op.operands, Call.operands, ldO, hkn, hk2]) dU lU (fun a ha => by first | (simp at ha; done) | (simp at ha; omega) | exact hQl2 a ha) (by simp [apart, hqU, lt0, hQap])).trans ?_
        refine (xpure (v := .int .i64 (.c k)) [] [] (by simp [shown, sightOf, rootsOf, looks, Op.operands, Call.operands, V.refs, deeper, mU, hrefs, refsL, hreach]) (by simp only [fitX, ob0]; simp [temsIn, looks, Op.operands, Call.operands, V.inN, hqU, lt0, hQall, hQself]) (by simp [wants]) (by simp [seenX, keepOnly, looks, Op.operands, Call.operands, ldO, hkn, hk2]) dU lU (fun a ha => by first | (simp at ha; done) | (simp at ha; omega) | exact hQl2 a ha) (by simp [apart, hqU, lt0, hQap])).trans ?_
        refine (xpure (v := .ptr q k) [] [q] (by simp [shown, sightOf, rootsOf, looks, Op.operands, Call.operands, V.refs, deeper, mU, hrefs, refsL, hreach]) (by simp only [fitX, ob0]; simp [temsIn, looks, Op.operands, Call.operands, V.inN, hqU, lt0, hQall, hQself]) (by simp [wants]) (by simp [seenX, keepOnly, looks, Op.operands, Call.operands, ldO, hkn, hk2]) dU lU (fun a ha => by first | (simp at ha; done) | (simp at ha; omega) | exact hQl2 a ha) (by simp [apart, hqU, lt0, hQap])).trans ?_
        refine (xpure (v := .rsl rs[k].1 0 n none) [q] (q :: Q) (by simp [shown, sightOf, rootsOf, looks, Op.operands, Call.operands, V.refs, deeper, mU, hrefs, refsL, hreach]) (by simp only [fitX, ob3]; simp [temsIn, looks, Op.operands, Call.operands, V.inN, hqU, lt0, hQall, hQself]) (by simp [wants]) (by simp [seenX, keepOnly, looks, Op.operands, Call.operands, ldO, hkn, hk2]) dU lU (fun a ha => by first | (simp at ha; done) | (simp at ha; omega) | exact hQl2 a ha) (by simp [apart, hqU, lt0, hQap])).trans ?_
        refine (xpure (v := .ptr 0 0) [] [0] (by simp [shown, sightOf, rootsOf, looks, Op.operands, Call.operands, V.refs, deeper, mU, hrefs, refsL, hreach]) (by simp only [fitX, ob0]; simp [temsIn, looks, Op.operands, Call.operands, V.inN, hqU, lt0, hQall, hQself]) (by simp [wants]) (by simp [seenX, keepOnly, looks, Op.operands, Call.operands, ldO, hkn, hk2]) dU lU (fun a ha => by first | (simp at ha; done) | (simp at ha; omega) | exact hQl2 a ha) (by simp [apart, hqU, lt0, hQap])).trans ?_
        refine (xpure (v := .rsl q 0 n none) [] [q] (by simp [shown, sightOf, rootsOf, looks, Op.operands, Call.operands, V.refs, deeper, mU, hrefs, refsL, hreach]) (by simp only [fitX, ob0]; simp [temsIn, looks, Op.operands, Call.operands, V.inN, hqU, lt0, hQall, hQself]) (by simp [wants]) (by simp [seenX, keepOnly, looks, Op.operands, Call.operands, ldO, hkn, hk2]) dU lU (fun a ha => by first | (simp at ha; done) | (simp at ha; omega) | exact hQl2 a ha) (by simp [apart, hqU, lt0, hQap])).trans ?_
        refine (xpure (v := .int .i64 (.c n)) (q :: Q) (q :: Q) (by simp [shown, sightOf, rootsOf, looks, Op.operands, Call.operands, V.refs, deeper, mU, hrefs, refsL, hreach]) (by simp only [fitX, ob6]; simp [temsIn, looks, Op.operands, Call.operands, V.inN, hqU, lt0, hQall, hQself]; exact fun x hx => .inr hx) (by simp [wants]) (by simp [seenX, keepOnly, looks, Op.operands, Call.operands, ldO, hkn, hk2]) dU lU (fun a ha => by first | (simp at ha; done) | (simp at ha; omega) | exact hQl2 a ha) (by simp [apart, hqU, lt0]; exact ⟨.inr (fun x hx => .inl (hQap x hx)), .inr (fun x hx => .inl (hQap x hx)), .inr (fun x hx => .inl (hQap x hx)), .inr (fun x hx => .inl (hQap x hx)), .inr (fun x hx => .inl (hQap x hx)), .inr (fun x hx => .inl (hQap x hx))⟩)).trans ?_
        have ob7 : obsIn (fun o => [0].contains o) (onlyObs [0] T7.obs) = true := obsIn_of dU (fun a ha b hb => by
          have ha : a = 0 := by simpa using ha
          subst ha
          rw [oU] at hb
          cases hb
          simp [inNs, V.inN, inNs_u8s])
        have hw7 : wroteOf [0] S9.low = [0] := by simp [wroteOf]; omega
        have hq0 : ¬ q = 0 := hqo
        have hq0' : ¬ 0 = q := fun e => hqo e.symm
        have h0Q : ¬ 0 ∈ Q := fun h => (hQm 0 h).2.1 rfl
        refine (xgen (v := .int .i64 (.c i9)) (s := S9) [0] [0] [0] (by simp [shown, sightOf, rootsOf, looks, Op.operands, Call.operands, V.refs, deeper, oU, refsL, reach, refs_u8s]) (by simp only [fitX, ob7]; simp [temsIn, looks, Op.operands, Call.operands, V.inN, lt0]) (by simp [wants]) (by simp [seenX, keepOnly, looks, Op.operands, Call.operands, hc9]) hw7 hS9n hn9.rd.desc (by simp [onlyObs_look, oU]) (by simp [apart, lt0, hq0, hq0', h0Q])).trans ?_
        rw [← eJ1o, ← eJ1l]
        have dJ1 : Desc S9.next J1.obs := by rw [← eJ1n]; exact j9.rd.desc
        have lJ1 : J1.low ≤ S9.next := by omega
        have ob8 : ∀ ok : Nat → Bool, obsIn ok (onlyObs [] J1.obs) = true := fun ok => by rw [onlyObs_nil]; rfl
        have lt9 : 0 < S9.next := by omega
        refine (xpure (v := .ptr 0 0) [] [0] (by simp [shown, sightOf, rootsOf, looks, Op.operands, Call.operands, V.refs]) (by simp only [fitX, ob8]; simp [temsIn, looks, Op.operands, Call.operands, V.inN, lt9]) (by simp [wants]) (by simp [seenX, keepOnly, looks, Op.operands, Call.operands]) dJ1 lJ1 (fun a ha => by simp at ha; omega) (by simp [apart])).trans ?_
        have nb4 : noBc (ints (nums [2, 0, -1, 4611686018427387904])) = ints (nums [2, 0, -1, 4611686018427387904]) := noBc_ints _
        have tk9 : takeNew S9.next ((S9.next, ints (nums [2, 0, -1, 4611686018427387904])) :: onlyObs [] J1.obs) ++ over [] ((S9.next, ints (nums [2, 0, -1, 4611686018427387904])) :: onlyObs [] J1.obs) J1.obs = J2.obs := by
          rw [over_nil, onlyObs_nil, eN2]
          simp [takeNew, bite_eq]
        have lo9 : (if Nat.blt S9.next J1.low then S9.next else J1.low) = J1.low := by rw [if_neg (by rw [Nat.blt_eq]; omega)]
        refine (xgen (v := .rsl S9.next 0 4 (some 4)) (s := ⟨S9.next + 1, (S9.next, ints (nums [2, 0, -1, 4611686018427387904])) :: onlyObs [] J1.obs, S9.next⟩) [] [] [] (by simp [shown, sightOf, rootsOf, looks, Op.operands, Call.operands, V.refs]) (by simp only [fitX, ob8]; simp [temsIn, looks, Op.operands, Call.operands, V.inN]) (by simp [wants]) (by simp [seenX, keepOnly, looks, Op.operands, Call.operands, lit4, Sto.new, nb4]) rfl (Nat.le_succ _) ⟨Nat.lt_succ_self _, onlyObs_desc dJ1⟩ rfl (by simp [apart])).trans ?_
        rw [tk9, lo9]
        obtain ⟨pJ, _, rJ⟩ := k2'.rd
        have oJ := rJ.obj
        have dJ2 : Desc (S9.next + 1) J2.obs := by rw [← eNn]; exact d2
        have ob10 : obsIn (fun o => [0, S9.next].contains o) (onlyObs [0, S9.next] J2.obs) = true := obsIn_of dJ2 (fun a ha b hb => by
          have ha : a = 0 ∨ a = S9.next := by simpa using ha
          rcases ha with rfl | rfl
          · rw [oJ] at hb
            cases hb
            simp [inNs, V.inN, inNs_u8s]
          · rw [hl2] at hb
            cases hb
            exact inNs_nums _)
        have hn10l : S10.low ≤ 0 := hn10.low
        have hn10n : J2.next ≤ S10.next := hn10.next
        have hn10n' : S9.next + 1 ≤ S10.next := by rw [← eNn]; exact hn10n
        have eJ3 : (⟨S10.next, takeNew (S9.next + 1) S10.obs ++ over [0, S9.next] S10.obs J2.obs, if Nat.blt S10.low J1.low then S10.low else J1.low⟩ : Sto Sy) = J3 := by rw [hJ3, eNn]
        have hw10 : wroteOf [0, S9.next] S10.low = [0, S9.next] := by simp [wroteOf]; omega
        have h9Q : ¬ S9.next ∈ Q := fun h => by have := hQap _ h; omega
        have h9q : ¬ S9.next = q := by omega
        have h9q' : ¬ q = S9.next := by omega
        have hz9 : ¬ 0 = S9.next := by omega
        have hz9' : ¬ S9.next = 0 := by omega
        rw [eNn] at hc10
        simp at hF7 hF9
        have rf : refsL (ints (nums [2, 0, -1, 4611686018427387904])) = [] := refs_nums _
        refine (xgen (v := .int .i64 (.c x10)) (s := S10) [0, S9.next] [0, S9.next] [0, S9.next] (by simp [shown, sightOf, rootsOf, looks, Op.operands, Call.operands, V.refs, deeper, oJ, hl2, refsL, reach, refs_u8s, rf]) (by simp only [fitX, ob10]; simp [temsIn, looks, Op.operands, Call.operands, V.inN]) (by simp [wants]) (by simp [seenX, keepOnly, looks, Op.operands, Call.operands, hc10]) hw10 hn10n' hn10.rd.desc (by simp [onlyObs_look, oJ, hl2]) (by simp [apart, hF7, hF9, lt0, lt9, hq0, hq0', h0Q, h9Q, h9q, h9q', hz9, hz9', hS9n])).trans ?_
        exact congrArg (fun s => some (_, s)) eJ3
      case g3 =>
        simp [hi9, hx92, stJ]
        rfl
      case g4 =>
        repeat' (first | refine Wp.seq ?_ | refine Wp.block ?_ | (apply Wp.region; focus ((try simp []) <;> rfl)) | (refine Wp.cond_t ?_ ?_; focus (simp []; done)) | (refine Wp.cond_f ?_ ?_; focus (simp []; done)) | refine Wp.skip ?_ | refine Wp.ret ?_ | refine Wp.exit ?_ | refine Blk.here ?_ | (refine Blk.past ?_ ?_; focus (simp; done)))
        refine ⟨rfl, answer_trim1 (v := .rsl q 0 n none) (by simp) (fin J4 _ _ _ _ _ tJ zz (by simp; omega) (fun r hr => ?_) (fun r hr => ?_))⟩
        · obtain ⟨w, hw, rfl⟩ := List.mem_map.1 hr
          rcases List.mem_or_eq_of_mem_set hw with hw | rfl
          · exact (bnd _ (List.mem_map.2 ⟨w, hw, rfl⟩)).1
          · simp only [List.length_set]; omega
        · obtain ⟨w, hw, rfl⟩ := List.mem_map.1 hr
          rcases List.mem_or_eq_of_mem_set hw with hw | rfl
          · exact (bnd _ (List.mem_map.2 ⟨w, hw, rfl⟩)).2
          · intro z hz
            rcases List.mem_or_eq_of_mem_set hz with hz | rfl
            · exact g4 z hz
            · exact hx10w
    by_cases hy1' : y = 1
    · subst hy1'
      have hrk : rs[k]? = some rs[k] := List.getElem?_eq_getElem hkl
      obtain ⟨g1, g2, g3, g4⟩ := hrm rs[k] (List.getElem_mem hkl)
      have ld : aload (tiOf Try.prog) T7 25 (.ptr q k) = some (.rsl rs[k].1 0 n none) := by
        refine loadS z7.obj ?_ (rowsW_nm rs).1
        simp [rowsW, hkl, rwV, g2, g3]
      have sl := aslS rs[k].1 0 n (by omega)
      rw [Nat.zero_add] at sl
      have st := storeAny z7 hkl rs[k].1 1 (n - 1) none
      have t8 := t7.wrote h1.desc (q := q) hqo (.inr (by omega)) ((rowsW rs).set k (.rsl rs[k].1 1 (n - 1) none))
      have hnm : isMp ((rowsW rs).set k (.rsl rs[k].1 1 (n - 1) none)) = false ∧ noBc ((rowsW rs).set k (.rsl rs[k].1 1 (n - 1) none)) = (rowsW rs).set k (.rsl rs[k].1 1 (n - 1) none) ∧ _ := rsl_nm (fun x hx => by
        rcases List.mem_or_eq_of_mem_set hx with hx | rfl
        · obtain ⟨r, _, rfl⟩ := List.mem_map.1 hx; exact ⟨_, _, _, _, rfl⟩
        · exact ⟨_, _, _, _, rfl⟩)
      have hob : Go.Sx.look (T7.write q ((rowsW rs).set k (.rsl rs[k].1 1 (n - 1) none))).obs q = some ((rowsW rs).set k (.rsl rs[k].1 1 (n - 1) none)) := by
        show Go.Sx.look (put T7.obs q (noBc _)) q = _
        rw [hnm.2.1]; exact look_put_self z7.obj
      have hkeep : ∀ r, r ∈ rs → ∀ x, Go.Sx.look T7.obs r.1 = some x → Go.Sx.look (T7.write q ((rowsW rs).set k (.rsl rs[k].1 1 (n - 1) none))).obs r.1 = some x := fun r hr x hx => by
        show Go.Sx.look (put T7.obs q _) r.1 = _
        rw [look_put_ne (by have := (hrm r hr).1; omega)]; exact hx
      have hz := rowsOf_mk (S := T7.write q ((rowsW rs).set k (.rsl rs[k].1 1 (n - 1) none))) (q := q) (off := 0) (len := n) (cp := none) (ps := (rs.map fun r => (rwV r, r.2.1)).set k (V.rsl rs[k].1 1 (n - 1) none, rs[k].2.1.drop 1)) hob hnm.1 (by simp [rowsW, hrl]) (by
        rw [List.drop_zero, List.take_of_length_le (by simp [rowsW, hrl]), List.map_set]
        simp only [List.map_map, rowsW]
        rfl) (by simp [capOk]) (fun p hp => by
        rcases List.mem_or_eq_of_mem_set hp with hp | rfl
        · obtain ⟨r, hr, rfl⟩ := List.mem_map.1 hp
          have := z7.row r hr
          exact isL_consts (S := T7.write q _) ⟨this.val, hkeep r hr _ this.obj⟩
        · have := hkeep _ (List.getElem_mem hkl) _ (z7.row rs[k] (List.getElem_mem hkl)).obj
          have hle : (T7.write q ((rowsW rs).set k (.rsl rs[k].1 1 (n - 1) none))).elems (V.rsl rs[k].1 1 (n - 1) none) = some (ints (nums (rs[k].2.1.drop 1))) := by
            simp only [Sto.elems, Sto.cells, lookC_ints this]
            rw [if_pos (by simp [g2]; omega)]
            simp only [ints, nums, List.map_drop]
            rw [List.take_of_length_le (by simp [g2])]
          have hcc : capOk (V.rsl rs[k].1 1 (n - 1) none : V Sy) = true := by simp [capOk]
          simp only [constsOf, hle, numsOf_nums, hcc, bite_true, consts_of])
      generalize T7.write q ((rowsW rs).set k (.rsl rs[k].1 1 (n - 1) none)) = T8 at hz t8 st
      repeat' (first | refine Wp.seq ?_ | refine Wp.block ?_ | (apply Wp.region; focus ((try simp [setArgs, hr, c1, c2, allocP, st2, hcell, c4, hcell4, c5, c6, c7, hkn, hk2, ld, sl, st, oeval]) <;> rfl)) | (refine Wp.cond_t ?_ ?_; focus (simp [setArgs, hr, c1, c2, allocP, st2, hcell, c4, hcell4, c5, c6, c7, hkn, hk2, ld, sl, st, oeval]; done)) | (refine Wp.cond_f ?_ ?_; focus (simp [setArgs, hr, c1, c2, allocP, st2, hcell, c4, hcell4, c5, c6, c7, hkn, hk2, ld, sl, st, oeval]; done)) | refine Wp.skip ?_ | refine Wp.ret ?_ | refine Wp.exit ?_ | refine Blk.here ?_ | (refine Blk.past ?_ ?_; focus (simp; done)))
      refine ⟨rfl, answer_trim1 (v := .rsl q 0 n none) (by simp) (fin T8 _ _ _ _ _ t8 hz (by simp; omega) (fun r hr => ?_) (fun r hr => ?_))⟩
      · rw [List.map_set] at hr
        rcases List.mem_or_eq_of_mem_set hr with hr | rfl
        · rw [List.map_map] at hr; exact (bnd r hr).1
        · simp [g2]; omega
      · rw [List.map_set] at hr
        rcases List.mem_or_eq_of_mem_set hr with hr | rfl
        · rw [List.map_map] at hr; exact (bnd r hr).2
        · intro z hz; exact g4 z (List.mem_of_mem_drop hz)
    by_cases hy2' : y = 2
    · subst hy2'
      have sl := aslSS q 0 n (by omega)
      rw [Nat.zero_add] at sl
      have hz := rowsOf_mk (S := T7) (q := q) (off := 1) (len := n - 1) (cp := none) (ps := (rs.drop 1).map fun r => (rwV r, r.2.1)) z7.obj (rowsW_nm rs).1 (by simp [rowsW, hrl]; omega) (by
        rw [List.take_of_length_le (by simp [rowsW, hrl])]
        simp only [rowsW, List.map_map, List.map_drop]
        rfl) (by simp [capOk]) (fun p hp => by
        obtain ⟨r, hr, rfl⟩ := List.mem_map.1 hp
        exact isL_consts (z7.row r (List.mem_of_mem_drop hr)))
      repeat' (first | refine Wp.seq ?_ | refine Wp.block ?_ | (apply Wp.region; focus ((try simp [setArgs, hr, c1, c2, allocP, st2, hcell, c4, hcell4, c5, c6, c7, sl, oeval]) <;> rfl)) | (refine Wp.cond_t ?_ ?_; focus (simp [setArgs, hr, c1, c2, allocP, st2, hcell, c4, hcell4, c5, c6, c7, sl, oeval]; done)) | (refine Wp.cond_f ?_ ?_; focus (simp [setArgs, hr, c1, c2, allocP, st2, hcell, c4, hcell4, c5, c6, c7, sl, oeval]; done)) | refine Wp.skip ?_ | refine Wp.ret ?_ | refine Wp.exit ?_ | refine Blk.here ?_ | (refine Blk.past ?_ ?_; focus (simp; done)))
      refine ⟨rfl, answer_trim1 (v := .rsl q 1 (n - 1) none) (by simp) (fin T7 _ _ _ _ _ t7 hz (by simp; omega) (fun r hr => ?_) (fun r hr => ?_))⟩
      · rw [List.map_map] at hr
        obtain ⟨w, hw, rfl⟩ := List.mem_map.1 hr
        exact (bnd _ (List.mem_map.2 ⟨w, List.mem_of_mem_drop hw, rfl⟩)).1
      · rw [List.map_map] at hr
        obtain ⟨w, hw, rfl⟩ := List.mem_map.1 hr
        exact (bnd _ (List.mem_map.2 ⟨w, List.mem_of_mem_drop hw, rfl⟩)).2
    have hz := z7.rows
    repeat' (first | refine Wp.seq ?_ | refine Wp.block ?_ | (apply Wp.region; focus ((try simp [setArgs, hr, c1, c2, allocP, st2, hcell, c4, hcell4, c5, c6, c7, hy0, hy1', hy2']) <;> rfl)) | (refine Wp.cond_t ?_ ?_; focus (simp [setArgs, hr, c1, c2, allocP, st2, hcell, c4, hcell4, c5, c6, c7, hy0, hy1', hy2']; done)) | (refine Wp.cond_f ?_ ?_; focus (simp [setArgs, hr, c1, c2, allocP, st2, hcell, c4, hcell4, c5, c6, c7, hy0, hy1', hy2']; done)) | refine Wp.skip ?_ | refine Wp.ret ?_ | refine Wp.exit ?_ | refine Blk.here ?_ | (refine Blk.past ?_ ?_; focus (simp; done)))
    exact ⟨rfl, answer_trim1 (v := .rsl q 0 n none) (by simp) (fin T7 _ _ _ _ _ t7 hz (by simp; omega) (fun r hr => (bnd r hr).1) (fun r hr => (bnd r hr).2))⟩
end Go.Proofs.Ytpjenggjcpahaaa.Draw

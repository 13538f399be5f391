/-
  Binomial sequences: what both sides compare, at symbols. No condition.
-/
import Derived.Test.YtpjenggjcpahaaaRows
import Derived.Test.YtpjenggjcpahaaaSym
import Derived.Test.YtpjenggjcpahaaaSymD
import Derived.Test.YtpjenggjcpahaaaSymE
import Derived.Test.YtpjenggjcpahaaaSymF
import Derived.Test.YtpjenggjcpahaaaSymG
import Derived.Test.YtpjenggjcpahaaaIds
import Derived.Test.YtpjenggjcpahaaaSumm
import Derived.Test.YtpjenggjcpahaaaBn
import Derived.Test.YtpjenggjcpahaaaRep
import Derived.WalkKit
import Derived.ProofKit
import Derived.OpenShut
namespace Go.Proofs.Ytpjenggjcpahaaa.Bin
open Go.ChangeShapes Go.WideShapes Go.ChangeAt Go.RowKit Go.Sx Go.Proofs.Ytpjenggjcpahaaa.Ids Go.Proofs.Ytpjenggjcpahaaa.Rep
set_option linter.unusedVariables false
set_option linter.unusedSimpArgs false

def chs : Nat → Nat → Nat
  | _, 0 => 1
  | 0, _ + 1 => 0
  | n + 1, k + 1 => chs n k + chs n (k + 1)
noncomputable def mulY (a b : Sy) : Sy := (symArith .mul .i64 a b).getD (.c 0)
noncomputable def ent (n i : Nat) : Sy := bite (Nat.ble i n) (vx (Nat.add (Nat.div (Nat.mul n (Nat.add n 1)) 2) i)) (.c 0)
noncomputable def sumY : List Sy → Sy
  | [] => .c 0
  | a :: r => plusS a (sumY r)
noncomputable def aI (n i j : Nat) : Sy := sumY ((List.range (n + 1)).map fun k => mulY (.c (chs n k : Nat)) (mulY (ent k i) (ent (n - k) j)))
noncomputable def bI (n i j : Nat) : Sy := mulY (.c (chs (i + j) i : Nat)) (ent n (i + j))
def pwr (c : Nat) : Nat → Nat
  | 0 => 1
  | m + 1 => c * pwr c m
noncomputable def valY (n c : Nat) : Sy := sumY ((List.range (n + 1)).map fun m => mulY (.c (pwr c m : Nat)) (ent n m))
noncomputable def aS (n c i : Nat) : Sy := sumY ((List.range (n + 1)).map fun m => bite (Nat.ble i m) (mulY (.c (chs m i * pwr c (m - i) : Nat)) (ent n m)) (.c 0))
noncomputable def bS (n c i : Nat) : Sy := sumY ((List.range (n + 1)).map fun k => mulY (.c (chs n k : Nat)) (mulY (ent k i) (valY (n - k) c)))
/-- What the code compares, for the polynomial n; what the document's model compares. -/
noncomputable def prsI (n : Nat) : List (Sy × Sy) := (List.range (n + 1)).flatMap fun i => (List.range (n + 1 - i)).map fun j => (aI n i j, bI n i j)
noncomputable def prsS (n : Nat) : List (Sy × Sy) := (List.range (n + 1)).flatMap fun c => (List.range (n + 1)).map fun i => (aS n c i, bS n c i)
noncomputable def upTo (f : Nat → List (Sy × Sy)) (L : Nat) : List (Sy × Sy) := (List.range L).flatMap f
/-- The first j are equal, the next one is not. -/
noncomputable def eqF : List (Sy × Sy) → Nat → List Fact
  | [], _ => []
  | p :: r, 0 => [⟨false, p.1, p.2, false⟩]
  | p :: r, j + 1 => ⟨false, p.1, p.2, true⟩ :: eqF r j
noncomputable def binR (k : FuncId) (L : Nat) (Γ : List Fact) : Option (V Sy × Sto Sy) :=
  symRun Try.prog (symK ids Bns.tab (Γ ++ diagF L 0) (seqV L 0)) (Γ ++ diagF L 0) 60 k [rowsP L 0] ⟨0, [], 0⟩
noncomputable def binAt (k : FuncId) (f : Nat → List (Sy × Sy)) (L j : Nat) : Bool := bite (isB (Nat.ble (upTo f L).length j) (binR k L (eqF (upTo f L) j))) true (bite (clash (eqF (upTo f L) j)) true (match (upTo f L)[j]? with
  | some p => p.1.same p.2
  | none => false))
/-- The lists that the document's model compares, for the polynomial n at c. -/
noncomputable def lsS (L n : Nat) : List (List Sy × List Sy) := (List.range (n + 1)).map fun c => ((List.range L).map fun i => bite (Nat.ble i n) (aS n c i) (.c 0), (List.range L).map fun i => bite (Nat.ble i n) (bS n c i) (.c 0))
noncomputable def lsL (L : Nat) : List (List Sy × List Sy) := (List.range L).flatMap (lsS L)
noncomputable def qEs : List (List Sy × List Sy) → Nat → List QEnt
  | [], _ => []
  | p :: r, 0 => [⟨p.1, p.2, false⟩]
  | p :: r, j + 1 => ⟨p.1, p.2, true⟩ :: qEs r j
/-! ## Tables of summaries, by number -/
open Summs Bns
def csT : List (List Summ) := [[cs00], [cs10, cs11], [cs20, cs21, cs22], [cs30, cs31, cs32, cs33], [cs40, cs41, cs42, cs43, cs44], [cs50, cs51, cs52, cs53, cs54, cs55]]
def valT : List (List Summ) := [[], [val10], [val20, val21], [val30, val31, val32], [val40, val41, val42, val43], [val50, val51, val52, val53, val54], [val60, val61, val62, val63, val64, val65]]
def shfT : List (List Summ) := [[], [shf10], [shf20, shf21], [shf30, shf31, shf32], [shf40, shf41, shf42, shf43], [shf50, shf51, shf52, shf53, shf54], [shf60, shf61, shf62, shf63, shf64, shf65]]
theorem csT_ok : ∀ l, l ∈ csT → ∀ e, e ∈ l → e.Ok Try.prog := by
  intro l hl e he
  simp only [csT, List.mem_cons, List.not_mem_nil, or_false] at hl
  rcases hl with rfl | rfl | rfl | rfl | rfl | rfl <;> simp only [List.mem_cons, List.not_mem_nil, or_false] at he
  · subst he; exact cs00_ok
  · rcases he with rfl | rfl
    · exact cs10_ok
    · exact cs11_ok
  · rcases he with rfl | rfl | rfl
    · exact cs20_ok
    · exact cs21_ok
    · exact cs22_ok
  · rcases he with rfl | rfl | rfl | rfl
    · exact cs30_ok
    · exact cs31_ok
    · exact cs32_ok
    · exact cs33_ok
  · rcases he with rfl | rfl | rfl | rfl | rfl
    · exact cs40_ok
    · exact cs41_ok
    · exact cs42_ok
    · exact cs43_ok
    · exact cs44_ok
  · rcases he with rfl | rfl | rfl | rfl | rfl | rfl
    · exact cs50_ok
    · exact cs51_ok
    · exact cs52_ok
    · exact cs53_ok
    · exact cs54_ok
    · exact cs55_ok
theorem valT_ok : ∀ l, l ∈ valT → ∀ e, e ∈ l → e.Ok Try.prog := by
  intro l hl e he
  simp only [valT, List.mem_cons, List.not_mem_nil, or_false] at hl
  rcases hl with rfl | rfl | rfl | rfl | rfl | rfl | rfl <;> simp only [List.mem_cons, List.not_mem_nil, or_false] at he
  · subst he; exact val10_ok
  · rcases he with rfl | rfl
    · exact val20_ok
    · exact val21_ok
  · rcases he with rfl | rfl | rfl
    · exact val30_ok
    · exact val31_ok
    · exact val32_ok
  · rcases he with rfl | rfl | rfl | rfl
    · exact val40_ok
    · exact val41_ok
    · exact val42_ok
    · exact val43_ok
  · rcases he with rfl | rfl | rfl | rfl | rfl
    · exact val50_ok
    · exact val51_ok
    · exact val52_ok
    · exact val53_ok
    · exact val54_ok
  · rcases he with rfl | rfl | rfl | rfl | rfl | rfl
    · exact val60_ok
    · exact val61_ok
    · exact val62_ok
    · exact val63_ok
    · exact val64_ok
    · exact val65_ok
theorem shfT_ok : ∀ l, l ∈ shfT → ∀ e, e ∈ l → e.Ok Try.prog := by
  intro l hl e he
  simp only [shfT, List.mem_cons, List.not_mem_nil, or_false] at hl
  rcases hl with rfl | rfl | rfl | rfl | rfl | rfl | rfl <;> simp only [List.mem_cons, List.not_mem_nil, or_false] at he
  · subst he; exact shf10_ok
  · rcases he with rfl | rfl
    · exact shf20_ok
    · exact shf21_ok
  · rcases he with rfl | rfl | rfl
    · exact shf30_ok
    · exact shf31_ok
    · exact shf32_ok
  · rcases he with rfl | rfl | rfl | rfl
    · exact shf40_ok
    · exact shf41_ok
    · exact shf42_ok
    · exact shf43_ok
  · rcases he with rfl | rfl | rfl | rfl | rfl
    · exact shf50_ok
    · exact shf51_ok
    · exact shf52_ok
    · exact shf53_ok
    · exact shf54_ok
  · rcases he with rfl | rfl | rfl | rfl | rfl | rfl
    · exact shf60_ok
    · exact shf61_ok
    · exact shf62_ok
    · exact shf63_ok
    · exact shf64_ok
    · exact shf65_ok
theorem pick_ok {T : List (List Summ)} (hT : ∀ l, l ∈ T → ∀ e, e ∈ l → e.Ok Try.prog) (a b : Nat) : ((T.getD a []).getD b cs00).Ok Try.prog := by
  rcases Nat.lt_or_ge a T.length with ha | ha
  · have e1 : T.getD a [] = T[a] := by simp [List.getD, ha]
    rw [e1]
    rcases Nat.lt_or_ge b T[a].length with hb | hb
    · have e2 : T[a].getD b cs00 = T[a][b] := by simp [List.getD, hb]
      rw [e2]
      exact hT _ (List.getElem_mem ha) _ (List.getElem_mem hb)
    · have e2 : T[a].getD b cs00 = cs00 := by simp [List.getD, List.getElem?_eq_none hb]
      rw [e2]; exact cs00_ok
  · have e1 : T.getD a [] = [] := by simp [List.getD, List.getElem?_eq_none ha]
    rw [e1]
    exact cs00_ok
theorem one_ok {e : Summ} (h : e.Ok Try.prog) {ρ : Nat → Int} {s : Sms} {B : Nat} : COk Try.prog ⟨Sy.den ρ, s⟩ B (summK [e]) := summK_ok (fun x hx => by simp at hx; subst hx; exact h)
/-- Told of one function alone. -/
noncomputable def forK (k0 : FuncId) (K : Ctr) : Ctr := fun k args sto => bite (Nat.beq k k0) (K k args sto) none
theorem forK_ok {k0 : FuncId} {K : Ctr} {ρ : Nat → Int} {s : Sms} {B : Nat} (h : COk Try.prog ⟨Sy.den ρ, s⟩ B K) : COk Try.prog ⟨Sy.den ρ, s⟩ B (forK k0 K) := by
  intro k args sto r sto' hr
  unfold forK at hr
  rw [bite_eq] at hr
  split at hr
  · exact h _ _ _ _ _ hr
  · cases hr
noncomputable def choK : Ctr := fun k args sto => match args with
  | [.int .i64 (.c n), .int .i64 (.c m)] => summK [((csT.getD n.toNat []).getD m.toNat cs00)] k args sto
  | _ => none
theorem choK_ok {ρ : Nat → Int} {s : Sms} {B : Nat} : COk Try.prog ⟨Sy.den ρ, s⟩ B choK := by
  intro k args sto r sto' hr
  unfold choK at hr
  split at hr
  · exact one_ok (pick_ok csT_ok _ _) _ _ _ _ _ hr
  · cases hr
noncomputable def pickC (T : List (List Summ)) (L : Nat) : Ctr := fun k args sto => match args with
  | [_, .int .i64 (.c n)] => summK [((T.getD L []).getD n.toNat cs00)] k args sto
  | _ => none
theorem pickC_ok {T : List (List Summ)} (hT : ∀ l, l ∈ T → ∀ e, e ∈ l → e.Ok Try.prog) {L : Nat} {ρ : Nat → Int} {s : Sms} {B : Nat} : COk Try.prog ⟨Sy.den ρ, s⟩ B (pickC T L) := by
  intro k args sto r sto' hr
  unfold pickC at hr
  split at hr
  · exact one_ok (pick_ok hT _ _) _ _ _ _ _ hr
  · cases hr
noncomputable def KQ (L : Nat) (l : List QEnt) : Ctr := orK (forK 55 choK) (orK (forK 102 (pickC valT L)) (orK (forK 101 (pickC shfT L)) (orK (eqE 90 l) (symK ids [] (diagF L 0) (seqV L 0)))))
noncomputable def sbinR (k : FuncId) (L : Nat) (l : List QEnt) : Option (V Sy × Sto Sy) :=
  symRun Try.prog (KQ L l) (diagF L 0) 60 k [rowsP L 0] ⟨0, [], 0⟩
noncomputable def sbinAt (k : FuncId) (L j : Nat) : Bool := bite (isB (Nat.ble (lsL L).length j) (sbinR k L (qEs (lsL L) j))) true (match (lsL L)[j]? with
  | some p => sames p.1 p.2
  | none => false)
end Go.Proofs.Ytpjenggjcpahaaa.Bin

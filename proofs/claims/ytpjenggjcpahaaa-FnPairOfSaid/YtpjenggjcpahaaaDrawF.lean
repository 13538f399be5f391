import Derived.Test.YtpjenggjcpahaaaRows
import Derived.Test.YtpjenggjcpahaaaSym
import Derived.Test.YtpjenggjcpahaaaSymD
import Derived.Test.YtpjenggjcpahaaaSymE
import Derived.Test.YtpjenggjcpahaaaSymF
import Derived.Test.YtpjenggjcpahaaaIds
import Derived.Test.YtpjenggjcpahaaaNp
import Derived.Test.YtpjenggjcpahaaaSeq
import Derived.Test.YtpjenggjcpahaaaSeqG
import Derived.Test.YtpjenggjcpahaaaTel
import Derived.Test.YtpjenggjcpahaaaTelC
import Derived.Test.YtpjenggjcpahaaaTelD
import Derived.Test.YtpjenggjcpahaaaDraw
import Derived.Test.YtpjenggjcpahaaaDrawC
import Derived.Test.YtpjenggjcpahaaaDrawD
import Derived.Test.YtpjenggjcpahaaaDrawE
import Derived.WalkKit
import Derived.ProofKit
import Derived.OpenShut
namespace Go.Proofs.Ytpjenggjcpahaaa.Draw
open Go.ChangeShapes Go.WideShapes Go.ChangeAt Go.RowKit Go.Sx Go.Proofs.Ytpjenggjcpahaaa.Ids Go.Proofs.Ytpjenggjcpahaaa.Seq Go.Proofs.Ytpjenggjcpahaaa.Tel
set_option linter.unusedVariables false
set_option linter.unusedSimpArgs false

theorem litRw (sto : Sto Sy) (a l : Nat) (c : Option Nat) : abuildSlice (symNum []) (tiOf Try.prog) sto 23 1 [(0, .rsl a 0 l c)] = some (.rsl sto.next 0 1 (some 1), sto.new [.rsl a 0 l c]) := by
  show _ = some (V.rsl sto.next 0 1 (some 1), sto.new [V.rsl a 0 l c])
  simp [abuildSlice, tiSS, tiS, ofV, V.oneCell, afill, V.cells, setRange]
theorem K0_vp (args : List (V Sy)) (sto : Sto Sy) : K0 44 args sto = telK 44 dPair (fun p _ => .bool (vpB p.1 p.2)) (fun _ _ => []) 44 args sto := by
  rw [K0_at]
  unfold KD
  show orK vpK _ _ _ _ = vpK _ _ _
  cases h : vpK 44 args sto with
  | some r => exact orK_yes h
  | none =>
    rw [orK_no h]
    unfold arrK facK uniK
    rw [orK_no (telK_no (by decide) _ _), orK_no (telK_no (by decide) _ _), telK_no (by decide) _ _]
theorem K0_arr (args : List (V Sy)) (sto : Sto Sy) : K0 45 args sto = telK 45 dPair (fun p => rowsR (arrF p)) (fun p => rowsO (arrF p)) 45 args sto := by
  rw [K0_at]
  unfold KD vpK
  rw [orK_no (telK_no (by decide) _ _)]
  show orK arrK _ _ _ _ = arrK _ _ _
  cases h : arrK 45 args sto with
  | some r => exact orK_yes h
  | none =>
    rw [orK_no h]
    unfold facK uniK
    rw [orK_no (telK_no (by decide) _ _), telK_no (by decide) _ _]
attribute [local simp] aops wants aop apure St.eval setTm_some setTm_none Tr.get_set evals pevals apureB alen tiS tiI tiB tiY tiU tiSs tiSr tiSS abin aint isCmp sym_lt sym_eqs sym_neqs sym_eq sym_neq sym_gtr sym_leq sym_geq sym_add sym_sub sym_mul aeff aeffB idx? ofV aindexAddr aggDesc aifc_int fldP0 fldP1
end Go.Proofs.Ytpjenggjcpahaaa.Draw

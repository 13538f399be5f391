/-
  No cell of these rows narrows 'for every input' (looked for: loops, veiled, ifaces, maps, wideKeys, modest, calm, conditions, laid).
  DERIVED. THE GIVEN ROWS OF THIS SEAT. 8 by the template 'for every input the law returns true; each argument reads behind the call as it read before'; 0 by the template 'total and deterministic' (their statements: YtpjenggjcpahaaaTotals.lean).
  GIVEN WITH THE SEED: the statements are not yours to turn. If you find one false, say at which input.
  Laid BY PROGRAM, IN A SANDBOX (cutbox-rows.mjs): the forced cells as the released guide's own fill.sh prints them over the translation b0b19a35d8ab7720… (all of the seat's roots in one cut). By AI agents, Wed Nov 11 2026. No macro, syntax, notation, axiom, sorry.
-/
import Derived.Test.YtpjenggjcpahaaaChecked
import GoSem.Claim
import GoSem.ClaimJoined
import GoSem.ClaimMapViews
import Derived.JoinedTies
import Derived.KernelRfl
namespace Go.Proofs.Ytpjenggjcpahaaa
/- THE CELL 'sum', in the pinned program and in every row, IS THE sha256 OF THE DUMP (.gsa) THAT YtpjenggjcpahaaaProg.lean LOADS. Nothing in Lean hashes anything: it is a label: what it is worth is what the hold of that sum in a sandbox is worth. -/
noncomputable def Try.pinned : Pinned := { name := "ytpjenggjcpahaaa", sum := "b0b19a35d8ab7720815f8a722ab01ea5acb31032c15ff920e0d7a547b5e66f10", checked := Try.checked }
namespace Rows
def none {H : Type} : Left H := { results := [], args := [] }

/-- 'laws.FnPairOf': WHATEVER THE INPUT: true; the input reads as it did. -/
def fnPairOfSpec : ChangeSpec := { name := "fnPairOf", fn := fun _ => fun
  | [d] => { results := [.lit (.bool true)], args := [d] }
  | _ => none }
def fnPairOfRow : OpenClaim := { program := "ytpjenggjcpahaaa", sum := "b0b19a35d8ab7720815f8a722ab01ea5acb31032c15ff920e0d7a547b5e66f10", func := "loop.example/shadowseries/laws.FnPairOf", spec := "fnPairOf", unfollowed := true, recurses := true, apart := false }
def FnPairOfSaid : Prop := fnPairOfRow.holds Try.pinned (OpenSpec.ofChange fnPairOfSpec)

/-- ITS FALSE NEIGHBOUR: 'it returns false'. Refute it at one input. -/
def fnPairOfWrong : ChangeSpec := { name := "fnPairOf", fn := fun _ => fun
  | [d] => { results := [.lit (.bool false)], args := [d] }
  | _ => none }
def FnPairOfWrongFalsely : Prop := fnPairOfRow.holds Try.pinned (OpenSpec.ofChange fnPairOfWrong)

/-- 'laws.FnValidSequence': WHATEVER THE INPUT: true; the input reads as it did. -/
def fnValidSequenceSpec : ChangeSpec := { name := "fnValidSequence", fn := fun _ => fun
  | [d] => { results := [.lit (.bool true)], args := [d] }
  | _ => none }
def fnValidSequenceRow : OpenClaim := { program := "ytpjenggjcpahaaa", sum := "b0b19a35d8ab7720815f8a722ab01ea5acb31032c15ff920e0d7a547b5e66f10", func := "loop.example/shadowseries/laws.FnValidSequence", spec := "fnValidSequence", apart := false }
def FnValidSequenceSaid : Prop := fnValidSequenceRow.holds Try.pinned (OpenSpec.ofChange fnValidSequenceSpec)

/-- ITS FALSE NEIGHBOUR: 'it returns false'. Refute it at one input. -/
def fnValidSequenceWrong : ChangeSpec := { name := "fnValidSequence", fn := fun _ => fun
  | [d] => { results := [.lit (.bool false)], args := [d] }
  | _ => none }
def FnValidSequenceWrongFalsely : Prop := fnValidSequenceRow.holds Try.pinned (OpenSpec.ofChange fnValidSequenceWrong)

/-- 'laws.FnIsBinomial': WHATEVER THE INPUT: true; the input reads as it did. -/
def fnIsBinomialSpec : ChangeSpec := { name := "fnIsBinomial", fn := fun _ => fun
  | [d] => { results := [.lit (.bool true)], args := [d] }
  | _ => none }
def fnIsBinomialRow : OpenClaim := { program := "ytpjenggjcpahaaa", sum := "b0b19a35d8ab7720815f8a722ab01ea5acb31032c15ff920e0d7a547b5e66f10", func := "loop.example/shadowseries/laws.FnIsBinomial", spec := "fnIsBinomial", unfollowed := true, recurses := true, apart := false }
def FnIsBinomialSaid : Prop := fnIsBinomialRow.holds Try.pinned (OpenSpec.ofChange fnIsBinomialSpec)

/-- ITS FALSE NEIGHBOUR: 'it returns false'. Refute it at one input. -/
def fnIsBinomialWrong : ChangeSpec := { name := "fnIsBinomial", fn := fun _ => fun
  | [d] => { results := [.lit (.bool false)], args := [d] }
  | _ => none }
def FnIsBinomialWrongFalsely : Prop := fnIsBinomialRow.holds Try.pinned (OpenSpec.ofChange fnIsBinomialWrong)

/-- 'laws.FnReplacePowers': WHATEVER THE INPUT: true; the input reads as it did. -/
def fnReplacePowersSpec : ChangeSpec := { name := "fnReplacePowers", fn := fun _ => fun
  | [d] => { results := [.lit (.bool true)], args := [d] }
  | _ => none }
def fnReplacePowersRow : OpenClaim := { program := "ytpjenggjcpahaaa", sum := "b0b19a35d8ab7720815f8a722ab01ea5acb31032c15ff920e0d7a547b5e66f10", func := "loop.example/shadowseries/laws.FnReplacePowers", spec := "fnReplacePowers", unfollowed := true, recurses := true, apart := false }
def FnReplacePowersSaid : Prop := fnReplacePowersRow.holds Try.pinned (OpenSpec.ofChange fnReplacePowersSpec)

/-- ITS FALSE NEIGHBOUR: 'it returns false'. Refute it at one input. -/
def fnReplacePowersWrong : ChangeSpec := { name := "fnReplacePowers", fn := fun _ => fun
  | [d] => { results := [.lit (.bool false)], args := [d] }
  | _ => none }
def FnReplacePowersWrongFalsely : Prop := fnReplacePowersRow.holds Try.pinned (OpenSpec.ofChange fnReplacePowersWrong)

/-- 'laws.FnExactPairOf': WHATEVER THE INPUT: true; the input reads as it did. -/
def fnExactPairOfSpec : ChangeSpec := { name := "fnExactPairOf", fn := fun _ => fun
  | [d] => { results := [.lit (.bool true)], args := [d] }
  | _ => none }
def fnExactPairOfRow : OpenClaim := { program := "ytpjenggjcpahaaa", sum := "b0b19a35d8ab7720815f8a722ab01ea5acb31032c15ff920e0d7a547b5e66f10", func := "loop.example/shadowseries/laws.FnExactPairOf", spec := "fnExactPairOf", unfollowed := true, recurses := true, apart := false }
def FnExactPairOfSaid : Prop := fnExactPairOfRow.holds Try.pinned (OpenSpec.ofChange fnExactPairOfSpec)

/-- ITS FALSE NEIGHBOUR: 'it returns false'. Refute it at one input. -/
def fnExactPairOfWrong : ChangeSpec := { name := "fnExactPairOf", fn := fun _ => fun
  | [d] => { results := [.lit (.bool false)], args := [d] }
  | _ => none }
def FnExactPairOfWrongFalsely : Prop := fnExactPairOfRow.holds Try.pinned (OpenSpec.ofChange fnExactPairOfWrong)

/-- 'laws.FnExactValidSequence': WHATEVER THE INPUT: true; the input reads as it did. -/
def fnExactValidSequenceSpec : ChangeSpec := { name := "fnExactValidSequence", fn := fun _ => fun
  | [d] => { results := [.lit (.bool true)], args := [d] }
  | _ => none }
def fnExactValidSequenceRow : OpenClaim := { program := "ytpjenggjcpahaaa", sum := "b0b19a35d8ab7720815f8a722ab01ea5acb31032c15ff920e0d7a547b5e66f10", func := "loop.example/shadowseries/laws.FnExactValidSequence", spec := "fnExactValidSequence", apart := false }
def FnExactValidSequenceSaid : Prop := fnExactValidSequenceRow.holds Try.pinned (OpenSpec.ofChange fnExactValidSequenceSpec)

/-- ITS FALSE NEIGHBOUR: 'it returns false'. Refute it at one input. -/
def fnExactValidSequenceWrong : ChangeSpec := { name := "fnExactValidSequence", fn := fun _ => fun
  | [d] => { results := [.lit (.bool false)], args := [d] }
  | _ => none }
def FnExactValidSequenceWrongFalsely : Prop := fnExactValidSequenceRow.holds Try.pinned (OpenSpec.ofChange fnExactValidSequenceWrong)

/-- 'laws.FnExactIsBinomial': WHATEVER THE INPUT: true; the input reads as it did. -/
def fnExactIsBinomialSpec : ChangeSpec := { name := "fnExactIsBinomial", fn := fun _ => fun
  | [d] => { results := [.lit (.bool true)], args := [d] }
  | _ => none }
def fnExactIsBinomialRow : OpenClaim := { program := "ytpjenggjcpahaaa", sum := "b0b19a35d8ab7720815f8a722ab01ea5acb31032c15ff920e0d7a547b5e66f10", func := "loop.example/shadowseries/laws.FnExactIsBinomial", spec := "fnExactIsBinomial", unfollowed := true, recurses := true, apart := false }
def FnExactIsBinomialSaid : Prop := fnExactIsBinomialRow.holds Try.pinned (OpenSpec.ofChange fnExactIsBinomialSpec)

/-- ITS FALSE NEIGHBOUR: 'it returns false'. Refute it at one input. -/
def fnExactIsBinomialWrong : ChangeSpec := { name := "fnExactIsBinomial", fn := fun _ => fun
  | [d] => { results := [.lit (.bool false)], args := [d] }
  | _ => none }
def FnExactIsBinomialWrongFalsely : Prop := fnExactIsBinomialRow.holds Try.pinned (OpenSpec.ofChange fnExactIsBinomialWrong)

/-- 'laws.FnExactReplacePowers': WHATEVER THE INPUT: true; the input reads as it did. -/
def fnExactReplacePowersSpec : ChangeSpec := { name := "fnExactReplacePowers", fn := fun _ => fun
  | [d1, d2] => { results := [.lit (.bool true)], args := [d1, d2] }
  | _ => none }
def fnExactReplacePowersRow : OpenClaim := { program := "ytpjenggjcpahaaa", sum := "b0b19a35d8ab7720815f8a722ab01ea5acb31032c15ff920e0d7a547b5e66f10", func := "loop.example/shadowseries/laws.FnExactReplacePowers", spec := "fnExactReplacePowers", apart := false }
def FnExactReplacePowersSaid : Prop := fnExactReplacePowersRow.holds Try.pinned (OpenSpec.ofChange fnExactReplacePowersSpec)

/-- ITS FALSE NEIGHBOUR: 'it returns false'. Refute it at one input. -/
def fnExactReplacePowersWrong : ChangeSpec := { name := "fnExactReplacePowers", fn := fun _ => fun
  | [d1, d2] => { results := [.lit (.bool false)], args := [d1, d2] }
  | _ => none }
def FnExactReplacePowersWrongFalsely : Prop := fnExactReplacePowersRow.holds Try.pinned (OpenSpec.ofChange fnExactReplacePowersWrong)

/- THE SECOND FORM. 'bulk': how many values and letters a reading holds, each counted each time it is reached (what is shared counts as often as it is met; a slice's spare places count too). A statement '..UptoSaid' is the law's where the arguments, and the package variables that the reading takes, are together of bulk at most 1048576: NARROWER than '..Said'. Prove '..Said' where nothing that the law and all that it calls make is longer than what came in: it says more and counts as full. Else prove '..UptoSaid'. A law counts once. -/
mutual
def uptoBulk {H : Type} : DataW H → Nat
  | .lit (.string bytes) => bytes.length + 1
  | .lit _ => 1
  | .nil => 1
  | .ptr d => uptoBulk d + 1
  | .slice elems spare => uptoBulkAll elems + uptoBulkAll spare + 1
  | .agg parts => uptoBulkAll parts + 1
  | .iface _ d => uptoBulk d + 1
  | .map entries => uptoBulkEntries entries + 1
  | .held _ => 1
def uptoBulkAll {H : Type} : List (DataW H) → Nat
  | [] => 0
  | d :: r => uptoBulk d + uptoBulkAll r
def uptoBulkEntries {H : Type} : List (Lit × DataW H) → Nat
  | [] => 0
  | x :: r => uptoBulkEntry x + uptoBulkEntries r
def uptoBulkEntry {H : Type} : Lit × DataW H → Nat
  | (.string bytes, d) => bytes.length + uptoBulk d + 1
  | (_, d) => uptoBulk d + 1
 end
def uptoSmall : (H : Type) → List (DataW H) → Bool := fun _ ds => decide (uptoBulkAll ds ≤ 1048576)
def OpenSpec.upto (s : _root_.Go.ChangeSpec) : _root_.Go.OpenSpec := { _root_.Go.OpenSpec.ofChange s with cond := some uptoSmall }

/-- 'laws.FnPairOf', WHERE WHAT IT READS IS OF BULK AT MOST 1048576: true; the input reads as it did. -/
def fnPairOfUptoRow : OpenClaim := { program := "ytpjenggjcpahaaa", sum := "b0b19a35d8ab7720815f8a722ab01ea5acb31032c15ff920e0d7a547b5e66f10", func := "loop.example/shadowseries/laws.FnPairOf", spec := "fnPairOf", unfollowed := true, recurses := true, apart := false, narrowed := true }
def FnPairOfUptoSaid : Prop := fnPairOfUptoRow.holds Try.pinned (OpenSpec.upto fnPairOfSpec)

/-- 'laws.FnValidSequence', WHERE WHAT IT READS IS OF BULK AT MOST 1048576: true; the input reads as it did. -/
def fnValidSequenceUptoRow : OpenClaim := { program := "ytpjenggjcpahaaa", sum := "b0b19a35d8ab7720815f8a722ab01ea5acb31032c15ff920e0d7a547b5e66f10", func := "loop.example/shadowseries/laws.FnValidSequence", spec := "fnValidSequence", apart := false, narrowed := true }
def FnValidSequenceUptoSaid : Prop := fnValidSequenceUptoRow.holds Try.pinned (OpenSpec.upto fnValidSequenceSpec)

/-- 'laws.FnIsBinomial', WHERE WHAT IT READS IS OF BULK AT MOST 1048576: true; the input reads as it did. -/
def fnIsBinomialUptoRow : OpenClaim := { program := "ytpjenggjcpahaaa", sum := "b0b19a35d8ab7720815f8a722ab01ea5acb31032c15ff920e0d7a547b5e66f10", func := "loop.example/shadowseries/laws.FnIsBinomial", spec := "fnIsBinomial", unfollowed := true, recurses := true, apart := false, narrowed := true }
def FnIsBinomialUptoSaid : Prop := fnIsBinomialUptoRow.holds Try.pinned (OpenSpec.upto fnIsBinomialSpec)

/-- 'laws.FnReplacePowers', WHERE WHAT IT READS IS OF BULK AT MOST 1048576: true; the input reads as it did. -/
def fnReplacePowersUptoRow : OpenClaim := { program := "ytpjenggjcpahaaa", sum := "b0b19a35d8ab7720815f8a722ab01ea5acb31032c15ff920e0d7a547b5e66f10", func := "loop.example/shadowseries/laws.FnReplacePowers", spec := "fnReplacePowers", unfollowed := true, recurses := true, apart := false, narrowed := true }
def FnReplacePowersUptoSaid : Prop := fnReplacePowersUptoRow.holds Try.pinned (OpenSpec.upto fnReplacePowersSpec)

/-- 'laws.FnExactPairOf', WHERE WHAT IT READS IS OF BULK AT MOST 1048576: true; the input reads as it did. -/
def fnExactPairOfUptoRow : OpenClaim := { program := "ytpjenggjcpahaaa", sum := "b0b19a35d8ab7720815f8a722ab01ea5acb31032c15ff920e0d7a547b5e66f10", func := "loop.example/shadowseries/laws.FnExactPairOf", spec := "fnExactPairOf", unfollowed := true, recurses := true, apart := false, narrowed := true }
def FnExactPairOfUptoSaid : Prop := fnExactPairOfUptoRow.holds Try.pinned (OpenSpec.upto fnExactPairOfSpec)

/-- 'laws.FnExactValidSequence', WHERE WHAT IT READS IS OF BULK AT MOST 1048576: true; the input reads as it did. -/
def fnExactValidSequenceUptoRow : OpenClaim := { program := "ytpjenggjcpahaaa", sum := "b0b19a35d8ab7720815f8a722ab01ea5acb31032c15ff920e0d7a547b5e66f10", func := "loop.example/shadowseries/laws.FnExactValidSequence", spec := "fnExactValidSequence", apart := false, narrowed := true }
def FnExactValidSequenceUptoSaid : Prop := fnExactValidSequenceUptoRow.holds Try.pinned (OpenSpec.upto fnExactValidSequenceSpec)

/-- 'laws.FnExactIsBinomial', WHERE WHAT IT READS IS OF BULK AT MOST 1048576: true; the input reads as it did. -/
def fnExactIsBinomialUptoRow : OpenClaim := { program := "ytpjenggjcpahaaa", sum := "b0b19a35d8ab7720815f8a722ab01ea5acb31032c15ff920e0d7a547b5e66f10", func := "loop.example/shadowseries/laws.FnExactIsBinomial", spec := "fnExactIsBinomial", unfollowed := true, recurses := true, apart := false, narrowed := true }
def FnExactIsBinomialUptoSaid : Prop := fnExactIsBinomialUptoRow.holds Try.pinned (OpenSpec.upto fnExactIsBinomialSpec)

/-- 'laws.FnExactReplacePowers', WHERE WHAT IT READS IS OF BULK AT MOST 1048576: true; the input reads as it did. -/
def fnExactReplacePowersUptoRow : OpenClaim := { program := "ytpjenggjcpahaaa", sum := "b0b19a35d8ab7720815f8a722ab01ea5acb31032c15ff920e0d7a547b5e66f10", func := "loop.example/shadowseries/laws.FnExactReplacePowers", spec := "fnExactReplacePowers", apart := false, narrowed := true }
def FnExactReplacePowersUptoSaid : Prop := fnExactReplacePowersUptoRow.holds Try.pinned (OpenSpec.upto fnExactReplacePowersSpec)

end Rows
end Go.Proofs.Ytpjenggjcpahaaa

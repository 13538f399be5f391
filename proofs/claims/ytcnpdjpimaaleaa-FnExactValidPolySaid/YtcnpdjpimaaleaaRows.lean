/-
  No cell of these rows narrows 'for every input' (looked for: loops, veiled, ifaces, maps, wideKeys, modest, calm, conditions, laid).
  DERIVED. THE GIVEN ROWS OF THIS SEAT. 12 by the template 'for every input the law returns true; each argument reads behind the call as it read before'; 0 by the template 'total and deterministic' (their statements: YtcnpdjpimaaleaaTotals.lean).
  GIVEN WITH THE SEED: the statements are not yours to turn. If you find one false, say at which input.
  Laid BY PROGRAM, IN A SANDBOX (cutbox-rows.mjs): the forced cells as the released guide's own fill.sh prints them over the translation 14b1579c38e96f69… (all of the seat's roots in one cut). By AI agents, Wed Nov 11 2026. No macro, syntax, notation, axiom, sorry.
-/
import Derived.Test.YtcnpdjpimaaleaaChecked
import GoSem.Claim
import GoSem.ClaimJoined
import GoSem.ClaimMapViews
import Derived.JoinedTies
import Derived.KernelRfl
namespace Go.Proofs.Ytcnpdjpimaaleaa
/- THE CELL 'sum', in the pinned program and in every row, IS THE sha256 OF THE DUMP (.gsa) THAT YtcnpdjpimaaleaaProg.lean LOADS. Nothing in Lean hashes anything: it is a label: what it is worth is what the hold of that sum in a sandbox is worth. -/
noncomputable def Try.pinned : Pinned := { name := "ytcnpdjpimaaleaa", sum := "14b1579c38e96f6942f80f00fe991c978c82a430f437d7a511ef33af49409d03", checked := Try.checked }
namespace Rows
def none {H : Type} : Left H := { results := [], args := [] }

/-- 'laws.FnValidPoly': WHATEVER THE INPUT: true; the input reads as it did. -/
def fnValidPolySpec : ChangeSpec := { name := "fnValidPoly", fn := fun _ => fun
  | [d] => { results := [.lit (.bool true)], args := [d] }
  | _ => none }
def fnValidPolyRow : OpenClaim := { program := "ytcnpdjpimaaleaa", sum := "14b1579c38e96f6942f80f00fe991c978c82a430f437d7a511ef33af49409d03", func := "loop.example/shadowseries/laws.FnValidPoly", spec := "fnValidPoly", unfollowed := true, recurses := true, apart := false }
def FnValidPolySaid : Prop := fnValidPolyRow.holds Try.pinned (OpenSpec.ofChange fnValidPolySpec)

/-- ITS FALSE NEIGHBOUR: 'it returns false'. Refute it at one input. -/
def fnValidPolyWrong : ChangeSpec := { name := "fnValidPoly", fn := fun _ => fun
  | [d] => { results := [.lit (.bool false)], args := [d] }
  | _ => none }
def FnValidPolyWrongFalsely : Prop := fnValidPolyRow.holds Try.pinned (OpenSpec.ofChange fnValidPolyWrong)

/-- 'laws.FnValueOf': WHATEVER THE INPUT: true; the input reads as it did. -/
def fnValueOfSpec : ChangeSpec := { name := "fnValueOf", fn := fun _ => fun
  | [d] => { results := [.lit (.bool true)], args := [d] }
  | _ => none }
def fnValueOfRow : OpenClaim := { program := "ytcnpdjpimaaleaa", sum := "14b1579c38e96f6942f80f00fe991c978c82a430f437d7a511ef33af49409d03", func := "loop.example/shadowseries/laws.FnValueOf", spec := "fnValueOf", apart := false }
def FnValueOfSaid : Prop := fnValueOfRow.holds Try.pinned (OpenSpec.ofChange fnValueOfSpec)

/-- ITS FALSE NEIGHBOUR: 'it returns false'. Refute it at one input. -/
def fnValueOfWrong : ChangeSpec := { name := "fnValueOf", fn := fun _ => fun
  | [d] => { results := [.lit (.bool false)], args := [d] }
  | _ => none }
def FnValueOfWrongFalsely : Prop := fnValueOfRow.holds Try.pinned (OpenSpec.ofChange fnValueOfWrong)

/-- 'laws.FnShiftPoly': WHATEVER THE INPUT: true; the input reads as it did. -/
def fnShiftPolySpec : ChangeSpec := { name := "fnShiftPoly", fn := fun _ => fun
  | [d] => { results := [.lit (.bool true)], args := [d] }
  | _ => none }
def fnShiftPolyRow : OpenClaim := { program := "ytcnpdjpimaaleaa", sum := "14b1579c38e96f6942f80f00fe991c978c82a430f437d7a511ef33af49409d03", func := "loop.example/shadowseries/laws.FnShiftPoly", spec := "fnShiftPoly", unfollowed := true, recurses := true, apart := false }
def FnShiftPolySaid : Prop := fnShiftPolyRow.holds Try.pinned (OpenSpec.ofChange fnShiftPolySpec)

/-- ITS FALSE NEIGHBOUR: 'it returns false'. Refute it at one input. -/
def fnShiftPolyWrong : ChangeSpec := { name := "fnShiftPoly", fn := fun _ => fun
  | [d] => { results := [.lit (.bool false)], args := [d] }
  | _ => none }
def FnShiftPolyWrongFalsely : Prop := fnShiftPolyRow.holds Try.pinned (OpenSpec.ofChange fnShiftPolyWrong)

/-- 'laws.FnOperateOn': WHATEVER THE INPUT: true; the input reads as it did. -/
def fnOperateOnSpec : ChangeSpec := { name := "fnOperateOn", fn := fun _ => fun
  | [d] => { results := [.lit (.bool true)], args := [d] }
  | _ => none }
def fnOperateOnRow : OpenClaim := { program := "ytcnpdjpimaaleaa", sum := "14b1579c38e96f6942f80f00fe991c978c82a430f437d7a511ef33af49409d03", func := "loop.example/shadowseries/laws.FnOperateOn", spec := "fnOperateOn", unfollowed := true, recurses := true, apart := false }
def FnOperateOnSaid : Prop := fnOperateOnRow.holds Try.pinned (OpenSpec.ofChange fnOperateOnSpec)

/-- ITS FALSE NEIGHBOUR: 'it returns false'. Refute it at one input. -/
def fnOperateOnWrong : ChangeSpec := { name := "fnOperateOn", fn := fun _ => fun
  | [d] => { results := [.lit (.bool false)], args := [d] }
  | _ => none }
def FnOperateOnWrongFalsely : Prop := fnOperateOnRow.holds Try.pinned (OpenSpec.ofChange fnOperateOnWrong)

/-- 'laws.FnSequenceOf': WHATEVER THE INPUT: true; the input reads as it did. -/
def fnSequenceOfSpec : ChangeSpec := { name := "fnSequenceOf", fn := fun _ => fun
  | [d] => { results := [.lit (.bool true)], args := [d] }
  | _ => none }
def fnSequenceOfRow : OpenClaim := { program := "ytcnpdjpimaaleaa", sum := "14b1579c38e96f6942f80f00fe991c978c82a430f437d7a511ef33af49409d03", func := "loop.example/shadowseries/laws.FnSequenceOf", spec := "fnSequenceOf", unfollowed := true, recurses := true, apart := false }
def FnSequenceOfSaid : Prop := fnSequenceOfRow.holds Try.pinned (OpenSpec.ofChange fnSequenceOfSpec)

/-- ITS FALSE NEIGHBOUR: 'it returns false'. Refute it at one input. -/
def fnSequenceOfWrong : ChangeSpec := { name := "fnSequenceOf", fn := fun _ => fun
  | [d] => { results := [.lit (.bool false)], args := [d] }
  | _ => none }
def FnSequenceOfWrongFalsely : Prop := fnSequenceOfRow.holds Try.pinned (OpenSpec.ofChange fnSequenceOfWrong)

/-- 'laws.FnValidSequence': WHATEVER THE INPUT: true; the input reads as it did. -/
def fnValidSequenceSpec : ChangeSpec := { name := "fnValidSequence", fn := fun _ => fun
  | [d] => { results := [.lit (.bool true)], args := [d] }
  | _ => none }
def fnValidSequenceRow : OpenClaim := { program := "ytcnpdjpimaaleaa", sum := "14b1579c38e96f6942f80f00fe991c978c82a430f437d7a511ef33af49409d03", func := "loop.example/shadowseries/laws.FnValidSequence", spec := "fnValidSequence", apart := false }
def FnValidSequenceSaid : Prop := fnValidSequenceRow.holds Try.pinned (OpenSpec.ofChange fnValidSequenceSpec)

/-- ITS FALSE NEIGHBOUR: 'it returns false'. Refute it at one input. -/
def fnValidSequenceWrong : ChangeSpec := { name := "fnValidSequence", fn := fun _ => fun
  | [d] => { results := [.lit (.bool false)], args := [d] }
  | _ => none }
def FnValidSequenceWrongFalsely : Prop := fnValidSequenceRow.holds Try.pinned (OpenSpec.ofChange fnValidSequenceWrong)

/-- 'laws.FnIsBinomial': WHATEVER THE INPUT: true; the input reads as it did. -/
def fnIsBinomialSpec : ChangeSpec := { name := "fnIsBinomial", fn := fun _ => fun
  | [d] => { results := [.lit (.bool true)], args := [d] }
  | _ => none }
def fnIsBinomialRow : OpenClaim := { program := "ytcnpdjpimaaleaa", sum := "14b1579c38e96f6942f80f00fe991c978c82a430f437d7a511ef33af49409d03", func := "loop.example/shadowseries/laws.FnIsBinomial", spec := "fnIsBinomial", unfollowed := true, recurses := true, apart := false }
def FnIsBinomialSaid : Prop := fnIsBinomialRow.holds Try.pinned (OpenSpec.ofChange fnIsBinomialSpec)

/-- ITS FALSE NEIGHBOUR: 'it returns false'. Refute it at one input. -/
def fnIsBinomialWrong : ChangeSpec := { name := "fnIsBinomial", fn := fun _ => fun
  | [d] => { results := [.lit (.bool false)], args := [d] }
  | _ => none }
def FnIsBinomialWrongFalsely : Prop := fnIsBinomialRow.holds Try.pinned (OpenSpec.ofChange fnIsBinomialWrong)

/-- 'laws.FnReplacePowers': WHATEVER THE INPUT: true; the input reads as it did. -/
def fnReplacePowersSpec : ChangeSpec := { name := "fnReplacePowers", fn := fun _ => fun
  | [d] => { results := [.lit (.bool true)], args := [d] }
  | _ => none }
def fnReplacePowersRow : OpenClaim := { program := "ytcnpdjpimaaleaa", sum := "14b1579c38e96f6942f80f00fe991c978c82a430f437d7a511ef33af49409d03", func := "loop.example/shadowseries/laws.FnReplacePowers", spec := "fnReplacePowers", unfollowed := true, recurses := true, apart := false }
def FnReplacePowersSaid : Prop := fnReplacePowersRow.holds Try.pinned (OpenSpec.ofChange fnReplacePowersSpec)

/-- ITS FALSE NEIGHBOUR: 'it returns false'. Refute it at one input. -/
def fnReplacePowersWrong : ChangeSpec := { name := "fnReplacePowers", fn := fun _ => fun
  | [d] => { results := [.lit (.bool false)], args := [d] }
  | _ => none }
def FnReplacePowersWrongFalsely : Prop := fnReplacePowersRow.holds Try.pinned (OpenSpec.ofChange fnReplacePowersWrong)

/-- 'laws.FnToFalling': WHATEVER THE INPUT: true; the input reads as it did. -/
def fnToFallingSpec : ChangeSpec := { name := "fnToFalling", fn := fun _ => fun
  | [d] => { results := [.lit (.bool true)], args := [d] }
  | _ => none }
def fnToFallingRow : OpenClaim := { program := "ytcnpdjpimaaleaa", sum := "14b1579c38e96f6942f80f00fe991c978c82a430f437d7a511ef33af49409d03", func := "loop.example/shadowseries/laws.FnToFalling", spec := "fnToFalling", unfollowed := true, recurses := true, apart := false }
def FnToFallingSaid : Prop := fnToFallingRow.holds Try.pinned (OpenSpec.ofChange fnToFallingSpec)

/-- ITS FALSE NEIGHBOUR: 'it returns false'. Refute it at one input. -/
def fnToFallingWrong : ChangeSpec := { name := "fnToFalling", fn := fun _ => fun
  | [d] => { results := [.lit (.bool false)], args := [d] }
  | _ => none }
def FnToFallingWrongFalsely : Prop := fnToFallingRow.holds Try.pinned (OpenSpec.ofChange fnToFallingWrong)

/-- 'laws.FnDifferencesAt': WHATEVER THE INPUT: true; the input reads as it did. -/
def fnDifferencesAtSpec : ChangeSpec := { name := "fnDifferencesAt", fn := fun _ => fun
  | [d] => { results := [.lit (.bool true)], args := [d] }
  | _ => none }
def fnDifferencesAtRow : OpenClaim := { program := "ytcnpdjpimaaleaa", sum := "14b1579c38e96f6942f80f00fe991c978c82a430f437d7a511ef33af49409d03", func := "loop.example/shadowseries/laws.FnDifferencesAt", spec := "fnDifferencesAt", unfollowed := true, recurses := true, apart := false }
def FnDifferencesAtSaid : Prop := fnDifferencesAtRow.holds Try.pinned (OpenSpec.ofChange fnDifferencesAtSpec)

/-- ITS FALSE NEIGHBOUR: 'it returns false'. Refute it at one input. -/
def fnDifferencesAtWrong : ChangeSpec := { name := "fnDifferencesAt", fn := fun _ => fun
  | [d] => { results := [.lit (.bool false)], args := [d] }
  | _ => none }
def FnDifferencesAtWrongFalsely : Prop := fnDifferencesAtRow.holds Try.pinned (OpenSpec.ofChange fnDifferencesAtWrong)

/-- 'laws.FnExactValidPoly': WHATEVER THE INPUT: true; the input reads as it did. -/
def fnExactValidPolySpec : ChangeSpec := { name := "fnExactValidPoly", fn := fun _ => fun
  | [d] => { results := [.lit (.bool true)], args := [d] }
  | _ => none }
def fnExactValidPolyRow : OpenClaim := { program := "ytcnpdjpimaaleaa", sum := "14b1579c38e96f6942f80f00fe991c978c82a430f437d7a511ef33af49409d03", func := "loop.example/shadowseries/laws.FnExactValidPoly", spec := "fnExactValidPoly", apart := false }
def FnExactValidPolySaid : Prop := fnExactValidPolyRow.holds Try.pinned (OpenSpec.ofChange fnExactValidPolySpec)

/-- ITS FALSE NEIGHBOUR: 'it returns false'. Refute it at one input. -/
def fnExactValidPolyWrong : ChangeSpec := { name := "fnExactValidPoly", fn := fun _ => fun
  | [d] => { results := [.lit (.bool false)], args := [d] }
  | _ => none }
def FnExactValidPolyWrongFalsely : Prop := fnExactValidPolyRow.holds Try.pinned (OpenSpec.ofChange fnExactValidPolyWrong)

/-- 'laws.FnExactValueOf': WHATEVER THE INPUT: true; the input reads as it did. -/
def fnExactValueOfSpec : ChangeSpec := { name := "fnExactValueOf", fn := fun _ => fun
  | [d1, d2] => { results := [.lit (.bool true)], args := [d1, d2] }
  | _ => none }
def fnExactValueOfRow : OpenClaim := { program := "ytcnpdjpimaaleaa", sum := "14b1579c38e96f6942f80f00fe991c978c82a430f437d7a511ef33af49409d03", func := "loop.example/shadowseries/laws.FnExactValueOf", spec := "fnExactValueOf", apart := false }
def FnExactValueOfSaid : Prop := fnExactValueOfRow.holds Try.pinned (OpenSpec.ofChange fnExactValueOfSpec)

/-- ITS FALSE NEIGHBOUR: 'it returns false'. Refute it at one input. -/
def fnExactValueOfWrong : ChangeSpec := { name := "fnExactValueOf", fn := fun _ => fun
  | [d1, d2] => { results := [.lit (.bool false)], args := [d1, d2] }
  | _ => none }
def FnExactValueOfWrongFalsely : Prop := fnExactValueOfRow.holds Try.pinned (OpenSpec.ofChange fnExactValueOfWrong)

/- THE SECOND FORM. 'bulk': how many values and letters a reading holds, each counted each time it is reached (what is shared counts as often as it is met; a slice's spare places count too). A statement '..UptoSaid' is the law's where the arguments, and the package variables that the reading takes, are together of bulk at most 1048576: NARROWER than '..Said'. Prove '..Said' where nothing that the law and all that it calls make is longer than what came in: it says more and counts as full. Else prove '..UptoSaid'. A law counts once. -/
mutual
def uptoBulk {H : Type} : DataW H → Nat
  | .lit (.string bytes) => bytes.length + 1
  | .lit _ => 1
  | .nil => 1
  | .ptr d => uptoBulk d + 1
  | .slice elems spare => uptoBulkAll elems + uptoBulkAll spare + 1
  | .agg parts => uptoBulkAll parts + 1
  | .iface _ d => uptoBulk d + 1
  | .map entries => uptoBulkEntries entries + 1
  | .held _ => 1
def uptoBulkAll {H : Type} : List (DataW H) → Nat
  | [] => 0
  | d :: r => uptoBulk d + uptoBulkAll r
def uptoBulkEntries {H : Type} : List (Lit × DataW H) → Nat
  | [] => 0
  | x :: r => uptoBulkEntry x + uptoBulkEntries r
def uptoBulkEntry {H : Type} : Lit × DataW H → Nat
  | (.string bytes, d) => bytes.length + uptoBulk d + 1
  | (_, d) => uptoBulk d + 1
 end
def uptoSmall : (H : Type) → List (DataW H) → Bool := fun _ ds => decide (uptoBulkAll ds ≤ 1048576)
def OpenSpec.upto (s : _root_.Go.ChangeSpec) : _root_.Go.OpenSpec := { _root_.Go.OpenSpec.ofChange s with cond := some uptoSmall }

/-- 'laws.FnValidPoly', WHERE WHAT IT READS IS OF BULK AT MOST 1048576: true; the input reads as it did. -/
def fnValidPolyUptoRow : OpenClaim := { program := "ytcnpdjpimaaleaa", sum := "14b1579c38e96f6942f80f00fe991c978c82a430f437d7a511ef33af49409d03", func := "loop.example/shadowseries/laws.FnValidPoly", spec := "fnValidPoly", unfollowed := true, recurses := true, apart := false, narrowed := true }
def FnValidPolyUptoSaid : Prop := fnValidPolyUptoRow.holds Try.pinned (OpenSpec.upto fnValidPolySpec)

/-- 'laws.FnValueOf', WHERE WHAT IT READS IS OF BULK AT MOST 1048576: true; the input reads as it did. -/
def fnValueOfUptoRow : OpenClaim := { program := "ytcnpdjpimaaleaa", sum := "14b1579c38e96f6942f80f00fe991c978c82a430f437d7a511ef33af49409d03", func := "loop.example/shadowseries/laws.FnValueOf", spec := "fnValueOf", apart := false, narrowed := true }
def FnValueOfUptoSaid : Prop := fnValueOfUptoRow.holds Try.pinned (OpenSpec.upto fnValueOfSpec)

/-- 'laws.FnShiftPoly', WHERE WHAT IT READS IS OF BULK AT MOST 1048576: true; the input reads as it did. -/
def fnShiftPolyUptoRow : OpenClaim := { program := "ytcnpdjpimaaleaa", sum := "14b1579c38e96f6942f80f00fe991c978c82a430f437d7a511ef33af49409d03", func := "loop.example/shadowseries/laws.FnShiftPoly", spec := "fnShiftPoly", unfollowed := true, recurses := true, apart := false, narrowed := true }
def FnShiftPolyUptoSaid : Prop := fnShiftPolyUptoRow.holds Try.pinned (OpenSpec.upto fnShiftPolySpec)

/-- 'laws.FnOperateOn', WHERE WHAT IT READS IS OF BULK AT MOST 1048576: true; the input reads as it did. -/
def fnOperateOnUptoRow : OpenClaim := { program := "ytcnpdjpimaaleaa", sum := "14b1579c38e96f6942f80f00fe991c978c82a430f437d7a511ef33af49409d03", func := "loop.example/shadowseries/laws.FnOperateOn", spec := "fnOperateOn", unfollowed := true, recurses := true, apart := false, narrowed := true }
def FnOperateOnUptoSaid : Prop := fnOperateOnUptoRow.holds Try.pinned (OpenSpec.upto fnOperateOnSpec)

/-- 'laws.FnSequenceOf', WHERE WHAT IT READS IS OF BULK AT MOST 1048576: true; the input reads as it did. -/
def fnSequenceOfUptoRow : OpenClaim := { program := "ytcnpdjpimaaleaa", sum := "14b1579c38e96f6942f80f00fe991c978c82a430f437d7a511ef33af49409d03", func := "loop.example/shadowseries/laws.FnSequenceOf", spec := "fnSequenceOf", unfollowed := true, recurses := true, apart := false, narrowed := true }
def FnSequenceOfUptoSaid : Prop := fnSequenceOfUptoRow.holds Try.pinned (OpenSpec.upto fnSequenceOfSpec)

/-- 'laws.FnValidSequence', WHERE WHAT IT READS IS OF BULK AT MOST 1048576: true; the input reads as it did. -/
def fnValidSequenceUptoRow : OpenClaim := { program := "ytcnpdjpimaaleaa", sum := "14b1579c38e96f6942f80f00fe991c978c82a430f437d7a511ef33af49409d03", func := "loop.example/shadowseries/laws.FnValidSequence", spec := "fnValidSequence", apart := false, narrowed := true }
def FnValidSequenceUptoSaid : Prop := fnValidSequenceUptoRow.holds Try.pinned (OpenSpec.upto fnValidSequenceSpec)

/-- 'laws.FnIsBinomial', WHERE WHAT IT READS IS OF BULK AT MOST 1048576: true; the input reads as it did. -/
def fnIsBinomialUptoRow : OpenClaim := { program := "ytcnpdjpimaaleaa", sum := "14b1579c38e96f6942f80f00fe991c978c82a430f437d7a511ef33af49409d03", func := "loop.example/shadowseries/laws.FnIsBinomial", spec := "fnIsBinomial", unfollowed := true, recurses := true, apart := false, narrowed := true }
def FnIsBinomialUptoSaid : Prop := fnIsBinomialUptoRow.holds Try.pinned (OpenSpec.upto fnIsBinomialSpec)

/-- 'laws.FnReplacePowers', WHERE WHAT IT READS IS OF BULK AT MOST 1048576: true; the input reads as it did. -/
def fnReplacePowersUptoRow : OpenClaim := { program := "ytcnpdjpimaaleaa", sum := "14b1579c38e96f6942f80f00fe991c978c82a430f437d7a511ef33af49409d03", func := "loop.example/shadowseries/laws.FnReplacePowers", spec := "fnReplacePowers", unfollowed := true, recurses := true, apart := false, narrowed := true }
def FnReplacePowersUptoSaid : Prop := fnReplacePowersUptoRow.holds Try.pinned (OpenSpec.upto fnReplacePowersSpec)

/-- 'laws.FnToFalling', WHERE WHAT IT READS IS OF BULK AT MOST 1048576: true; the input reads as it did. -/
def fnToFallingUptoRow : OpenClaim := { program := "ytcnpdjpimaaleaa", sum := "14b1579c38e96f6942f80f00fe991c978c82a430f437d7a511ef33af49409d03", func := "loop.example/shadowseries/laws.FnToFalling", spec := "fnToFalling", unfollowed := true, recurses := true, apart := false, narrowed := true }
def FnToFallingUptoSaid : Prop := fnToFallingUptoRow.holds Try.pinned (OpenSpec.upto fnToFallingSpec)

/-- 'laws.FnDifferencesAt', WHERE WHAT IT READS IS OF BULK AT MOST 1048576: true; the input reads as it did. -/
def fnDifferencesAtUptoRow : OpenClaim := { program := "ytcnpdjpimaaleaa", sum := "14b1579c38e96f6942f80f00fe991c978c82a430f437d7a511ef33af49409d03", func := "loop.example/shadowseries/laws.FnDifferencesAt", spec := "fnDifferencesAt", unfollowed := true, recurses := true, apart := false, narrowed := true }
def FnDifferencesAtUptoSaid : Prop := fnDifferencesAtUptoRow.holds Try.pinned (OpenSpec.upto fnDifferencesAtSpec)

/-- 'laws.FnExactValidPoly', WHERE WHAT IT READS IS OF BULK AT MOST 1048576: true; the input reads as it did. -/
def fnExactValidPolyUptoRow : OpenClaim := { program := "ytcnpdjpimaaleaa", sum := "14b1579c38e96f6942f80f00fe991c978c82a430f437d7a511ef33af49409d03", func := "loop.example/shadowseries/laws.FnExactValidPoly", spec := "fnExactValidPoly", apart := false, narrowed := true }
def FnExactValidPolyUptoSaid : Prop := fnExactValidPolyUptoRow.holds Try.pinned (OpenSpec.upto fnExactValidPolySpec)

/-- 'laws.FnExactValueOf', WHERE WHAT IT READS IS OF BULK AT MOST 1048576: true; the input reads as it did. -/
def fnExactValueOfUptoRow : OpenClaim := { program := "ytcnpdjpimaaleaa", sum := "14b1579c38e96f6942f80f00fe991c978c82a430f437d7a511ef33af49409d03", func := "loop.example/shadowseries/laws.FnExactValueOf", spec := "fnExactValueOf", apart := false, narrowed := true }
def FnExactValueOfUptoSaid : Prop := fnExactValueOfUptoRow.holds Try.pinned (OpenSpec.upto fnExactValueOfSpec)

end Rows
end Go.Proofs.Ytcnpdjpimaaleaa

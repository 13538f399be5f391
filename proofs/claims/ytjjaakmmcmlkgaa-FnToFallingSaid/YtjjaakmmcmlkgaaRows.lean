/-
  No cell of these rows narrows 'for every input' (looked for: loops, veiled, ifaces, maps, wideKeys, modest, calm, conditions, laid).
  DERIVED. THE GIVEN ROWS OF THIS SEAT. 12 by the template 'for every input the law returns true; each argument reads behind the call as it read before'; 0 by the template 'total and deterministic' (their statements: YtjjaakmmcmlkgaaTotals.lean).
  GIVEN WITH THE SEED: the statements are not yours to turn. If you find one false, say at which input.
  Laid BY PROGRAM, IN A SANDBOX (cutbox-rows.mjs): the forced cells as the released guide's own fill.sh prints them over the translation 1808ba9d89ca0e09… (all of the seat's roots in one cut). By AI agents, Wed Nov 11 2026. No macro, syntax, notation, axiom, sorry.
-/
import Derived.Test.YtjjaakmmcmlkgaaChecked
import GoSem.Claim
import GoSem.ClaimJoined
import GoSem.ClaimMapViews
import Derived.JoinedTies
import Derived.KernelRfl
namespace Go.Proofs.Ytjjaakmmcmlkgaa
/- THE CELL 'sum', in the pinned program and in every row, IS THE sha256 OF THE DUMP (.gsa) THAT YtjjaakmmcmlkgaaProg.lean LOADS. Nothing in Lean hashes anything: it is a label: what it is worth is what the hold of that sum in a sandbox is worth. -/
noncomputable def Try.pinned : Pinned := { name := "ytjjaakmmcmlkgaa", sum := "1808ba9d89ca0e09c34c47acba8b015c65bbdf6e6ee82842fa54d7ff7cfaea45", checked := Try.checked }
namespace Rows
def none {H : Type} : Left H := { results := [], args := [] }

/-- 'laws.FnZigzagOf': WHATEVER THE INPUT: true; the input reads as it did. -/
def fnZigzagOfSpec : ChangeSpec := { name := "fnZigzagOf", fn := fun _ => fun
  | [d] => { results := [.lit (.bool true)], args := [d] }
  | _ => none }
def fnZigzagOfRow : OpenClaim := { program := "ytjjaakmmcmlkgaa", sum := "1808ba9d89ca0e09c34c47acba8b015c65bbdf6e6ee82842fa54d7ff7cfaea45", func := "loop.example/shadowseries/laws.FnZigzagOf", spec := "fnZigzagOf", unfollowed := true, recurses := true, apart := false }
def FnZigzagOfSaid : Prop := fnZigzagOfRow.holds Try.pinned (OpenSpec.ofChange fnZigzagOfSpec)

/-- ITS FALSE NEIGHBOUR: 'it returns false'. Refute it at one input. -/
def fnZigzagOfWrong : ChangeSpec := { name := "fnZigzagOf", fn := fun _ => fun
  | [d] => { results := [.lit (.bool false)], args := [d] }
  | _ => none }
def FnZigzagOfWrongFalsely : Prop := fnZigzagOfRow.holds Try.pinned (OpenSpec.ofChange fnZigzagOfWrong)

/-- 'laws.FnValueOf': WHATEVER THE INPUT: true; the input reads as it did. -/
def fnValueOfSpec : ChangeSpec := { name := "fnValueOf", fn := fun _ => fun
  | [d] => { results := [.lit (.bool true)], args := [d] }
  | _ => none }
def fnValueOfRow : OpenClaim := { program := "ytjjaakmmcmlkgaa", sum := "1808ba9d89ca0e09c34c47acba8b015c65bbdf6e6ee82842fa54d7ff7cfaea45", func := "loop.example/shadowseries/laws.FnValueOf", spec := "fnValueOf", apart := false }
def FnValueOfSaid : Prop := fnValueOfRow.holds Try.pinned (OpenSpec.ofChange fnValueOfSpec)

/-- ITS FALSE NEIGHBOUR: 'it returns false'. Refute it at one input. -/
def fnValueOfWrong : ChangeSpec := { name := "fnValueOf", fn := fun _ => fun
  | [d] => { results := [.lit (.bool false)], args := [d] }
  | _ => none }
def FnValueOfWrongFalsely : Prop := fnValueOfRow.holds Try.pinned (OpenSpec.ofChange fnValueOfWrong)

/-- 'laws.FnShiftPoly': WHATEVER THE INPUT: true; the input reads as it did. -/
def fnShiftPolySpec : ChangeSpec := { name := "fnShiftPoly", fn := fun _ => fun
  | [d] => { results := [.lit (.bool true)], args := [d] }
  | _ => none }
def fnShiftPolyRow : OpenClaim := { program := "ytjjaakmmcmlkgaa", sum := "1808ba9d89ca0e09c34c47acba8b015c65bbdf6e6ee82842fa54d7ff7cfaea45", func := "loop.example/shadowseries/laws.FnShiftPoly", spec := "fnShiftPoly", unfollowed := true, recurses := true, apart := false }
def FnShiftPolySaid : Prop := fnShiftPolyRow.holds Try.pinned (OpenSpec.ofChange fnShiftPolySpec)

/-- ITS FALSE NEIGHBOUR: 'it returns false'. Refute it at one input. -/
def fnShiftPolyWrong : ChangeSpec := { name := "fnShiftPoly", fn := fun _ => fun
  | [d] => { results := [.lit (.bool false)], args := [d] }
  | _ => none }
def FnShiftPolyWrongFalsely : Prop := fnShiftPolyRow.holds Try.pinned (OpenSpec.ofChange fnShiftPolyWrong)

/-- 'laws.FnOperateOn': WHATEVER THE INPUT: true; the input reads as it did. -/
def fnOperateOnSpec : ChangeSpec := { name := "fnOperateOn", fn := fun _ => fun
  | [d] => { results := [.lit (.bool true)], args := [d] }
  | _ => none }
def fnOperateOnRow : OpenClaim := { program := "ytjjaakmmcmlkgaa", sum := "1808ba9d89ca0e09c34c47acba8b015c65bbdf6e6ee82842fa54d7ff7cfaea45", func := "loop.example/shadowseries/laws.FnOperateOn", spec := "fnOperateOn", unfollowed := true, recurses := true, apart := false }
def FnOperateOnSaid : Prop := fnOperateOnRow.holds Try.pinned (OpenSpec.ofChange fnOperateOnSpec)

/-- ITS FALSE NEIGHBOUR: 'it returns false'. Refute it at one input. -/
def fnOperateOnWrong : ChangeSpec := { name := "fnOperateOn", fn := fun _ => fun
  | [d] => { results := [.lit (.bool false)], args := [d] }
  | _ => none }
def FnOperateOnWrongFalsely : Prop := fnOperateOnRow.holds Try.pinned (OpenSpec.ofChange fnOperateOnWrong)

/-- 'laws.FnValidPoly': WHATEVER THE INPUT: true; the input reads as it did. -/
def fnValidPolySpec : ChangeSpec := { name := "fnValidPoly", fn := fun _ => fun
  | [d] => { results := [.lit (.bool true)], args := [d] }
  | _ => none }
def fnValidPolyRow : OpenClaim := { program := "ytjjaakmmcmlkgaa", sum := "1808ba9d89ca0e09c34c47acba8b015c65bbdf6e6ee82842fa54d7ff7cfaea45", func := "loop.example/shadowseries/laws.FnValidPoly", spec := "fnValidPoly", unfollowed := true, recurses := true, apart := false }
def FnValidPolySaid : Prop := fnValidPolyRow.holds Try.pinned (OpenSpec.ofChange fnValidPolySpec)

/-- ITS FALSE NEIGHBOUR: 'it returns false'. Refute it at one input. -/
def fnValidPolyWrong : ChangeSpec := { name := "fnValidPoly", fn := fun _ => fun
  | [d] => { results := [.lit (.bool false)], args := [d] }
  | _ => none }
def FnValidPolyWrongFalsely : Prop := fnValidPolyRow.holds Try.pinned (OpenSpec.ofChange fnValidPolyWrong)

/-- 'laws.FnToFalling': WHATEVER THE INPUT: true; the input reads as it did. -/
def fnToFallingSpec : ChangeSpec := { name := "fnToFalling", fn := fun _ => fun
  | [d] => { results := [.lit (.bool true)], args := [d] }
  | _ => none }
def fnToFallingRow : OpenClaim := { program := "ytjjaakmmcmlkgaa", sum := "1808ba9d89ca0e09c34c47acba8b015c65bbdf6e6ee82842fa54d7ff7cfaea45", func := "loop.example/shadowseries/laws.FnToFalling", spec := "fnToFalling", unfollowed := true, recurses := true, apart := false }
def FnToFallingSaid : Prop := fnToFallingRow.holds Try.pinned (OpenSpec.ofChange fnToFallingSpec)

/-- ITS FALSE NEIGHBOUR: 'it returns false'. Refute it at one input. -/
def fnToFallingWrong : ChangeSpec := { name := "fnToFalling", fn := fun _ => fun
  | [d] => { results := [.lit (.bool false)], args := [d] }
  | _ => none }
def FnToFallingWrongFalsely : Prop := fnToFallingRow.holds Try.pinned (OpenSpec.ofChange fnToFallingWrong)

/-- 'laws.FnDifferencesAt': WHATEVER THE INPUT: true; the input reads as it did. -/
def fnDifferencesAtSpec : ChangeSpec := { name := "fnDifferencesAt", fn := fun _ => fun
  | [d] => { results := [.lit (.bool true)], args := [d] }
  | _ => none }
def fnDifferencesAtRow : OpenClaim := { program := "ytjjaakmmcmlkgaa", sum := "1808ba9d89ca0e09c34c47acba8b015c65bbdf6e6ee82842fa54d7ff7cfaea45", func := "loop.example/shadowseries/laws.FnDifferencesAt", spec := "fnDifferencesAt", unfollowed := true, recurses := true, apart := false }
def FnDifferencesAtSaid : Prop := fnDifferencesAtRow.holds Try.pinned (OpenSpec.ofChange fnDifferencesAtSpec)

/-- ITS FALSE NEIGHBOUR: 'it returns false'. Refute it at one input. -/
def fnDifferencesAtWrong : ChangeSpec := { name := "fnDifferencesAt", fn := fun _ => fun
  | [d] => { results := [.lit (.bool false)], args := [d] }
  | _ => none }
def FnDifferencesAtWrongFalsely : Prop := fnDifferencesAtRow.holds Try.pinned (OpenSpec.ofChange fnDifferencesAtWrong)

/-- 'laws.FnActOn': WHATEVER THE INPUT: true; the input reads as it did. -/
def fnActOnSpec : ChangeSpec := { name := "fnActOn", fn := fun _ => fun
  | [d] => { results := [.lit (.bool true)], args := [d] }
  | _ => none }
def fnActOnRow : OpenClaim := { program := "ytjjaakmmcmlkgaa", sum := "1808ba9d89ca0e09c34c47acba8b015c65bbdf6e6ee82842fa54d7ff7cfaea45", func := "loop.example/shadowseries/laws.FnActOn", spec := "fnActOn", unfollowed := true, recurses := true, apart := false }
def FnActOnSaid : Prop := fnActOnRow.holds Try.pinned (OpenSpec.ofChange fnActOnSpec)

/-- ITS FALSE NEIGHBOUR: 'it returns false'. Refute it at one input. -/
def fnActOnWrong : ChangeSpec := { name := "fnActOn", fn := fun _ => fun
  | [d] => { results := [.lit (.bool false)], args := [d] }
  | _ => none }
def FnActOnWrongFalsely : Prop := fnActOnRow.holds Try.pinned (OpenSpec.ofChange fnActOnWrong)

/-- 'laws.FnRowSums': WHATEVER THE INPUT: true; the input reads as it did. -/
def fnRowSumsSpec : ChangeSpec := { name := "fnRowSums", fn := fun _ => fun
  | [d] => { results := [.lit (.bool true)], args := [d] }
  | _ => none }
def fnRowSumsRow : OpenClaim := { program := "ytjjaakmmcmlkgaa", sum := "1808ba9d89ca0e09c34c47acba8b015c65bbdf6e6ee82842fa54d7ff7cfaea45", func := "loop.example/shadowseries/laws.FnRowSums", spec := "fnRowSums", unfollowed := true, recurses := true, apart := false }
def FnRowSumsSaid : Prop := fnRowSumsRow.holds Try.pinned (OpenSpec.ofChange fnRowSumsSpec)

/-- ITS FALSE NEIGHBOUR: 'it returns false'. Refute it at one input. -/
def fnRowSumsWrong : ChangeSpec := { name := "fnRowSums", fn := fun _ => fun
  | [d] => { results := [.lit (.bool false)], args := [d] }
  | _ => none }
def FnRowSumsWrongFalsely : Prop := fnRowSumsRow.holds Try.pinned (OpenSpec.ofChange fnRowSumsWrong)

/-- 'laws.FnStepsOf': WHATEVER THE INPUT: true; the input reads as it did. -/
def fnStepsOfSpec : ChangeSpec := { name := "fnStepsOf", fn := fun _ => fun
  | [d] => { results := [.lit (.bool true)], args := [d] }
  | _ => none }
def fnStepsOfRow : OpenClaim := { program := "ytjjaakmmcmlkgaa", sum := "1808ba9d89ca0e09c34c47acba8b015c65bbdf6e6ee82842fa54d7ff7cfaea45", func := "loop.example/shadowseries/laws.FnStepsOf", spec := "fnStepsOf", unfollowed := true, recurses := true, apart := false }
def FnStepsOfSaid : Prop := fnStepsOfRow.holds Try.pinned (OpenSpec.ofChange fnStepsOfSpec)

/-- ITS FALSE NEIGHBOUR: 'it returns false'. Refute it at one input. -/
def fnStepsOfWrong : ChangeSpec := { name := "fnStepsOf", fn := fun _ => fun
  | [d] => { results := [.lit (.bool false)], args := [d] }
  | _ => none }
def FnStepsOfWrongFalsely : Prop := fnStepsOfRow.holds Try.pinned (OpenSpec.ofChange fnStepsOfWrong)

/-- 'laws.FnSequenceOf': WHATEVER THE INPUT: true; the input reads as it did. -/
def fnSequenceOfSpec : ChangeSpec := { name := "fnSequenceOf", fn := fun _ => fun
  | [d] => { results := [.lit (.bool true)], args := [d] }
  | _ => none }
def fnSequenceOfRow : OpenClaim := { program := "ytjjaakmmcmlkgaa", sum := "1808ba9d89ca0e09c34c47acba8b015c65bbdf6e6ee82842fa54d7ff7cfaea45", func := "loop.example/shadowseries/laws.FnSequenceOf", spec := "fnSequenceOf", unfollowed := true, recurses := true, apart := false }
def FnSequenceOfSaid : Prop := fnSequenceOfRow.holds Try.pinned (OpenSpec.ofChange fnSequenceOfSpec)

/-- ITS FALSE NEIGHBOUR: 'it returns false'. Refute it at one input. -/
def fnSequenceOfWrong : ChangeSpec := { name := "fnSequenceOf", fn := fun _ => fun
  | [d] => { results := [.lit (.bool false)], args := [d] }
  | _ => none }
def FnSequenceOfWrongFalsely : Prop := fnSequenceOfRow.holds Try.pinned (OpenSpec.ofChange fnSequenceOfWrong)

/-- 'laws.FnTransformBy': WHATEVER THE INPUT: true; the input reads as it did. -/
def fnTransformBySpec : ChangeSpec := { name := "fnTransformBy", fn := fun _ => fun
  | [d] => { results := [.lit (.bool true)], args := [d] }
  | _ => none }
def fnTransformByRow : OpenClaim := { program := "ytjjaakmmcmlkgaa", sum := "1808ba9d89ca0e09c34c47acba8b015c65bbdf6e6ee82842fa54d7ff7cfaea45", func := "loop.example/shadowseries/laws.FnTransformBy", spec := "fnTransformBy", unfollowed := true, recurses := true, apart := false }
def FnTransformBySaid : Prop := fnTransformByRow.holds Try.pinned (OpenSpec.ofChange fnTransformBySpec)

/-- ITS FALSE NEIGHBOUR: 'it returns false'. Refute it at one input. -/
def fnTransformByWrong : ChangeSpec := { name := "fnTransformBy", fn := fun _ => fun
  | [d] => { results := [.lit (.bool false)], args := [d] }
  | _ => none }
def FnTransformByWrongFalsely : Prop := fnTransformByRow.holds Try.pinned (OpenSpec.ofChange fnTransformByWrong)

/- THE SECOND FORM. 'bulk': how many values and letters a reading holds, each counted each time it is reached (what is shared counts as often as it is met; a slice's spare places count too). A statement '..UptoSaid' is the law's where the arguments, and the package variables that the reading takes, are together of bulk at most 1048576: NARROWER than '..Said'. Prove '..Said' where nothing that the law and all that it calls make is longer than what came in: it says more and counts as full. Else prove '..UptoSaid'. A law counts once. -/
mutual
def uptoBulk {H : Type} : DataW H → Nat
  | .lit (.string bytes) => bytes.length + 1
  | .lit _ => 1
  | .nil => 1
  | .ptr d => uptoBulk d + 1
  | .slice elems spare => uptoBulkAll elems + uptoBulkAll spare + 1
  | .agg parts => uptoBulkAll parts + 1
  | .iface _ d => uptoBulk d + 1
  | .map entries => uptoBulkEntries entries + 1
  | .held _ => 1
def uptoBulkAll {H : Type} : List (DataW H) → Nat
  | [] => 0
  | d :: r => uptoBulk d + uptoBulkAll r
def uptoBulkEntries {H : Type} : List (Lit × DataW H) → Nat
  | [] => 0
  | x :: r => uptoBulkEntry x + uptoBulkEntries r
def uptoBulkEntry {H : Type} : Lit × DataW H → Nat
  | (.string bytes, d) => bytes.length + uptoBulk d + 1
  | (_, d) => uptoBulk d + 1
 end
def uptoSmall : (H : Type) → List (DataW H) → Bool := fun _ ds => decide (uptoBulkAll ds ≤ 1048576)
def OpenSpec.upto (s : _root_.Go.ChangeSpec) : _root_.Go.OpenSpec := { _root_.Go.OpenSpec.ofChange s with cond := some uptoSmall }

/-- 'laws.FnZigzagOf', WHERE WHAT IT READS IS OF BULK AT MOST 1048576: true; the input reads as it did. -/
def fnZigzagOfUptoRow : OpenClaim := { program := "ytjjaakmmcmlkgaa", sum := "1808ba9d89ca0e09c34c47acba8b015c65bbdf6e6ee82842fa54d7ff7cfaea45", func := "loop.example/shadowseries/laws.FnZigzagOf", spec := "fnZigzagOf", unfollowed := true, recurses := true, apart := false, narrowed := true }
def FnZigzagOfUptoSaid : Prop := fnZigzagOfUptoRow.holds Try.pinned (OpenSpec.upto fnZigzagOfSpec)

/-- 'laws.FnValueOf', WHERE WHAT IT READS IS OF BULK AT MOST 1048576: true; the input reads as it did. -/
def fnValueOfUptoRow : OpenClaim := { program := "ytjjaakmmcmlkgaa", sum := "1808ba9d89ca0e09c34c47acba8b015c65bbdf6e6ee82842fa54d7ff7cfaea45", func := "loop.example/shadowseries/laws.FnValueOf", spec := "fnValueOf", apart := false, narrowed := true }
def FnValueOfUptoSaid : Prop := fnValueOfUptoRow.holds Try.pinned (OpenSpec.upto fnValueOfSpec)

/-- 'laws.FnShiftPoly', WHERE WHAT IT READS IS OF BULK AT MOST 1048576: true; the input reads as it did. -/
def fnShiftPolyUptoRow : OpenClaim := { program := "ytjjaakmmcmlkgaa", sum := "1808ba9d89ca0e09c34c47acba8b015c65bbdf6e6ee82842fa54d7ff7cfaea45", func := "loop.example/shadowseries/laws.FnShiftPoly", spec := "fnShiftPoly", unfollowed := true, recurses := true, apart := false, narrowed := true }
def FnShiftPolyUptoSaid : Prop := fnShiftPolyUptoRow.holds Try.pinned (OpenSpec.upto fnShiftPolySpec)

/-- 'laws.FnOperateOn', WHERE WHAT IT READS IS OF BULK AT MOST 1048576: true; the input reads as it did. -/
def fnOperateOnUptoRow : OpenClaim := { program := "ytjjaakmmcmlkgaa", sum := "1808ba9d89ca0e09c34c47acba8b015c65bbdf6e6ee82842fa54d7ff7cfaea45", func := "loop.example/shadowseries/laws.FnOperateOn", spec := "fnOperateOn", unfollowed := true, recurses := true, apart := false, narrowed := true }
def FnOperateOnUptoSaid : Prop := fnOperateOnUptoRow.holds Try.pinned (OpenSpec.upto fnOperateOnSpec)

/-- 'laws.FnValidPoly', WHERE WHAT IT READS IS OF BULK AT MOST 1048576: true; the input reads as it did. -/
def fnValidPolyUptoRow : OpenClaim := { program := "ytjjaakmmcmlkgaa", sum := "1808ba9d89ca0e09c34c47acba8b015c65bbdf6e6ee82842fa54d7ff7cfaea45", func := "loop.example/shadowseries/laws.FnValidPoly", spec := "fnValidPoly", unfollowed := true, recurses := true, apart := false, narrowed := true }
def FnValidPolyUptoSaid : Prop := fnValidPolyUptoRow.holds Try.pinned (OpenSpec.upto fnValidPolySpec)

/-- 'laws.FnToFalling', WHERE WHAT IT READS IS OF BULK AT MOST 1048576: true; the input reads as it did. -/
def fnToFallingUptoRow : OpenClaim := { program := "ytjjaakmmcmlkgaa", sum := "1808ba9d89ca0e09c34c47acba8b015c65bbdf6e6ee82842fa54d7ff7cfaea45", func := "loop.example/shadowseries/laws.FnToFalling", spec := "fnToFalling", unfollowed := true, recurses := true, apart := false, narrowed := true }
def FnToFallingUptoSaid : Prop := fnToFallingUptoRow.holds Try.pinned (OpenSpec.upto fnToFallingSpec)

/-- 'laws.FnDifferencesAt', WHERE WHAT IT READS IS OF BULK AT MOST 1048576: true; the input reads as it did. -/
def fnDifferencesAtUptoRow : OpenClaim := { program := "ytjjaakmmcmlkgaa", sum := "1808ba9d89ca0e09c34c47acba8b015c65bbdf6e6ee82842fa54d7ff7cfaea45", func := "loop.example/shadowseries/laws.FnDifferencesAt", spec := "fnDifferencesAt", unfollowed := true, recurses := true, apart := false, narrowed := true }
def FnDifferencesAtUptoSaid : Prop := fnDifferencesAtUptoRow.holds Try.pinned (OpenSpec.upto fnDifferencesAtSpec)

/-- 'laws.FnActOn', WHERE WHAT IT READS IS OF BULK AT MOST 1048576: true; the input reads as it did. -/
def fnActOnUptoRow : OpenClaim := { program := "ytjjaakmmcmlkgaa", sum := "1808ba9d89ca0e09c34c47acba8b015c65bbdf6e6ee82842fa54d7ff7cfaea45", func := "loop.example/shadowseries/laws.FnActOn", spec := "fnActOn", unfollowed := true, recurses := true, apart := false, narrowed := true }
def FnActOnUptoSaid : Prop := fnActOnUptoRow.holds Try.pinned (OpenSpec.upto fnActOnSpec)

/-- 'laws.FnRowSums', WHERE WHAT IT READS IS OF BULK AT MOST 1048576: true; the input reads as it did. -/
def fnRowSumsUptoRow : OpenClaim := { program := "ytjjaakmmcmlkgaa", sum := "1808ba9d89ca0e09c34c47acba8b015c65bbdf6e6ee82842fa54d7ff7cfaea45", func := "loop.example/shadowseries/laws.FnRowSums", spec := "fnRowSums", unfollowed := true, recurses := true, apart := false, narrowed := true }
def FnRowSumsUptoSaid : Prop := fnRowSumsUptoRow.holds Try.pinned (OpenSpec.upto fnRowSumsSpec)

/-- 'laws.FnStepsOf', WHERE WHAT IT READS IS OF BULK AT MOST 1048576: true; the input reads as it did. -/
def fnStepsOfUptoRow : OpenClaim := { program := "ytjjaakmmcmlkgaa", sum := "1808ba9d89ca0e09c34c47acba8b015c65bbdf6e6ee82842fa54d7ff7cfaea45", func := "loop.example/shadowseries/laws.FnStepsOf", spec := "fnStepsOf", unfollowed := true, recurses := true, apart := false, narrowed := true }
def FnStepsOfUptoSaid : Prop := fnStepsOfUptoRow.holds Try.pinned (OpenSpec.upto fnStepsOfSpec)

/-- 'laws.FnSequenceOf', WHERE WHAT IT READS IS OF BULK AT MOST 1048576: true; the input reads as it did. -/
def fnSequenceOfUptoRow : OpenClaim := { program := "ytjjaakmmcmlkgaa", sum := "1808ba9d89ca0e09c34c47acba8b015c65bbdf6e6ee82842fa54d7ff7cfaea45", func := "loop.example/shadowseries/laws.FnSequenceOf", spec := "fnSequenceOf", unfollowed := true, recurses := true, apart := false, narrowed := true }
def FnSequenceOfUptoSaid : Prop := fnSequenceOfUptoRow.holds Try.pinned (OpenSpec.upto fnSequenceOfSpec)

/-- 'laws.FnTransformBy', WHERE WHAT IT READS IS OF BULK AT MOST 1048576: true; the input reads as it did. -/
def fnTransformByUptoRow : OpenClaim := { program := "ytjjaakmmcmlkgaa", sum := "1808ba9d89ca0e09c34c47acba8b015c65bbdf6e6ee82842fa54d7ff7cfaea45", func := "loop.example/shadowseries/laws.FnTransformBy", spec := "fnTransformBy", unfollowed := true, recurses := true, apart := false, narrowed := true }
def FnTransformByUptoSaid : Prop := fnTransformByUptoRow.holds Try.pinned (OpenSpec.upto fnTransformBySpec)

end Rows
end Go.Proofs.Ytjjaakmmcmlkgaa

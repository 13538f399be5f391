/-
  No cell of these rows narrows 'for every input' (looked for: loops, veiled, ifaces, maps, wideKeys, modest, calm, conditions, laid).
  DERIVED. THE GIVEN ROWS OF THIS SEAT. 10 by the template 'for every input the law returns true; each argument reads behind the call as it read before'; 0 by the template 'total and deterministic' (their statements: YtbjjlimncodmkabTotals.lean).
  GIVEN WITH THE SEED: the statements are not yours to turn. If you find one false, say at which input.
  Laid BY PROGRAM, IN A SANDBOX (cutbox-rows.mjs): the forced cells as the released guide's own fill.sh prints them over the translation e9cd29495a002302… (all of the seat's roots in one cut). By AI agents, Wed Nov 11 2026. No macro, syntax, notation, axiom, sorry.
-/
import Derived.Test.YtbjjlimncodmkabChecked
import GoSem.Claim
import GoSem.ClaimJoined
import GoSem.ClaimMapViews
import Derived.JoinedTies
import Derived.KernelRfl
namespace Go.Proofs.Ytbjjlimncodmkab
/- THE CELL 'sum', in the pinned program and in every row, IS THE sha256 OF THE DUMP (.gsa) THAT YtbjjlimncodmkabProg.lean LOADS. Nothing in Lean hashes anything: it is a label: what it is worth is what the hold of that sum in a sandbox is worth. -/
noncomputable def Try.pinned : Pinned := { name := "ytbjjlimncodmkab", sum := "e9cd29495a002302c7c62524b29eecb3e152f0734143a29d0ba027e261f0e81f", checked := Try.checked }
namespace Rows
def none {H : Type} : Left H := { results := [], args := [] }

/-- 'laws.FnExactValueOf': WHATEVER THE INPUT: true; the input reads as it did. -/
def fnExactValueOfSpec : ChangeSpec := { name := "fnExactValueOf", fn := fun _ => fun
  | [d1, d2] => { results := [.lit (.bool true)], args := [d1, d2] }
  | _ => none }
def fnExactValueOfRow : OpenClaim := { program := "ytbjjlimncodmkab", sum := "e9cd29495a002302c7c62524b29eecb3e152f0734143a29d0ba027e261f0e81f", func := "loop.example/shadowseries/laws.FnExactValueOf", spec := "fnExactValueOf", apart := false }
def FnExactValueOfSaid : Prop := fnExactValueOfRow.holds Try.pinned (OpenSpec.ofChange fnExactValueOfSpec)

/-- ITS FALSE NEIGHBOUR: 'it returns false'. Refute it at one input. -/
def fnExactValueOfWrong : ChangeSpec := { name := "fnExactValueOf", fn := fun _ => fun
  | [d1, d2] => { results := [.lit (.bool false)], args := [d1, d2] }
  | _ => none }
def FnExactValueOfWrongFalsely : Prop := fnExactValueOfRow.holds Try.pinned (OpenSpec.ofChange fnExactValueOfWrong)

/-- 'laws.FnExactShiftPoly': WHATEVER THE INPUT: true; the input reads as it did. -/
def fnExactShiftPolySpec : ChangeSpec := { name := "fnExactShiftPoly", fn := fun _ => fun
  | [d1, d2] => { results := [.lit (.bool true)], args := [d1, d2] }
  | _ => none }
def fnExactShiftPolyRow : OpenClaim := { program := "ytbjjlimncodmkab", sum := "e9cd29495a002302c7c62524b29eecb3e152f0734143a29d0ba027e261f0e81f", func := "loop.example/shadowseries/laws.FnExactShiftPoly", spec := "fnExactShiftPoly", unfollowed := true, recurses := true, apart := false }
def FnExactShiftPolySaid : Prop := fnExactShiftPolyRow.holds Try.pinned (OpenSpec.ofChange fnExactShiftPolySpec)

/-- ITS FALSE NEIGHBOUR: 'it returns false'. Refute it at one input. -/
def fnExactShiftPolyWrong : ChangeSpec := { name := "fnExactShiftPoly", fn := fun _ => fun
  | [d1, d2] => { results := [.lit (.bool false)], args := [d1, d2] }
  | _ => none }
def FnExactShiftPolyWrongFalsely : Prop := fnExactShiftPolyRow.holds Try.pinned (OpenSpec.ofChange fnExactShiftPolyWrong)

/-- 'laws.FnExactOperateOn': WHATEVER THE INPUT: true; the input reads as it did. -/
def fnExactOperateOnSpec : ChangeSpec := { name := "fnExactOperateOn", fn := fun _ => fun
  | [d1, d2] => { results := [.lit (.bool true)], args := [d1, d2] }
  | _ => none }
def fnExactOperateOnRow : OpenClaim := { program := "ytbjjlimncodmkab", sum := "e9cd29495a002302c7c62524b29eecb3e152f0734143a29d0ba027e261f0e81f", func := "loop.example/shadowseries/laws.FnExactOperateOn", spec := "fnExactOperateOn", unfollowed := true, recurses := true, apart := false }
def FnExactOperateOnSaid : Prop := fnExactOperateOnRow.holds Try.pinned (OpenSpec.ofChange fnExactOperateOnSpec)

/-- ITS FALSE NEIGHBOUR: 'it returns false'. Refute it at one input. -/
def fnExactOperateOnWrong : ChangeSpec := { name := "fnExactOperateOn", fn := fun _ => fun
  | [d1, d2] => { results := [.lit (.bool false)], args := [d1, d2] }
  | _ => none }
def FnExactOperateOnWrongFalsely : Prop := fnExactOperateOnRow.holds Try.pinned (OpenSpec.ofChange fnExactOperateOnWrong)

/-- 'laws.FnExactSequenceOf': WHATEVER THE INPUT: true; the input reads as it did. -/
def fnExactSequenceOfSpec : ChangeSpec := { name := "fnExactSequenceOf", fn := fun _ => fun
  | [d] => { results := [.lit (.bool true)], args := [d] }
  | _ => none }
def fnExactSequenceOfRow : OpenClaim := { program := "ytbjjlimncodmkab", sum := "e9cd29495a002302c7c62524b29eecb3e152f0734143a29d0ba027e261f0e81f", func := "loop.example/shadowseries/laws.FnExactSequenceOf", spec := "fnExactSequenceOf", unfollowed := true, recurses := true, apart := false }
def FnExactSequenceOfSaid : Prop := fnExactSequenceOfRow.holds Try.pinned (OpenSpec.ofChange fnExactSequenceOfSpec)

/-- ITS FALSE NEIGHBOUR: 'it returns false'. Refute it at one input. -/
def fnExactSequenceOfWrong : ChangeSpec := { name := "fnExactSequenceOf", fn := fun _ => fun
  | [d] => { results := [.lit (.bool false)], args := [d] }
  | _ => none }
def FnExactSequenceOfWrongFalsely : Prop := fnExactSequenceOfRow.holds Try.pinned (OpenSpec.ofChange fnExactSequenceOfWrong)

/-- 'laws.FnExactValidSequence': WHATEVER THE INPUT: true; the input reads as it did. -/
def fnExactValidSequenceSpec : ChangeSpec := { name := "fnExactValidSequence", fn := fun _ => fun
  | [d] => { results := [.lit (.bool true)], args := [d] }
  | _ => none }
def fnExactValidSequenceRow : OpenClaim := { program := "ytbjjlimncodmkab", sum := "e9cd29495a002302c7c62524b29eecb3e152f0734143a29d0ba027e261f0e81f", func := "loop.example/shadowseries/laws.FnExactValidSequence", spec := "fnExactValidSequence", apart := false }
def FnExactValidSequenceSaid : Prop := fnExactValidSequenceRow.holds Try.pinned (OpenSpec.ofChange fnExactValidSequenceSpec)

/-- ITS FALSE NEIGHBOUR: 'it returns false'. Refute it at one input. -/
def fnExactValidSequenceWrong : ChangeSpec := { name := "fnExactValidSequence", fn := fun _ => fun
  | [d] => { results := [.lit (.bool false)], args := [d] }
  | _ => none }
def FnExactValidSequenceWrongFalsely : Prop := fnExactValidSequenceRow.holds Try.pinned (OpenSpec.ofChange fnExactValidSequenceWrong)

/-- 'laws.FnExactIsBinomial': WHATEVER THE INPUT: true; the input reads as it did. -/
def fnExactIsBinomialSpec : ChangeSpec := { name := "fnExactIsBinomial", fn := fun _ => fun
  | [d] => { results := [.lit (.bool true)], args := [d] }
  | _ => none }
def fnExactIsBinomialRow : OpenClaim := { program := "ytbjjlimncodmkab", sum := "e9cd29495a002302c7c62524b29eecb3e152f0734143a29d0ba027e261f0e81f", func := "loop.example/shadowseries/laws.FnExactIsBinomial", spec := "fnExactIsBinomial", unfollowed := true, recurses := true, apart := false }
def FnExactIsBinomialSaid : Prop := fnExactIsBinomialRow.holds Try.pinned (OpenSpec.ofChange fnExactIsBinomialSpec)

/-- ITS FALSE NEIGHBOUR: 'it returns false'. Refute it at one input. -/
def fnExactIsBinomialWrong : ChangeSpec := { name := "fnExactIsBinomial", fn := fun _ => fun
  | [d] => { results := [.lit (.bool false)], args := [d] }
  | _ => none }
def FnExactIsBinomialWrongFalsely : Prop := fnExactIsBinomialRow.holds Try.pinned (OpenSpec.ofChange fnExactIsBinomialWrong)

/-- 'laws.FnExactReplacePowers': WHATEVER THE INPUT: true; the input reads as it did. -/
def fnExactReplacePowersSpec : ChangeSpec := { name := "fnExactReplacePowers", fn := fun _ => fun
  | [d1, d2] => { results := [.lit (.bool true)], args := [d1, d2] }
  | _ => none }
def fnExactReplacePowersRow : OpenClaim := { program := "ytbjjlimncodmkab", sum := "e9cd29495a002302c7c62524b29eecb3e152f0734143a29d0ba027e261f0e81f", func := "loop.example/shadowseries/laws.FnExactReplacePowers", spec := "fnExactReplacePowers", apart := false }
def FnExactReplacePowersSaid : Prop := fnExactReplacePowersRow.holds Try.pinned (OpenSpec.ofChange fnExactReplacePowersSpec)

/-- ITS FALSE NEIGHBOUR: 'it returns false'. Refute it at one input. -/
def fnExactReplacePowersWrong : ChangeSpec := { name := "fnExactReplacePowers", fn := fun _ => fun
  | [d1, d2] => { results := [.lit (.bool false)], args := [d1, d2] }
  | _ => none }
def FnExactReplacePowersWrongFalsely : Prop := fnExactReplacePowersRow.holds Try.pinned (OpenSpec.ofChange fnExactReplacePowersWrong)

/-- 'laws.FnExactFallingProducts': WHATEVER THE INPUT: true; the input reads as it did. -/
def fnExactFallingProductsSpec : ChangeSpec := { name := "fnExactFallingProducts", fn := fun _ => fun
  | [d] => { results := [.lit (.bool true)], args := [d] }
  | _ => none }
def fnExactFallingProductsRow : OpenClaim := { program := "ytbjjlimncodmkab", sum := "e9cd29495a002302c7c62524b29eecb3e152f0734143a29d0ba027e261f0e81f", func := "loop.example/shadowseries/laws.FnExactFallingProducts", spec := "fnExactFallingProducts", apart := false }
def FnExactFallingProductsSaid : Prop := fnExactFallingProductsRow.holds Try.pinned (OpenSpec.ofChange fnExactFallingProductsSpec)

/-- ITS FALSE NEIGHBOUR: 'it returns false'. Refute it at one input. -/
def fnExactFallingProductsWrong : ChangeSpec := { name := "fnExactFallingProducts", fn := fun _ => fun
  | [d] => { results := [.lit (.bool false)], args := [d] }
  | _ => none }
def FnExactFallingProductsWrongFalsely : Prop := fnExactFallingProductsRow.holds Try.pinned (OpenSpec.ofChange fnExactFallingProductsWrong)

/-- 'laws.FnExactToFalling': WHATEVER THE INPUT: true; the input reads as it did. -/
def fnExactToFallingSpec : ChangeSpec := { name := "fnExactToFalling", fn := fun _ => fun
  | [d] => { results := [.lit (.bool true)], args := [d] }
  | _ => none }
def fnExactToFallingRow : OpenClaim := { program := "ytbjjlimncodmkab", sum := "e9cd29495a002302c7c62524b29eecb3e152f0734143a29d0ba027e261f0e81f", func := "loop.example/shadowseries/laws.FnExactToFalling", spec := "fnExactToFalling", unfollowed := true, recurses := true, apart := false }
def FnExactToFallingSaid : Prop := fnExactToFallingRow.holds Try.pinned (OpenSpec.ofChange fnExactToFallingSpec)

/-- ITS FALSE NEIGHBOUR: 'it returns false'. Refute it at one input. -/
def fnExactToFallingWrong : ChangeSpec := { name := "fnExactToFalling", fn := fun _ => fun
  | [d] => { results := [.lit (.bool false)], args := [d] }
  | _ => none }
def FnExactToFallingWrongFalsely : Prop := fnExactToFallingRow.holds Try.pinned (OpenSpec.ofChange fnExactToFallingWrong)

/-- 'laws.FnExactDifferencesAt': WHATEVER THE INPUT: true; the input reads as it did. -/
def fnExactDifferencesAtSpec : ChangeSpec := { name := "fnExactDifferencesAt", fn := fun _ => fun
  | [d] => { results := [.lit (.bool true)], args := [d] }
  | _ => none }
def fnExactDifferencesAtRow : OpenClaim := { program := "ytbjjlimncodmkab", sum := "e9cd29495a002302c7c62524b29eecb3e152f0734143a29d0ba027e261f0e81f", func := "loop.example/shadowseries/laws.FnExactDifferencesAt", spec := "fnExactDifferencesAt", unfollowed := true, recurses := true, apart := false }
def FnExactDifferencesAtSaid : Prop := fnExactDifferencesAtRow.holds Try.pinned (OpenSpec.ofChange fnExactDifferencesAtSpec)

/-- ITS FALSE NEIGHBOUR: 'it returns false'. Refute it at one input. -/
def fnExactDifferencesAtWrong : ChangeSpec := { name := "fnExactDifferencesAt", fn := fun _ => fun
  | [d] => { results := [.lit (.bool false)], args := [d] }
  | _ => none }
def FnExactDifferencesAtWrongFalsely : Prop := fnExactDifferencesAtRow.holds Try.pinned (OpenSpec.ofChange fnExactDifferencesAtWrong)

/- THE SECOND FORM. 'bulk': how many values and letters a reading holds, each counted each time it is reached (what is shared counts as often as it is met; a slice's spare places count too). A statement '..UptoSaid' is the law's where the arguments, and the package variables that the reading takes, are together of bulk at most 1048576: NARROWER than '..Said'. Prove '..Said' where nothing that the law and all that it calls make is longer than what came in: it says more and counts as full. Else prove '..UptoSaid'. A law counts once. -/
mutual
def uptoBulk {H : Type} : DataW H → Nat
  | .lit (.string bytes) => bytes.length + 1
  | .lit _ => 1
  | .nil => 1
  | .ptr d => uptoBulk d + 1
  | .slice elems spare => uptoBulkAll elems + uptoBulkAll spare + 1
  | .agg parts => uptoBulkAll parts + 1
  | .iface _ d => uptoBulk d + 1
  | .map entries => uptoBulkEntries entries + 1
  | .held _ => 1
def uptoBulkAll {H : Type} : List (DataW H) → Nat
  | [] => 0
  | d :: r => uptoBulk d + uptoBulkAll r
def uptoBulkEntries {H : Type} : List (Lit × DataW H) → Nat
  | [] => 0
  | x :: r => uptoBulkEntry x + uptoBulkEntries r
def uptoBulkEntry {H : Type} : Lit × DataW H → Nat
  | (.string bytes, d) => bytes.length + uptoBulk d + 1
  | (_, d) => uptoBulk d + 1
 end
def uptoSmall : (H : Type) → List (DataW H) → Bool := fun _ ds => decide (uptoBulkAll ds ≤ 1048576)
def OpenSpec.upto (s : _root_.Go.ChangeSpec) : _root_.Go.OpenSpec := { _root_.Go.OpenSpec.ofChange s with cond := some uptoSmall }

/-- 'laws.FnExactValueOf', WHERE WHAT IT READS IS OF BULK AT MOST 1048576: true; the input reads as it did. -/
def fnExactValueOfUptoRow : OpenClaim := { program := "ytbjjlimncodmkab", sum := "e9cd29495a002302c7c62524b29eecb3e152f0734143a29d0ba027e261f0e81f", func := "loop.example/shadowseries/laws.FnExactValueOf", spec := "fnExactValueOf", apart := false, narrowed := true }
def FnExactValueOfUptoSaid : Prop := fnExactValueOfUptoRow.holds Try.pinned (OpenSpec.upto fnExactValueOfSpec)

/-- 'laws.FnExactShiftPoly', WHERE WHAT IT READS IS OF BULK AT MOST 1048576: true; the input reads as it did. -/
def fnExactShiftPolyUptoRow : OpenClaim := { program := "ytbjjlimncodmkab", sum := "e9cd29495a002302c7c62524b29eecb3e152f0734143a29d0ba027e261f0e81f", func := "loop.example/shadowseries/laws.FnExactShiftPoly", spec := "fnExactShiftPoly", unfollowed := true, recurses := true, apart := false, narrowed := true }
def FnExactShiftPolyUptoSaid : Prop := fnExactShiftPolyUptoRow.holds Try.pinned (OpenSpec.upto fnExactShiftPolySpec)

/-- 'laws.FnExactOperateOn', WHERE WHAT IT READS IS OF BULK AT MOST 1048576: true; the input reads as it did. -/
def fnExactOperateOnUptoRow : OpenClaim := { program := "ytbjjlimncodmkab", sum := "e9cd29495a002302c7c62524b29eecb3e152f0734143a29d0ba027e261f0e81f", func := "loop.example/shadowseries/laws.FnExactOperateOn", spec := "fnExactOperateOn", unfollowed := true, recurses := true, apart := false, narrowed := true }
def FnExactOperateOnUptoSaid : Prop := fnExactOperateOnUptoRow.holds Try.pinned (OpenSpec.upto fnExactOperateOnSpec)

/-- 'laws.FnExactSequenceOf', WHERE WHAT IT READS IS OF BULK AT MOST 1048576: true; the input reads as it did. -/
def fnExactSequenceOfUptoRow : OpenClaim := { program := "ytbjjlimncodmkab", sum := "e9cd29495a002302c7c62524b29eecb3e152f0734143a29d0ba027e261f0e81f", func := "loop.example/shadowseries/laws.FnExactSequenceOf", spec := "fnExactSequenceOf", unfollowed := true, recurses := true, apart := false, narrowed := true }
def FnExactSequenceOfUptoSaid : Prop := fnExactSequenceOfUptoRow.holds Try.pinned (OpenSpec.upto fnExactSequenceOfSpec)

/-- 'laws.FnExactValidSequence', WHERE WHAT IT READS IS OF BULK AT MOST 1048576: true; the input reads as it did. -/
def fnExactValidSequenceUptoRow : OpenClaim := { program := "ytbjjlimncodmkab", sum := "e9cd29495a002302c7c62524b29eecb3e152f0734143a29d0ba027e261f0e81f", func := "loop.example/shadowseries/laws.FnExactValidSequence", spec := "fnExactValidSequence", apart := false, narrowed := true }
def FnExactValidSequenceUptoSaid : Prop := fnExactValidSequenceUptoRow.holds Try.pinned (OpenSpec.upto fnExactValidSequenceSpec)

/-- 'laws.FnExactIsBinomial', WHERE WHAT IT READS IS OF BULK AT MOST 1048576: true; the input reads as it did. -/
def fnExactIsBinomialUptoRow : OpenClaim := { program := "ytbjjlimncodmkab", sum := "e9cd29495a002302c7c62524b29eecb3e152f0734143a29d0ba027e261f0e81f", func := "loop.example/shadowseries/laws.FnExactIsBinomial", spec := "fnExactIsBinomial", unfollowed := true, recurses := true, apart := false, narrowed := true }
def FnExactIsBinomialUptoSaid : Prop := fnExactIsBinomialUptoRow.holds Try.pinned (OpenSpec.upto fnExactIsBinomialSpec)

/-- 'laws.FnExactReplacePowers', WHERE WHAT IT READS IS OF BULK AT MOST 1048576: true; the input reads as it did. -/
def fnExactReplacePowersUptoRow : OpenClaim := { program := "ytbjjlimncodmkab", sum := "e9cd29495a002302c7c62524b29eecb3e152f0734143a29d0ba027e261f0e81f", func := "loop.example/shadowseries/laws.FnExactReplacePowers", spec := "fnExactReplacePowers", apart := false, narrowed := true }
def FnExactReplacePowersUptoSaid : Prop := fnExactReplacePowersUptoRow.holds Try.pinned (OpenSpec.upto fnExactReplacePowersSpec)

/-- 'laws.FnExactFallingProducts', WHERE WHAT IT READS IS OF BULK AT MOST 1048576: true; the input reads as it did. -/
def fnExactFallingProductsUptoRow : OpenClaim := { program := "ytbjjlimncodmkab", sum := "e9cd29495a002302c7c62524b29eecb3e152f0734143a29d0ba027e261f0e81f", func := "loop.example/shadowseries/laws.FnExactFallingProducts", spec := "fnExactFallingProducts", apart := false, narrowed := true }
def FnExactFallingProductsUptoSaid : Prop := fnExactFallingProductsUptoRow.holds Try.pinned (OpenSpec.upto fnExactFallingProductsSpec)

/-- 'laws.FnExactToFalling', WHERE WHAT IT READS IS OF BULK AT MOST 1048576: true; the input reads as it did. -/
def fnExactToFallingUptoRow : OpenClaim := { program := "ytbjjlimncodmkab", sum := "e9cd29495a002302c7c62524b29eecb3e152f0734143a29d0ba027e261f0e81f", func := "loop.example/shadowseries/laws.FnExactToFalling", spec := "fnExactToFalling", unfollowed := true, recurses := true, apart := false, narrowed := true }
def FnExactToFallingUptoSaid : Prop := fnExactToFallingUptoRow.holds Try.pinned (OpenSpec.upto fnExactToFallingSpec)

/-- 'laws.FnExactDifferencesAt', WHERE WHAT IT READS IS OF BULK AT MOST 1048576: true; the input reads as it did. -/
def fnExactDifferencesAtUptoRow : OpenClaim := { program := "ytbjjlimncodmkab", sum := "e9cd29495a002302c7c62524b29eecb3e152f0734143a29d0ba027e261f0e81f", func := "loop.example/shadowseries/laws.FnExactDifferencesAt", spec := "fnExactDifferencesAt", unfollowed := true, recurses := true, apart := false, narrowed := true }
def FnExactDifferencesAtUptoSaid : Prop := fnExactDifferencesAtUptoRow.holds Try.pinned (OpenSpec.upto fnExactDifferencesAtSpec)

end Rows
end Go.Proofs.Ytbjjlimncodmkab

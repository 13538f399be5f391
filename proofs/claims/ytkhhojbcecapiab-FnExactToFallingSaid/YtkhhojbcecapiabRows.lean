/-
  No cell of these rows narrows 'for every input' (looked for: loops, veiled, ifaces, maps, wideKeys, modest, calm, conditions, laid).
  DERIVED. THE GIVEN ROWS OF THIS SEAT. 10 by the template 'for every input the law returns true; each argument reads behind the call as it read before'; 0 by the template 'total and deterministic' (their statements: YtkhhojbcecapiabTotals.lean).
  GIVEN WITH THE SEED: the statements are not yours to turn. If you find one false, say at which input.
  Laid BY PROGRAM, IN A SANDBOX (cutbox-rows.mjs): the forced cells as the released guide's own fill.sh prints them over the translation 5f53174366260874… (all of the seat's roots in one cut). By AI agents, Wed Nov 11 2026. No macro, syntax, notation, axiom, sorry.
-/
import Derived.Test.YtkhhojbcecapiabChecked
import GoSem.Claim
import GoSem.ClaimJoined
import GoSem.ClaimMapViews
import Derived.JoinedTies
import Derived.KernelRfl
namespace Go.Proofs.Ytkhhojbcecapiab
/- THE CELL 'sum', in the pinned program and in every row, IS THE sha256 OF THE DUMP (.gsa) THAT YtkhhojbcecapiabProg.lean LOADS. Nothing in Lean hashes anything: it is a label: what it is worth is what the hold of that sum in a sandbox is worth. -/
noncomputable def Try.pinned : Pinned := { name := "ytkhhojbcecapiab", sum := "5f53174366260874219c059153ed0dec0a6d65bdac926f562983f8302d82b468", checked := Try.checked }
namespace Rows
def none {H : Type} : Left H := { results := [], args := [] }

/-- 'laws.FnExactInversePair': WHATEVER THE INPUT: true; the input reads as it did. -/
def fnExactInversePairSpec : ChangeSpec := { name := "fnExactInversePair", fn := fun _ => fun
  | [d] => { results := [.lit (.bool true)], args := [d] }
  | _ => none }
def fnExactInversePairRow : OpenClaim := { program := "ytkhhojbcecapiab", sum := "5f53174366260874219c059153ed0dec0a6d65bdac926f562983f8302d82b468", func := "loop.example/shadowseries/laws.FnExactInversePair", spec := "fnExactInversePair", unfollowed := true, recurses := true, apart := false }
def FnExactInversePairSaid : Prop := fnExactInversePairRow.holds Try.pinned (OpenSpec.ofChange fnExactInversePairSpec)

/-- ITS FALSE NEIGHBOUR: 'it returns false'. Refute it at one input. -/
def fnExactInversePairWrong : ChangeSpec := { name := "fnExactInversePair", fn := fun _ => fun
  | [d] => { results := [.lit (.bool false)], args := [d] }
  | _ => none }
def FnExactInversePairWrongFalsely : Prop := fnExactInversePairRow.holds Try.pinned (OpenSpec.ofChange fnExactInversePairWrong)

/-- 'laws.FnExactStepsOf': WHATEVER THE INPUT: true; the input reads as it did. -/
def fnExactStepsOfSpec : ChangeSpec := { name := "fnExactStepsOf", fn := fun _ => fun
  | [d] => { results := [.lit (.bool true)], args := [d] }
  | _ => none }
def fnExactStepsOfRow : OpenClaim := { program := "ytkhhojbcecapiab", sum := "5f53174366260874219c059153ed0dec0a6d65bdac926f562983f8302d82b468", func := "loop.example/shadowseries/laws.FnExactStepsOf", spec := "fnExactStepsOf", unfollowed := true, recurses := true, apart := false }
def FnExactStepsOfSaid : Prop := fnExactStepsOfRow.holds Try.pinned (OpenSpec.ofChange fnExactStepsOfSpec)

/-- ITS FALSE NEIGHBOUR: 'it returns false'. Refute it at one input. -/
def fnExactStepsOfWrong : ChangeSpec := { name := "fnExactStepsOf", fn := fun _ => fun
  | [d] => { results := [.lit (.bool false)], args := [d] }
  | _ => none }
def FnExactStepsOfWrongFalsely : Prop := fnExactStepsOfRow.holds Try.pinned (OpenSpec.ofChange fnExactStepsOfWrong)

/-- 'laws.FnExactMultiplyPairs': WHATEVER THE INPUT: true; the input reads as it did. -/
def fnExactMultiplyPairsSpec : ChangeSpec := { name := "fnExactMultiplyPairs", fn := fun _ => fun
  | [d1, d2] => { results := [.lit (.bool true)], args := [d1, d2] }
  | _ => none }
def fnExactMultiplyPairsRow : OpenClaim := { program := "ytkhhojbcecapiab", sum := "5f53174366260874219c059153ed0dec0a6d65bdac926f562983f8302d82b468", func := "loop.example/shadowseries/laws.FnExactMultiplyPairs", spec := "fnExactMultiplyPairs", unfollowed := true, recurses := true, apart := false }
def FnExactMultiplyPairsSaid : Prop := fnExactMultiplyPairsRow.holds Try.pinned (OpenSpec.ofChange fnExactMultiplyPairsSpec)

/-- ITS FALSE NEIGHBOUR: 'it returns false'. Refute it at one input. -/
def fnExactMultiplyPairsWrong : ChangeSpec := { name := "fnExactMultiplyPairs", fn := fun _ => fun
  | [d1, d2] => { results := [.lit (.bool false)], args := [d1, d2] }
  | _ => none }
def FnExactMultiplyPairsWrongFalsely : Prop := fnExactMultiplyPairsRow.holds Try.pinned (OpenSpec.ofChange fnExactMultiplyPairsWrong)

/-- 'laws.FnExactIsMirror': WHATEVER THE INPUT: true; the input reads as it did. -/
def fnExactIsMirrorSpec : ChangeSpec := { name := "fnExactIsMirror", fn := fun _ => fun
  | [d] => { results := [.lit (.bool true)], args := [d] }
  | _ => none }
def fnExactIsMirrorRow : OpenClaim := { program := "ytkhhojbcecapiab", sum := "5f53174366260874219c059153ed0dec0a6d65bdac926f562983f8302d82b468", func := "loop.example/shadowseries/laws.FnExactIsMirror", spec := "fnExactIsMirror", unfollowed := true, recurses := true, apart := false }
def FnExactIsMirrorSaid : Prop := fnExactIsMirrorRow.holds Try.pinned (OpenSpec.ofChange fnExactIsMirrorSpec)

/-- ITS FALSE NEIGHBOUR: 'it returns false'. Refute it at one input. -/
def fnExactIsMirrorWrong : ChangeSpec := { name := "fnExactIsMirror", fn := fun _ => fun
  | [d] => { results := [.lit (.bool false)], args := [d] }
  | _ => none }
def FnExactIsMirrorWrongFalsely : Prop := fnExactIsMirrorRow.holds Try.pinned (OpenSpec.ofChange fnExactIsMirrorWrong)

/-- 'laws.FnExactPairOf': WHATEVER THE INPUT: true; the input reads as it did. -/
def fnExactPairOfSpec : ChangeSpec := { name := "fnExactPairOf", fn := fun _ => fun
  | [d] => { results := [.lit (.bool true)], args := [d] }
  | _ => none }
def fnExactPairOfRow : OpenClaim := { program := "ytkhhojbcecapiab", sum := "5f53174366260874219c059153ed0dec0a6d65bdac926f562983f8302d82b468", func := "loop.example/shadowseries/laws.FnExactPairOf", spec := "fnExactPairOf", unfollowed := true, recurses := true, apart := false }
def FnExactPairOfSaid : Prop := fnExactPairOfRow.holds Try.pinned (OpenSpec.ofChange fnExactPairOfSpec)

/-- ITS FALSE NEIGHBOUR: 'it returns false'. Refute it at one input. -/
def fnExactPairOfWrong : ChangeSpec := { name := "fnExactPairOf", fn := fun _ => fun
  | [d] => { results := [.lit (.bool false)], args := [d] }
  | _ => none }
def FnExactPairOfWrongFalsely : Prop := fnExactPairOfRow.holds Try.pinned (OpenSpec.ofChange fnExactPairOfWrong)

/-- 'laws.FnExactNamedPair': WHATEVER THE INPUT: true; the input reads as it did. -/
def fnExactNamedPairSpec : ChangeSpec := { name := "fnExactNamedPair", fn := fun _ => fun
  | [d1, d2] => { results := [.lit (.bool true)], args := [d1, d2] }
  | _ => none }
def fnExactNamedPairRow : OpenClaim := { program := "ytkhhojbcecapiab", sum := "5f53174366260874219c059153ed0dec0a6d65bdac926f562983f8302d82b468", func := "loop.example/shadowseries/laws.FnExactNamedPair", spec := "fnExactNamedPair", unfollowed := true, recurses := true, apart := false }
def FnExactNamedPairSaid : Prop := fnExactNamedPairRow.holds Try.pinned (OpenSpec.ofChange fnExactNamedPairSpec)

/-- ITS FALSE NEIGHBOUR: 'it returns false'. Refute it at one input. -/
def fnExactNamedPairWrong : ChangeSpec := { name := "fnExactNamedPair", fn := fun _ => fun
  | [d1, d2] => { results := [.lit (.bool false)], args := [d1, d2] }
  | _ => none }
def FnExactNamedPairWrongFalsely : Prop := fnExactNamedPairRow.holds Try.pinned (OpenSpec.ofChange fnExactNamedPairWrong)

/-- 'laws.FnExactToFalling': WHATEVER THE INPUT: true; the input reads as it did. -/
def fnExactToFallingSpec : ChangeSpec := { name := "fnExactToFalling", fn := fun _ => fun
  | [d] => { results := [.lit (.bool true)], args := [d] }
  | _ => none }
def fnExactToFallingRow : OpenClaim := { program := "ytkhhojbcecapiab", sum := "5f53174366260874219c059153ed0dec0a6d65bdac926f562983f8302d82b468", func := "loop.example/shadowseries/laws.FnExactToFalling", spec := "fnExactToFalling", unfollowed := true, recurses := true, apart := false }
def FnExactToFallingSaid : Prop := fnExactToFallingRow.holds Try.pinned (OpenSpec.ofChange fnExactToFallingSpec)

/-- ITS FALSE NEIGHBOUR: 'it returns false'. Refute it at one input. -/
def fnExactToFallingWrong : ChangeSpec := { name := "fnExactToFalling", fn := fun _ => fun
  | [d] => { results := [.lit (.bool false)], args := [d] }
  | _ => none }
def FnExactToFallingWrongFalsely : Prop := fnExactToFallingRow.holds Try.pinned (OpenSpec.ofChange fnExactToFallingWrong)

/-- 'laws.FnExactValidSequence': WHATEVER THE INPUT: true; the input reads as it did. -/
def fnExactValidSequenceSpec : ChangeSpec := { name := "fnExactValidSequence", fn := fun _ => fun
  | [d] => { results := [.lit (.bool true)], args := [d] }
  | _ => none }
def fnExactValidSequenceRow : OpenClaim := { program := "ytkhhojbcecapiab", sum := "5f53174366260874219c059153ed0dec0a6d65bdac926f562983f8302d82b468", func := "loop.example/shadowseries/laws.FnExactValidSequence", spec := "fnExactValidSequence", apart := false }
def FnExactValidSequenceSaid : Prop := fnExactValidSequenceRow.holds Try.pinned (OpenSpec.ofChange fnExactValidSequenceSpec)

/-- ITS FALSE NEIGHBOUR: 'it returns false'. Refute it at one input. -/
def fnExactValidSequenceWrong : ChangeSpec := { name := "fnExactValidSequence", fn := fun _ => fun
  | [d] => { results := [.lit (.bool false)], args := [d] }
  | _ => none }
def FnExactValidSequenceWrongFalsely : Prop := fnExactValidSequenceRow.holds Try.pinned (OpenSpec.ofChange fnExactValidSequenceWrong)

/-- 'laws.FnExactIsBinomial': WHATEVER THE INPUT: true; the input reads as it did. -/
def fnExactIsBinomialSpec : ChangeSpec := { name := "fnExactIsBinomial", fn := fun _ => fun
  | [d] => { results := [.lit (.bool true)], args := [d] }
  | _ => none }
def fnExactIsBinomialRow : OpenClaim := { program := "ytkhhojbcecapiab", sum := "5f53174366260874219c059153ed0dec0a6d65bdac926f562983f8302d82b468", func := "loop.example/shadowseries/laws.FnExactIsBinomial", spec := "fnExactIsBinomial", unfollowed := true, recurses := true, apart := false }
def FnExactIsBinomialSaid : Prop := fnExactIsBinomialRow.holds Try.pinned (OpenSpec.ofChange fnExactIsBinomialSpec)

/-- ITS FALSE NEIGHBOUR: 'it returns false'. Refute it at one input. -/
def fnExactIsBinomialWrong : ChangeSpec := { name := "fnExactIsBinomial", fn := fun _ => fun
  | [d] => { results := [.lit (.bool false)], args := [d] }
  | _ => none }
def FnExactIsBinomialWrongFalsely : Prop := fnExactIsBinomialRow.holds Try.pinned (OpenSpec.ofChange fnExactIsBinomialWrong)

/-- 'laws.FnExactReplacePowers': WHATEVER THE INPUT: true; the input reads as it did. -/
def fnExactReplacePowersSpec : ChangeSpec := { name := "fnExactReplacePowers", fn := fun _ => fun
  | [d1, d2] => { results := [.lit (.bool true)], args := [d1, d2] }
  | _ => none }
def fnExactReplacePowersRow : OpenClaim := { program := "ytkhhojbcecapiab", sum := "5f53174366260874219c059153ed0dec0a6d65bdac926f562983f8302d82b468", func := "loop.example/shadowseries/laws.FnExactReplacePowers", spec := "fnExactReplacePowers", apart := false }
def FnExactReplacePowersSaid : Prop := fnExactReplacePowersRow.holds Try.pinned (OpenSpec.ofChange fnExactReplacePowersSpec)

/-- ITS FALSE NEIGHBOUR: 'it returns false'. Refute it at one input. -/
def fnExactReplacePowersWrong : ChangeSpec := { name := "fnExactReplacePowers", fn := fun _ => fun
  | [d1, d2] => { results := [.lit (.bool false)], args := [d1, d2] }
  | _ => none }
def FnExactReplacePowersWrongFalsely : Prop := fnExactReplacePowersRow.holds Try.pinned (OpenSpec.ofChange fnExactReplacePowersWrong)

/- THE SECOND FORM. 'bulk': how many values and letters a reading holds, each counted each time it is reached (what is shared counts as often as it is met; a slice's spare places count too). A statement '..UptoSaid' is the law's where the arguments, and the package variables that the reading takes, are together of bulk at most 1048576: NARROWER than '..Said'. Prove '..Said' where nothing that the law and all that it calls make is longer than what came in: it says more and counts as full. Else prove '..UptoSaid'. A law counts once. -/
mutual
def uptoBulk {H : Type} : DataW H → Nat
  | .lit (.string bytes) => bytes.length + 1
  | .lit _ => 1
  | .nil => 1
  | .ptr d => uptoBulk d + 1
  | .slice elems spare => uptoBulkAll elems + uptoBulkAll spare + 1
  | .agg parts => uptoBulkAll parts + 1
  | .iface _ d => uptoBulk d + 1
  | .map entries => uptoBulkEntries entries + 1
  | .held _ => 1
def uptoBulkAll {H : Type} : List (DataW H) → Nat
  | [] => 0
  | d :: r => uptoBulk d + uptoBulkAll r
def uptoBulkEntries {H : Type} : List (Lit × DataW H) → Nat
  | [] => 0
  | x :: r => uptoBulkEntry x + uptoBulkEntries r
def uptoBulkEntry {H : Type} : Lit × DataW H → Nat
  | (.string bytes, d) => bytes.length + uptoBulk d + 1
  | (_, d) => uptoBulk d + 1
 end
def uptoSmall : (H : Type) → List (DataW H) → Bool := fun _ ds => decide (uptoBulkAll ds ≤ 1048576)
def OpenSpec.upto (s : _root_.Go.ChangeSpec) : _root_.Go.OpenSpec := { _root_.Go.OpenSpec.ofChange s with cond := some uptoSmall }

/-- 'laws.FnExactInversePair', WHERE WHAT IT READS IS OF BULK AT MOST 1048576: true; the input reads as it did. -/
def fnExactInversePairUptoRow : OpenClaim := { program := "ytkhhojbcecapiab", sum := "5f53174366260874219c059153ed0dec0a6d65bdac926f562983f8302d82b468", func := "loop.example/shadowseries/laws.FnExactInversePair", spec := "fnExactInversePair", unfollowed := true, recurses := true, apart := false, narrowed := true }
def FnExactInversePairUptoSaid : Prop := fnExactInversePairUptoRow.holds Try.pinned (OpenSpec.upto fnExactInversePairSpec)

/-- 'laws.FnExactStepsOf', WHERE WHAT IT READS IS OF BULK AT MOST 1048576: true; the input reads as it did. -/
def fnExactStepsOfUptoRow : OpenClaim := { program := "ytkhhojbcecapiab", sum := "5f53174366260874219c059153ed0dec0a6d65bdac926f562983f8302d82b468", func := "loop.example/shadowseries/laws.FnExactStepsOf", spec := "fnExactStepsOf", unfollowed := true, recurses := true, apart := false, narrowed := true }
def FnExactStepsOfUptoSaid : Prop := fnExactStepsOfUptoRow.holds Try.pinned (OpenSpec.upto fnExactStepsOfSpec)

/-- 'laws.FnExactMultiplyPairs', WHERE WHAT IT READS IS OF BULK AT MOST 1048576: true; the input reads as it did. -/
def fnExactMultiplyPairsUptoRow : OpenClaim := { program := "ytkhhojbcecapiab", sum := "5f53174366260874219c059153ed0dec0a6d65bdac926f562983f8302d82b468", func := "loop.example/shadowseries/laws.FnExactMultiplyPairs", spec := "fnExactMultiplyPairs", unfollowed := true, recurses := true, apart := false, narrowed := true }
def FnExactMultiplyPairsUptoSaid : Prop := fnExactMultiplyPairsUptoRow.holds Try.pinned (OpenSpec.upto fnExactMultiplyPairsSpec)

/-- 'laws.FnExactIsMirror', WHERE WHAT IT READS IS OF BULK AT MOST 1048576: true; the input reads as it did. -/
def fnExactIsMirrorUptoRow : OpenClaim := { program := "ytkhhojbcecapiab", sum := "5f53174366260874219c059153ed0dec0a6d65bdac926f562983f8302d82b468", func := "loop.example/shadowseries/laws.FnExactIsMirror", spec := "fnExactIsMirror", unfollowed := true, recurses := true, apart := false, narrowed := true }
def FnExactIsMirrorUptoSaid : Prop := fnExactIsMirrorUptoRow.holds Try.pinned (OpenSpec.upto fnExactIsMirrorSpec)

/-- 'laws.FnExactPairOf', WHERE WHAT IT READS IS OF BULK AT MOST 1048576: true; the input reads as it did. -/
def fnExactPairOfUptoRow : OpenClaim := { program := "ytkhhojbcecapiab", sum := "5f53174366260874219c059153ed0dec0a6d65bdac926f562983f8302d82b468", func := "loop.example/shadowseries/laws.FnExactPairOf", spec := "fnExactPairOf", unfollowed := true, recurses := true, apart := false, narrowed := true }
def FnExactPairOfUptoSaid : Prop := fnExactPairOfUptoRow.holds Try.pinned (OpenSpec.upto fnExactPairOfSpec)

/-- 'laws.FnExactNamedPair', WHERE WHAT IT READS IS OF BULK AT MOST 1048576: true; the input reads as it did. -/
def fnExactNamedPairUptoRow : OpenClaim := { program := "ytkhhojbcecapiab", sum := "5f53174366260874219c059153ed0dec0a6d65bdac926f562983f8302d82b468", func := "loop.example/shadowseries/laws.FnExactNamedPair", spec := "fnExactNamedPair", unfollowed := true, recurses := true, apart := false, narrowed := true }
def FnExactNamedPairUptoSaid : Prop := fnExactNamedPairUptoRow.holds Try.pinned (OpenSpec.upto fnExactNamedPairSpec)

/-- 'laws.FnExactToFalling', WHERE WHAT IT READS IS OF BULK AT MOST 1048576: true; the input reads as it did. -/
def fnExactToFallingUptoRow : OpenClaim := { program := "ytkhhojbcecapiab", sum := "5f53174366260874219c059153ed0dec0a6d65bdac926f562983f8302d82b468", func := "loop.example/shadowseries/laws.FnExactToFalling", spec := "fnExactToFalling", unfollowed := true, recurses := true, apart := false, narrowed := true }
def FnExactToFallingUptoSaid : Prop := fnExactToFallingUptoRow.holds Try.pinned (OpenSpec.upto fnExactToFallingSpec)

/-- 'laws.FnExactValidSequence', WHERE WHAT IT READS IS OF BULK AT MOST 1048576: true; the input reads as it did. -/
def fnExactValidSequenceUptoRow : OpenClaim := { program := "ytkhhojbcecapiab", sum := "5f53174366260874219c059153ed0dec0a6d65bdac926f562983f8302d82b468", func := "loop.example/shadowseries/laws.FnExactValidSequence", spec := "fnExactValidSequence", apart := false, narrowed := true }
def FnExactValidSequenceUptoSaid : Prop := fnExactValidSequenceUptoRow.holds Try.pinned (OpenSpec.upto fnExactValidSequenceSpec)

/-- 'laws.FnExactIsBinomial', WHERE WHAT IT READS IS OF BULK AT MOST 1048576: true; the input reads as it did. -/
def fnExactIsBinomialUptoRow : OpenClaim := { program := "ytkhhojbcecapiab", sum := "5f53174366260874219c059153ed0dec0a6d65bdac926f562983f8302d82b468", func := "loop.example/shadowseries/laws.FnExactIsBinomial", spec := "fnExactIsBinomial", unfollowed := true, recurses := true, apart := false, narrowed := true }
def FnExactIsBinomialUptoSaid : Prop := fnExactIsBinomialUptoRow.holds Try.pinned (OpenSpec.upto fnExactIsBinomialSpec)

/-- 'laws.FnExactReplacePowers', WHERE WHAT IT READS IS OF BULK AT MOST 1048576: true; the input reads as it did. -/
def fnExactReplacePowersUptoRow : OpenClaim := { program := "ytkhhojbcecapiab", sum := "5f53174366260874219c059153ed0dec0a6d65bdac926f562983f8302d82b468", func := "loop.example/shadowseries/laws.FnExactReplacePowers", spec := "fnExactReplacePowers", apart := false, narrowed := true }
def FnExactReplacePowersUptoSaid : Prop := fnExactReplacePowersUptoRow.holds Try.pinned (OpenSpec.upto fnExactReplacePowersSpec)

end Rows
end Go.Proofs.Ytkhhojbcecapiab

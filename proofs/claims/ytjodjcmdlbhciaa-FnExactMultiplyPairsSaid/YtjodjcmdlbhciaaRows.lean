/-
  No cell of these rows narrows 'for every input' (looked for: loops, veiled, ifaces, maps, wideKeys, modest, calm, conditions, laid).
  DERIVED. THE GIVEN ROWS OF THIS SEAT. 12 by the template 'for every input the law returns true; each argument reads behind the call as it read before'; 0 by the template 'total and deterministic' (their statements: YtjodjcmdlbhciaaTotals.lean).
  GIVEN WITH THE SEED: the statements are not yours to turn. If you find one false, say at which input.
  Laid BY PROGRAM, IN A SANDBOX (cutbox-rows.mjs): the forced cells as the released guide's own fill.sh prints them over the translation d07933b34c65a87c… (all of the seat's roots in one cut). By AI agents, Wed Nov 11 2026. No macro, syntax, notation, axiom, sorry.
-/
import Derived.Test.YtjodjcmdlbhciaaChecked
import GoSem.Claim
import GoSem.ClaimJoined
import GoSem.ClaimMapViews
import Derived.JoinedTies
import Derived.KernelRfl
namespace Go.Proofs.Ytjodjcmdlbhciaa
/- THE CELL 'sum', in the pinned program and in every row, IS THE sha256 OF THE DUMP (.gsa) THAT YtjodjcmdlbhciaaProg.lean LOADS. Nothing in Lean hashes anything: it is a label: what it is worth is what the hold of that sum in a sandbox is worth. -/
noncomputable def Try.pinned : Pinned := { name := "ytjodjcmdlbhciaa", sum := "d07933b34c65a87cc056c98a7579b7b89241baaa81f7f4d55aa64b9f31cecb55", checked := Try.checked }
namespace Rows
def none {H : Type} : Left H := { results := [], args := [] }

/-- 'laws.FnSequenceOf': WHATEVER THE INPUT: true; the input reads as it did. -/
def fnSequenceOfSpec : ChangeSpec := { name := "fnSequenceOf", fn := fun _ => fun
  | [d] => { results := [.lit (.bool true)], args := [d] }
  | _ => none }
def fnSequenceOfRow : OpenClaim := { program := "ytjodjcmdlbhciaa", sum := "d07933b34c65a87cc056c98a7579b7b89241baaa81f7f4d55aa64b9f31cecb55", func := "loop.example/shadowseries/laws.FnSequenceOf", spec := "fnSequenceOf", unfollowed := true, recurses := true, apart := false }
def FnSequenceOfSaid : Prop := fnSequenceOfRow.holds Try.pinned (OpenSpec.ofChange fnSequenceOfSpec)

/-- ITS FALSE NEIGHBOUR: 'it returns false'. Refute it at one input. -/
def fnSequenceOfWrong : ChangeSpec := { name := "fnSequenceOf", fn := fun _ => fun
  | [d] => { results := [.lit (.bool false)], args := [d] }
  | _ => none }
def FnSequenceOfWrongFalsely : Prop := fnSequenceOfRow.holds Try.pinned (OpenSpec.ofChange fnSequenceOfWrong)

/-- 'laws.FnActOn': WHATEVER THE INPUT: true; the input reads as it did. -/
def fnActOnSpec : ChangeSpec := { name := "fnActOn", fn := fun _ => fun
  | [d] => { results := [.lit (.bool true)], args := [d] }
  | _ => none }
def fnActOnRow : OpenClaim := { program := "ytjodjcmdlbhciaa", sum := "d07933b34c65a87cc056c98a7579b7b89241baaa81f7f4d55aa64b9f31cecb55", func := "loop.example/shadowseries/laws.FnActOn", spec := "fnActOn", unfollowed := true, recurses := true, apart := false }
def FnActOnSaid : Prop := fnActOnRow.holds Try.pinned (OpenSpec.ofChange fnActOnSpec)

/-- ITS FALSE NEIGHBOUR: 'it returns false'. Refute it at one input. -/
def fnActOnWrong : ChangeSpec := { name := "fnActOn", fn := fun _ => fun
  | [d] => { results := [.lit (.bool false)], args := [d] }
  | _ => none }
def FnActOnWrongFalsely : Prop := fnActOnRow.holds Try.pinned (OpenSpec.ofChange fnActOnWrong)

/-- 'laws.FnTransformBy': WHATEVER THE INPUT: true; the input reads as it did. -/
def fnTransformBySpec : ChangeSpec := { name := "fnTransformBy", fn := fun _ => fun
  | [d] => { results := [.lit (.bool true)], args := [d] }
  | _ => none }
def fnTransformByRow : OpenClaim := { program := "ytjodjcmdlbhciaa", sum := "d07933b34c65a87cc056c98a7579b7b89241baaa81f7f4d55aa64b9f31cecb55", func := "loop.example/shadowseries/laws.FnTransformBy", spec := "fnTransformBy", unfollowed := true, recurses := true, apart := false }
def FnTransformBySaid : Prop := fnTransformByRow.holds Try.pinned (OpenSpec.ofChange fnTransformBySpec)

/-- ITS FALSE NEIGHBOUR: 'it returns false'. Refute it at one input. -/
def fnTransformByWrong : ChangeSpec := { name := "fnTransformBy", fn := fun _ => fun
  | [d] => { results := [.lit (.bool false)], args := [d] }
  | _ => none }
def FnTransformByWrongFalsely : Prop := fnTransformByRow.holds Try.pinned (OpenSpec.ofChange fnTransformByWrong)

/-- 'laws.FnExactTransformBy': WHATEVER THE INPUT: true; the input reads as it did. -/
def fnExactTransformBySpec : ChangeSpec := { name := "fnExactTransformBy", fn := fun _ => fun
  | [d1, d2] => { results := [.lit (.bool true)], args := [d1, d2] }
  | _ => none }
def fnExactTransformByRow : OpenClaim := { program := "ytjodjcmdlbhciaa", sum := "d07933b34c65a87cc056c98a7579b7b89241baaa81f7f4d55aa64b9f31cecb55", func := "loop.example/shadowseries/laws.FnExactTransformBy", spec := "fnExactTransformBy", unfollowed := true, recurses := true, apart := false }
def FnExactTransformBySaid : Prop := fnExactTransformByRow.holds Try.pinned (OpenSpec.ofChange fnExactTransformBySpec)

/-- ITS FALSE NEIGHBOUR: 'it returns false'. Refute it at one input. -/
def fnExactTransformByWrong : ChangeSpec := { name := "fnExactTransformBy", fn := fun _ => fun
  | [d1, d2] => { results := [.lit (.bool false)], args := [d1, d2] }
  | _ => none }
def FnExactTransformByWrongFalsely : Prop := fnExactTransformByRow.holds Try.pinned (OpenSpec.ofChange fnExactTransformByWrong)

/-- 'laws.FnExactMultiplyPairs': WHATEVER THE INPUT: true; the input reads as it did. -/
def fnExactMultiplyPairsSpec : ChangeSpec := { name := "fnExactMultiplyPairs", fn := fun _ => fun
  | [d1, d2] => { results := [.lit (.bool true)], args := [d1, d2] }
  | _ => none }
def fnExactMultiplyPairsRow : OpenClaim := { program := "ytjodjcmdlbhciaa", sum := "d07933b34c65a87cc056c98a7579b7b89241baaa81f7f4d55aa64b9f31cecb55", func := "loop.example/shadowseries/laws.FnExactMultiplyPairs", spec := "fnExactMultiplyPairs", unfollowed := true, recurses := true, apart := false }
def FnExactMultiplyPairsSaid : Prop := fnExactMultiplyPairsRow.holds Try.pinned (OpenSpec.ofChange fnExactMultiplyPairsSpec)

/-- ITS FALSE NEIGHBOUR: 'it returns false'. Refute it at one input. -/
def fnExactMultiplyPairsWrong : ChangeSpec := { name := "fnExactMultiplyPairs", fn := fun _ => fun
  | [d1, d2] => { results := [.lit (.bool false)], args := [d1, d2] }
  | _ => none }
def FnExactMultiplyPairsWrongFalsely : Prop := fnExactMultiplyPairsRow.holds Try.pinned (OpenSpec.ofChange fnExactMultiplyPairsWrong)

/-- 'laws.FnMultiplyPairs': WHATEVER THE INPUT: true; the input reads as it did. -/
def fnMultiplyPairsSpec : ChangeSpec := { name := "fnMultiplyPairs", fn := fun _ => fun
  | [d] => { results := [.lit (.bool true)], args := [d] }
  | _ => none }
def fnMultiplyPairsRow : OpenClaim := { program := "ytjodjcmdlbhciaa", sum := "d07933b34c65a87cc056c98a7579b7b89241baaa81f7f4d55aa64b9f31cecb55", func := "loop.example/shadowseries/laws.FnMultiplyPairs", spec := "fnMultiplyPairs", unfollowed := true, recurses := true, apart := false }
def FnMultiplyPairsSaid : Prop := fnMultiplyPairsRow.holds Try.pinned (OpenSpec.ofChange fnMultiplyPairsSpec)

/-- ITS FALSE NEIGHBOUR: 'it returns false'. Refute it at one input. -/
def fnMultiplyPairsWrong : ChangeSpec := { name := "fnMultiplyPairs", fn := fun _ => fun
  | [d] => { results := [.lit (.bool false)], args := [d] }
  | _ => none }
def FnMultiplyPairsWrongFalsely : Prop := fnMultiplyPairsRow.holds Try.pinned (OpenSpec.ofChange fnMultiplyPairsWrong)

/-- 'laws.FnInversePair': WHATEVER THE INPUT: true; the input reads as it did. -/
def fnInversePairSpec : ChangeSpec := { name := "fnInversePair", fn := fun _ => fun
  | [d] => { results := [.lit (.bool true)], args := [d] }
  | _ => none }
def fnInversePairRow : OpenClaim := { program := "ytjodjcmdlbhciaa", sum := "d07933b34c65a87cc056c98a7579b7b89241baaa81f7f4d55aa64b9f31cecb55", func := "loop.example/shadowseries/laws.FnInversePair", spec := "fnInversePair", unfollowed := true, recurses := true, apart := false }
def FnInversePairSaid : Prop := fnInversePairRow.holds Try.pinned (OpenSpec.ofChange fnInversePairSpec)

/-- ITS FALSE NEIGHBOUR: 'it returns false'. Refute it at one input. -/
def fnInversePairWrong : ChangeSpec := { name := "fnInversePair", fn := fun _ => fun
  | [d] => { results := [.lit (.bool false)], args := [d] }
  | _ => none }
def FnInversePairWrongFalsely : Prop := fnInversePairRow.holds Try.pinned (OpenSpec.ofChange fnInversePairWrong)

/-- 'laws.FnExactIsMirror': WHATEVER THE INPUT: true; the input reads as it did. -/
def fnExactIsMirrorSpec : ChangeSpec := { name := "fnExactIsMirror", fn := fun _ => fun
  | [d] => { results := [.lit (.bool true)], args := [d] }
  | _ => none }
def fnExactIsMirrorRow : OpenClaim := { program := "ytjodjcmdlbhciaa", sum := "d07933b34c65a87cc056c98a7579b7b89241baaa81f7f4d55aa64b9f31cecb55", func := "loop.example/shadowseries/laws.FnExactIsMirror", spec := "fnExactIsMirror", unfollowed := true, recurses := true, apart := false }
def FnExactIsMirrorSaid : Prop := fnExactIsMirrorRow.holds Try.pinned (OpenSpec.ofChange fnExactIsMirrorSpec)

/-- ITS FALSE NEIGHBOUR: 'it returns false'. Refute it at one input. -/
def fnExactIsMirrorWrong : ChangeSpec := { name := "fnExactIsMirror", fn := fun _ => fun
  | [d] => { results := [.lit (.bool false)], args := [d] }
  | _ => none }
def FnExactIsMirrorWrongFalsely : Prop := fnExactIsMirrorRow.holds Try.pinned (OpenSpec.ofChange fnExactIsMirrorWrong)

/-- 'laws.FnIsMirror': WHATEVER THE INPUT: true; the input reads as it did. -/
def fnIsMirrorSpec : ChangeSpec := { name := "fnIsMirror", fn := fun _ => fun
  | [d] => { results := [.lit (.bool true)], args := [d] }
  | _ => none }
def fnIsMirrorRow : OpenClaim := { program := "ytjodjcmdlbhciaa", sum := "d07933b34c65a87cc056c98a7579b7b89241baaa81f7f4d55aa64b9f31cecb55", func := "loop.example/shadowseries/laws.FnIsMirror", spec := "fnIsMirror", unfollowed := true, recurses := true, apart := false }
def FnIsMirrorSaid : Prop := fnIsMirrorRow.holds Try.pinned (OpenSpec.ofChange fnIsMirrorSpec)

/-- ITS FALSE NEIGHBOUR: 'it returns false'. Refute it at one input. -/
def fnIsMirrorWrong : ChangeSpec := { name := "fnIsMirror", fn := fun _ => fun
  | [d] => { results := [.lit (.bool false)], args := [d] }
  | _ => none }
def FnIsMirrorWrongFalsely : Prop := fnIsMirrorRow.holds Try.pinned (OpenSpec.ofChange fnIsMirrorWrong)

/-- 'laws.FnArrayOf': WHATEVER THE INPUT: true; the input reads as it did. -/
def fnArrayOfSpec : ChangeSpec := { name := "fnArrayOf", fn := fun _ => fun
  | [d] => { results := [.lit (.bool true)], args := [d] }
  | _ => none }
def fnArrayOfRow : OpenClaim := { program := "ytjodjcmdlbhciaa", sum := "d07933b34c65a87cc056c98a7579b7b89241baaa81f7f4d55aa64b9f31cecb55", func := "loop.example/shadowseries/laws.FnArrayOf", spec := "fnArrayOf", unfollowed := true, recurses := true, apart := false }
def FnArrayOfSaid : Prop := fnArrayOfRow.holds Try.pinned (OpenSpec.ofChange fnArrayOfSpec)

/-- ITS FALSE NEIGHBOUR: 'it returns false'. Refute it at one input. -/
def fnArrayOfWrong : ChangeSpec := { name := "fnArrayOf", fn := fun _ => fun
  | [d] => { results := [.lit (.bool false)], args := [d] }
  | _ => none }
def FnArrayOfWrongFalsely : Prop := fnArrayOfRow.holds Try.pinned (OpenSpec.ofChange fnArrayOfWrong)

/-- 'laws.FnExactHankelOf': WHATEVER THE INPUT: true; the input reads as it did. -/
def fnExactHankelOfSpec : ChangeSpec := { name := "fnExactHankelOf", fn := fun _ => fun
  | [d] => { results := [.lit (.bool true)], args := [d] }
  | _ => none }
def fnExactHankelOfRow : OpenClaim := { program := "ytjodjcmdlbhciaa", sum := "d07933b34c65a87cc056c98a7579b7b89241baaa81f7f4d55aa64b9f31cecb55", func := "loop.example/shadowseries/laws.FnExactHankelOf", spec := "fnExactHankelOf", unfollowed := true, recurses := true, apart := false }
def FnExactHankelOfSaid : Prop := fnExactHankelOfRow.holds Try.pinned (OpenSpec.ofChange fnExactHankelOfSpec)

/-- ITS FALSE NEIGHBOUR: 'it returns false'. Refute it at one input. -/
def fnExactHankelOfWrong : ChangeSpec := { name := "fnExactHankelOf", fn := fun _ => fun
  | [d] => { results := [.lit (.bool false)], args := [d] }
  | _ => none }
def FnExactHankelOfWrongFalsely : Prop := fnExactHankelOfRow.holds Try.pinned (OpenSpec.ofChange fnExactHankelOfWrong)

/-- 'laws.FnHankelOf': WHATEVER THE INPUT: true; the input reads as it did. -/
def fnHankelOfSpec : ChangeSpec := { name := "fnHankelOf", fn := fun _ => fun
  | [d] => { results := [.lit (.bool true)], args := [d] }
  | _ => none }
def fnHankelOfRow : OpenClaim := { program := "ytjodjcmdlbhciaa", sum := "d07933b34c65a87cc056c98a7579b7b89241baaa81f7f4d55aa64b9f31cecb55", func := "loop.example/shadowseries/laws.FnHankelOf", spec := "fnHankelOf", unfollowed := true, recurses := true, apart := false }
def FnHankelOfSaid : Prop := fnHankelOfRow.holds Try.pinned (OpenSpec.ofChange fnHankelOfSpec)

/-- ITS FALSE NEIGHBOUR: 'it returns false'. Refute it at one input. -/
def fnHankelOfWrong : ChangeSpec := { name := "fnHankelOf", fn := fun _ => fun
  | [d] => { results := [.lit (.bool false)], args := [d] }
  | _ => none }
def FnHankelOfWrongFalsely : Prop := fnHankelOfRow.holds Try.pinned (OpenSpec.ofChange fnHankelOfWrong)

/- THE SECOND FORM. 'bulk': how many values and letters a reading holds, each counted each time it is reached (what is shared counts as often as it is met; a slice's spare places count too). A statement '..UptoSaid' is the law's where the arguments, and the package variables that the reading takes, are together of bulk at most 1048576: NARROWER than '..Said'. Prove '..Said' where nothing that the law and all that it calls make is longer than what came in: it says more and counts as full. Else prove '..UptoSaid'. A law counts once. -/
mutual
def uptoBulk {H : Type} : DataW H → Nat
  | .lit (.string bytes) => bytes.length + 1
  | .lit _ => 1
  | .nil => 1
  | .ptr d => uptoBulk d + 1
  | .slice elems spare => uptoBulkAll elems + uptoBulkAll spare + 1
  | .agg parts => uptoBulkAll parts + 1
  | .iface _ d => uptoBulk d + 1
  | .map entries => uptoBulkEntries entries + 1
  | .held _ => 1
def uptoBulkAll {H : Type} : List (DataW H) → Nat
  | [] => 0
  | d :: r => uptoBulk d + uptoBulkAll r
def uptoBulkEntries {H : Type} : List (Lit × DataW H) → Nat
  | [] => 0
  | x :: r => uptoBulkEntry x + uptoBulkEntries r
def uptoBulkEntry {H : Type} : Lit × DataW H → Nat
  | (.string bytes, d) => bytes.length + uptoBulk d + 1
  | (_, d) => uptoBulk d + 1
 end
def uptoSmall : (H : Type) → List (DataW H) → Bool := fun _ ds => decide (uptoBulkAll ds ≤ 1048576)
def OpenSpec.upto (s : _root_.Go.ChangeSpec) : _root_.Go.OpenSpec := { _root_.Go.OpenSpec.ofChange s with cond := some uptoSmall }

/-- 'laws.FnSequenceOf', WHERE WHAT IT READS IS OF BULK AT MOST 1048576: true; the input reads as it did. -/
def fnSequenceOfUptoRow : OpenClaim := { program := "ytjodjcmdlbhciaa", sum := "d07933b34c65a87cc056c98a7579b7b89241baaa81f7f4d55aa64b9f31cecb55", func := "loop.example/shadowseries/laws.FnSequenceOf", spec := "fnSequenceOf", unfollowed := true, recurses := true, apart := false, narrowed := true }
def FnSequenceOfUptoSaid : Prop := fnSequenceOfUptoRow.holds Try.pinned (OpenSpec.upto fnSequenceOfSpec)

/-- 'laws.FnActOn', WHERE WHAT IT READS IS OF BULK AT MOST 1048576: true; the input reads as it did. -/
def fnActOnUptoRow : OpenClaim := { program := "ytjodjcmdlbhciaa", sum := "d07933b34c65a87cc056c98a7579b7b89241baaa81f7f4d55aa64b9f31cecb55", func := "loop.example/shadowseries/laws.FnActOn", spec := "fnActOn", unfollowed := true, recurses := true, apart := false, narrowed := true }
def FnActOnUptoSaid : Prop := fnActOnUptoRow.holds Try.pinned (OpenSpec.upto fnActOnSpec)

/-- 'laws.FnTransformBy', WHERE WHAT IT READS IS OF BULK AT MOST 1048576: true; the input reads as it did. -/
def fnTransformByUptoRow : OpenClaim := { program := "ytjodjcmdlbhciaa", sum := "d07933b34c65a87cc056c98a7579b7b89241baaa81f7f4d55aa64b9f31cecb55", func := "loop.example/shadowseries/laws.FnTransformBy", spec := "fnTransformBy", unfollowed := true, recurses := true, apart := false, narrowed := true }
def FnTransformByUptoSaid : Prop := fnTransformByUptoRow.holds Try.pinned (OpenSpec.upto fnTransformBySpec)

/-- 'laws.FnExactTransformBy', WHERE WHAT IT READS IS OF BULK AT MOST 1048576: true; the input reads as it did. -/
def fnExactTransformByUptoRow : OpenClaim := { program := "ytjodjcmdlbhciaa", sum := "d07933b34c65a87cc056c98a7579b7b89241baaa81f7f4d55aa64b9f31cecb55", func := "loop.example/shadowseries/laws.FnExactTransformBy", spec := "fnExactTransformBy", unfollowed := true, recurses := true, apart := false, narrowed := true }
def FnExactTransformByUptoSaid : Prop := fnExactTransformByUptoRow.holds Try.pinned (OpenSpec.upto fnExactTransformBySpec)

/-- 'laws.FnExactMultiplyPairs', WHERE WHAT IT READS IS OF BULK AT MOST 1048576: true; the input reads as it did. -/
def fnExactMultiplyPairsUptoRow : OpenClaim := { program := "ytjodjcmdlbhciaa", sum := "d07933b34c65a87cc056c98a7579b7b89241baaa81f7f4d55aa64b9f31cecb55", func := "loop.example/shadowseries/laws.FnExactMultiplyPairs", spec := "fnExactMultiplyPairs", unfollowed := true, recurses := true, apart := false, narrowed := true }
def FnExactMultiplyPairsUptoSaid : Prop := fnExactMultiplyPairsUptoRow.holds Try.pinned (OpenSpec.upto fnExactMultiplyPairsSpec)

/-- 'laws.FnMultiplyPairs', WHERE WHAT IT READS IS OF BULK AT MOST 1048576: true; the input reads as it did. -/
def fnMultiplyPairsUptoRow : OpenClaim := { program := "ytjodjcmdlbhciaa", sum := "d07933b34c65a87cc056c98a7579b7b89241baaa81f7f4d55aa64b9f31cecb55", func := "loop.example/shadowseries/laws.FnMultiplyPairs", spec := "fnMultiplyPairs", unfollowed := true, recurses := true, apart := false, narrowed := true }
def FnMultiplyPairsUptoSaid : Prop := fnMultiplyPairsUptoRow.holds Try.pinned (OpenSpec.upto fnMultiplyPairsSpec)

/-- 'laws.FnInversePair', WHERE WHAT IT READS IS OF BULK AT MOST 1048576: true; the input reads as it did. -/
def fnInversePairUptoRow : OpenClaim := { program := "ytjodjcmdlbhciaa", sum := "d07933b34c65a87cc056c98a7579b7b89241baaa81f7f4d55aa64b9f31cecb55", func := "loop.example/shadowseries/laws.FnInversePair", spec := "fnInversePair", unfollowed := true, recurses := true, apart := false, narrowed := true }
def FnInversePairUptoSaid : Prop := fnInversePairUptoRow.holds Try.pinned (OpenSpec.upto fnInversePairSpec)

/-- 'laws.FnExactIsMirror', WHERE WHAT IT READS IS OF BULK AT MOST 1048576: true; the input reads as it did. -/
def fnExactIsMirrorUptoRow : OpenClaim := { program := "ytjodjcmdlbhciaa", sum := "d07933b34c65a87cc056c98a7579b7b89241baaa81f7f4d55aa64b9f31cecb55", func := "loop.example/shadowseries/laws.FnExactIsMirror", spec := "fnExactIsMirror", unfollowed := true, recurses := true, apart := false, narrowed := true }
def FnExactIsMirrorUptoSaid : Prop := fnExactIsMirrorUptoRow.holds Try.pinned (OpenSpec.upto fnExactIsMirrorSpec)

/-- 'laws.FnIsMirror', WHERE WHAT IT READS IS OF BULK AT MOST 1048576: true; the input reads as it did. -/
def fnIsMirrorUptoRow : OpenClaim := { program := "ytjodjcmdlbhciaa", sum := "d07933b34c65a87cc056c98a7579b7b89241baaa81f7f4d55aa64b9f31cecb55", func := "loop.example/shadowseries/laws.FnIsMirror", spec := "fnIsMirror", unfollowed := true, recurses := true, apart := false, narrowed := true }
def FnIsMirrorUptoSaid : Prop := fnIsMirrorUptoRow.holds Try.pinned (OpenSpec.upto fnIsMirrorSpec)

/-- 'laws.FnArrayOf', WHERE WHAT IT READS IS OF BULK AT MOST 1048576: true; the input reads as it did. -/
def fnArrayOfUptoRow : OpenClaim := { program := "ytjodjcmdlbhciaa", sum := "d07933b34c65a87cc056c98a7579b7b89241baaa81f7f4d55aa64b9f31cecb55", func := "loop.example/shadowseries/laws.FnArrayOf", spec := "fnArrayOf", unfollowed := true, recurses := true, apart := false, narrowed := true }
def FnArrayOfUptoSaid : Prop := fnArrayOfUptoRow.holds Try.pinned (OpenSpec.upto fnArrayOfSpec)

/-- 'laws.FnExactHankelOf', WHERE WHAT IT READS IS OF BULK AT MOST 1048576: true; the input reads as it did. -/
def fnExactHankelOfUptoRow : OpenClaim := { program := "ytjodjcmdlbhciaa", sum := "d07933b34c65a87cc056c98a7579b7b89241baaa81f7f4d55aa64b9f31cecb55", func := "loop.example/shadowseries/laws.FnExactHankelOf", spec := "fnExactHankelOf", unfollowed := true, recurses := true, apart := false, narrowed := true }
def FnExactHankelOfUptoSaid : Prop := fnExactHankelOfUptoRow.holds Try.pinned (OpenSpec.upto fnExactHankelOfSpec)

/-- 'laws.FnHankelOf', WHERE WHAT IT READS IS OF BULK AT MOST 1048576: true; the input reads as it did. -/
def fnHankelOfUptoRow : OpenClaim := { program := "ytjodjcmdlbhciaa", sum := "d07933b34c65a87cc056c98a7579b7b89241baaa81f7f4d55aa64b9f31cecb55", func := "loop.example/shadowseries/laws.FnHankelOf", spec := "fnHankelOf", unfollowed := true, recurses := true, apart := false, narrowed := true }
def FnHankelOfUptoSaid : Prop := fnHankelOfUptoRow.holds Try.pinned (OpenSpec.upto fnHankelOfSpec)

end Rows
end Go.Proofs.Ytjodjcmdlbhciaa

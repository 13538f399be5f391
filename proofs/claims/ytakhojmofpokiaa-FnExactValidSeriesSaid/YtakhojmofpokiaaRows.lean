/-
  No cell of these rows narrows 'for every input' (looked for: loops, veiled, ifaces, maps, wideKeys, modest, calm, conditions, laid).
  DERIVED. THE GIVEN ROWS OF THIS SEAT. 10 by the template 'for every input the law returns true; each argument reads behind the call as it read before'; 0 by the template 'total and deterministic' (their statements: YtakhojmofpokiaaTotals.lean).
  GIVEN WITH THE SEED: the statements are not yours to turn. If you find one false, say at which input.
  Laid BY PROGRAM, IN A SANDBOX (cutbox-rows.mjs): the forced cells as the released guide's own fill.sh prints them over the translation e2d59077cffd544b… (all of the seat's roots in one cut). By AI agents, Wed Nov 11 2026. No macro, syntax, notation, axiom, sorry.
-/
import Derived.Test.YtakhojmofpokiaaChecked
import GoSem.Claim
import GoSem.ClaimJoined
import GoSem.ClaimMapViews
import Derived.JoinedTies
import Derived.KernelRfl
namespace Go.Proofs.Ytakhojmofpokiaa
/- THE CELL 'sum', in the pinned program and in every row, IS THE sha256 OF THE DUMP (.gsa) THAT YtakhojmofpokiaaProg.lean LOADS. Nothing in Lean hashes anything: it is a label: what it is worth is what the hold of that sum in a sandbox is worth. -/
noncomputable def Try.pinned : Pinned := { name := "ytakhojmofpokiaa", sum := "e2d59077cffd544b0f3ea5802950d81fb1afa28a9119f0c7fbdd94e617f63082", checked := Try.checked }
namespace Rows
def none {H : Type} : Left H := { results := [], args := [] }

/-- 'laws.FnExactValidSeries': WHATEVER THE INPUT: true; the input reads as it did. -/
def fnExactValidSeriesSpec : ChangeSpec := { name := "fnExactValidSeries", fn := fun _ => fun
  | [d] => { results := [.lit (.bool true)], args := [d] }
  | _ => none }
def fnExactValidSeriesRow : OpenClaim := { program := "ytakhojmofpokiaa", sum := "e2d59077cffd544b0f3ea5802950d81fb1afa28a9119f0c7fbdd94e617f63082", func := "loop.example/shadowseries/laws.FnExactValidSeries", spec := "fnExactValidSeries", unfollowed := true, recurses := true, apart := false }
def FnExactValidSeriesSaid : Prop := fnExactValidSeriesRow.holds Try.pinned (OpenSpec.ofChange fnExactValidSeriesSpec)

/-- ITS FALSE NEIGHBOUR: 'it returns false'. Refute it at one input. -/
def fnExactValidSeriesWrong : ChangeSpec := { name := "fnExactValidSeries", fn := fun _ => fun
  | [d] => { results := [.lit (.bool false)], args := [d] }
  | _ => none }
def FnExactValidSeriesWrongFalsely : Prop := fnExactValidSeriesRow.holds Try.pinned (OpenSpec.ofChange fnExactValidSeriesWrong)

/-- 'laws.FnExactAddSeries': WHATEVER THE INPUT: true; the input reads as it did. -/
def fnExactAddSeriesSpec : ChangeSpec := { name := "fnExactAddSeries", fn := fun _ => fun
  | [d1, d2] => { results := [.lit (.bool true)], args := [d1, d2] }
  | _ => none }
def fnExactAddSeriesRow : OpenClaim := { program := "ytakhojmofpokiaa", sum := "e2d59077cffd544b0f3ea5802950d81fb1afa28a9119f0c7fbdd94e617f63082", func := "loop.example/shadowseries/laws.FnExactAddSeries", spec := "fnExactAddSeries", unfollowed := true, recurses := true, apart := false }
def FnExactAddSeriesSaid : Prop := fnExactAddSeriesRow.holds Try.pinned (OpenSpec.ofChange fnExactAddSeriesSpec)

/-- ITS FALSE NEIGHBOUR: 'it returns false'. Refute it at one input. -/
def fnExactAddSeriesWrong : ChangeSpec := { name := "fnExactAddSeries", fn := fun _ => fun
  | [d1, d2] => { results := [.lit (.bool false)], args := [d1, d2] }
  | _ => none }
def FnExactAddSeriesWrongFalsely : Prop := fnExactAddSeriesRow.holds Try.pinned (OpenSpec.ofChange fnExactAddSeriesWrong)

/-- 'laws.FnExactMultiplySeries': WHATEVER THE INPUT: true; the input reads as it did. -/
def fnExactMultiplySeriesSpec : ChangeSpec := { name := "fnExactMultiplySeries", fn := fun _ => fun
  | [d1, d2] => { results := [.lit (.bool true)], args := [d1, d2] }
  | _ => none }
def fnExactMultiplySeriesRow : OpenClaim := { program := "ytakhojmofpokiaa", sum := "e2d59077cffd544b0f3ea5802950d81fb1afa28a9119f0c7fbdd94e617f63082", func := "loop.example/shadowseries/laws.FnExactMultiplySeries", spec := "fnExactMultiplySeries", unfollowed := true, recurses := true, apart := false }
def FnExactMultiplySeriesSaid : Prop := fnExactMultiplySeriesRow.holds Try.pinned (OpenSpec.ofChange fnExactMultiplySeriesSpec)

/-- ITS FALSE NEIGHBOUR: 'it returns false'. Refute it at one input. -/
def fnExactMultiplySeriesWrong : ChangeSpec := { name := "fnExactMultiplySeries", fn := fun _ => fun
  | [d1, d2] => { results := [.lit (.bool false)], args := [d1, d2] }
  | _ => none }
def FnExactMultiplySeriesWrongFalsely : Prop := fnExactMultiplySeriesRow.holds Try.pinned (OpenSpec.ofChange fnExactMultiplySeriesWrong)

/-- 'laws.FnExactInvertSeries': WHATEVER THE INPUT: true; the input reads as it did. -/
def fnExactInvertSeriesSpec : ChangeSpec := { name := "fnExactInvertSeries", fn := fun _ => fun
  | [d] => { results := [.lit (.bool true)], args := [d] }
  | _ => none }
def fnExactInvertSeriesRow : OpenClaim := { program := "ytakhojmofpokiaa", sum := "e2d59077cffd544b0f3ea5802950d81fb1afa28a9119f0c7fbdd94e617f63082", func := "loop.example/shadowseries/laws.FnExactInvertSeries", spec := "fnExactInvertSeries", unfollowed := true, recurses := true, apart := false }
def FnExactInvertSeriesSaid : Prop := fnExactInvertSeriesRow.holds Try.pinned (OpenSpec.ofChange fnExactInvertSeriesSpec)

/-- ITS FALSE NEIGHBOUR: 'it returns false'. Refute it at one input. -/
def fnExactInvertSeriesWrong : ChangeSpec := { name := "fnExactInvertSeries", fn := fun _ => fun
  | [d] => { results := [.lit (.bool false)], args := [d] }
  | _ => none }
def FnExactInvertSeriesWrongFalsely : Prop := fnExactInvertSeriesRow.holds Try.pinned (OpenSpec.ofChange fnExactInvertSeriesWrong)

/-- 'laws.FnExactDividedPower': WHATEVER THE INPUT: true; the input reads as it did. -/
def fnExactDividedPowerSpec : ChangeSpec := { name := "fnExactDividedPower", fn := fun _ => fun
  | [d1, d2] => { results := [.lit (.bool true)], args := [d1, d2] }
  | _ => none }
def fnExactDividedPowerRow : OpenClaim := { program := "ytakhojmofpokiaa", sum := "e2d59077cffd544b0f3ea5802950d81fb1afa28a9119f0c7fbdd94e617f63082", func := "loop.example/shadowseries/laws.FnExactDividedPower", spec := "fnExactDividedPower", unfollowed := true, recurses := true, apart := false }
def FnExactDividedPowerSaid : Prop := fnExactDividedPowerRow.holds Try.pinned (OpenSpec.ofChange fnExactDividedPowerSpec)

/-- ITS FALSE NEIGHBOUR: 'it returns false'. Refute it at one input. -/
def fnExactDividedPowerWrong : ChangeSpec := { name := "fnExactDividedPower", fn := fun _ => fun
  | [d1, d2] => { results := [.lit (.bool false)], args := [d1, d2] }
  | _ => none }
def FnExactDividedPowerWrongFalsely : Prop := fnExactDividedPowerRow.holds Try.pinned (OpenSpec.ofChange fnExactDividedPowerWrong)

/-- 'laws.FnExactComposeSeries': WHATEVER THE INPUT: true; the input reads as it did. -/
def fnExactComposeSeriesSpec : ChangeSpec := { name := "fnExactComposeSeries", fn := fun _ => fun
  | [d1, d2] => { results := [.lit (.bool true)], args := [d1, d2] }
  | _ => none }
def fnExactComposeSeriesRow : OpenClaim := { program := "ytakhojmofpokiaa", sum := "e2d59077cffd544b0f3ea5802950d81fb1afa28a9119f0c7fbdd94e617f63082", func := "loop.example/shadowseries/laws.FnExactComposeSeries", spec := "fnExactComposeSeries", unfollowed := true, recurses := true, apart := false }
def FnExactComposeSeriesSaid : Prop := fnExactComposeSeriesRow.holds Try.pinned (OpenSpec.ofChange fnExactComposeSeriesSpec)

/-- ITS FALSE NEIGHBOUR: 'it returns false'. Refute it at one input. -/
def fnExactComposeSeriesWrong : ChangeSpec := { name := "fnExactComposeSeries", fn := fun _ => fun
  | [d1, d2] => { results := [.lit (.bool false)], args := [d1, d2] }
  | _ => none }
def FnExactComposeSeriesWrongFalsely : Prop := fnExactComposeSeriesRow.holds Try.pinned (OpenSpec.ofChange fnExactComposeSeriesWrong)

/-- 'laws.FnExactReverseSeries': WHATEVER THE INPUT: true; the input reads as it did. -/
def fnExactReverseSeriesSpec : ChangeSpec := { name := "fnExactReverseSeries", fn := fun _ => fun
  | [d] => { results := [.lit (.bool true)], args := [d] }
  | _ => none }
def fnExactReverseSeriesRow : OpenClaim := { program := "ytakhojmofpokiaa", sum := "e2d59077cffd544b0f3ea5802950d81fb1afa28a9119f0c7fbdd94e617f63082", func := "loop.example/shadowseries/laws.FnExactReverseSeries", spec := "fnExactReverseSeries", unfollowed := true, recurses := true, apart := false }
def FnExactReverseSeriesSaid : Prop := fnExactReverseSeriesRow.holds Try.pinned (OpenSpec.ofChange fnExactReverseSeriesSpec)

/-- ITS FALSE NEIGHBOUR: 'it returns false'. Refute it at one input. -/
def fnExactReverseSeriesWrong : ChangeSpec := { name := "fnExactReverseSeries", fn := fun _ => fun
  | [d] => { results := [.lit (.bool false)], args := [d] }
  | _ => none }
def FnExactReverseSeriesWrongFalsely : Prop := fnExactReverseSeriesRow.holds Try.pinned (OpenSpec.ofChange fnExactReverseSeriesWrong)

/-- 'laws.FnExactDeriveSeries': WHATEVER THE INPUT: true; the input reads as it did. -/
def fnExactDeriveSeriesSpec : ChangeSpec := { name := "fnExactDeriveSeries", fn := fun _ => fun
  | [d] => { results := [.lit (.bool true)], args := [d] }
  | _ => none }
def fnExactDeriveSeriesRow : OpenClaim := { program := "ytakhojmofpokiaa", sum := "e2d59077cffd544b0f3ea5802950d81fb1afa28a9119f0c7fbdd94e617f63082", func := "loop.example/shadowseries/laws.FnExactDeriveSeries", spec := "fnExactDeriveSeries", unfollowed := true, recurses := true, apart := false }
def FnExactDeriveSeriesSaid : Prop := fnExactDeriveSeriesRow.holds Try.pinned (OpenSpec.ofChange fnExactDeriveSeriesSpec)

/-- ITS FALSE NEIGHBOUR: 'it returns false'. Refute it at one input. -/
def fnExactDeriveSeriesWrong : ChangeSpec := { name := "fnExactDeriveSeries", fn := fun _ => fun
  | [d] => { results := [.lit (.bool false)], args := [d] }
  | _ => none }
def FnExactDeriveSeriesWrongFalsely : Prop := fnExactDeriveSeriesRow.holds Try.pinned (OpenSpec.ofChange fnExactDeriveSeriesWrong)

/-- 'laws.FnExactExponentialOf': WHATEVER THE INPUT: true; the input reads as it did. -/
def fnExactExponentialOfSpec : ChangeSpec := { name := "fnExactExponentialOf", fn := fun _ => fun
  | [d] => { results := [.lit (.bool true)], args := [d] }
  | _ => none }
def fnExactExponentialOfRow : OpenClaim := { program := "ytakhojmofpokiaa", sum := "e2d59077cffd544b0f3ea5802950d81fb1afa28a9119f0c7fbdd94e617f63082", func := "loop.example/shadowseries/laws.FnExactExponentialOf", spec := "fnExactExponentialOf", unfollowed := true, recurses := true, apart := false }
def FnExactExponentialOfSaid : Prop := fnExactExponentialOfRow.holds Try.pinned (OpenSpec.ofChange fnExactExponentialOfSpec)

/-- ITS FALSE NEIGHBOUR: 'it returns false'. Refute it at one input. -/
def fnExactExponentialOfWrong : ChangeSpec := { name := "fnExactExponentialOf", fn := fun _ => fun
  | [d] => { results := [.lit (.bool false)], args := [d] }
  | _ => none }
def FnExactExponentialOfWrongFalsely : Prop := fnExactExponentialOfRow.holds Try.pinned (OpenSpec.ofChange fnExactExponentialOfWrong)

/-- 'laws.FnExactLogarithmOf': WHATEVER THE INPUT: true; the input reads as it did. -/
def fnExactLogarithmOfSpec : ChangeSpec := { name := "fnExactLogarithmOf", fn := fun _ => fun
  | [d] => { results := [.lit (.bool true)], args := [d] }
  | _ => none }
def fnExactLogarithmOfRow : OpenClaim := { program := "ytakhojmofpokiaa", sum := "e2d59077cffd544b0f3ea5802950d81fb1afa28a9119f0c7fbdd94e617f63082", func := "loop.example/shadowseries/laws.FnExactLogarithmOf", spec := "fnExactLogarithmOf", unfollowed := true, recurses := true, apart := false }
def FnExactLogarithmOfSaid : Prop := fnExactLogarithmOfRow.holds Try.pinned (OpenSpec.ofChange fnExactLogarithmOfSpec)

/-- ITS FALSE NEIGHBOUR: 'it returns false'. Refute it at one input. -/
def fnExactLogarithmOfWrong : ChangeSpec := { name := "fnExactLogarithmOf", fn := fun _ => fun
  | [d] => { results := [.lit (.bool false)], args := [d] }
  | _ => none }
def FnExactLogarithmOfWrongFalsely : Prop := fnExactLogarithmOfRow.holds Try.pinned (OpenSpec.ofChange fnExactLogarithmOfWrong)

/- THE SECOND FORM. 'bulk': how many values and letters a reading holds, each counted each time it is reached (what is shared counts as often as it is met; a slice's spare places count too). A statement '..UptoSaid' is the law's where the arguments, and the package variables that the reading takes, are together of bulk at most 1048576: NARROWER than '..Said'. Prove '..Said' where nothing that the law and all that it calls make is longer than what came in: it says more and counts as full. Else prove '..UptoSaid'. A law counts once. -/
mutual
def uptoBulk {H : Type} : DataW H → Nat
  | .lit (.string bytes) => bytes.length + 1
  | .lit _ => 1
  | .nil => 1
  | .ptr d => uptoBulk d + 1
  | .slice elems spare => uptoBulkAll elems + uptoBulkAll spare + 1
  | .agg parts => uptoBulkAll parts + 1
  | .iface _ d => uptoBulk d + 1
  | .map entries => uptoBulkEntries entries + 1
  | .held _ => 1
def uptoBulkAll {H : Type} : List (DataW H) → Nat
  | [] => 0
  | d :: r => uptoBulk d + uptoBulkAll r
def uptoBulkEntries {H : Type} : List (Lit × DataW H) → Nat
  | [] => 0
  | x :: r => uptoBulkEntry x + uptoBulkEntries r
def uptoBulkEntry {H : Type} : Lit × DataW H → Nat
  | (.string bytes, d) => bytes.length + uptoBulk d + 1
  | (_, d) => uptoBulk d + 1
 end
def uptoSmall : (H : Type) → List (DataW H) → Bool := fun _ ds => decide (uptoBulkAll ds ≤ 1048576)
def OpenSpec.upto (s : _root_.Go.ChangeSpec) : _root_.Go.OpenSpec := { _root_.Go.OpenSpec.ofChange s with cond := some uptoSmall }

/-- 'laws.FnExactValidSeries', WHERE WHAT IT READS IS OF BULK AT MOST 1048576: true; the input reads as it did. -/
def fnExactValidSeriesUptoRow : OpenClaim := { program := "ytakhojmofpokiaa", sum := "e2d59077cffd544b0f3ea5802950d81fb1afa28a9119f0c7fbdd94e617f63082", func := "loop.example/shadowseries/laws.FnExactValidSeries", spec := "fnExactValidSeries", unfollowed := true, recurses := true, apart := false, narrowed := true }
def FnExactValidSeriesUptoSaid : Prop := fnExactValidSeriesUptoRow.holds Try.pinned (OpenSpec.upto fnExactValidSeriesSpec)

/-- 'laws.FnExactAddSeries', WHERE WHAT IT READS IS OF BULK AT MOST 1048576: true; the input reads as it did. -/
def fnExactAddSeriesUptoRow : OpenClaim := { program := "ytakhojmofpokiaa", sum := "e2d59077cffd544b0f3ea5802950d81fb1afa28a9119f0c7fbdd94e617f63082", func := "loop.example/shadowseries/laws.FnExactAddSeries", spec := "fnExactAddSeries", unfollowed := true, recurses := true, apart := false, narrowed := true }
def FnExactAddSeriesUptoSaid : Prop := fnExactAddSeriesUptoRow.holds Try.pinned (OpenSpec.upto fnExactAddSeriesSpec)

/-- 'laws.FnExactMultiplySeries', WHERE WHAT IT READS IS OF BULK AT MOST 1048576: true; the input reads as it did. -/
def fnExactMultiplySeriesUptoRow : OpenClaim := { program := "ytakhojmofpokiaa", sum := "e2d59077cffd544b0f3ea5802950d81fb1afa28a9119f0c7fbdd94e617f63082", func := "loop.example/shadowseries/laws.FnExactMultiplySeries", spec := "fnExactMultiplySeries", unfollowed := true, recurses := true, apart := false, narrowed := true }
def FnExactMultiplySeriesUptoSaid : Prop := fnExactMultiplySeriesUptoRow.holds Try.pinned (OpenSpec.upto fnExactMultiplySeriesSpec)

/-- 'laws.FnExactInvertSeries', WHERE WHAT IT READS IS OF BULK AT MOST 1048576: true; the input reads as it did. -/
def fnExactInvertSeriesUptoRow : OpenClaim := { program := "ytakhojmofpokiaa", sum := "e2d59077cffd544b0f3ea5802950d81fb1afa28a9119f0c7fbdd94e617f63082", func := "loop.example/shadowseries/laws.FnExactInvertSeries", spec := "fnExactInvertSeries", unfollowed := true, recurses := true, apart := false, narrowed := true }
def FnExactInvertSeriesUptoSaid : Prop := fnExactInvertSeriesUptoRow.holds Try.pinned (OpenSpec.upto fnExactInvertSeriesSpec)

/-- 'laws.FnExactDividedPower', WHERE WHAT IT READS IS OF BULK AT MOST 1048576: true; the input reads as it did. -/
def fnExactDividedPowerUptoRow : OpenClaim := { program := "ytakhojmofpokiaa", sum := "e2d59077cffd544b0f3ea5802950d81fb1afa28a9119f0c7fbdd94e617f63082", func := "loop.example/shadowseries/laws.FnExactDividedPower", spec := "fnExactDividedPower", unfollowed := true, recurses := true, apart := false, narrowed := true }
def FnExactDividedPowerUptoSaid : Prop := fnExactDividedPowerUptoRow.holds Try.pinned (OpenSpec.upto fnExactDividedPowerSpec)

/-- 'laws.FnExactComposeSeries', WHERE WHAT IT READS IS OF BULK AT MOST 1048576: true; the input reads as it did. -/
def fnExactComposeSeriesUptoRow : OpenClaim := { program := "ytakhojmofpokiaa", sum := "e2d59077cffd544b0f3ea5802950d81fb1afa28a9119f0c7fbdd94e617f63082", func := "loop.example/shadowseries/laws.FnExactComposeSeries", spec := "fnExactComposeSeries", unfollowed := true, recurses := true, apart := false, narrowed := true }
def FnExactComposeSeriesUptoSaid : Prop := fnExactComposeSeriesUptoRow.holds Try.pinned (OpenSpec.upto fnExactComposeSeriesSpec)

/-- 'laws.FnExactReverseSeries', WHERE WHAT IT READS IS OF BULK AT MOST 1048576: true; the input reads as it did. -/
def fnExactReverseSeriesUptoRow : OpenClaim := { program := "ytakhojmofpokiaa", sum := "e2d59077cffd544b0f3ea5802950d81fb1afa28a9119f0c7fbdd94e617f63082", func := "loop.example/shadowseries/laws.FnExactReverseSeries", spec := "fnExactReverseSeries", unfollowed := true, recurses := true, apart := false, narrowed := true }
def FnExactReverseSeriesUptoSaid : Prop := fnExactReverseSeriesUptoRow.holds Try.pinned (OpenSpec.upto fnExactReverseSeriesSpec)

/-- 'laws.FnExactDeriveSeries', WHERE WHAT IT READS IS OF BULK AT MOST 1048576: true; the input reads as it did. -/
def fnExactDeriveSeriesUptoRow : OpenClaim := { program := "ytakhojmofpokiaa", sum := "e2d59077cffd544b0f3ea5802950d81fb1afa28a9119f0c7fbdd94e617f63082", func := "loop.example/shadowseries/laws.FnExactDeriveSeries", spec := "fnExactDeriveSeries", unfollowed := true, recurses := true, apart := false, narrowed := true }
def FnExactDeriveSeriesUptoSaid : Prop := fnExactDeriveSeriesUptoRow.holds Try.pinned (OpenSpec.upto fnExactDeriveSeriesSpec)

/-- 'laws.FnExactExponentialOf', WHERE WHAT IT READS IS OF BULK AT MOST 1048576: true; the input reads as it did. -/
def fnExactExponentialOfUptoRow : OpenClaim := { program := "ytakhojmofpokiaa", sum := "e2d59077cffd544b0f3ea5802950d81fb1afa28a9119f0c7fbdd94e617f63082", func := "loop.example/shadowseries/laws.FnExactExponentialOf", spec := "fnExactExponentialOf", unfollowed := true, recurses := true, apart := false, narrowed := true }
def FnExactExponentialOfUptoSaid : Prop := fnExactExponentialOfUptoRow.holds Try.pinned (OpenSpec.upto fnExactExponentialOfSpec)

/-- 'laws.FnExactLogarithmOf', WHERE WHAT IT READS IS OF BULK AT MOST 1048576: true; the input reads as it did. -/
def fnExactLogarithmOfUptoRow : OpenClaim := { program := "ytakhojmofpokiaa", sum := "e2d59077cffd544b0f3ea5802950d81fb1afa28a9119f0c7fbdd94e617f63082", func := "loop.example/shadowseries/laws.FnExactLogarithmOf", spec := "fnExactLogarithmOf", unfollowed := true, recurses := true, apart := false, narrowed := true }
def FnExactLogarithmOfUptoSaid : Prop := fnExactLogarithmOfUptoRow.holds Try.pinned (OpenSpec.upto fnExactLogarithmOfSpec)

end Rows
end Go.Proofs.Ytakhojmofpokiaa

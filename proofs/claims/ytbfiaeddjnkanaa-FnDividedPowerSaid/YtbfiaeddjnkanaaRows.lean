/-
  No cell of these rows narrows 'for every input' (looked for: loops, veiled, ifaces, maps, wideKeys, modest, calm, conditions, laid).
  DERIVED. THE GIVEN ROWS OF THIS SEAT. 12 by the template 'for every input the law returns true; each argument reads behind the call as it read before'; 0 by the template 'total and deterministic' (their statements: YtbfiaeddjnkanaaTotals.lean).
  GIVEN WITH THE SEED: the statements are not yours to turn. If you find one false, say at which input.
  Laid BY PROGRAM, IN A SANDBOX (cutbox-rows.mjs): the forced cells as the released guide's own fill.sh prints them over the translation a8200e9a4d77ce15… (all of the seat's roots in one cut). By AI agents, Wed Nov 11 2026. No macro, syntax, notation, axiom, sorry.
-/
import Derived.Test.YtbfiaeddjnkanaaChecked
import GoSem.Claim
import GoSem.ClaimJoined
import GoSem.ClaimMapViews
import Derived.JoinedTies
import Derived.KernelRfl
namespace Go.Proofs.Ytbfiaeddjnkanaa
/- THE CELL 'sum', in the pinned program and in every row, IS THE sha256 OF THE DUMP (.gsa) THAT YtbfiaeddjnkanaaProg.lean LOADS. Nothing in Lean hashes anything: it is a label: what it is worth is what the hold of that sum in a sandbox is worth. -/
noncomputable def Try.pinned : Pinned := { name := "ytbfiaeddjnkanaa", sum := "a8200e9a4d77ce15682e9512de24e3b37e792e4b76486dd469a57050a3d8ba99", checked := Try.checked }
namespace Rows
def none {H : Type} : Left H := { results := [], args := [] }

/-- 'laws.FnValidSeries': WHATEVER THE INPUT: true; the input reads as it did. -/
def fnValidSeriesSpec : ChangeSpec := { name := "fnValidSeries", fn := fun _ => fun
  | [d] => { results := [.lit (.bool true)], args := [d] }
  | _ => none }
def fnValidSeriesRow : OpenClaim := { program := "ytbfiaeddjnkanaa", sum := "a8200e9a4d77ce15682e9512de24e3b37e792e4b76486dd469a57050a3d8ba99", func := "loop.example/shadowseries/laws.FnValidSeries", spec := "fnValidSeries", unfollowed := true, recurses := true, apart := false }
def FnValidSeriesSaid : Prop := fnValidSeriesRow.holds Try.pinned (OpenSpec.ofChange fnValidSeriesSpec)

/-- ITS FALSE NEIGHBOUR: 'it returns false'. Refute it at one input. -/
def fnValidSeriesWrong : ChangeSpec := { name := "fnValidSeries", fn := fun _ => fun
  | [d] => { results := [.lit (.bool false)], args := [d] }
  | _ => none }
def FnValidSeriesWrongFalsely : Prop := fnValidSeriesRow.holds Try.pinned (OpenSpec.ofChange fnValidSeriesWrong)

/-- 'laws.FnAddSeries': WHATEVER THE INPUT: true; the input reads as it did. -/
def fnAddSeriesSpec : ChangeSpec := { name := "fnAddSeries", fn := fun _ => fun
  | [d] => { results := [.lit (.bool true)], args := [d] }
  | _ => none }
def fnAddSeriesRow : OpenClaim := { program := "ytbfiaeddjnkanaa", sum := "a8200e9a4d77ce15682e9512de24e3b37e792e4b76486dd469a57050a3d8ba99", func := "loop.example/shadowseries/laws.FnAddSeries", spec := "fnAddSeries", unfollowed := true, recurses := true, apart := false }
def FnAddSeriesSaid : Prop := fnAddSeriesRow.holds Try.pinned (OpenSpec.ofChange fnAddSeriesSpec)

/-- ITS FALSE NEIGHBOUR: 'it returns false'. Refute it at one input. -/
def fnAddSeriesWrong : ChangeSpec := { name := "fnAddSeries", fn := fun _ => fun
  | [d] => { results := [.lit (.bool false)], args := [d] }
  | _ => none }
def FnAddSeriesWrongFalsely : Prop := fnAddSeriesRow.holds Try.pinned (OpenSpec.ofChange fnAddSeriesWrong)

/-- 'laws.FnMultiplySeries': WHATEVER THE INPUT: true; the input reads as it did. -/
def fnMultiplySeriesSpec : ChangeSpec := { name := "fnMultiplySeries", fn := fun _ => fun
  | [d] => { results := [.lit (.bool true)], args := [d] }
  | _ => none }
def fnMultiplySeriesRow : OpenClaim := { program := "ytbfiaeddjnkanaa", sum := "a8200e9a4d77ce15682e9512de24e3b37e792e4b76486dd469a57050a3d8ba99", func := "loop.example/shadowseries/laws.FnMultiplySeries", spec := "fnMultiplySeries", unfollowed := true, recurses := true, apart := false }
def FnMultiplySeriesSaid : Prop := fnMultiplySeriesRow.holds Try.pinned (OpenSpec.ofChange fnMultiplySeriesSpec)

/-- ITS FALSE NEIGHBOUR: 'it returns false'. Refute it at one input. -/
def fnMultiplySeriesWrong : ChangeSpec := { name := "fnMultiplySeries", fn := fun _ => fun
  | [d] => { results := [.lit (.bool false)], args := [d] }
  | _ => none }
def FnMultiplySeriesWrongFalsely : Prop := fnMultiplySeriesRow.holds Try.pinned (OpenSpec.ofChange fnMultiplySeriesWrong)

/-- 'laws.FnInvertSeries': WHATEVER THE INPUT: true; the input reads as it did. -/
def fnInvertSeriesSpec : ChangeSpec := { name := "fnInvertSeries", fn := fun _ => fun
  | [d] => { results := [.lit (.bool true)], args := [d] }
  | _ => none }
def fnInvertSeriesRow : OpenClaim := { program := "ytbfiaeddjnkanaa", sum := "a8200e9a4d77ce15682e9512de24e3b37e792e4b76486dd469a57050a3d8ba99", func := "loop.example/shadowseries/laws.FnInvertSeries", spec := "fnInvertSeries", unfollowed := true, recurses := true, apart := false }
def FnInvertSeriesSaid : Prop := fnInvertSeriesRow.holds Try.pinned (OpenSpec.ofChange fnInvertSeriesSpec)

/-- ITS FALSE NEIGHBOUR: 'it returns false'. Refute it at one input. -/
def fnInvertSeriesWrong : ChangeSpec := { name := "fnInvertSeries", fn := fun _ => fun
  | [d] => { results := [.lit (.bool false)], args := [d] }
  | _ => none }
def FnInvertSeriesWrongFalsely : Prop := fnInvertSeriesRow.holds Try.pinned (OpenSpec.ofChange fnInvertSeriesWrong)

/-- 'laws.FnDividedPower': WHATEVER THE INPUT: true; the input reads as it did. -/
def fnDividedPowerSpec : ChangeSpec := { name := "fnDividedPower", fn := fun _ => fun
  | [d] => { results := [.lit (.bool true)], args := [d] }
  | _ => none }
def fnDividedPowerRow : OpenClaim := { program := "ytbfiaeddjnkanaa", sum := "a8200e9a4d77ce15682e9512de24e3b37e792e4b76486dd469a57050a3d8ba99", func := "loop.example/shadowseries/laws.FnDividedPower", spec := "fnDividedPower", unfollowed := true, recurses := true, apart := false }
def FnDividedPowerSaid : Prop := fnDividedPowerRow.holds Try.pinned (OpenSpec.ofChange fnDividedPowerSpec)

/-- ITS FALSE NEIGHBOUR: 'it returns false'. Refute it at one input. -/
def fnDividedPowerWrong : ChangeSpec := { name := "fnDividedPower", fn := fun _ => fun
  | [d] => { results := [.lit (.bool false)], args := [d] }
  | _ => none }
def FnDividedPowerWrongFalsely : Prop := fnDividedPowerRow.holds Try.pinned (OpenSpec.ofChange fnDividedPowerWrong)

/-- 'laws.FnComposeSeries': WHATEVER THE INPUT: true; the input reads as it did. -/
def fnComposeSeriesSpec : ChangeSpec := { name := "fnComposeSeries", fn := fun _ => fun
  | [d] => { results := [.lit (.bool true)], args := [d] }
  | _ => none }
def fnComposeSeriesRow : OpenClaim := { program := "ytbfiaeddjnkanaa", sum := "a8200e9a4d77ce15682e9512de24e3b37e792e4b76486dd469a57050a3d8ba99", func := "loop.example/shadowseries/laws.FnComposeSeries", spec := "fnComposeSeries", unfollowed := true, recurses := true, apart := false }
def FnComposeSeriesSaid : Prop := fnComposeSeriesRow.holds Try.pinned (OpenSpec.ofChange fnComposeSeriesSpec)

/-- ITS FALSE NEIGHBOUR: 'it returns false'. Refute it at one input. -/
def fnComposeSeriesWrong : ChangeSpec := { name := "fnComposeSeries", fn := fun _ => fun
  | [d] => { results := [.lit (.bool false)], args := [d] }
  | _ => none }
def FnComposeSeriesWrongFalsely : Prop := fnComposeSeriesRow.holds Try.pinned (OpenSpec.ofChange fnComposeSeriesWrong)

/-- 'laws.FnReverseSeries': WHATEVER THE INPUT: true; the input reads as it did. -/
def fnReverseSeriesSpec : ChangeSpec := { name := "fnReverseSeries", fn := fun _ => fun
  | [d] => { results := [.lit (.bool true)], args := [d] }
  | _ => none }
def fnReverseSeriesRow : OpenClaim := { program := "ytbfiaeddjnkanaa", sum := "a8200e9a4d77ce15682e9512de24e3b37e792e4b76486dd469a57050a3d8ba99", func := "loop.example/shadowseries/laws.FnReverseSeries", spec := "fnReverseSeries", unfollowed := true, recurses := true, apart := false }
def FnReverseSeriesSaid : Prop := fnReverseSeriesRow.holds Try.pinned (OpenSpec.ofChange fnReverseSeriesSpec)

/-- ITS FALSE NEIGHBOUR: 'it returns false'. Refute it at one input. -/
def fnReverseSeriesWrong : ChangeSpec := { name := "fnReverseSeries", fn := fun _ => fun
  | [d] => { results := [.lit (.bool false)], args := [d] }
  | _ => none }
def FnReverseSeriesWrongFalsely : Prop := fnReverseSeriesRow.holds Try.pinned (OpenSpec.ofChange fnReverseSeriesWrong)

/-- 'laws.FnDeriveSeries': WHATEVER THE INPUT: true; the input reads as it did. -/
def fnDeriveSeriesSpec : ChangeSpec := { name := "fnDeriveSeries", fn := fun _ => fun
  | [d] => { results := [.lit (.bool true)], args := [d] }
  | _ => none }
def fnDeriveSeriesRow : OpenClaim := { program := "ytbfiaeddjnkanaa", sum := "a8200e9a4d77ce15682e9512de24e3b37e792e4b76486dd469a57050a3d8ba99", func := "loop.example/shadowseries/laws.FnDeriveSeries", spec := "fnDeriveSeries", unfollowed := true, recurses := true, apart := false }
def FnDeriveSeriesSaid : Prop := fnDeriveSeriesRow.holds Try.pinned (OpenSpec.ofChange fnDeriveSeriesSpec)

/-- ITS FALSE NEIGHBOUR: 'it returns false'. Refute it at one input. -/
def fnDeriveSeriesWrong : ChangeSpec := { name := "fnDeriveSeries", fn := fun _ => fun
  | [d] => { results := [.lit (.bool false)], args := [d] }
  | _ => none }
def FnDeriveSeriesWrongFalsely : Prop := fnDeriveSeriesRow.holds Try.pinned (OpenSpec.ofChange fnDeriveSeriesWrong)

/-- 'laws.FnExponentialOf': WHATEVER THE INPUT: true; the input reads as it did. -/
def fnExponentialOfSpec : ChangeSpec := { name := "fnExponentialOf", fn := fun _ => fun
  | [d] => { results := [.lit (.bool true)], args := [d] }
  | _ => none }
def fnExponentialOfRow : OpenClaim := { program := "ytbfiaeddjnkanaa", sum := "a8200e9a4d77ce15682e9512de24e3b37e792e4b76486dd469a57050a3d8ba99", func := "loop.example/shadowseries/laws.FnExponentialOf", spec := "fnExponentialOf", unfollowed := true, recurses := true, apart := false }
def FnExponentialOfSaid : Prop := fnExponentialOfRow.holds Try.pinned (OpenSpec.ofChange fnExponentialOfSpec)

/-- ITS FALSE NEIGHBOUR: 'it returns false'. Refute it at one input. -/
def fnExponentialOfWrong : ChangeSpec := { name := "fnExponentialOf", fn := fun _ => fun
  | [d] => { results := [.lit (.bool false)], args := [d] }
  | _ => none }
def FnExponentialOfWrongFalsely : Prop := fnExponentialOfRow.holds Try.pinned (OpenSpec.ofChange fnExponentialOfWrong)

/-- 'laws.FnLogarithmOf': WHATEVER THE INPUT: true; the input reads as it did. -/
def fnLogarithmOfSpec : ChangeSpec := { name := "fnLogarithmOf", fn := fun _ => fun
  | [d] => { results := [.lit (.bool true)], args := [d] }
  | _ => none }
def fnLogarithmOfRow : OpenClaim := { program := "ytbfiaeddjnkanaa", sum := "a8200e9a4d77ce15682e9512de24e3b37e792e4b76486dd469a57050a3d8ba99", func := "loop.example/shadowseries/laws.FnLogarithmOf", spec := "fnLogarithmOf", unfollowed := true, recurses := true, apart := false }
def FnLogarithmOfSaid : Prop := fnLogarithmOfRow.holds Try.pinned (OpenSpec.ofChange fnLogarithmOfSpec)

/-- ITS FALSE NEIGHBOUR: 'it returns false'. Refute it at one input. -/
def fnLogarithmOfWrong : ChangeSpec := { name := "fnLogarithmOf", fn := fun _ => fun
  | [d] => { results := [.lit (.bool false)], args := [d] }
  | _ => none }
def FnLogarithmOfWrongFalsely : Prop := fnLogarithmOfRow.holds Try.pinned (OpenSpec.ofChange fnLogarithmOfWrong)

/-- 'laws.FnBinomialOf': WHATEVER THE INPUT: true; the input reads as it did. -/
def fnBinomialOfSpec : ChangeSpec := { name := "fnBinomialOf", fn := fun _ => fun
  | [d] => { results := [.lit (.bool true)], args := [d] }
  | _ => none }
def fnBinomialOfRow : OpenClaim := { program := "ytbfiaeddjnkanaa", sum := "a8200e9a4d77ce15682e9512de24e3b37e792e4b76486dd469a57050a3d8ba99", func := "loop.example/shadowseries/laws.FnBinomialOf", spec := "fnBinomialOf", unfollowed := true, recurses := true, apart := false }
def FnBinomialOfSaid : Prop := fnBinomialOfRow.holds Try.pinned (OpenSpec.ofChange fnBinomialOfSpec)

/-- ITS FALSE NEIGHBOUR: 'it returns false'. Refute it at one input. -/
def fnBinomialOfWrong : ChangeSpec := { name := "fnBinomialOf", fn := fun _ => fun
  | [d] => { results := [.lit (.bool false)], args := [d] }
  | _ => none }
def FnBinomialOfWrongFalsely : Prop := fnBinomialOfRow.holds Try.pinned (OpenSpec.ofChange fnBinomialOfWrong)

/-- 'laws.FnAlternateOf': WHATEVER THE INPUT: true; the input reads as it did. -/
def fnAlternateOfSpec : ChangeSpec := { name := "fnAlternateOf", fn := fun _ => fun
  | [d] => { results := [.lit (.bool true)], args := [d] }
  | _ => none }
def fnAlternateOfRow : OpenClaim := { program := "ytbfiaeddjnkanaa", sum := "a8200e9a4d77ce15682e9512de24e3b37e792e4b76486dd469a57050a3d8ba99", func := "loop.example/shadowseries/laws.FnAlternateOf", spec := "fnAlternateOf", unfollowed := true, recurses := true, apart := false }
def FnAlternateOfSaid : Prop := fnAlternateOfRow.holds Try.pinned (OpenSpec.ofChange fnAlternateOfSpec)

/-- ITS FALSE NEIGHBOUR: 'it returns false'. Refute it at one input. -/
def fnAlternateOfWrong : ChangeSpec := { name := "fnAlternateOf", fn := fun _ => fun
  | [d] => { results := [.lit (.bool false)], args := [d] }
  | _ => none }
def FnAlternateOfWrongFalsely : Prop := fnAlternateOfRow.holds Try.pinned (OpenSpec.ofChange fnAlternateOfWrong)

/- THE SECOND FORM. 'bulk': how many values and letters a reading holds, each counted each time it is reached (what is shared counts as often as it is met; a slice's spare places count too). A statement '..UptoSaid' is the law's where the arguments, and the package variables that the reading takes, are together of bulk at most 1048576: NARROWER than '..Said'. Prove '..Said' where nothing that the law and all that it calls make is longer than what came in: it says more and counts as full. Else prove '..UptoSaid'. A law counts once. -/
mutual
def uptoBulk {H : Type} : DataW H → Nat
  | .lit (.string bytes) => bytes.length + 1
  | .lit _ => 1
  | .nil => 1
  | .ptr d => uptoBulk d + 1
  | .slice elems spare => uptoBulkAll elems + uptoBulkAll spare + 1
  | .agg parts => uptoBulkAll parts + 1
  | .iface _ d => uptoBulk d + 1
  | .map entries => uptoBulkEntries entries + 1
  | .held _ => 1
def uptoBulkAll {H : Type} : List (DataW H) → Nat
  | [] => 0
  | d :: r => uptoBulk d + uptoBulkAll r
def uptoBulkEntries {H : Type} : List (Lit × DataW H) → Nat
  | [] => 0
  | x :: r => uptoBulkEntry x + uptoBulkEntries r
def uptoBulkEntry {H : Type} : Lit × DataW H → Nat
  | (.string bytes, d) => bytes.length + uptoBulk d + 1
  | (_, d) => uptoBulk d + 1
 end
def uptoSmall : (H : Type) → List (DataW H) → Bool := fun _ ds => decide (uptoBulkAll ds ≤ 1048576)
def OpenSpec.upto (s : _root_.Go.ChangeSpec) : _root_.Go.OpenSpec := { _root_.Go.OpenSpec.ofChange s with cond := some uptoSmall }

/-- 'laws.FnValidSeries', WHERE WHAT IT READS IS OF BULK AT MOST 1048576: true; the input reads as it did. -/
def fnValidSeriesUptoRow : OpenClaim := { program := "ytbfiaeddjnkanaa", sum := "a8200e9a4d77ce15682e9512de24e3b37e792e4b76486dd469a57050a3d8ba99", func := "loop.example/shadowseries/laws.FnValidSeries", spec := "fnValidSeries", unfollowed := true, recurses := true, apart := false, narrowed := true }
def FnValidSeriesUptoSaid : Prop := fnValidSeriesUptoRow.holds Try.pinned (OpenSpec.upto fnValidSeriesSpec)

/-- 'laws.FnAddSeries', WHERE WHAT IT READS IS OF BULK AT MOST 1048576: true; the input reads as it did. -/
def fnAddSeriesUptoRow : OpenClaim := { program := "ytbfiaeddjnkanaa", sum := "a8200e9a4d77ce15682e9512de24e3b37e792e4b76486dd469a57050a3d8ba99", func := "loop.example/shadowseries/laws.FnAddSeries", spec := "fnAddSeries", unfollowed := true, recurses := true, apart := false, narrowed := true }
def FnAddSeriesUptoSaid : Prop := fnAddSeriesUptoRow.holds Try.pinned (OpenSpec.upto fnAddSeriesSpec)

/-- 'laws.FnMultiplySeries', WHERE WHAT IT READS IS OF BULK AT MOST 1048576: true; the input reads as it did. -/
def fnMultiplySeriesUptoRow : OpenClaim := { program := "ytbfiaeddjnkanaa", sum := "a8200e9a4d77ce15682e9512de24e3b37e792e4b76486dd469a57050a3d8ba99", func := "loop.example/shadowseries/laws.FnMultiplySeries", spec := "fnMultiplySeries", unfollowed := true, recurses := true, apart := false, narrowed := true }
def FnMultiplySeriesUptoSaid : Prop := fnMultiplySeriesUptoRow.holds Try.pinned (OpenSpec.upto fnMultiplySeriesSpec)

/-- 'laws.FnInvertSeries', WHERE WHAT IT READS IS OF BULK AT MOST 1048576: true; the input reads as it did. -/
def fnInvertSeriesUptoRow : OpenClaim := { program := "ytbfiaeddjnkanaa", sum := "a8200e9a4d77ce15682e9512de24e3b37e792e4b76486dd469a57050a3d8ba99", func := "loop.example/shadowseries/laws.FnInvertSeries", spec := "fnInvertSeries", unfollowed := true, recurses := true, apart := false, narrowed := true }
def FnInvertSeriesUptoSaid : Prop := fnInvertSeriesUptoRow.holds Try.pinned (OpenSpec.upto fnInvertSeriesSpec)

/-- 'laws.FnDividedPower', WHERE WHAT IT READS IS OF BULK AT MOST 1048576: true; the input reads as it did. -/
def fnDividedPowerUptoRow : OpenClaim := { program := "ytbfiaeddjnkanaa", sum := "a8200e9a4d77ce15682e9512de24e3b37e792e4b76486dd469a57050a3d8ba99", func := "loop.example/shadowseries/laws.FnDividedPower", spec := "fnDividedPower", unfollowed := true, recurses := true, apart := false, narrowed := true }
def FnDividedPowerUptoSaid : Prop := fnDividedPowerUptoRow.holds Try.pinned (OpenSpec.upto fnDividedPowerSpec)

/-- 'laws.FnComposeSeries', WHERE WHAT IT READS IS OF BULK AT MOST 1048576: true; the input reads as it did. -/
def fnComposeSeriesUptoRow : OpenClaim := { program := "ytbfiaeddjnkanaa", sum := "a8200e9a4d77ce15682e9512de24e3b37e792e4b76486dd469a57050a3d8ba99", func := "loop.example/shadowseries/laws.FnComposeSeries", spec := "fnComposeSeries", unfollowed := true, recurses := true, apart := false, narrowed := true }
def FnComposeSeriesUptoSaid : Prop := fnComposeSeriesUptoRow.holds Try.pinned (OpenSpec.upto fnComposeSeriesSpec)

/-- 'laws.FnReverseSeries', WHERE WHAT IT READS IS OF BULK AT MOST 1048576: true; the input reads as it did. -/
def fnReverseSeriesUptoRow : OpenClaim := { program := "ytbfiaeddjnkanaa", sum := "a8200e9a4d77ce15682e9512de24e3b37e792e4b76486dd469a57050a3d8ba99", func := "loop.example/shadowseries/laws.FnReverseSeries", spec := "fnReverseSeries", unfollowed := true, recurses := true, apart := false, narrowed := true }
def FnReverseSeriesUptoSaid : Prop := fnReverseSeriesUptoRow.holds Try.pinned (OpenSpec.upto fnReverseSeriesSpec)

/-- 'laws.FnDeriveSeries', WHERE WHAT IT READS IS OF BULK AT MOST 1048576: true; the input reads as it did. -/
def fnDeriveSeriesUptoRow : OpenClaim := { program := "ytbfiaeddjnkanaa", sum := "a8200e9a4d77ce15682e9512de24e3b37e792e4b76486dd469a57050a3d8ba99", func := "loop.example/shadowseries/laws.FnDeriveSeries", spec := "fnDeriveSeries", unfollowed := true, recurses := true, apart := false, narrowed := true }
def FnDeriveSeriesUptoSaid : Prop := fnDeriveSeriesUptoRow.holds Try.pinned (OpenSpec.upto fnDeriveSeriesSpec)

/-- 'laws.FnExponentialOf', WHERE WHAT IT READS IS OF BULK AT MOST 1048576: true; the input reads as it did. -/
def fnExponentialOfUptoRow : OpenClaim := { program := "ytbfiaeddjnkanaa", sum := "a8200e9a4d77ce15682e9512de24e3b37e792e4b76486dd469a57050a3d8ba99", func := "loop.example/shadowseries/laws.FnExponentialOf", spec := "fnExponentialOf", unfollowed := true, recurses := true, apart := false, narrowed := true }
def FnExponentialOfUptoSaid : Prop := fnExponentialOfUptoRow.holds Try.pinned (OpenSpec.upto fnExponentialOfSpec)

/-- 'laws.FnLogarithmOf', WHERE WHAT IT READS IS OF BULK AT MOST 1048576: true; the input reads as it did. -/
def fnLogarithmOfUptoRow : OpenClaim := { program := "ytbfiaeddjnkanaa", sum := "a8200e9a4d77ce15682e9512de24e3b37e792e4b76486dd469a57050a3d8ba99", func := "loop.example/shadowseries/laws.FnLogarithmOf", spec := "fnLogarithmOf", unfollowed := true, recurses := true, apart := false, narrowed := true }
def FnLogarithmOfUptoSaid : Prop := fnLogarithmOfUptoRow.holds Try.pinned (OpenSpec.upto fnLogarithmOfSpec)

/-- 'laws.FnBinomialOf', WHERE WHAT IT READS IS OF BULK AT MOST 1048576: true; the input reads as it did. -/
def fnBinomialOfUptoRow : OpenClaim := { program := "ytbfiaeddjnkanaa", sum := "a8200e9a4d77ce15682e9512de24e3b37e792e4b76486dd469a57050a3d8ba99", func := "loop.example/shadowseries/laws.FnBinomialOf", spec := "fnBinomialOf", unfollowed := true, recurses := true, apart := false, narrowed := true }
def FnBinomialOfUptoSaid : Prop := fnBinomialOfUptoRow.holds Try.pinned (OpenSpec.upto fnBinomialOfSpec)

/-- 'laws.FnAlternateOf', WHERE WHAT IT READS IS OF BULK AT MOST 1048576: true; the input reads as it did. -/
def fnAlternateOfUptoRow : OpenClaim := { program := "ytbfiaeddjnkanaa", sum := "a8200e9a4d77ce15682e9512de24e3b37e792e4b76486dd469a57050a3d8ba99", func := "loop.example/shadowseries/laws.FnAlternateOf", spec := "fnAlternateOf", unfollowed := true, recurses := true, apart := false, narrowed := true }
def FnAlternateOfUptoSaid : Prop := fnAlternateOfUptoRow.holds Try.pinned (OpenSpec.upto fnAlternateOfSpec)

end Rows
end Go.Proofs.Ytbfiaeddjnkanaa

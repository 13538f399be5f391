/-
  No cell of these rows narrows 'for every input' (looked for: loops, veiled, ifaces, maps, wideKeys, modest, calm, conditions, laid).
  DERIVED. THE GIVEN ROWS OF THIS SEAT. 9 by the template 'for every input the law returns true; each argument reads behind the call as it read before'; 0 by the template 'total and deterministic' (their statements: YtmhdciohpmofbabTotals.lean).
  GIVEN WITH THE SEED: the statements are not yours to turn. If you find one false, say at which input.
  Laid BY PROGRAM, IN A SANDBOX (cutbox-rows.mjs): the forced cells as the released guide's own fill.sh prints them over the translation bb81d15d9b9e2cff… (all of the seat's roots in one cut). By AI agents, Wed Nov 11 2026. No macro, syntax, notation, axiom, sorry.
-/
import Derived.Test.YtmhdciohpmofbabChecked
import GoSem.Claim
import GoSem.ClaimJoined
import GoSem.ClaimMapViews
import Derived.JoinedTies
import Derived.KernelRfl
namespace Go.Proofs.Ytmhdciohpmofbab
/- THE CELL 'sum', in the pinned program and in every row, IS THE sha256 OF THE DUMP (.gsa) THAT YtmhdciohpmofbabProg.lean LOADS. Nothing in Lean hashes anything: it is a label: what it is worth is what the hold of that sum in a sandbox is worth. -/
noncomputable def Try.pinned : Pinned := { name := "ytmhdciohpmofbab", sum := "bb81d15d9b9e2cff24ad54f3e4b6d8525034d35cac4e3792cf6820398b026e53", checked := Try.checked }
namespace Rows
def none {H : Type} : Left H := { results := [], args := [] }

/-- 'laws.FnValidSeries': WHATEVER THE INPUT: true; the input reads as it did. -/
def fnValidSeriesSpec : ChangeSpec := { name := "fnValidSeries", fn := fun _ => fun
  | [d] => { results := [.lit (.bool true)], args := [d] }
  | _ => none }
def fnValidSeriesRow : OpenClaim := { program := "ytmhdciohpmofbab", sum := "bb81d15d9b9e2cff24ad54f3e4b6d8525034d35cac4e3792cf6820398b026e53", func := "loop.example/shadowseries/laws.FnValidSeries", spec := "fnValidSeries", unfollowed := true, recurses := true, apart := false }
def FnValidSeriesSaid : Prop := fnValidSeriesRow.holds Try.pinned (OpenSpec.ofChange fnValidSeriesSpec)

/-- ITS FALSE NEIGHBOUR: 'it returns false'. Refute it at one input. -/
def fnValidSeriesWrong : ChangeSpec := { name := "fnValidSeries", fn := fun _ => fun
  | [d] => { results := [.lit (.bool false)], args := [d] }
  | _ => none }
def FnValidSeriesWrongFalsely : Prop := fnValidSeriesRow.holds Try.pinned (OpenSpec.ofChange fnValidSeriesWrong)

/-- 'laws.FnActOn': WHATEVER THE INPUT: true; the input reads as it did. -/
def fnActOnSpec : ChangeSpec := { name := "fnActOn", fn := fun _ => fun
  | [d] => { results := [.lit (.bool true)], args := [d] }
  | _ => none }
def fnActOnRow : OpenClaim := { program := "ytmhdciohpmofbab", sum := "bb81d15d9b9e2cff24ad54f3e4b6d8525034d35cac4e3792cf6820398b026e53", func := "loop.example/shadowseries/laws.FnActOn", spec := "fnActOn", unfollowed := true, recurses := true, apart := false }
def FnActOnSaid : Prop := fnActOnRow.holds Try.pinned (OpenSpec.ofChange fnActOnSpec)

/-- ITS FALSE NEIGHBOUR: 'it returns false'. Refute it at one input. -/
def fnActOnWrong : ChangeSpec := { name := "fnActOn", fn := fun _ => fun
  | [d] => { results := [.lit (.bool false)], args := [d] }
  | _ => none }
def FnActOnWrongFalsely : Prop := fnActOnRow.holds Try.pinned (OpenSpec.ofChange fnActOnWrong)

/-- 'laws.FnInversePair': WHATEVER THE INPUT: true; the input reads as it did. -/
def fnInversePairSpec : ChangeSpec := { name := "fnInversePair", fn := fun _ => fun
  | [d] => { results := [.lit (.bool true)], args := [d] }
  | _ => none }
def fnInversePairRow : OpenClaim := { program := "ytmhdciohpmofbab", sum := "bb81d15d9b9e2cff24ad54f3e4b6d8525034d35cac4e3792cf6820398b026e53", func := "loop.example/shadowseries/laws.FnInversePair", spec := "fnInversePair", unfollowed := true, recurses := true, apart := false }
def FnInversePairSaid : Prop := fnInversePairRow.holds Try.pinned (OpenSpec.ofChange fnInversePairSpec)

/-- ITS FALSE NEIGHBOUR: 'it returns false'. Refute it at one input. -/
def fnInversePairWrong : ChangeSpec := { name := "fnInversePair", fn := fun _ => fun
  | [d] => { results := [.lit (.bool false)], args := [d] }
  | _ => none }
def FnInversePairWrongFalsely : Prop := fnInversePairRow.holds Try.pinned (OpenSpec.ofChange fnInversePairWrong)

/-- 'laws.FnNamedPair': WHATEVER THE INPUT: true; the input reads as it did. -/
def fnNamedPairSpec : ChangeSpec := { name := "fnNamedPair", fn := fun _ => fun
  | [d] => { results := [.lit (.bool true)], args := [d] }
  | _ => none }
def fnNamedPairRow : OpenClaim := { program := "ytmhdciohpmofbab", sum := "bb81d15d9b9e2cff24ad54f3e4b6d8525034d35cac4e3792cf6820398b026e53", func := "loop.example/shadowseries/laws.FnNamedPair", spec := "fnNamedPair", unfollowed := true, recurses := true, apart := false }
def FnNamedPairSaid : Prop := fnNamedPairRow.holds Try.pinned (OpenSpec.ofChange fnNamedPairSpec)

/-- ITS FALSE NEIGHBOUR: 'it returns false'. Refute it at one input. -/
def fnNamedPairWrong : ChangeSpec := { name := "fnNamedPair", fn := fun _ => fun
  | [d] => { results := [.lit (.bool false)], args := [d] }
  | _ => none }
def FnNamedPairWrongFalsely : Prop := fnNamedPairRow.holds Try.pinned (OpenSpec.ofChange fnNamedPairWrong)

/-- 'laws.FnRowSums': WHATEVER THE INPUT: true; the input reads as it did. -/
def fnRowSumsSpec : ChangeSpec := { name := "fnRowSums", fn := fun _ => fun
  | [d] => { results := [.lit (.bool true)], args := [d] }
  | _ => none }
def fnRowSumsRow : OpenClaim := { program := "ytmhdciohpmofbab", sum := "bb81d15d9b9e2cff24ad54f3e4b6d8525034d35cac4e3792cf6820398b026e53", func := "loop.example/shadowseries/laws.FnRowSums", spec := "fnRowSums", unfollowed := true, recurses := true, apart := false }
def FnRowSumsSaid : Prop := fnRowSumsRow.holds Try.pinned (OpenSpec.ofChange fnRowSumsSpec)

/-- ITS FALSE NEIGHBOUR: 'it returns false'. Refute it at one input. -/
def fnRowSumsWrong : ChangeSpec := { name := "fnRowSums", fn := fun _ => fun
  | [d] => { results := [.lit (.bool false)], args := [d] }
  | _ => none }
def FnRowSumsWrongFalsely : Prop := fnRowSumsRow.holds Try.pinned (OpenSpec.ofChange fnRowSumsWrong)

/-- 'laws.FnFallingProducts': WHATEVER THE INPUT: true; the input reads as it did. -/
def fnFallingProductsSpec : ChangeSpec := { name := "fnFallingProducts", fn := fun _ => fun
  | [d] => { results := [.lit (.bool true)], args := [d] }
  | _ => none }
def fnFallingProductsRow : OpenClaim := { program := "ytmhdciohpmofbab", sum := "bb81d15d9b9e2cff24ad54f3e4b6d8525034d35cac4e3792cf6820398b026e53", func := "loop.example/shadowseries/laws.FnFallingProducts", spec := "fnFallingProducts", unfollowed := true, recurses := true, apart := false }
def FnFallingProductsSaid : Prop := fnFallingProductsRow.holds Try.pinned (OpenSpec.ofChange fnFallingProductsSpec)

/-- ITS FALSE NEIGHBOUR: 'it returns false'. Refute it at one input. -/
def fnFallingProductsWrong : ChangeSpec := { name := "fnFallingProducts", fn := fun _ => fun
  | [d] => { results := [.lit (.bool false)], args := [d] }
  | _ => none }
def FnFallingProductsWrongFalsely : Prop := fnFallingProductsRow.holds Try.pinned (OpenSpec.ofChange fnFallingProductsWrong)

/-- 'laws.FnAllPartitions': WHATEVER THE INPUT: true; the input reads as it did. -/
def fnAllPartitionsSpec : ChangeSpec := { name := "fnAllPartitions", fn := fun _ => fun
  | [d] => { results := [.lit (.bool true)], args := [d] }
  | _ => none }
def fnAllPartitionsRow : OpenClaim := { program := "ytmhdciohpmofbab", sum := "bb81d15d9b9e2cff24ad54f3e4b6d8525034d35cac4e3792cf6820398b026e53", func := "loop.example/shadowseries/laws.FnAllPartitions", spec := "fnAllPartitions", unfollowed := true, recurses := true, apart := false }
def FnAllPartitionsSaid : Prop := fnAllPartitionsRow.holds Try.pinned (OpenSpec.ofChange fnAllPartitionsSpec)

/-- ITS FALSE NEIGHBOUR: 'it returns false'. Refute it at one input. -/
def fnAllPartitionsWrong : ChangeSpec := { name := "fnAllPartitions", fn := fun _ => fun
  | [d] => { results := [.lit (.bool false)], args := [d] }
  | _ => none }
def FnAllPartitionsWrongFalsely : Prop := fnAllPartitionsRow.holds Try.pinned (OpenSpec.ofChange fnAllPartitionsWrong)

/-- 'laws.FnPartCount': WHATEVER THE INPUT: true; the input reads as it did. -/
def fnPartCountSpec : ChangeSpec := { name := "fnPartCount", fn := fun _ => fun
  | [d] => { results := [.lit (.bool true)], args := [d] }
  | _ => none }
def fnPartCountRow : OpenClaim := { program := "ytmhdciohpmofbab", sum := "bb81d15d9b9e2cff24ad54f3e4b6d8525034d35cac4e3792cf6820398b026e53", func := "loop.example/shadowseries/laws.FnPartCount", spec := "fnPartCount", unfollowed := true, recurses := true, apart := false }
def FnPartCountSaid : Prop := fnPartCountRow.holds Try.pinned (OpenSpec.ofChange fnPartCountSpec)

/-- ITS FALSE NEIGHBOUR: 'it returns false'. Refute it at one input. -/
def fnPartCountWrong : ChangeSpec := { name := "fnPartCount", fn := fun _ => fun
  | [d] => { results := [.lit (.bool false)], args := [d] }
  | _ => none }
def FnPartCountWrongFalsely : Prop := fnPartCountRow.holds Try.pinned (OpenSpec.ofChange fnPartCountWrong)

/-- 'laws.FnTransformBy': WHATEVER THE INPUT: true; the input reads as it did. -/
def fnTransformBySpec : ChangeSpec := { name := "fnTransformBy", fn := fun _ => fun
  | [d] => { results := [.lit (.bool true)], args := [d] }
  | _ => none }
def fnTransformByRow : OpenClaim := { program := "ytmhdciohpmofbab", sum := "bb81d15d9b9e2cff24ad54f3e4b6d8525034d35cac4e3792cf6820398b026e53", func := "loop.example/shadowseries/laws.FnTransformBy", spec := "fnTransformBy", unfollowed := true, recurses := true, apart := false }
def FnTransformBySaid : Prop := fnTransformByRow.holds Try.pinned (OpenSpec.ofChange fnTransformBySpec)

/-- ITS FALSE NEIGHBOUR: 'it returns false'. Refute it at one input. -/
def fnTransformByWrong : ChangeSpec := { name := "fnTransformBy", fn := fun _ => fun
  | [d] => { results := [.lit (.bool false)], args := [d] }
  | _ => none }
def FnTransformByWrongFalsely : Prop := fnTransformByRow.holds Try.pinned (OpenSpec.ofChange fnTransformByWrong)

/- THE SECOND FORM. 'bulk': how many values and letters a reading holds, each counted each time it is reached (what is shared counts as often as it is met; a slice's spare places count too). A statement '..UptoSaid' is the law's where the arguments, and the package variables that the reading takes, are together of bulk at most 1048576: NARROWER than '..Said'. Prove '..Said' where nothing that the law and all that it calls make is longer than what came in: it says more and counts as full. Else prove '..UptoSaid'. A law counts once. -/
mutual
def uptoBulk {H : Type} : DataW H → Nat
  | .lit (.string bytes) => bytes.length + 1
  | .lit _ => 1
  | .nil => 1
  | .ptr d => uptoBulk d + 1
  | .slice elems spare => uptoBulkAll elems + uptoBulkAll spare + 1
  | .agg parts => uptoBulkAll parts + 1
  | .iface _ d => uptoBulk d + 1
  | .map entries => uptoBulkEntries entries + 1
  | .held _ => 1
def uptoBulkAll {H : Type} : List (DataW H) → Nat
  | [] => 0
  | d :: r => uptoBulk d + uptoBulkAll r
def uptoBulkEntries {H : Type} : List (Lit × DataW H) → Nat
  | [] => 0
  | x :: r => uptoBulkEntry x + uptoBulkEntries r
def uptoBulkEntry {H : Type} : Lit × DataW H → Nat
  | (.string bytes, d) => bytes.length + uptoBulk d + 1
  | (_, d) => uptoBulk d + 1
 end
def uptoSmall : (H : Type) → List (DataW H) → Bool := fun _ ds => decide (uptoBulkAll ds ≤ 1048576)
def OpenSpec.upto (s : _root_.Go.ChangeSpec) : _root_.Go.OpenSpec := { _root_.Go.OpenSpec.ofChange s with cond := some uptoSmall }

/-- 'laws.FnValidSeries', WHERE WHAT IT READS IS OF BULK AT MOST 1048576: true; the input reads as it did. -/
def fnValidSeriesUptoRow : OpenClaim := { program := "ytmhdciohpmofbab", sum := "bb81d15d9b9e2cff24ad54f3e4b6d8525034d35cac4e3792cf6820398b026e53", func := "loop.example/shadowseries/laws.FnValidSeries", spec := "fnValidSeries", unfollowed := true, recurses := true, apart := false, narrowed := true }
def FnValidSeriesUptoSaid : Prop := fnValidSeriesUptoRow.holds Try.pinned (OpenSpec.upto fnValidSeriesSpec)

/-- 'laws.FnActOn', WHERE WHAT IT READS IS OF BULK AT MOST 1048576: true; the input reads as it did. -/
def fnActOnUptoRow : OpenClaim := { program := "ytmhdciohpmofbab", sum := "bb81d15d9b9e2cff24ad54f3e4b6d8525034d35cac4e3792cf6820398b026e53", func := "loop.example/shadowseries/laws.FnActOn", spec := "fnActOn", unfollowed := true, recurses := true, apart := false, narrowed := true }
def FnActOnUptoSaid : Prop := fnActOnUptoRow.holds Try.pinned (OpenSpec.upto fnActOnSpec)

/-- 'laws.FnInversePair', WHERE WHAT IT READS IS OF BULK AT MOST 1048576: true; the input reads as it did. -/
def fnInversePairUptoRow : OpenClaim := { program := "ytmhdciohpmofbab", sum := "bb81d15d9b9e2cff24ad54f3e4b6d8525034d35cac4e3792cf6820398b026e53", func := "loop.example/shadowseries/laws.FnInversePair", spec := "fnInversePair", unfollowed := true, recurses := true, apart := false, narrowed := true }
def FnInversePairUptoSaid : Prop := fnInversePairUptoRow.holds Try.pinned (OpenSpec.upto fnInversePairSpec)

/-- 'laws.FnNamedPair', WHERE WHAT IT READS IS OF BULK AT MOST 1048576: true; the input reads as it did. -/
def fnNamedPairUptoRow : OpenClaim := { program := "ytmhdciohpmofbab", sum := "bb81d15d9b9e2cff24ad54f3e4b6d8525034d35cac4e3792cf6820398b026e53", func := "loop.example/shadowseries/laws.FnNamedPair", spec := "fnNamedPair", unfollowed := true, recurses := true, apart := false, narrowed := true }
def FnNamedPairUptoSaid : Prop := fnNamedPairUptoRow.holds Try.pinned (OpenSpec.upto fnNamedPairSpec)

/-- 'laws.FnRowSums', WHERE WHAT IT READS IS OF BULK AT MOST 1048576: true; the input reads as it did. -/
def fnRowSumsUptoRow : OpenClaim := { program := "ytmhdciohpmofbab", sum := "bb81d15d9b9e2cff24ad54f3e4b6d8525034d35cac4e3792cf6820398b026e53", func := "loop.example/shadowseries/laws.FnRowSums", spec := "fnRowSums", unfollowed := true, recurses := true, apart := false, narrowed := true }
def FnRowSumsUptoSaid : Prop := fnRowSumsUptoRow.holds Try.pinned (OpenSpec.upto fnRowSumsSpec)

/-- 'laws.FnFallingProducts', WHERE WHAT IT READS IS OF BULK AT MOST 1048576: true; the input reads as it did. -/
def fnFallingProductsUptoRow : OpenClaim := { program := "ytmhdciohpmofbab", sum := "bb81d15d9b9e2cff24ad54f3e4b6d8525034d35cac4e3792cf6820398b026e53", func := "loop.example/shadowseries/laws.FnFallingProducts", spec := "fnFallingProducts", unfollowed := true, recurses := true, apart := false, narrowed := true }
def FnFallingProductsUptoSaid : Prop := fnFallingProductsUptoRow.holds Try.pinned (OpenSpec.upto fnFallingProductsSpec)

/-- 'laws.FnAllPartitions', WHERE WHAT IT READS IS OF BULK AT MOST 1048576: true; the input reads as it did. -/
def fnAllPartitionsUptoRow : OpenClaim := { program := "ytmhdciohpmofbab", sum := "bb81d15d9b9e2cff24ad54f3e4b6d8525034d35cac4e3792cf6820398b026e53", func := "loop.example/shadowseries/laws.FnAllPartitions", spec := "fnAllPartitions", unfollowed := true, recurses := true, apart := false, narrowed := true }
def FnAllPartitionsUptoSaid : Prop := fnAllPartitionsUptoRow.holds Try.pinned (OpenSpec.upto fnAllPartitionsSpec)

/-- 'laws.FnPartCount', WHERE WHAT IT READS IS OF BULK AT MOST 1048576: true; the input reads as it did. -/
def fnPartCountUptoRow : OpenClaim := { program := "ytmhdciohpmofbab", sum := "bb81d15d9b9e2cff24ad54f3e4b6d8525034d35cac4e3792cf6820398b026e53", func := "loop.example/shadowseries/laws.FnPartCount", spec := "fnPartCount", unfollowed := true, recurses := true, apart := false, narrowed := true }
def FnPartCountUptoSaid : Prop := fnPartCountUptoRow.holds Try.pinned (OpenSpec.upto fnPartCountSpec)

/-- 'laws.FnTransformBy', WHERE WHAT IT READS IS OF BULK AT MOST 1048576: true; the input reads as it did. -/
def fnTransformByUptoRow : OpenClaim := { program := "ytmhdciohpmofbab", sum := "bb81d15d9b9e2cff24ad54f3e4b6d8525034d35cac4e3792cf6820398b026e53", func := "loop.example/shadowseries/laws.FnTransformBy", spec := "fnTransformBy", unfollowed := true, recurses := true, apart := false, narrowed := true }
def FnTransformByUptoSaid : Prop := fnTransformByUptoRow.holds Try.pinned (OpenSpec.upto fnTransformBySpec)

end Rows
end Go.Proofs.Ytmhdciohpmofbab

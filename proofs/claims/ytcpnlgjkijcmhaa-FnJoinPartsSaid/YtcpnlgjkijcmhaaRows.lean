/-
  No cell of these rows narrows 'for every input' (looked for: loops, veiled, ifaces, maps, wideKeys, modest, calm, conditions, laid).
  DERIVED. THE GIVEN ROWS OF THIS SEAT. 7 by the template 'for every input the law returns true; each argument reads behind the call as it read before'; 0 by the template 'total and deterministic' (their statements: YtcpnlgjkijcmhaaTotals.lean).
  GIVEN WITH THE SEED: the statements are not yours to turn. If you find one false, say at which input.
  Laid BY PROGRAM, IN A SANDBOX (cutbox-rows.mjs): the forced cells as the released guide's own fill.sh prints them over the translation 27da35ea1afd5dd9… (all of the seat's roots in one cut). By AI agents, Wed Nov 11 2026. No macro, syntax, notation, axiom, sorry.
-/
import Derived.Test.YtcpnlgjkijcmhaaChecked
import GoSem.Claim
import GoSem.ClaimJoined
import GoSem.ClaimMapViews
import Derived.JoinedTies
import Derived.KernelRfl
namespace Go.Proofs.Ytcpnlgjkijcmhaa
/- THE CELL 'sum', in the pinned program and in every row, IS THE sha256 OF THE DUMP (.gsa) THAT YtcpnlgjkijcmhaaProg.lean LOADS. Nothing in Lean hashes anything: it is a label: what it is worth is what the hold of that sum in a sandbox is worth. -/
noncomputable def Try.pinned : Pinned := { name := "ytcpnlgjkijcmhaa", sum := "27da35ea1afd5dd9367406379d9ccfc019cf8986570165ace286d80654d67c34", checked := Try.checked }
namespace Rows
def none {H : Type} : Left H := { results := [], args := [] }

/-- 'laws.FnIsFiner': WHATEVER THE INPUT: true; the input reads as it did. -/
def fnIsFinerSpec : ChangeSpec := { name := "fnIsFiner", fn := fun _ => fun
  | [d] => { results := [.lit (.bool true)], args := [d] }
  | _ => none }
def fnIsFinerRow : OpenClaim := { program := "ytcpnlgjkijcmhaa", sum := "27da35ea1afd5dd9367406379d9ccfc019cf8986570165ace286d80654d67c34", func := "loop.example/shadowseries/laws.FnIsFiner", spec := "fnIsFiner", plainKeys := false, apart := false }
def FnIsFinerSaid : Prop := fnIsFinerRow.holds Try.pinned (OpenSpec.ofChange fnIsFinerSpec)

/-- ITS FALSE NEIGHBOUR: 'it returns false'. Refute it at one input. -/
def fnIsFinerWrong : ChangeSpec := { name := "fnIsFiner", fn := fun _ => fun
  | [d] => { results := [.lit (.bool false)], args := [d] }
  | _ => none }
def FnIsFinerWrongFalsely : Prop := fnIsFinerRow.holds Try.pinned (OpenSpec.ofChange fnIsFinerWrong)

/-- 'laws.FnMeetParts': WHATEVER THE INPUT: true; the input reads as it did. -/
def fnMeetPartsSpec : ChangeSpec := { name := "fnMeetParts", fn := fun _ => fun
  | [d] => { results := [.lit (.bool true)], args := [d] }
  | _ => none }
def fnMeetPartsRow : OpenClaim := { program := "ytcpnlgjkijcmhaa", sum := "27da35ea1afd5dd9367406379d9ccfc019cf8986570165ace286d80654d67c34", func := "loop.example/shadowseries/laws.FnMeetParts", spec := "fnMeetParts", plainKeys := false, apart := false }
def FnMeetPartsSaid : Prop := fnMeetPartsRow.holds Try.pinned (OpenSpec.ofChange fnMeetPartsSpec)

/-- ITS FALSE NEIGHBOUR: 'it returns false'. Refute it at one input. -/
def fnMeetPartsWrong : ChangeSpec := { name := "fnMeetParts", fn := fun _ => fun
  | [d] => { results := [.lit (.bool false)], args := [d] }
  | _ => none }
def FnMeetPartsWrongFalsely : Prop := fnMeetPartsRow.holds Try.pinned (OpenSpec.ofChange fnMeetPartsWrong)

/-- 'laws.FnJoinParts': WHATEVER THE INPUT: true; the input reads as it did. -/
def fnJoinPartsSpec : ChangeSpec := { name := "fnJoinParts", fn := fun _ => fun
  | [d] => { results := [.lit (.bool true)], args := [d] }
  | _ => none }
def fnJoinPartsRow : OpenClaim := { program := "ytcpnlgjkijcmhaa", sum := "27da35ea1afd5dd9367406379d9ccfc019cf8986570165ace286d80654d67c34", func := "loop.example/shadowseries/laws.FnJoinParts", spec := "fnJoinParts", plainKeys := false, apart := false }
def FnJoinPartsSaid : Prop := fnJoinPartsRow.holds Try.pinned (OpenSpec.ofChange fnJoinPartsSpec)

/-- ITS FALSE NEIGHBOUR: 'it returns false'. Refute it at one input. -/
def fnJoinPartsWrong : ChangeSpec := { name := "fnJoinParts", fn := fun _ => fun
  | [d] => { results := [.lit (.bool false)], args := [d] }
  | _ => none }
def FnJoinPartsWrongFalsely : Prop := fnJoinPartsRow.holds Try.pinned (OpenSpec.ofChange fnJoinPartsWrong)

/-- 'laws.FnWeightOfParts': WHATEVER THE INPUT: true; the input reads as it did. -/
def fnWeightOfPartsSpec : ChangeSpec := { name := "fnWeightOfParts", fn := fun _ => fun
  | [d] => { results := [.lit (.bool true)], args := [d] }
  | _ => none }
def fnWeightOfPartsRow : OpenClaim := { program := "ytcpnlgjkijcmhaa", sum := "27da35ea1afd5dd9367406379d9ccfc019cf8986570165ace286d80654d67c34", func := "loop.example/shadowseries/laws.FnWeightOfParts", spec := "fnWeightOfParts", unfollowed := true, recurses := true, plainKeys := false, apart := false }
def FnWeightOfPartsSaid : Prop := fnWeightOfPartsRow.holds Try.pinned (OpenSpec.ofChange fnWeightOfPartsSpec)

/-- ITS FALSE NEIGHBOUR: 'it returns false'. Refute it at one input. -/
def fnWeightOfPartsWrong : ChangeSpec := { name := "fnWeightOfParts", fn := fun _ => fun
  | [d] => { results := [.lit (.bool false)], args := [d] }
  | _ => none }
def FnWeightOfPartsWrongFalsely : Prop := fnWeightOfPartsRow.holds Try.pinned (OpenSpec.ofChange fnWeightOfPartsWrong)

/-- 'laws.FnExactIsFiner': WHATEVER THE INPUT: true; the input reads as it did. -/
def fnExactIsFinerSpec : ChangeSpec := { name := "fnExactIsFiner", fn := fun _ => fun
  | [d1, d2] => { results := [.lit (.bool true)], args := [d1, d2] }
  | _ => none }
def fnExactIsFinerRow : OpenClaim := { program := "ytcpnlgjkijcmhaa", sum := "27da35ea1afd5dd9367406379d9ccfc019cf8986570165ace286d80654d67c34", func := "loop.example/shadowseries/laws.FnExactIsFiner", spec := "fnExactIsFiner", plainKeys := false, apart := false }
def FnExactIsFinerSaid : Prop := fnExactIsFinerRow.holds Try.pinned (OpenSpec.ofChange fnExactIsFinerSpec)

/-- ITS FALSE NEIGHBOUR: 'it returns false'. Refute it at one input. -/
def fnExactIsFinerWrong : ChangeSpec := { name := "fnExactIsFiner", fn := fun _ => fun
  | [d1, d2] => { results := [.lit (.bool false)], args := [d1, d2] }
  | _ => none }
def FnExactIsFinerWrongFalsely : Prop := fnExactIsFinerRow.holds Try.pinned (OpenSpec.ofChange fnExactIsFinerWrong)

/-- 'laws.FnExactMeetParts': WHATEVER THE INPUT: true; the input reads as it did. -/
def fnExactMeetPartsSpec : ChangeSpec := { name := "fnExactMeetParts", fn := fun _ => fun
  | [d1, d2] => { results := [.lit (.bool true)], args := [d1, d2] }
  | _ => none }
def fnExactMeetPartsRow : OpenClaim := { program := "ytcpnlgjkijcmhaa", sum := "27da35ea1afd5dd9367406379d9ccfc019cf8986570165ace286d80654d67c34", func := "loop.example/shadowseries/laws.FnExactMeetParts", spec := "fnExactMeetParts", plainKeys := false, apart := false }
def FnExactMeetPartsSaid : Prop := fnExactMeetPartsRow.holds Try.pinned (OpenSpec.ofChange fnExactMeetPartsSpec)

/-- ITS FALSE NEIGHBOUR: 'it returns false'. Refute it at one input. -/
def fnExactMeetPartsWrong : ChangeSpec := { name := "fnExactMeetParts", fn := fun _ => fun
  | [d1, d2] => { results := [.lit (.bool false)], args := [d1, d2] }
  | _ => none }
def FnExactMeetPartsWrongFalsely : Prop := fnExactMeetPartsRow.holds Try.pinned (OpenSpec.ofChange fnExactMeetPartsWrong)

/-- 'laws.FnExactJoinParts': WHATEVER THE INPUT: true; the input reads as it did. -/
def fnExactJoinPartsSpec : ChangeSpec := { name := "fnExactJoinParts", fn := fun _ => fun
  | [d1, d2] => { results := [.lit (.bool true)], args := [d1, d2] }
  | _ => none }
def fnExactJoinPartsRow : OpenClaim := { program := "ytcpnlgjkijcmhaa", sum := "27da35ea1afd5dd9367406379d9ccfc019cf8986570165ace286d80654d67c34", func := "loop.example/shadowseries/laws.FnExactJoinParts", spec := "fnExactJoinParts", plainKeys := false, apart := false }
def FnExactJoinPartsSaid : Prop := fnExactJoinPartsRow.holds Try.pinned (OpenSpec.ofChange fnExactJoinPartsSpec)

/-- ITS FALSE NEIGHBOUR: 'it returns false'. Refute it at one input. -/
def fnExactJoinPartsWrong : ChangeSpec := { name := "fnExactJoinParts", fn := fun _ => fun
  | [d1, d2] => { results := [.lit (.bool false)], args := [d1, d2] }
  | _ => none }
def FnExactJoinPartsWrongFalsely : Prop := fnExactJoinPartsRow.holds Try.pinned (OpenSpec.ofChange fnExactJoinPartsWrong)

/- THE SECOND FORM. 'bulk': how many values and letters a reading holds, each counted each time it is reached (what is shared counts as often as it is met; a slice's spare places count too). A statement '..UptoSaid' is the law's where the arguments, and the package variables that the reading takes, are together of bulk at most 1048576: NARROWER than '..Said'. Prove '..Said' where nothing that the law and all that it calls make is longer than what came in: it says more and counts as full. Else prove '..UptoSaid'. A law counts once. -/
mutual
def uptoBulk {H : Type} : DataW H → Nat
  | .lit (.string bytes) => bytes.length + 1
  | .lit _ => 1
  | .nil => 1
  | .ptr d => uptoBulk d + 1
  | .slice elems spare => uptoBulkAll elems + uptoBulkAll spare + 1
  | .agg parts => uptoBulkAll parts + 1
  | .iface _ d => uptoBulk d + 1
  | .map entries => uptoBulkEntries entries + 1
  | .held _ => 1
def uptoBulkAll {H : Type} : List (DataW H) → Nat
  | [] => 0
  | d :: r => uptoBulk d + uptoBulkAll r
def uptoBulkEntries {H : Type} : List (Lit × DataW H) → Nat
  | [] => 0
  | x :: r => uptoBulkEntry x + uptoBulkEntries r
def uptoBulkEntry {H : Type} : Lit × DataW H → Nat
  | (.string bytes, d) => bytes.length + uptoBulk d + 1
  | (_, d) => uptoBulk d + 1
 end
def uptoSmall : (H : Type) → List (DataW H) → Bool := fun _ ds => decide (uptoBulkAll ds ≤ 1048576)
def OpenSpec.upto (s : _root_.Go.ChangeSpec) : _root_.Go.OpenSpec := { _root_.Go.OpenSpec.ofChange s with cond := some uptoSmall }

/-- 'laws.FnIsFiner', WHERE WHAT IT READS IS OF BULK AT MOST 1048576: true; the input reads as it did. -/
def fnIsFinerUptoRow : OpenClaim := { program := "ytcpnlgjkijcmhaa", sum := "27da35ea1afd5dd9367406379d9ccfc019cf8986570165ace286d80654d67c34", func := "loop.example/shadowseries/laws.FnIsFiner", spec := "fnIsFiner", plainKeys := false, apart := false, narrowed := true }
def FnIsFinerUptoSaid : Prop := fnIsFinerUptoRow.holds Try.pinned (OpenSpec.upto fnIsFinerSpec)

/-- 'laws.FnMeetParts', WHERE WHAT IT READS IS OF BULK AT MOST 1048576: true; the input reads as it did. -/
def fnMeetPartsUptoRow : OpenClaim := { program := "ytcpnlgjkijcmhaa", sum := "27da35ea1afd5dd9367406379d9ccfc019cf8986570165ace286d80654d67c34", func := "loop.example/shadowseries/laws.FnMeetParts", spec := "fnMeetParts", plainKeys := false, apart := false, narrowed := true }
def FnMeetPartsUptoSaid : Prop := fnMeetPartsUptoRow.holds Try.pinned (OpenSpec.upto fnMeetPartsSpec)

/-- 'laws.FnJoinParts', WHERE WHAT IT READS IS OF BULK AT MOST 1048576: true; the input reads as it did. -/
def fnJoinPartsUptoRow : OpenClaim := { program := "ytcpnlgjkijcmhaa", sum := "27da35ea1afd5dd9367406379d9ccfc019cf8986570165ace286d80654d67c34", func := "loop.example/shadowseries/laws.FnJoinParts", spec := "fnJoinParts", plainKeys := false, apart := false, narrowed := true }
def FnJoinPartsUptoSaid : Prop := fnJoinPartsUptoRow.holds Try.pinned (OpenSpec.upto fnJoinPartsSpec)

/-- 'laws.FnWeightOfParts', WHERE WHAT IT READS IS OF BULK AT MOST 1048576: true; the input reads as it did. -/
def fnWeightOfPartsUptoRow : OpenClaim := { program := "ytcpnlgjkijcmhaa", sum := "27da35ea1afd5dd9367406379d9ccfc019cf8986570165ace286d80654d67c34", func := "loop.example/shadowseries/laws.FnWeightOfParts", spec := "fnWeightOfParts", unfollowed := true, recurses := true, plainKeys := false, apart := false, narrowed := true }
def FnWeightOfPartsUptoSaid : Prop := fnWeightOfPartsUptoRow.holds Try.pinned (OpenSpec.upto fnWeightOfPartsSpec)

/-- 'laws.FnExactIsFiner', WHERE WHAT IT READS IS OF BULK AT MOST 1048576: true; the input reads as it did. -/
def fnExactIsFinerUptoRow : OpenClaim := { program := "ytcpnlgjkijcmhaa", sum := "27da35ea1afd5dd9367406379d9ccfc019cf8986570165ace286d80654d67c34", func := "loop.example/shadowseries/laws.FnExactIsFiner", spec := "fnExactIsFiner", plainKeys := false, apart := false, narrowed := true }
def FnExactIsFinerUptoSaid : Prop := fnExactIsFinerUptoRow.holds Try.pinned (OpenSpec.upto fnExactIsFinerSpec)

/-- 'laws.FnExactMeetParts', WHERE WHAT IT READS IS OF BULK AT MOST 1048576: true; the input reads as it did. -/
def fnExactMeetPartsUptoRow : OpenClaim := { program := "ytcpnlgjkijcmhaa", sum := "27da35ea1afd5dd9367406379d9ccfc019cf8986570165ace286d80654d67c34", func := "loop.example/shadowseries/laws.FnExactMeetParts", spec := "fnExactMeetParts", plainKeys := false, apart := false, narrowed := true }
def FnExactMeetPartsUptoSaid : Prop := fnExactMeetPartsUptoRow.holds Try.pinned (OpenSpec.upto fnExactMeetPartsSpec)

/-- 'laws.FnExactJoinParts', WHERE WHAT IT READS IS OF BULK AT MOST 1048576: true; the input reads as it did. -/
def fnExactJoinPartsUptoRow : OpenClaim := { program := "ytcpnlgjkijcmhaa", sum := "27da35ea1afd5dd9367406379d9ccfc019cf8986570165ace286d80654d67c34", func := "loop.example/shadowseries/laws.FnExactJoinParts", spec := "fnExactJoinParts", plainKeys := false, apart := false, narrowed := true }
def FnExactJoinPartsUptoSaid : Prop := fnExactJoinPartsUptoRow.holds Try.pinned (OpenSpec.upto fnExactJoinPartsSpec)

end Rows
end Go.Proofs.Ytcpnlgjkijcmhaa

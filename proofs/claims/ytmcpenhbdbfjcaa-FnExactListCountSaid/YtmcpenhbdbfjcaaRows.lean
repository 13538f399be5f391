/-
  No cell of these rows narrows 'for every input' (looked for: loops, veiled, ifaces, maps, wideKeys, modest, calm, conditions, laid).
  DERIVED. THE GIVEN ROWS OF THIS SEAT. 12 by the template 'for every input the law returns true; each argument reads behind the call as it read before'; 0 by the template 'total and deterministic' (their statements: YtmcpenhbdbfjcaaTotals.lean).
  GIVEN WITH THE SEED: the statements are not yours to turn. If you find one false, say at which input.
  Laid BY PROGRAM, IN A SANDBOX (cutbox-rows.mjs): the forced cells as the released guide's own fill.sh prints them over the translation fa2de39f0f30a540… (all of the seat's roots in one cut). By AI agents, Wed Nov 11 2026. No macro, syntax, notation, axiom, sorry.
-/
import Derived.Test.YtmcpenhbdbfjcaaChecked
import GoSem.Claim
import GoSem.ClaimJoined
import GoSem.ClaimMapViews
import Derived.JoinedTies
import Derived.KernelRfl
namespace Go.Proofs.Ytmcpenhbdbfjcaa
/- THE CELL 'sum', in the pinned program and in every row, IS THE sha256 OF THE DUMP (.gsa) THAT YtmcpenhbdbfjcaaProg.lean LOADS. Nothing in Lean hashes anything: it is a label: what it is worth is what the hold of that sum in a sandbox is worth. -/
noncomputable def Try.pinned : Pinned := { name := "ytmcpenhbdbfjcaa", sum := "fa2de39f0f30a540cad8cd0c07c91da9d060a6d74163cf49c0585b3eaf63ca45", checked := Try.checked }
namespace Rows
def none {H : Type} : Left H := { results := [], args := [] }

/-- 'laws.FnValidPair': WHATEVER THE INPUT: true; the input reads as it did. -/
def fnValidPairSpec : ChangeSpec := { name := "fnValidPair", fn := fun _ => fun
  | [d] => { results := [.lit (.bool true)], args := [d] }
  | _ => none }
def fnValidPairRow : OpenClaim := { program := "ytmcpenhbdbfjcaa", sum := "fa2de39f0f30a540cad8cd0c07c91da9d060a6d74163cf49c0585b3eaf63ca45", func := "loop.example/shadowseries/laws.FnValidPair", spec := "fnValidPair", unfollowed := true, recurses := true, apart := false }
def FnValidPairSaid : Prop := fnValidPairRow.holds Try.pinned (OpenSpec.ofChange fnValidPairSpec)

/-- ITS FALSE NEIGHBOUR: 'it returns false'. Refute it at one input. -/
def fnValidPairWrong : ChangeSpec := { name := "fnValidPair", fn := fun _ => fun
  | [d] => { results := [.lit (.bool false)], args := [d] }
  | _ => none }
def FnValidPairWrongFalsely : Prop := fnValidPairRow.holds Try.pinned (OpenSpec.ofChange fnValidPairWrong)

/-- 'laws.FnArrayOf': WHATEVER THE INPUT: true; the input reads as it did. -/
def fnArrayOfSpec : ChangeSpec := { name := "fnArrayOf", fn := fun _ => fun
  | [d] => { results := [.lit (.bool true)], args := [d] }
  | _ => none }
def fnArrayOfRow : OpenClaim := { program := "ytmcpenhbdbfjcaa", sum := "fa2de39f0f30a540cad8cd0c07c91da9d060a6d74163cf49c0585b3eaf63ca45", func := "loop.example/shadowseries/laws.FnArrayOf", spec := "fnArrayOf", unfollowed := true, recurses := true, apart := false }
def FnArrayOfSaid : Prop := fnArrayOfRow.holds Try.pinned (OpenSpec.ofChange fnArrayOfSpec)

/-- ITS FALSE NEIGHBOUR: 'it returns false'. Refute it at one input. -/
def fnArrayOfWrong : ChangeSpec := { name := "fnArrayOf", fn := fun _ => fun
  | [d] => { results := [.lit (.bool false)], args := [d] }
  | _ => none }
def FnArrayOfWrongFalsely : Prop := fnArrayOfRow.holds Try.pinned (OpenSpec.ofChange fnArrayOfWrong)

/-- 'laws.FnUnitPair': WHATEVER THE INPUT: true; the input reads as it did. -/
def fnUnitPairSpec : ChangeSpec := { name := "fnUnitPair", fn := fun _ => fun
  | [d] => { results := [.lit (.bool true)], args := [d] }
  | _ => none }
def fnUnitPairRow : OpenClaim := { program := "ytmcpenhbdbfjcaa", sum := "fa2de39f0f30a540cad8cd0c07c91da9d060a6d74163cf49c0585b3eaf63ca45", func := "loop.example/shadowseries/laws.FnUnitPair", spec := "fnUnitPair", unfollowed := true, recurses := true, apart := false }
def FnUnitPairSaid : Prop := fnUnitPairRow.holds Try.pinned (OpenSpec.ofChange fnUnitPairSpec)

/-- ITS FALSE NEIGHBOUR: 'it returns false'. Refute it at one input. -/
def fnUnitPairWrong : ChangeSpec := { name := "fnUnitPair", fn := fun _ => fun
  | [d] => { results := [.lit (.bool false)], args := [d] }
  | _ => none }
def FnUnitPairWrongFalsely : Prop := fnUnitPairRow.holds Try.pinned (OpenSpec.ofChange fnUnitPairWrong)

/-- 'laws.FnExactIsMirror': WHATEVER THE INPUT: true; the input reads as it did. -/
def fnExactIsMirrorSpec : ChangeSpec := { name := "fnExactIsMirror", fn := fun _ => fun
  | [d] => { results := [.lit (.bool true)], args := [d] }
  | _ => none }
def fnExactIsMirrorRow : OpenClaim := { program := "ytmcpenhbdbfjcaa", sum := "fa2de39f0f30a540cad8cd0c07c91da9d060a6d74163cf49c0585b3eaf63ca45", func := "loop.example/shadowseries/laws.FnExactIsMirror", spec := "fnExactIsMirror", unfollowed := true, recurses := true, apart := false }
def FnExactIsMirrorSaid : Prop := fnExactIsMirrorRow.holds Try.pinned (OpenSpec.ofChange fnExactIsMirrorSpec)

/-- ITS FALSE NEIGHBOUR: 'it returns false'. Refute it at one input. -/
def fnExactIsMirrorWrong : ChangeSpec := { name := "fnExactIsMirror", fn := fun _ => fun
  | [d] => { results := [.lit (.bool false)], args := [d] }
  | _ => none }
def FnExactIsMirrorWrongFalsely : Prop := fnExactIsMirrorRow.holds Try.pinned (OpenSpec.ofChange fnExactIsMirrorWrong)

/-- 'laws.FnExactHankelOf': WHATEVER THE INPUT: true; the input reads as it did. -/
def fnExactHankelOfSpec : ChangeSpec := { name := "fnExactHankelOf", fn := fun _ => fun
  | [d] => { results := [.lit (.bool true)], args := [d] }
  | _ => none }
def fnExactHankelOfRow : OpenClaim := { program := "ytmcpenhbdbfjcaa", sum := "fa2de39f0f30a540cad8cd0c07c91da9d060a6d74163cf49c0585b3eaf63ca45", func := "loop.example/shadowseries/laws.FnExactHankelOf", spec := "fnExactHankelOf", unfollowed := true, recurses := true, apart := false }
def FnExactHankelOfSaid : Prop := fnExactHankelOfRow.holds Try.pinned (OpenSpec.ofChange fnExactHankelOfSpec)

/-- ITS FALSE NEIGHBOUR: 'it returns false'. Refute it at one input. -/
def fnExactHankelOfWrong : ChangeSpec := { name := "fnExactHankelOf", fn := fun _ => fun
  | [d] => { results := [.lit (.bool false)], args := [d] }
  | _ => none }
def FnExactHankelOfWrongFalsely : Prop := fnExactHankelOfRow.holds Try.pinned (OpenSpec.ofChange fnExactHankelOfWrong)

/-- 'laws.FnHankelOf': WHATEVER THE INPUT: true; the input reads as it did. -/
def fnHankelOfSpec : ChangeSpec := { name := "fnHankelOf", fn := fun _ => fun
  | [d] => { results := [.lit (.bool true)], args := [d] }
  | _ => none }
def fnHankelOfRow : OpenClaim := { program := "ytmcpenhbdbfjcaa", sum := "fa2de39f0f30a540cad8cd0c07c91da9d060a6d74163cf49c0585b3eaf63ca45", func := "loop.example/shadowseries/laws.FnHankelOf", spec := "fnHankelOf", unfollowed := true, recurses := true, apart := false }
def FnHankelOfSaid : Prop := fnHankelOfRow.holds Try.pinned (OpenSpec.ofChange fnHankelOfSpec)

/-- ITS FALSE NEIGHBOUR: 'it returns false'. Refute it at one input. -/
def fnHankelOfWrong : ChangeSpec := { name := "fnHankelOf", fn := fun _ => fun
  | [d] => { results := [.lit (.bool false)], args := [d] }
  | _ => none }
def FnHankelOfWrongFalsely : Prop := fnHankelOfRow.holds Try.pinned (OpenSpec.ofChange fnHankelOfWrong)

/-- 'laws.FnExactPartCount': WHATEVER THE INPUT: true; the input reads as it did. -/
def fnExactPartCountSpec : ChangeSpec := { name := "fnExactPartCount", fn := fun _ => fun
  | [d1, d2] => { results := [.lit (.bool true)], args := [d1, d2] }
  | _ => none }
def fnExactPartCountRow : OpenClaim := { program := "ytmcpenhbdbfjcaa", sum := "fa2de39f0f30a540cad8cd0c07c91da9d060a6d74163cf49c0585b3eaf63ca45", func := "loop.example/shadowseries/laws.FnExactPartCount", spec := "fnExactPartCount", unfollowed := true, recurses := true, apart := false }
def FnExactPartCountSaid : Prop := fnExactPartCountRow.holds Try.pinned (OpenSpec.ofChange fnExactPartCountSpec)

/-- ITS FALSE NEIGHBOUR: 'it returns false'. Refute it at one input. -/
def fnExactPartCountWrong : ChangeSpec := { name := "fnExactPartCount", fn := fun _ => fun
  | [d1, d2] => { results := [.lit (.bool false)], args := [d1, d2] }
  | _ => none }
def FnExactPartCountWrongFalsely : Prop := fnExactPartCountRow.holds Try.pinned (OpenSpec.ofChange fnExactPartCountWrong)

/-- 'laws.FnExactCycleCount': WHATEVER THE INPUT: true; the input reads as it did. -/
def fnExactCycleCountSpec : ChangeSpec := { name := "fnExactCycleCount", fn := fun _ => fun
  | [d1, d2] => { results := [.lit (.bool true)], args := [d1, d2] }
  | _ => none }
def fnExactCycleCountRow : OpenClaim := { program := "ytmcpenhbdbfjcaa", sum := "fa2de39f0f30a540cad8cd0c07c91da9d060a6d74163cf49c0585b3eaf63ca45", func := "loop.example/shadowseries/laws.FnExactCycleCount", spec := "fnExactCycleCount", unfollowed := true, recurses := true, apart := false }
def FnExactCycleCountSaid : Prop := fnExactCycleCountRow.holds Try.pinned (OpenSpec.ofChange fnExactCycleCountSpec)

/-- ITS FALSE NEIGHBOUR: 'it returns false'. Refute it at one input. -/
def fnExactCycleCountWrong : ChangeSpec := { name := "fnExactCycleCount", fn := fun _ => fun
  | [d1, d2] => { results := [.lit (.bool false)], args := [d1, d2] }
  | _ => none }
def FnExactCycleCountWrongFalsely : Prop := fnExactCycleCountRow.holds Try.pinned (OpenSpec.ofChange fnExactCycleCountWrong)

/-- 'laws.FnExactListCount': WHATEVER THE INPUT: true; the input reads as it did. -/
def fnExactListCountSpec : ChangeSpec := { name := "fnExactListCount", fn := fun _ => fun
  | [d1, d2] => { results := [.lit (.bool true)], args := [d1, d2] }
  | _ => none }
def fnExactListCountRow : OpenClaim := { program := "ytmcpenhbdbfjcaa", sum := "fa2de39f0f30a540cad8cd0c07c91da9d060a6d74163cf49c0585b3eaf63ca45", func := "loop.example/shadowseries/laws.FnExactListCount", spec := "fnExactListCount", unfollowed := true, recurses := true, apart := false }
def FnExactListCountSaid : Prop := fnExactListCountRow.holds Try.pinned (OpenSpec.ofChange fnExactListCountSpec)

/-- ITS FALSE NEIGHBOUR: 'it returns false'. Refute it at one input. -/
def fnExactListCountWrong : ChangeSpec := { name := "fnExactListCount", fn := fun _ => fun
  | [d1, d2] => { results := [.lit (.bool false)], args := [d1, d2] }
  | _ => none }
def FnExactListCountWrongFalsely : Prop := fnExactListCountRow.holds Try.pinned (OpenSpec.ofChange fnExactListCountWrong)

/-- 'laws.FnPartCount': WHATEVER THE INPUT: true; the input reads as it did. -/
def fnPartCountSpec : ChangeSpec := { name := "fnPartCount", fn := fun _ => fun
  | [d] => { results := [.lit (.bool true)], args := [d] }
  | _ => none }
def fnPartCountRow : OpenClaim := { program := "ytmcpenhbdbfjcaa", sum := "fa2de39f0f30a540cad8cd0c07c91da9d060a6d74163cf49c0585b3eaf63ca45", func := "loop.example/shadowseries/laws.FnPartCount", spec := "fnPartCount", unfollowed := true, recurses := true, apart := false }
def FnPartCountSaid : Prop := fnPartCountRow.holds Try.pinned (OpenSpec.ofChange fnPartCountSpec)

/-- ITS FALSE NEIGHBOUR: 'it returns false'. Refute it at one input. -/
def fnPartCountWrong : ChangeSpec := { name := "fnPartCount", fn := fun _ => fun
  | [d] => { results := [.lit (.bool false)], args := [d] }
  | _ => none }
def FnPartCountWrongFalsely : Prop := fnPartCountRow.holds Try.pinned (OpenSpec.ofChange fnPartCountWrong)

/-- 'laws.FnExactAllPartitions': WHATEVER THE INPUT: true; the input reads as it did. -/
def fnExactAllPartitionsSpec : ChangeSpec := { name := "fnExactAllPartitions", fn := fun _ => fun
  | [d] => { results := [.lit (.bool true)], args := [d] }
  | _ => none }
def fnExactAllPartitionsRow : OpenClaim := { program := "ytmcpenhbdbfjcaa", sum := "fa2de39f0f30a540cad8cd0c07c91da9d060a6d74163cf49c0585b3eaf63ca45", func := "loop.example/shadowseries/laws.FnExactAllPartitions", spec := "fnExactAllPartitions", unfollowed := true, recurses := true, apart := false }
def FnExactAllPartitionsSaid : Prop := fnExactAllPartitionsRow.holds Try.pinned (OpenSpec.ofChange fnExactAllPartitionsSpec)

/-- ITS FALSE NEIGHBOUR: 'it returns false'. Refute it at one input. -/
def fnExactAllPartitionsWrong : ChangeSpec := { name := "fnExactAllPartitions", fn := fun _ => fun
  | [d] => { results := [.lit (.bool false)], args := [d] }
  | _ => none }
def FnExactAllPartitionsWrongFalsely : Prop := fnExactAllPartitionsRow.holds Try.pinned (OpenSpec.ofChange fnExactAllPartitionsWrong)

/-- 'laws.FnExactSumOverParts': WHATEVER THE INPUT: true; the input reads as it did. -/
def fnExactSumOverPartsSpec : ChangeSpec := { name := "fnExactSumOverParts", fn := fun _ => fun
  | [d1, d2] => { results := [.lit (.bool true)], args := [d1, d2] }
  | _ => none }
def fnExactSumOverPartsRow : OpenClaim := { program := "ytmcpenhbdbfjcaa", sum := "fa2de39f0f30a540cad8cd0c07c91da9d060a6d74163cf49c0585b3eaf63ca45", func := "loop.example/shadowseries/laws.FnExactSumOverParts", spec := "fnExactSumOverParts", unfollowed := true, recurses := true, apart := false }
def FnExactSumOverPartsSaid : Prop := fnExactSumOverPartsRow.holds Try.pinned (OpenSpec.ofChange fnExactSumOverPartsSpec)

/-- ITS FALSE NEIGHBOUR: 'it returns false'. Refute it at one input. -/
def fnExactSumOverPartsWrong : ChangeSpec := { name := "fnExactSumOverParts", fn := fun _ => fun
  | [d1, d2] => { results := [.lit (.bool false)], args := [d1, d2] }
  | _ => none }
def FnExactSumOverPartsWrongFalsely : Prop := fnExactSumOverPartsRow.holds Try.pinned (OpenSpec.ofChange fnExactSumOverPartsWrong)

/- THE SECOND FORM. 'bulk': how many values and letters a reading holds, each counted each time it is reached (what is shared counts as often as it is met; a slice's spare places count too). A statement '..UptoSaid' is the law's where the arguments, and the package variables that the reading takes, are together of bulk at most 1048576: NARROWER than '..Said'. Prove '..Said' where nothing that the law and all that it calls make is longer than what came in: it says more and counts as full. Else prove '..UptoSaid'. A law counts once. -/
mutual
def uptoBulk {H : Type} : DataW H → Nat
  | .lit (.string bytes) => bytes.length + 1
  | .lit _ => 1
  | .nil => 1
  | .ptr d => uptoBulk d + 1
  | .slice elems spare => uptoBulkAll elems + uptoBulkAll spare + 1
  | .agg parts => uptoBulkAll parts + 1
  | .iface _ d => uptoBulk d + 1
  | .map entries => uptoBulkEntries entries + 1
  | .held _ => 1
def uptoBulkAll {H : Type} : List (DataW H) → Nat
  | [] => 0
  | d :: r => uptoBulk d + uptoBulkAll r
def uptoBulkEntries {H : Type} : List (Lit × DataW H) → Nat
  | [] => 0
  | x :: r => uptoBulkEntry x + uptoBulkEntries r
def uptoBulkEntry {H : Type} : Lit × DataW H → Nat
  | (.string bytes, d) => bytes.length + uptoBulk d + 1
  | (_, d) => uptoBulk d + 1
 end
def uptoSmall : (H : Type) → List (DataW H) → Bool := fun _ ds => decide (uptoBulkAll ds ≤ 1048576)
def OpenSpec.upto (s : _root_.Go.ChangeSpec) : _root_.Go.OpenSpec := { _root_.Go.OpenSpec.ofChange s with cond := some uptoSmall }

/-- 'laws.FnValidPair', WHERE WHAT IT READS IS OF BULK AT MOST 1048576: true; the input reads as it did. -/
def fnValidPairUptoRow : OpenClaim := { program := "ytmcpenhbdbfjcaa", sum := "fa2de39f0f30a540cad8cd0c07c91da9d060a6d74163cf49c0585b3eaf63ca45", func := "loop.example/shadowseries/laws.FnValidPair", spec := "fnValidPair", unfollowed := true, recurses := true, apart := false, narrowed := true }
def FnValidPairUptoSaid : Prop := fnValidPairUptoRow.holds Try.pinned (OpenSpec.upto fnValidPairSpec)

/-- 'laws.FnArrayOf', WHERE WHAT IT READS IS OF BULK AT MOST 1048576: true; the input reads as it did. -/
def fnArrayOfUptoRow : OpenClaim := { program := "ytmcpenhbdbfjcaa", sum := "fa2de39f0f30a540cad8cd0c07c91da9d060a6d74163cf49c0585b3eaf63ca45", func := "loop.example/shadowseries/laws.FnArrayOf", spec := "fnArrayOf", unfollowed := true, recurses := true, apart := false, narrowed := true }
def FnArrayOfUptoSaid : Prop := fnArrayOfUptoRow.holds Try.pinned (OpenSpec.upto fnArrayOfSpec)

/-- 'laws.FnUnitPair', WHERE WHAT IT READS IS OF BULK AT MOST 1048576: true; the input reads as it did. -/
def fnUnitPairUptoRow : OpenClaim := { program := "ytmcpenhbdbfjcaa", sum := "fa2de39f0f30a540cad8cd0c07c91da9d060a6d74163cf49c0585b3eaf63ca45", func := "loop.example/shadowseries/laws.FnUnitPair", spec := "fnUnitPair", unfollowed := true, recurses := true, apart := false, narrowed := true }
def FnUnitPairUptoSaid : Prop := fnUnitPairUptoRow.holds Try.pinned (OpenSpec.upto fnUnitPairSpec)

/-- 'laws.FnExactIsMirror', WHERE WHAT IT READS IS OF BULK AT MOST 1048576: true; the input reads as it did. -/
def fnExactIsMirrorUptoRow : OpenClaim := { program := "ytmcpenhbdbfjcaa", sum := "fa2de39f0f30a540cad8cd0c07c91da9d060a6d74163cf49c0585b3eaf63ca45", func := "loop.example/shadowseries/laws.FnExactIsMirror", spec := "fnExactIsMirror", unfollowed := true, recurses := true, apart := false, narrowed := true }
def FnExactIsMirrorUptoSaid : Prop := fnExactIsMirrorUptoRow.holds Try.pinned (OpenSpec.upto fnExactIsMirrorSpec)

/-- 'laws.FnExactHankelOf', WHERE WHAT IT READS IS OF BULK AT MOST 1048576: true; the input reads as it did. -/
def fnExactHankelOfUptoRow : OpenClaim := { program := "ytmcpenhbdbfjcaa", sum := "fa2de39f0f30a540cad8cd0c07c91da9d060a6d74163cf49c0585b3eaf63ca45", func := "loop.example/shadowseries/laws.FnExactHankelOf", spec := "fnExactHankelOf", unfollowed := true, recurses := true, apart := false, narrowed := true }
def FnExactHankelOfUptoSaid : Prop := fnExactHankelOfUptoRow.holds Try.pinned (OpenSpec.upto fnExactHankelOfSpec)

/-- 'laws.FnHankelOf', WHERE WHAT IT READS IS OF BULK AT MOST 1048576: true; the input reads as it did. -/
def fnHankelOfUptoRow : OpenClaim := { program := "ytmcpenhbdbfjcaa", sum := "fa2de39f0f30a540cad8cd0c07c91da9d060a6d74163cf49c0585b3eaf63ca45", func := "loop.example/shadowseries/laws.FnHankelOf", spec := "fnHankelOf", unfollowed := true, recurses := true, apart := false, narrowed := true }
def FnHankelOfUptoSaid : Prop := fnHankelOfUptoRow.holds Try.pinned (OpenSpec.upto fnHankelOfSpec)

/-- 'laws.FnExactPartCount', WHERE WHAT IT READS IS OF BULK AT MOST 1048576: true; the input reads as it did. -/
def fnExactPartCountUptoRow : OpenClaim := { program := "ytmcpenhbdbfjcaa", sum := "fa2de39f0f30a540cad8cd0c07c91da9d060a6d74163cf49c0585b3eaf63ca45", func := "loop.example/shadowseries/laws.FnExactPartCount", spec := "fnExactPartCount", unfollowed := true, recurses := true, apart := false, narrowed := true }
def FnExactPartCountUptoSaid : Prop := fnExactPartCountUptoRow.holds Try.pinned (OpenSpec.upto fnExactPartCountSpec)

/-- 'laws.FnExactCycleCount', WHERE WHAT IT READS IS OF BULK AT MOST 1048576: true; the input reads as it did. -/
def fnExactCycleCountUptoRow : OpenClaim := { program := "ytmcpenhbdbfjcaa", sum := "fa2de39f0f30a540cad8cd0c07c91da9d060a6d74163cf49c0585b3eaf63ca45", func := "loop.example/shadowseries/laws.FnExactCycleCount", spec := "fnExactCycleCount", unfollowed := true, recurses := true, apart := false, narrowed := true }
def FnExactCycleCountUptoSaid : Prop := fnExactCycleCountUptoRow.holds Try.pinned (OpenSpec.upto fnExactCycleCountSpec)

/-- 'laws.FnExactListCount', WHERE WHAT IT READS IS OF BULK AT MOST 1048576: true; the input reads as it did. -/
def fnExactListCountUptoRow : OpenClaim := { program := "ytmcpenhbdbfjcaa", sum := "fa2de39f0f30a540cad8cd0c07c91da9d060a6d74163cf49c0585b3eaf63ca45", func := "loop.example/shadowseries/laws.FnExactListCount", spec := "fnExactListCount", unfollowed := true, recurses := true, apart := false, narrowed := true }
def FnExactListCountUptoSaid : Prop := fnExactListCountUptoRow.holds Try.pinned (OpenSpec.upto fnExactListCountSpec)

/-- 'laws.FnPartCount', WHERE WHAT IT READS IS OF BULK AT MOST 1048576: true; the input reads as it did. -/
def fnPartCountUptoRow : OpenClaim := { program := "ytmcpenhbdbfjcaa", sum := "fa2de39f0f30a540cad8cd0c07c91da9d060a6d74163cf49c0585b3eaf63ca45", func := "loop.example/shadowseries/laws.FnPartCount", spec := "fnPartCount", unfollowed := true, recurses := true, apart := false, narrowed := true }
def FnPartCountUptoSaid : Prop := fnPartCountUptoRow.holds Try.pinned (OpenSpec.upto fnPartCountSpec)

/-- 'laws.FnExactAllPartitions', WHERE WHAT IT READS IS OF BULK AT MOST 1048576: true; the input reads as it did. -/
def fnExactAllPartitionsUptoRow : OpenClaim := { program := "ytmcpenhbdbfjcaa", sum := "fa2de39f0f30a540cad8cd0c07c91da9d060a6d74163cf49c0585b3eaf63ca45", func := "loop.example/shadowseries/laws.FnExactAllPartitions", spec := "fnExactAllPartitions", unfollowed := true, recurses := true, apart := false, narrowed := true }
def FnExactAllPartitionsUptoSaid : Prop := fnExactAllPartitionsUptoRow.holds Try.pinned (OpenSpec.upto fnExactAllPartitionsSpec)

/-- 'laws.FnExactSumOverParts', WHERE WHAT IT READS IS OF BULK AT MOST 1048576: true; the input reads as it did. -/
def fnExactSumOverPartsUptoRow : OpenClaim := { program := "ytmcpenhbdbfjcaa", sum := "fa2de39f0f30a540cad8cd0c07c91da9d060a6d74163cf49c0585b3eaf63ca45", func := "loop.example/shadowseries/laws.FnExactSumOverParts", spec := "fnExactSumOverParts", unfollowed := true, recurses := true, apart := false, narrowed := true }
def FnExactSumOverPartsUptoSaid : Prop := fnExactSumOverPartsUptoRow.holds Try.pinned (OpenSpec.upto fnExactSumOverPartsSpec)

end Rows
end Go.Proofs.Ytmcpenhbdbfjcaa

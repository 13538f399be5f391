/-
  No cell of these rows narrows 'for every input' (looked for: loops, veiled, ifaces, maps, wideKeys, modest, calm, conditions, laid).
  DERIVED. THE GIVEN ROWS OF THIS SEAT. 9 by the template 'for every input the law returns true; each argument reads behind the call as it read before'; 0 by the template 'total and deterministic' (their statements: YthcecobiidgeoaaTotals.lean).
  GIVEN WITH THE SEED: the statements are not yours to turn. If you find one false, say at which input.
  Laid BY PROGRAM, IN A SANDBOX (cutbox-rows.mjs): the forced cells as the released guide's own fill.sh prints them over the translation dbd933c6f2c7ca12… (all of the seat's roots in one cut). By AI agents, Wed Nov 11 2026. No macro, syntax, notation, axiom, sorry.
-/
import Derived.Test.YthcecobiidgeoaaChecked
import GoSem.Claim
import GoSem.ClaimJoined
import GoSem.ClaimMapViews
import Derived.JoinedTies
import Derived.KernelRfl
namespace Go.Proofs.Ythcecobiidgeoaa
/- THE CELL 'sum', in the pinned program and in every row, IS THE sha256 OF THE DUMP (.gsa) THAT YthcecobiidgeoaaProg.lean LOADS. Nothing in Lean hashes anything: it is a label: what it is worth is what the hold of that sum in a sandbox is worth. -/
noncomputable def Try.pinned : Pinned := { name := "ythcecobiidgeoaa", sum := "dbd933c6f2c7ca125ff283c2b6f39543b6afcfb6118b8494fbc1b945d9aabe8d", checked := Try.checked }
namespace Rows
def none {H : Type} : Left H := { results := [], args := [] }

/-- 'laws.FnExactAllPartitions': WHATEVER THE INPUT: true; the input reads as it did. -/
def fnExactAllPartitionsSpec : ChangeSpec := { name := "fnExactAllPartitions", fn := fun _ => fun
  | [d] => { results := [.lit (.bool true)], args := [d] }
  | _ => none }
def fnExactAllPartitionsRow : OpenClaim := { program := "ythcecobiidgeoaa", sum := "dbd933c6f2c7ca125ff283c2b6f39543b6afcfb6118b8494fbc1b945d9aabe8d", func := "loop.example/shadowseries/laws.FnExactAllPartitions", spec := "fnExactAllPartitions", unfollowed := true, recurses := true, apart := false }
def FnExactAllPartitionsSaid : Prop := fnExactAllPartitionsRow.holds Try.pinned (OpenSpec.ofChange fnExactAllPartitionsSpec)

/-- ITS FALSE NEIGHBOUR: 'it returns false'. Refute it at one input. -/
def fnExactAllPartitionsWrong : ChangeSpec := { name := "fnExactAllPartitions", fn := fun _ => fun
  | [d] => { results := [.lit (.bool false)], args := [d] }
  | _ => none }
def FnExactAllPartitionsWrongFalsely : Prop := fnExactAllPartitionsRow.holds Try.pinned (OpenSpec.ofChange fnExactAllPartitionsWrong)

/-- 'laws.FnAllPartitions': WHATEVER THE INPUT: true; the input reads as it did. -/
def fnAllPartitionsSpec : ChangeSpec := { name := "fnAllPartitions", fn := fun _ => fun
  | [d] => { results := [.lit (.bool true)], args := [d] }
  | _ => none }
def fnAllPartitionsRow : OpenClaim := { program := "ythcecobiidgeoaa", sum := "dbd933c6f2c7ca125ff283c2b6f39543b6afcfb6118b8494fbc1b945d9aabe8d", func := "loop.example/shadowseries/laws.FnAllPartitions", spec := "fnAllPartitions", unfollowed := true, recurses := true, apart := false }
def FnAllPartitionsSaid : Prop := fnAllPartitionsRow.holds Try.pinned (OpenSpec.ofChange fnAllPartitionsSpec)

/-- ITS FALSE NEIGHBOUR: 'it returns false'. Refute it at one input. -/
def fnAllPartitionsWrong : ChangeSpec := { name := "fnAllPartitions", fn := fun _ => fun
  | [d] => { results := [.lit (.bool false)], args := [d] }
  | _ => none }
def FnAllPartitionsWrongFalsely : Prop := fnAllPartitionsRow.holds Try.pinned (OpenSpec.ofChange fnAllPartitionsWrong)

/-- 'laws.FnExactSumOverParts': WHATEVER THE INPUT: true; the input reads as it did. -/
def fnExactSumOverPartsSpec : ChangeSpec := { name := "fnExactSumOverParts", fn := fun _ => fun
  | [d1, d2] => { results := [.lit (.bool true)], args := [d1, d2] }
  | _ => none }
def fnExactSumOverPartsRow : OpenClaim := { program := "ythcecobiidgeoaa", sum := "dbd933c6f2c7ca125ff283c2b6f39543b6afcfb6118b8494fbc1b945d9aabe8d", func := "loop.example/shadowseries/laws.FnExactSumOverParts", spec := "fnExactSumOverParts", unfollowed := true, recurses := true, apart := false }
def FnExactSumOverPartsSaid : Prop := fnExactSumOverPartsRow.holds Try.pinned (OpenSpec.ofChange fnExactSumOverPartsSpec)

/-- ITS FALSE NEIGHBOUR: 'it returns false'. Refute it at one input. -/
def fnExactSumOverPartsWrong : ChangeSpec := { name := "fnExactSumOverParts", fn := fun _ => fun
  | [d1, d2] => { results := [.lit (.bool false)], args := [d1, d2] }
  | _ => none }
def FnExactSumOverPartsWrongFalsely : Prop := fnExactSumOverPartsRow.holds Try.pinned (OpenSpec.ofChange fnExactSumOverPartsWrong)

/-- 'laws.FnSumOverParts': WHATEVER THE INPUT: true; the input reads as it did. -/
def fnSumOverPartsSpec : ChangeSpec := { name := "fnSumOverParts", fn := fun _ => fun
  | [d] => { results := [.lit (.bool true)], args := [d] }
  | _ => none }
def fnSumOverPartsRow : OpenClaim := { program := "ythcecobiidgeoaa", sum := "dbd933c6f2c7ca125ff283c2b6f39543b6afcfb6118b8494fbc1b945d9aabe8d", func := "loop.example/shadowseries/laws.FnSumOverParts", spec := "fnSumOverParts", unfollowed := true, recurses := true, apart := false }
def FnSumOverPartsSaid : Prop := fnSumOverPartsRow.holds Try.pinned (OpenSpec.ofChange fnSumOverPartsSpec)

/-- ITS FALSE NEIGHBOUR: 'it returns false'. Refute it at one input. -/
def fnSumOverPartsWrong : ChangeSpec := { name := "fnSumOverParts", fn := fun _ => fun
  | [d] => { results := [.lit (.bool false)], args := [d] }
  | _ => none }
def FnSumOverPartsWrongFalsely : Prop := fnSumOverPartsRow.holds Try.pinned (OpenSpec.ofChange fnSumOverPartsWrong)

/-- 'laws.FnPartCount': WHATEVER THE INPUT: true; the input reads as it did. -/
def fnPartCountSpec : ChangeSpec := { name := "fnPartCount", fn := fun _ => fun
  | [d] => { results := [.lit (.bool true)], args := [d] }
  | _ => none }
def fnPartCountRow : OpenClaim := { program := "ythcecobiidgeoaa", sum := "dbd933c6f2c7ca125ff283c2b6f39543b6afcfb6118b8494fbc1b945d9aabe8d", func := "loop.example/shadowseries/laws.FnPartCount", spec := "fnPartCount", unfollowed := true, recurses := true, apart := false }
def FnPartCountSaid : Prop := fnPartCountRow.holds Try.pinned (OpenSpec.ofChange fnPartCountSpec)

/-- ITS FALSE NEIGHBOUR: 'it returns false'. Refute it at one input. -/
def fnPartCountWrong : ChangeSpec := { name := "fnPartCount", fn := fun _ => fun
  | [d] => { results := [.lit (.bool false)], args := [d] }
  | _ => none }
def FnPartCountWrongFalsely : Prop := fnPartCountRow.holds Try.pinned (OpenSpec.ofChange fnPartCountWrong)

/-- 'laws.FnCycleCount': WHATEVER THE INPUT: true; the input reads as it did. -/
def fnCycleCountSpec : ChangeSpec := { name := "fnCycleCount", fn := fun _ => fun
  | [d] => { results := [.lit (.bool true)], args := [d] }
  | _ => none }
def fnCycleCountRow : OpenClaim := { program := "ythcecobiidgeoaa", sum := "dbd933c6f2c7ca125ff283c2b6f39543b6afcfb6118b8494fbc1b945d9aabe8d", func := "loop.example/shadowseries/laws.FnCycleCount", spec := "fnCycleCount", unfollowed := true, recurses := true, apart := false }
def FnCycleCountSaid : Prop := fnCycleCountRow.holds Try.pinned (OpenSpec.ofChange fnCycleCountSpec)

/-- ITS FALSE NEIGHBOUR: 'it returns false'. Refute it at one input. -/
def fnCycleCountWrong : ChangeSpec := { name := "fnCycleCount", fn := fun _ => fun
  | [d] => { results := [.lit (.bool false)], args := [d] }
  | _ => none }
def FnCycleCountWrongFalsely : Prop := fnCycleCountRow.holds Try.pinned (OpenSpec.ofChange fnCycleCountWrong)

/-- 'laws.FnListCount': WHATEVER THE INPUT: true; the input reads as it did. -/
def fnListCountSpec : ChangeSpec := { name := "fnListCount", fn := fun _ => fun
  | [d] => { results := [.lit (.bool true)], args := [d] }
  | _ => none }
def fnListCountRow : OpenClaim := { program := "ythcecobiidgeoaa", sum := "dbd933c6f2c7ca125ff283c2b6f39543b6afcfb6118b8494fbc1b945d9aabe8d", func := "loop.example/shadowseries/laws.FnListCount", spec := "fnListCount", unfollowed := true, recurses := true, apart := false }
def FnListCountSaid : Prop := fnListCountRow.holds Try.pinned (OpenSpec.ofChange fnListCountSpec)

/-- ITS FALSE NEIGHBOUR: 'it returns false'. Refute it at one input. -/
def fnListCountWrong : ChangeSpec := { name := "fnListCount", fn := fun _ => fun
  | [d] => { results := [.lit (.bool false)], args := [d] }
  | _ => none }
def FnListCountWrongFalsely : Prop := fnListCountRow.holds Try.pinned (OpenSpec.ofChange fnListCountWrong)

/-- 'laws.FnNamedPair': WHATEVER THE INPUT: true; the input reads as it did. -/
def fnNamedPairSpec : ChangeSpec := { name := "fnNamedPair", fn := fun _ => fun
  | [d] => { results := [.lit (.bool true)], args := [d] }
  | _ => none }
def fnNamedPairRow : OpenClaim := { program := "ythcecobiidgeoaa", sum := "dbd933c6f2c7ca125ff283c2b6f39543b6afcfb6118b8494fbc1b945d9aabe8d", func := "loop.example/shadowseries/laws.FnNamedPair", spec := "fnNamedPair", unfollowed := true, recurses := true, apart := false }
def FnNamedPairSaid : Prop := fnNamedPairRow.holds Try.pinned (OpenSpec.ofChange fnNamedPairSpec)

/-- ITS FALSE NEIGHBOUR: 'it returns false'. Refute it at one input. -/
def fnNamedPairWrong : ChangeSpec := { name := "fnNamedPair", fn := fun _ => fun
  | [d] => { results := [.lit (.bool false)], args := [d] }
  | _ => none }
def FnNamedPairWrongFalsely : Prop := fnNamedPairRow.holds Try.pinned (OpenSpec.ofChange fnNamedPairWrong)

/-- 'laws.FnExactNamedPair': WHATEVER THE INPUT: true; the input reads as it did. -/
def fnExactNamedPairSpec : ChangeSpec := { name := "fnExactNamedPair", fn := fun _ => fun
  | [d1, d2] => { results := [.lit (.bool true)], args := [d1, d2] }
  | _ => none }
def fnExactNamedPairRow : OpenClaim := { program := "ythcecobiidgeoaa", sum := "dbd933c6f2c7ca125ff283c2b6f39543b6afcfb6118b8494fbc1b945d9aabe8d", func := "loop.example/shadowseries/laws.FnExactNamedPair", spec := "fnExactNamedPair", unfollowed := true, recurses := true, apart := false }
def FnExactNamedPairSaid : Prop := fnExactNamedPairRow.holds Try.pinned (OpenSpec.ofChange fnExactNamedPairSpec)

/-- ITS FALSE NEIGHBOUR: 'it returns false'. Refute it at one input. -/
def fnExactNamedPairWrong : ChangeSpec := { name := "fnExactNamedPair", fn := fun _ => fun
  | [d1, d2] => { results := [.lit (.bool false)], args := [d1, d2] }
  | _ => none }
def FnExactNamedPairWrongFalsely : Prop := fnExactNamedPairRow.holds Try.pinned (OpenSpec.ofChange fnExactNamedPairWrong)

/- THE SECOND FORM. 'bulk': how many values and letters a reading holds, each counted each time it is reached (what is shared counts as often as it is met; a slice's spare places count too). A statement '..UptoSaid' is the law's where the arguments, and the package variables that the reading takes, are together of bulk at most 1048576: NARROWER than '..Said'. Prove '..Said' where nothing that the law and all that it calls make is longer than what came in: it says more and counts as full. Else prove '..UptoSaid'. A law counts once. -/
mutual
def uptoBulk {H : Type} : DataW H → Nat
  | .lit (.string bytes) => bytes.length + 1
  | .lit _ => 1
  | .nil => 1
  | .ptr d => uptoBulk d + 1
  | .slice elems spare => uptoBulkAll elems + uptoBulkAll spare + 1
  | .agg parts => uptoBulkAll parts + 1
  | .iface _ d => uptoBulk d + 1
  | .map entries => uptoBulkEntries entries + 1
  | .held _ => 1
def uptoBulkAll {H : Type} : List (DataW H) → Nat
  | [] => 0
  | d :: r => uptoBulk d + uptoBulkAll r
def uptoBulkEntries {H : Type} : List (Lit × DataW H) → Nat
  | [] => 0
  | x :: r => uptoBulkEntry x + uptoBulkEntries r
def uptoBulkEntry {H : Type} : Lit × DataW H → Nat
  | (.string bytes, d) => bytes.length + uptoBulk d + 1
  | (_, d) => uptoBulk d + 1
 end
def uptoSmall : (H : Type) → List (DataW H) → Bool := fun _ ds => decide (uptoBulkAll ds ≤ 1048576)
def OpenSpec.upto (s : _root_.Go.ChangeSpec) : _root_.Go.OpenSpec := { _root_.Go.OpenSpec.ofChange s with cond := some uptoSmall }

/-- 'laws.FnExactAllPartitions', WHERE WHAT IT READS IS OF BULK AT MOST 1048576: true; the input reads as it did. -/
def fnExactAllPartitionsUptoRow : OpenClaim := { program := "ythcecobiidgeoaa", sum := "dbd933c6f2c7ca125ff283c2b6f39543b6afcfb6118b8494fbc1b945d9aabe8d", func := "loop.example/shadowseries/laws.FnExactAllPartitions", spec := "fnExactAllPartitions", unfollowed := true, recurses := true, apart := false, narrowed := true }
def FnExactAllPartitionsUptoSaid : Prop := fnExactAllPartitionsUptoRow.holds Try.pinned (OpenSpec.upto fnExactAllPartitionsSpec)

/-- 'laws.FnAllPartitions', WHERE WHAT IT READS IS OF BULK AT MOST 1048576: true; the input reads as it did. -/
def fnAllPartitionsUptoRow : OpenClaim := { program := "ythcecobiidgeoaa", sum := "dbd933c6f2c7ca125ff283c2b6f39543b6afcfb6118b8494fbc1b945d9aabe8d", func := "loop.example/shadowseries/laws.FnAllPartitions", spec := "fnAllPartitions", unfollowed := true, recurses := true, apart := false, narrowed := true }
def FnAllPartitionsUptoSaid : Prop := fnAllPartitionsUptoRow.holds Try.pinned (OpenSpec.upto fnAllPartitionsSpec)

/-- 'laws.FnExactSumOverParts', WHERE WHAT IT READS IS OF BULK AT MOST 1048576: true; the input reads as it did. -/
def fnExactSumOverPartsUptoRow : OpenClaim := { program := "ythcecobiidgeoaa", sum := "dbd933c6f2c7ca125ff283c2b6f39543b6afcfb6118b8494fbc1b945d9aabe8d", func := "loop.example/shadowseries/laws.FnExactSumOverParts", spec := "fnExactSumOverParts", unfollowed := true, recurses := true, apart := false, narrowed := true }
def FnExactSumOverPartsUptoSaid : Prop := fnExactSumOverPartsUptoRow.holds Try.pinned (OpenSpec.upto fnExactSumOverPartsSpec)

/-- 'laws.FnSumOverParts', WHERE WHAT IT READS IS OF BULK AT MOST 1048576: true; the input reads as it did. -/
def fnSumOverPartsUptoRow : OpenClaim := { program := "ythcecobiidgeoaa", sum := "dbd933c6f2c7ca125ff283c2b6f39543b6afcfb6118b8494fbc1b945d9aabe8d", func := "loop.example/shadowseries/laws.FnSumOverParts", spec := "fnSumOverParts", unfollowed := true, recurses := true, apart := false, narrowed := true }
def FnSumOverPartsUptoSaid : Prop := fnSumOverPartsUptoRow.holds Try.pinned (OpenSpec.upto fnSumOverPartsSpec)

/-- 'laws.FnPartCount', WHERE WHAT IT READS IS OF BULK AT MOST 1048576: true; the input reads as it did. -/
def fnPartCountUptoRow : OpenClaim := { program := "ythcecobiidgeoaa", sum := "dbd933c6f2c7ca125ff283c2b6f39543b6afcfb6118b8494fbc1b945d9aabe8d", func := "loop.example/shadowseries/laws.FnPartCount", spec := "fnPartCount", unfollowed := true, recurses := true, apart := false, narrowed := true }
def FnPartCountUptoSaid : Prop := fnPartCountUptoRow.holds Try.pinned (OpenSpec.upto fnPartCountSpec)

/-- 'laws.FnCycleCount', WHERE WHAT IT READS IS OF BULK AT MOST 1048576: true; the input reads as it did. -/
def fnCycleCountUptoRow : OpenClaim := { program := "ythcecobiidgeoaa", sum := "dbd933c6f2c7ca125ff283c2b6f39543b6afcfb6118b8494fbc1b945d9aabe8d", func := "loop.example/shadowseries/laws.FnCycleCount", spec := "fnCycleCount", unfollowed := true, recurses := true, apart := false, narrowed := true }
def FnCycleCountUptoSaid : Prop := fnCycleCountUptoRow.holds Try.pinned (OpenSpec.upto fnCycleCountSpec)

/-- 'laws.FnListCount', WHERE WHAT IT READS IS OF BULK AT MOST 1048576: true; the input reads as it did. -/
def fnListCountUptoRow : OpenClaim := { program := "ythcecobiidgeoaa", sum := "dbd933c6f2c7ca125ff283c2b6f39543b6afcfb6118b8494fbc1b945d9aabe8d", func := "loop.example/shadowseries/laws.FnListCount", spec := "fnListCount", unfollowed := true, recurses := true, apart := false, narrowed := true }
def FnListCountUptoSaid : Prop := fnListCountUptoRow.holds Try.pinned (OpenSpec.upto fnListCountSpec)

/-- 'laws.FnNamedPair', WHERE WHAT IT READS IS OF BULK AT MOST 1048576: true; the input reads as it did. -/
def fnNamedPairUptoRow : OpenClaim := { program := "ythcecobiidgeoaa", sum := "dbd933c6f2c7ca125ff283c2b6f39543b6afcfb6118b8494fbc1b945d9aabe8d", func := "loop.example/shadowseries/laws.FnNamedPair", spec := "fnNamedPair", unfollowed := true, recurses := true, apart := false, narrowed := true }
def FnNamedPairUptoSaid : Prop := fnNamedPairUptoRow.holds Try.pinned (OpenSpec.upto fnNamedPairSpec)

/-- 'laws.FnExactNamedPair', WHERE WHAT IT READS IS OF BULK AT MOST 1048576: true; the input reads as it did. -/
def fnExactNamedPairUptoRow : OpenClaim := { program := "ythcecobiidgeoaa", sum := "dbd933c6f2c7ca125ff283c2b6f39543b6afcfb6118b8494fbc1b945d9aabe8d", func := "loop.example/shadowseries/laws.FnExactNamedPair", spec := "fnExactNamedPair", unfollowed := true, recurses := true, apart := false, narrowed := true }
def FnExactNamedPairUptoSaid : Prop := fnExactNamedPairUptoRow.holds Try.pinned (OpenSpec.upto fnExactNamedPairSpec)

end Rows
end Go.Proofs.Ythcecobiidgeoaa

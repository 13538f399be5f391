/-
  No cell of these rows narrows 'for every input' (looked for: loops, veiled, ifaces, maps, wideKeys, modest, calm, conditions, laid).
  DERIVED. THE GIVEN ROWS OF THIS SEAT. 4 by the template 'for every input the law returns true; each argument reads behind the call as it read before'; 0 by the template 'total and deterministic' (their statements: YtlenoefcnjcgfaaTotals.lean).
  GIVEN WITH THE SEED: the statements are not yours to turn. If you find one false, say at which input.
  Laid BY PROGRAM, IN A SANDBOX (cutbox-rows.mjs): the forced cells as the released guide's own fill.sh prints them over the translation d30e7dfbecede35b… (all of the seat's roots in one cut). By AI agents, Wed Nov 11 2026. No macro, syntax, notation, axiom, sorry.
-/
import Derived.Test.YtlenoefcnjcgfaaChecked
import GoSem.Claim
import GoSem.ClaimJoined
import GoSem.ClaimMapViews
import Derived.JoinedTies
import Derived.KernelRfl
namespace Go.Proofs.Ytlenoefcnjcgfaa
/- THE CELL 'sum', in the pinned program and in every row, IS THE sha256 OF THE DUMP (.gsa) THAT YtlenoefcnjcgfaaProg.lean LOADS. Nothing in Lean hashes anything: it is a label: what it is worth is what the hold of that sum in a sandbox is worth. -/
noncomputable def Try.pinned : Pinned := { name := "ytlenoefcnjcgfaa", sum := "d30e7dfbecede35b99e39bf274546065e0016db26f05ef41c6b0cf46e15fb613", checked := Try.checked }
namespace Rows
def none {H : Type} : Left H := { results := [], args := [] }

/-- 'laws.FnMultiplyPairs': WHATEVER THE INPUT: true; the input reads as it did. -/
def fnMultiplyPairsSpec : ChangeSpec := { name := "fnMultiplyPairs", fn := fun _ => fun
  | [d] => { results := [.lit (.bool true)], args := [d] }
  | _ => none }
def fnMultiplyPairsRow : OpenClaim := { program := "ytlenoefcnjcgfaa", sum := "d30e7dfbecede35b99e39bf274546065e0016db26f05ef41c6b0cf46e15fb613", func := "loop.example/shadowseries/laws.FnMultiplyPairs", spec := "fnMultiplyPairs", unfollowed := true, recurses := true, apart := false }
def FnMultiplyPairsSaid : Prop := fnMultiplyPairsRow.holds Try.pinned (OpenSpec.ofChange fnMultiplyPairsSpec)

/-- ITS FALSE NEIGHBOUR: 'it returns false'. Refute it at one input. -/
def fnMultiplyPairsWrong : ChangeSpec := { name := "fnMultiplyPairs", fn := fun _ => fun
  | [d] => { results := [.lit (.bool false)], args := [d] }
  | _ => none }
def FnMultiplyPairsWrongFalsely : Prop := fnMultiplyPairsRow.holds Try.pinned (OpenSpec.ofChange fnMultiplyPairsWrong)

/-- 'laws.FnInversePair': WHATEVER THE INPUT: true; the input reads as it did. -/
def fnInversePairSpec : ChangeSpec := { name := "fnInversePair", fn := fun _ => fun
  | [d] => { results := [.lit (.bool true)], args := [d] }
  | _ => none }
def fnInversePairRow : OpenClaim := { program := "ytlenoefcnjcgfaa", sum := "d30e7dfbecede35b99e39bf274546065e0016db26f05ef41c6b0cf46e15fb613", func := "loop.example/shadowseries/laws.FnInversePair", spec := "fnInversePair", unfollowed := true, recurses := true, apart := false }
def FnInversePairSaid : Prop := fnInversePairRow.holds Try.pinned (OpenSpec.ofChange fnInversePairSpec)

/-- ITS FALSE NEIGHBOUR: 'it returns false'. Refute it at one input. -/
def fnInversePairWrong : ChangeSpec := { name := "fnInversePair", fn := fun _ => fun
  | [d] => { results := [.lit (.bool false)], args := [d] }
  | _ => none }
def FnInversePairWrongFalsely : Prop := fnInversePairRow.holds Try.pinned (OpenSpec.ofChange fnInversePairWrong)

/-- 'laws.FnIsMirror': WHATEVER THE INPUT: true; the input reads as it did. -/
def fnIsMirrorSpec : ChangeSpec := { name := "fnIsMirror", fn := fun _ => fun
  | [d] => { results := [.lit (.bool true)], args := [d] }
  | _ => none }
def fnIsMirrorRow : OpenClaim := { program := "ytlenoefcnjcgfaa", sum := "d30e7dfbecede35b99e39bf274546065e0016db26f05ef41c6b0cf46e15fb613", func := "loop.example/shadowseries/laws.FnIsMirror", spec := "fnIsMirror", unfollowed := true, recurses := true, apart := false }
def FnIsMirrorSaid : Prop := fnIsMirrorRow.holds Try.pinned (OpenSpec.ofChange fnIsMirrorSpec)

/-- ITS FALSE NEIGHBOUR: 'it returns false'. Refute it at one input. -/
def fnIsMirrorWrong : ChangeSpec := { name := "fnIsMirror", fn := fun _ => fun
  | [d] => { results := [.lit (.bool false)], args := [d] }
  | _ => none }
def FnIsMirrorWrongFalsely : Prop := fnIsMirrorRow.holds Try.pinned (OpenSpec.ofChange fnIsMirrorWrong)

/-- 'laws.FnExactNamedPair': WHATEVER THE INPUT: true; the input reads as it did. -/
def fnExactNamedPairSpec : ChangeSpec := { name := "fnExactNamedPair", fn := fun _ => fun
  | [d1, d2] => { results := [.lit (.bool true)], args := [d1, d2] }
  | _ => none }
def fnExactNamedPairRow : OpenClaim := { program := "ytlenoefcnjcgfaa", sum := "d30e7dfbecede35b99e39bf274546065e0016db26f05ef41c6b0cf46e15fb613", func := "loop.example/shadowseries/laws.FnExactNamedPair", spec := "fnExactNamedPair", unfollowed := true, recurses := true, apart := false }
def FnExactNamedPairSaid : Prop := fnExactNamedPairRow.holds Try.pinned (OpenSpec.ofChange fnExactNamedPairSpec)

/-- ITS FALSE NEIGHBOUR: 'it returns false'. Refute it at one input. -/
def fnExactNamedPairWrong : ChangeSpec := { name := "fnExactNamedPair", fn := fun _ => fun
  | [d1, d2] => { results := [.lit (.bool false)], args := [d1, d2] }
  | _ => none }
def FnExactNamedPairWrongFalsely : Prop := fnExactNamedPairRow.holds Try.pinned (OpenSpec.ofChange fnExactNamedPairWrong)

/- THE SECOND FORM. 'bulk': how many values and letters a reading holds, each counted each time it is reached (what is shared counts as often as it is met; a slice's spare places count too). A statement '..UptoSaid' is the law's where the arguments, and the package variables that the reading takes, are together of bulk at most 1048576: NARROWER than '..Said'. Prove '..Said' where nothing that the law and all that it calls make is longer than what came in: it says more and counts as full. Else prove '..UptoSaid'. A law counts once. -/
mutual
def uptoBulk {H : Type} : DataW H → Nat
  | .lit (.string bytes) => bytes.length + 1
  | .lit _ => 1
  | .nil => 1
  | .ptr d => uptoBulk d + 1
  | .slice elems spare => uptoBulkAll elems + uptoBulkAll spare + 1
  | .agg parts => uptoBulkAll parts + 1
  | .iface _ d => uptoBulk d + 1
  | .map entries => uptoBulkEntries entries + 1
  | .held _ => 1
def uptoBulkAll {H : Type} : List (DataW H) → Nat
  | [] => 0
  | d :: r => uptoBulk d + uptoBulkAll r
def uptoBulkEntries {H : Type} : List (Lit × DataW H) → Nat
  | [] => 0
  | x :: r => uptoBulkEntry x + uptoBulkEntries r
def uptoBulkEntry {H : Type} : Lit × DataW H → Nat
  | (.string bytes, d) => bytes.length + uptoBulk d + 1
  | (_, d) => uptoBulk d + 1
 end
def uptoSmall : (H : Type) → List (DataW H) → Bool := fun _ ds => decide (uptoBulkAll ds ≤ 1048576)
def OpenSpec.upto (s : _root_.Go.ChangeSpec) : _root_.Go.OpenSpec := { _root_.Go.OpenSpec.ofChange s with cond := some uptoSmall }

/-- 'laws.FnMultiplyPairs', WHERE WHAT IT READS IS OF BULK AT MOST 1048576: true; the input reads as it did. -/
def fnMultiplyPairsUptoRow : OpenClaim := { program := "ytlenoefcnjcgfaa", sum := "d30e7dfbecede35b99e39bf274546065e0016db26f05ef41c6b0cf46e15fb613", func := "loop.example/shadowseries/laws.FnMultiplyPairs", spec := "fnMultiplyPairs", unfollowed := true, recurses := true, apart := false, narrowed := true }
def FnMultiplyPairsUptoSaid : Prop := fnMultiplyPairsUptoRow.holds Try.pinned (OpenSpec.upto fnMultiplyPairsSpec)

/-- 'laws.FnInversePair', WHERE WHAT IT READS IS OF BULK AT MOST 1048576: true; the input reads as it did. -/
def fnInversePairUptoRow : OpenClaim := { program := "ytlenoefcnjcgfaa", sum := "d30e7dfbecede35b99e39bf274546065e0016db26f05ef41c6b0cf46e15fb613", func := "loop.example/shadowseries/laws.FnInversePair", spec := "fnInversePair", unfollowed := true, recurses := true, apart := false, narrowed := true }
def FnInversePairUptoSaid : Prop := fnInversePairUptoRow.holds Try.pinned (OpenSpec.upto fnInversePairSpec)

/-- 'laws.FnIsMirror', WHERE WHAT IT READS IS OF BULK AT MOST 1048576: true; the input reads as it did. -/
def fnIsMirrorUptoRow : OpenClaim := { program := "ytlenoefcnjcgfaa", sum := "d30e7dfbecede35b99e39bf274546065e0016db26f05ef41c6b0cf46e15fb613", func := "loop.example/shadowseries/laws.FnIsMirror", spec := "fnIsMirror", unfollowed := true, recurses := true, apart := false, narrowed := true }
def FnIsMirrorUptoSaid : Prop := fnIsMirrorUptoRow.holds Try.pinned (OpenSpec.upto fnIsMirrorSpec)

/-- 'laws.FnExactNamedPair', WHERE WHAT IT READS IS OF BULK AT MOST 1048576: true; the input reads as it did. -/
def fnExactNamedPairUptoRow : OpenClaim := { program := "ytlenoefcnjcgfaa", sum := "d30e7dfbecede35b99e39bf274546065e0016db26f05ef41c6b0cf46e15fb613", func := "loop.example/shadowseries/laws.FnExactNamedPair", spec := "fnExactNamedPair", unfollowed := true, recurses := true, apart := false, narrowed := true }
def FnExactNamedPairUptoSaid : Prop := fnExactNamedPairUptoRow.holds Try.pinned (OpenSpec.upto fnExactNamedPairSpec)

end Rows
end Go.Proofs.Ytlenoefcnjcgfaa

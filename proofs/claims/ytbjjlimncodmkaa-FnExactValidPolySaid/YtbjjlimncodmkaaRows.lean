/-
  No cell of these rows narrows 'for every input' (looked for: loops, veiled, ifaces, maps, wideKeys, modest, calm, conditions, laid).
  DERIVED. THE GIVEN ROWS OF THIS SEAT. 12 by the template 'for every input the law returns true; each argument reads behind the call as it read before'; 0 by the template 'total and deterministic' (their statements: YtbjjlimncodmkaaTotals.lean).
  GIVEN WITH THE SEED: the statements are not yours to turn. If you find one false, say at which input.
  Laid BY PROGRAM, IN A SANDBOX (cutbox-rows.mjs): the forced cells as the released guide's own fill.sh prints them over the translation f4050e9c8a094b28… (all of the seat's roots in one cut). By AI agents, Wed Nov 11 2026. No macro, syntax, notation, axiom, sorry.
-/
import Derived.Test.YtbjjlimncodmkaaChecked
import GoSem.Claim
import GoSem.ClaimJoined
import GoSem.ClaimMapViews
import Derived.JoinedTies
import Derived.KernelRfl
namespace Go.Proofs.Ytbjjlimncodmkaa
/- THE CELL 'sum', in the pinned program and in every row, IS THE sha256 OF THE DUMP (.gsa) THAT YtbjjlimncodmkaaProg.lean LOADS. Nothing in Lean hashes anything: it is a label: what it is worth is what the hold of that sum in a sandbox is worth. -/
noncomputable def Try.pinned : Pinned := { name := "ytbjjlimncodmkaa", sum := "f4050e9c8a094b284f8de8563975bfda5f2f7cd41d6642edd9d55eba7ecbddf7", checked := Try.checked }
namespace Rows
def none {H : Type} : Left H := { results := [], args := [] }

/-- 'laws.FnExactValidPair': WHATEVER THE INPUT: true; the input reads as it did. -/
def fnExactValidPairSpec : ChangeSpec := { name := "fnExactValidPair", fn := fun _ => fun
  | [d] => { results := [.lit (.bool true)], args := [d] }
  | _ => none }
def fnExactValidPairRow : OpenClaim := { program := "ytbjjlimncodmkaa", sum := "f4050e9c8a094b284f8de8563975bfda5f2f7cd41d6642edd9d55eba7ecbddf7", func := "loop.example/shadowseries/laws.FnExactValidPair", spec := "fnExactValidPair", unfollowed := true, recurses := true, apart := false }
def FnExactValidPairSaid : Prop := fnExactValidPairRow.holds Try.pinned (OpenSpec.ofChange fnExactValidPairSpec)

/-- ITS FALSE NEIGHBOUR: 'it returns false'. Refute it at one input. -/
def fnExactValidPairWrong : ChangeSpec := { name := "fnExactValidPair", fn := fun _ => fun
  | [d] => { results := [.lit (.bool false)], args := [d] }
  | _ => none }
def FnExactValidPairWrongFalsely : Prop := fnExactValidPairRow.holds Try.pinned (OpenSpec.ofChange fnExactValidPairWrong)

/-- 'laws.FnExactArrayOf': WHATEVER THE INPUT: true; the input reads as it did. -/
def fnExactArrayOfSpec : ChangeSpec := { name := "fnExactArrayOf", fn := fun _ => fun
  | [d] => { results := [.lit (.bool true)], args := [d] }
  | _ => none }
def fnExactArrayOfRow : OpenClaim := { program := "ytbjjlimncodmkaa", sum := "f4050e9c8a094b284f8de8563975bfda5f2f7cd41d6642edd9d55eba7ecbddf7", func := "loop.example/shadowseries/laws.FnExactArrayOf", spec := "fnExactArrayOf", unfollowed := true, recurses := true, apart := false }
def FnExactArrayOfSaid : Prop := fnExactArrayOfRow.holds Try.pinned (OpenSpec.ofChange fnExactArrayOfSpec)

/-- ITS FALSE NEIGHBOUR: 'it returns false'. Refute it at one input. -/
def fnExactArrayOfWrong : ChangeSpec := { name := "fnExactArrayOf", fn := fun _ => fun
  | [d] => { results := [.lit (.bool false)], args := [d] }
  | _ => none }
def FnExactArrayOfWrongFalsely : Prop := fnExactArrayOfRow.holds Try.pinned (OpenSpec.ofChange fnExactArrayOfWrong)

/-- 'laws.FnExactActOn': WHATEVER THE INPUT: true; the input reads as it did. -/
def fnExactActOnSpec : ChangeSpec := { name := "fnExactActOn", fn := fun _ => fun
  | [d1, d2] => { results := [.lit (.bool true)], args := [d1, d2] }
  | _ => none }
def fnExactActOnRow : OpenClaim := { program := "ytbjjlimncodmkaa", sum := "f4050e9c8a094b284f8de8563975bfda5f2f7cd41d6642edd9d55eba7ecbddf7", func := "loop.example/shadowseries/laws.FnExactActOn", spec := "fnExactActOn", unfollowed := true, recurses := true, apart := false }
def FnExactActOnSaid : Prop := fnExactActOnRow.holds Try.pinned (OpenSpec.ofChange fnExactActOnSpec)

/-- ITS FALSE NEIGHBOUR: 'it returns false'. Refute it at one input. -/
def fnExactActOnWrong : ChangeSpec := { name := "fnExactActOn", fn := fun _ => fun
  | [d1, d2] => { results := [.lit (.bool false)], args := [d1, d2] }
  | _ => none }
def FnExactActOnWrongFalsely : Prop := fnExactActOnRow.holds Try.pinned (OpenSpec.ofChange fnExactActOnWrong)

/-- 'laws.FnExactMultiplyPairs': WHATEVER THE INPUT: true; the input reads as it did. -/
def fnExactMultiplyPairsSpec : ChangeSpec := { name := "fnExactMultiplyPairs", fn := fun _ => fun
  | [d1, d2] => { results := [.lit (.bool true)], args := [d1, d2] }
  | _ => none }
def fnExactMultiplyPairsRow : OpenClaim := { program := "ytbjjlimncodmkaa", sum := "f4050e9c8a094b284f8de8563975bfda5f2f7cd41d6642edd9d55eba7ecbddf7", func := "loop.example/shadowseries/laws.FnExactMultiplyPairs", spec := "fnExactMultiplyPairs", unfollowed := true, recurses := true, apart := false }
def FnExactMultiplyPairsSaid : Prop := fnExactMultiplyPairsRow.holds Try.pinned (OpenSpec.ofChange fnExactMultiplyPairsSpec)

/-- ITS FALSE NEIGHBOUR: 'it returns false'. Refute it at one input. -/
def fnExactMultiplyPairsWrong : ChangeSpec := { name := "fnExactMultiplyPairs", fn := fun _ => fun
  | [d1, d2] => { results := [.lit (.bool false)], args := [d1, d2] }
  | _ => none }
def FnExactMultiplyPairsWrongFalsely : Prop := fnExactMultiplyPairsRow.holds Try.pinned (OpenSpec.ofChange fnExactMultiplyPairsWrong)

/-- 'laws.FnExactUnitPair': WHATEVER THE INPUT: true; the input reads as it did. -/
def fnExactUnitPairSpec : ChangeSpec := { name := "fnExactUnitPair", fn := fun _ => fun
  | [d] => { results := [.lit (.bool true)], args := [d] }
  | _ => none }
def fnExactUnitPairRow : OpenClaim := { program := "ytbjjlimncodmkaa", sum := "f4050e9c8a094b284f8de8563975bfda5f2f7cd41d6642edd9d55eba7ecbddf7", func := "loop.example/shadowseries/laws.FnExactUnitPair", spec := "fnExactUnitPair", unfollowed := true, recurses := true, apart := false }
def FnExactUnitPairSaid : Prop := fnExactUnitPairRow.holds Try.pinned (OpenSpec.ofChange fnExactUnitPairSpec)

/-- ITS FALSE NEIGHBOUR: 'it returns false'. Refute it at one input. -/
def fnExactUnitPairWrong : ChangeSpec := { name := "fnExactUnitPair", fn := fun _ => fun
  | [d] => { results := [.lit (.bool false)], args := [d] }
  | _ => none }
def FnExactUnitPairWrongFalsely : Prop := fnExactUnitPairRow.holds Try.pinned (OpenSpec.ofChange fnExactUnitPairWrong)

/-- 'laws.FnExactInversePair': WHATEVER THE INPUT: true; the input reads as it did. -/
def fnExactInversePairSpec : ChangeSpec := { name := "fnExactInversePair", fn := fun _ => fun
  | [d] => { results := [.lit (.bool true)], args := [d] }
  | _ => none }
def fnExactInversePairRow : OpenClaim := { program := "ytbjjlimncodmkaa", sum := "f4050e9c8a094b284f8de8563975bfda5f2f7cd41d6642edd9d55eba7ecbddf7", func := "loop.example/shadowseries/laws.FnExactInversePair", spec := "fnExactInversePair", unfollowed := true, recurses := true, apart := false }
def FnExactInversePairSaid : Prop := fnExactInversePairRow.holds Try.pinned (OpenSpec.ofChange fnExactInversePairSpec)

/-- ITS FALSE NEIGHBOUR: 'it returns false'. Refute it at one input. -/
def fnExactInversePairWrong : ChangeSpec := { name := "fnExactInversePair", fn := fun _ => fun
  | [d] => { results := [.lit (.bool false)], args := [d] }
  | _ => none }
def FnExactInversePairWrongFalsely : Prop := fnExactInversePairRow.holds Try.pinned (OpenSpec.ofChange fnExactInversePairWrong)

/-- 'laws.FnExactIsMirror': WHATEVER THE INPUT: true; the input reads as it did. -/
def fnExactIsMirrorSpec : ChangeSpec := { name := "fnExactIsMirror", fn := fun _ => fun
  | [d] => { results := [.lit (.bool true)], args := [d] }
  | _ => none }
def fnExactIsMirrorRow : OpenClaim := { program := "ytbjjlimncodmkaa", sum := "f4050e9c8a094b284f8de8563975bfda5f2f7cd41d6642edd9d55eba7ecbddf7", func := "loop.example/shadowseries/laws.FnExactIsMirror", spec := "fnExactIsMirror", unfollowed := true, recurses := true, apart := false }
def FnExactIsMirrorSaid : Prop := fnExactIsMirrorRow.holds Try.pinned (OpenSpec.ofChange fnExactIsMirrorSpec)

/-- ITS FALSE NEIGHBOUR: 'it returns false'. Refute it at one input. -/
def fnExactIsMirrorWrong : ChangeSpec := { name := "fnExactIsMirror", fn := fun _ => fun
  | [d] => { results := [.lit (.bool false)], args := [d] }
  | _ => none }
def FnExactIsMirrorWrongFalsely : Prop := fnExactIsMirrorRow.holds Try.pinned (OpenSpec.ofChange fnExactIsMirrorWrong)

/-- 'laws.FnExactPairOf': WHATEVER THE INPUT: true; the input reads as it did. -/
def fnExactPairOfSpec : ChangeSpec := { name := "fnExactPairOf", fn := fun _ => fun
  | [d] => { results := [.lit (.bool true)], args := [d] }
  | _ => none }
def fnExactPairOfRow : OpenClaim := { program := "ytbjjlimncodmkaa", sum := "f4050e9c8a094b284f8de8563975bfda5f2f7cd41d6642edd9d55eba7ecbddf7", func := "loop.example/shadowseries/laws.FnExactPairOf", spec := "fnExactPairOf", unfollowed := true, recurses := true, apart := false }
def FnExactPairOfSaid : Prop := fnExactPairOfRow.holds Try.pinned (OpenSpec.ofChange fnExactPairOfSpec)

/-- ITS FALSE NEIGHBOUR: 'it returns false'. Refute it at one input. -/
def fnExactPairOfWrong : ChangeSpec := { name := "fnExactPairOf", fn := fun _ => fun
  | [d] => { results := [.lit (.bool false)], args := [d] }
  | _ => none }
def FnExactPairOfWrongFalsely : Prop := fnExactPairOfRow.holds Try.pinned (OpenSpec.ofChange fnExactPairOfWrong)

/-- 'laws.FnExactNamedPair': WHATEVER THE INPUT: true; the input reads as it did. -/
def fnExactNamedPairSpec : ChangeSpec := { name := "fnExactNamedPair", fn := fun _ => fun
  | [d1, d2] => { results := [.lit (.bool true)], args := [d1, d2] }
  | _ => none }
def fnExactNamedPairRow : OpenClaim := { program := "ytbjjlimncodmkaa", sum := "f4050e9c8a094b284f8de8563975bfda5f2f7cd41d6642edd9d55eba7ecbddf7", func := "loop.example/shadowseries/laws.FnExactNamedPair", spec := "fnExactNamedPair", unfollowed := true, recurses := true, apart := false }
def FnExactNamedPairSaid : Prop := fnExactNamedPairRow.holds Try.pinned (OpenSpec.ofChange fnExactNamedPairSpec)

/-- ITS FALSE NEIGHBOUR: 'it returns false'. Refute it at one input. -/
def fnExactNamedPairWrong : ChangeSpec := { name := "fnExactNamedPair", fn := fun _ => fun
  | [d1, d2] => { results := [.lit (.bool false)], args := [d1, d2] }
  | _ => none }
def FnExactNamedPairWrongFalsely : Prop := fnExactNamedPairRow.holds Try.pinned (OpenSpec.ofChange fnExactNamedPairWrong)

/-- 'laws.FnExactRowSums': WHATEVER THE INPUT: true; the input reads as it did. -/
def fnExactRowSumsSpec : ChangeSpec := { name := "fnExactRowSums", fn := fun _ => fun
  | [d] => { results := [.lit (.bool true)], args := [d] }
  | _ => none }
def fnExactRowSumsRow : OpenClaim := { program := "ytbjjlimncodmkaa", sum := "f4050e9c8a094b284f8de8563975bfda5f2f7cd41d6642edd9d55eba7ecbddf7", func := "loop.example/shadowseries/laws.FnExactRowSums", spec := "fnExactRowSums", unfollowed := true, recurses := true, apart := false }
def FnExactRowSumsSaid : Prop := fnExactRowSumsRow.holds Try.pinned (OpenSpec.ofChange fnExactRowSumsSpec)

/-- ITS FALSE NEIGHBOUR: 'it returns false'. Refute it at one input. -/
def fnExactRowSumsWrong : ChangeSpec := { name := "fnExactRowSums", fn := fun _ => fun
  | [d] => { results := [.lit (.bool false)], args := [d] }
  | _ => none }
def FnExactRowSumsWrongFalsely : Prop := fnExactRowSumsRow.holds Try.pinned (OpenSpec.ofChange fnExactRowSumsWrong)

/-- 'laws.FnExactStepsOf': WHATEVER THE INPUT: true; the input reads as it did. -/
def fnExactStepsOfSpec : ChangeSpec := { name := "fnExactStepsOf", fn := fun _ => fun
  | [d] => { results := [.lit (.bool true)], args := [d] }
  | _ => none }
def fnExactStepsOfRow : OpenClaim := { program := "ytbjjlimncodmkaa", sum := "f4050e9c8a094b284f8de8563975bfda5f2f7cd41d6642edd9d55eba7ecbddf7", func := "loop.example/shadowseries/laws.FnExactStepsOf", spec := "fnExactStepsOf", unfollowed := true, recurses := true, apart := false }
def FnExactStepsOfSaid : Prop := fnExactStepsOfRow.holds Try.pinned (OpenSpec.ofChange fnExactStepsOfSpec)

/-- ITS FALSE NEIGHBOUR: 'it returns false'. Refute it at one input. -/
def fnExactStepsOfWrong : ChangeSpec := { name := "fnExactStepsOf", fn := fun _ => fun
  | [d] => { results := [.lit (.bool false)], args := [d] }
  | _ => none }
def FnExactStepsOfWrongFalsely : Prop := fnExactStepsOfRow.holds Try.pinned (OpenSpec.ofChange fnExactStepsOfWrong)

/-- 'laws.FnExactValidPoly': WHATEVER THE INPUT: true; the input reads as it did. -/
def fnExactValidPolySpec : ChangeSpec := { name := "fnExactValidPoly", fn := fun _ => fun
  | [d] => { results := [.lit (.bool true)], args := [d] }
  | _ => none }
def fnExactValidPolyRow : OpenClaim := { program := "ytbjjlimncodmkaa", sum := "f4050e9c8a094b284f8de8563975bfda5f2f7cd41d6642edd9d55eba7ecbddf7", func := "loop.example/shadowseries/laws.FnExactValidPoly", spec := "fnExactValidPoly", apart := false }
def FnExactValidPolySaid : Prop := fnExactValidPolyRow.holds Try.pinned (OpenSpec.ofChange fnExactValidPolySpec)

/-- ITS FALSE NEIGHBOUR: 'it returns false'. Refute it at one input. -/
def fnExactValidPolyWrong : ChangeSpec := { name := "fnExactValidPoly", fn := fun _ => fun
  | [d] => { results := [.lit (.bool false)], args := [d] }
  | _ => none }
def FnExactValidPolyWrongFalsely : Prop := fnExactValidPolyRow.holds Try.pinned (OpenSpec.ofChange fnExactValidPolyWrong)

/- THE SECOND FORM. 'bulk': how many values and letters a reading holds, each counted each time it is reached (what is shared counts as often as it is met; a slice's spare places count too). A statement '..UptoSaid' is the law's where the arguments, and the package variables that the reading takes, are together of bulk at most 1048576: NARROWER than '..Said'. Prove '..Said' where nothing that the law and all that it calls make is longer than what came in: it says more and counts as full. Else prove '..UptoSaid'. A law counts once. -/
mutual
def uptoBulk {H : Type} : DataW H → Nat
  | .lit (.string bytes) => bytes.length + 1
  | .lit _ => 1
  | .nil => 1
  | .ptr d => uptoBulk d + 1
  | .slice elems spare => uptoBulkAll elems + uptoBulkAll spare + 1
  | .agg parts => uptoBulkAll parts + 1
  | .iface _ d => uptoBulk d + 1
  | .map entries => uptoBulkEntries entries + 1
  | .held _ => 1
def uptoBulkAll {H : Type} : List (DataW H) → Nat
  | [] => 0
  | d :: r => uptoBulk d + uptoBulkAll r
def uptoBulkEntries {H : Type} : List (Lit × DataW H) → Nat
  | [] => 0
  | x :: r => uptoBulkEntry x + uptoBulkEntries r
def uptoBulkEntry {H : Type} : Lit × DataW H → Nat
  | (.string bytes, d) => bytes.length + uptoBulk d + 1
  | (_, d) => uptoBulk d + 1
 end
def uptoSmall : (H : Type) → List (DataW H) → Bool := fun _ ds => decide (uptoBulkAll ds ≤ 1048576)
def OpenSpec.upto (s : _root_.Go.ChangeSpec) : _root_.Go.OpenSpec := { _root_.Go.OpenSpec.ofChange s with cond := some uptoSmall }

/-- 'laws.FnExactValidPair', WHERE WHAT IT READS IS OF BULK AT MOST 1048576: true; the input reads as it did. -/
def fnExactValidPairUptoRow : OpenClaim := { program := "ytbjjlimncodmkaa", sum := "f4050e9c8a094b284f8de8563975bfda5f2f7cd41d6642edd9d55eba7ecbddf7", func := "loop.example/shadowseries/laws.FnExactValidPair", spec := "fnExactValidPair", unfollowed := true, recurses := true, apart := false, narrowed := true }
def FnExactValidPairUptoSaid : Prop := fnExactValidPairUptoRow.holds Try.pinned (OpenSpec.upto fnExactValidPairSpec)

/-- 'laws.FnExactArrayOf', WHERE WHAT IT READS IS OF BULK AT MOST 1048576: true; the input reads as it did. -/
def fnExactArrayOfUptoRow : OpenClaim := { program := "ytbjjlimncodmkaa", sum := "f4050e9c8a094b284f8de8563975bfda5f2f7cd41d6642edd9d55eba7ecbddf7", func := "loop.example/shadowseries/laws.FnExactArrayOf", spec := "fnExactArrayOf", unfollowed := true, recurses := true, apart := false, narrowed := true }
def FnExactArrayOfUptoSaid : Prop := fnExactArrayOfUptoRow.holds Try.pinned (OpenSpec.upto fnExactArrayOfSpec)

/-- 'laws.FnExactActOn', WHERE WHAT IT READS IS OF BULK AT MOST 1048576: true; the input reads as it did. -/
def fnExactActOnUptoRow : OpenClaim := { program := "ytbjjlimncodmkaa", sum := "f4050e9c8a094b284f8de8563975bfda5f2f7cd41d6642edd9d55eba7ecbddf7", func := "loop.example/shadowseries/laws.FnExactActOn", spec := "fnExactActOn", unfollowed := true, recurses := true, apart := false, narrowed := true }
def FnExactActOnUptoSaid : Prop := fnExactActOnUptoRow.holds Try.pinned (OpenSpec.upto fnExactActOnSpec)

/-- 'laws.FnExactMultiplyPairs', WHERE WHAT IT READS IS OF BULK AT MOST 1048576: true; the input reads as it did. -/
def fnExactMultiplyPairsUptoRow : OpenClaim := { program := "ytbjjlimncodmkaa", sum := "f4050e9c8a094b284f8de8563975bfda5f2f7cd41d6642edd9d55eba7ecbddf7", func := "loop.example/shadowseries/laws.FnExactMultiplyPairs", spec := "fnExactMultiplyPairs", unfollowed := true, recurses := true, apart := false, narrowed := true }
def FnExactMultiplyPairsUptoSaid : Prop := fnExactMultiplyPairsUptoRow.holds Try.pinned (OpenSpec.upto fnExactMultiplyPairsSpec)

/-- 'laws.FnExactUnitPair', WHERE WHAT IT READS IS OF BULK AT MOST 1048576: true; the input reads as it did. -/
def fnExactUnitPairUptoRow : OpenClaim := { program := "ytbjjlimncodmkaa", sum := "f4050e9c8a094b284f8de8563975bfda5f2f7cd41d6642edd9d55eba7ecbddf7", func := "loop.example/shadowseries/laws.FnExactUnitPair", spec := "fnExactUnitPair", unfollowed := true, recurses := true, apart := false, narrowed := true }
def FnExactUnitPairUptoSaid : Prop := fnExactUnitPairUptoRow.holds Try.pinned (OpenSpec.upto fnExactUnitPairSpec)

/-- 'laws.FnExactInversePair', WHERE WHAT IT READS IS OF BULK AT MOST 1048576: true; the input reads as it did. -/
def fnExactInversePairUptoRow : OpenClaim := { program := "ytbjjlimncodmkaa", sum := "f4050e9c8a094b284f8de8563975bfda5f2f7cd41d6642edd9d55eba7ecbddf7", func := "loop.example/shadowseries/laws.FnExactInversePair", spec := "fnExactInversePair", unfollowed := true, recurses := true, apart := false, narrowed := true }
def FnExactInversePairUptoSaid : Prop := fnExactInversePairUptoRow.holds Try.pinned (OpenSpec.upto fnExactInversePairSpec)

/-- 'laws.FnExactIsMirror', WHERE WHAT IT READS IS OF BULK AT MOST 1048576: true; the input reads as it did. -/
def fnExactIsMirrorUptoRow : OpenClaim := { program := "ytbjjlimncodmkaa", sum := "f4050e9c8a094b284f8de8563975bfda5f2f7cd41d6642edd9d55eba7ecbddf7", func := "loop.example/shadowseries/laws.FnExactIsMirror", spec := "fnExactIsMirror", unfollowed := true, recurses := true, apart := false, narrowed := true }
def FnExactIsMirrorUptoSaid : Prop := fnExactIsMirrorUptoRow.holds Try.pinned (OpenSpec.upto fnExactIsMirrorSpec)

/-- 'laws.FnExactPairOf', WHERE WHAT IT READS IS OF BULK AT MOST 1048576: true; the input reads as it did. -/
def fnExactPairOfUptoRow : OpenClaim := { program := "ytbjjlimncodmkaa", sum := "f4050e9c8a094b284f8de8563975bfda5f2f7cd41d6642edd9d55eba7ecbddf7", func := "loop.example/shadowseries/laws.FnExactPairOf", spec := "fnExactPairOf", unfollowed := true, recurses := true, apart := false, narrowed := true }
def FnExactPairOfUptoSaid : Prop := fnExactPairOfUptoRow.holds Try.pinned (OpenSpec.upto fnExactPairOfSpec)

/-- 'laws.FnExactNamedPair', WHERE WHAT IT READS IS OF BULK AT MOST 1048576: true; the input reads as it did. -/
def fnExactNamedPairUptoRow : OpenClaim := { program := "ytbjjlimncodmkaa", sum := "f4050e9c8a094b284f8de8563975bfda5f2f7cd41d6642edd9d55eba7ecbddf7", func := "loop.example/shadowseries/laws.FnExactNamedPair", spec := "fnExactNamedPair", unfollowed := true, recurses := true, apart := false, narrowed := true }
def FnExactNamedPairUptoSaid : Prop := fnExactNamedPairUptoRow.holds Try.pinned (OpenSpec.upto fnExactNamedPairSpec)

/-- 'laws.FnExactRowSums', WHERE WHAT IT READS IS OF BULK AT MOST 1048576: true; the input reads as it did. -/
def fnExactRowSumsUptoRow : OpenClaim := { program := "ytbjjlimncodmkaa", sum := "f4050e9c8a094b284f8de8563975bfda5f2f7cd41d6642edd9d55eba7ecbddf7", func := "loop.example/shadowseries/laws.FnExactRowSums", spec := "fnExactRowSums", unfollowed := true, recurses := true, apart := false, narrowed := true }
def FnExactRowSumsUptoSaid : Prop := fnExactRowSumsUptoRow.holds Try.pinned (OpenSpec.upto fnExactRowSumsSpec)

/-- 'laws.FnExactStepsOf', WHERE WHAT IT READS IS OF BULK AT MOST 1048576: true; the input reads as it did. -/
def fnExactStepsOfUptoRow : OpenClaim := { program := "ytbjjlimncodmkaa", sum := "f4050e9c8a094b284f8de8563975bfda5f2f7cd41d6642edd9d55eba7ecbddf7", func := "loop.example/shadowseries/laws.FnExactStepsOf", spec := "fnExactStepsOf", unfollowed := true, recurses := true, apart := false, narrowed := true }
def FnExactStepsOfUptoSaid : Prop := fnExactStepsOfUptoRow.holds Try.pinned (OpenSpec.upto fnExactStepsOfSpec)

/-- 'laws.FnExactValidPoly', WHERE WHAT IT READS IS OF BULK AT MOST 1048576: true; the input reads as it did. -/
def fnExactValidPolyUptoRow : OpenClaim := { program := "ytbjjlimncodmkaa", sum := "f4050e9c8a094b284f8de8563975bfda5f2f7cd41d6642edd9d55eba7ecbddf7", func := "loop.example/shadowseries/laws.FnExactValidPoly", spec := "fnExactValidPoly", apart := false, narrowed := true }
def FnExactValidPolyUptoSaid : Prop := fnExactValidPolyUptoRow.holds Try.pinned (OpenSpec.upto fnExactValidPolySpec)

end Rows
end Go.Proofs.Ytbjjlimncodmkaa

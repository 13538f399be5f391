/-
  No cell of these rows narrows 'for every input' (looked for: loops, veiled, ifaces, maps, wideKeys, modest, calm, conditions, laid).
  DERIVED. THE GIVEN ROWS OF THIS SEAT. 8 by the template 'for every input the law returns true; each argument reads behind the call as it read before'; 0 by the template 'total and deterministic' (their statements: YtmhdciohpmofbaaTotals.lean).
  GIVEN WITH THE SEED: the statements are not yours to turn. If you find one false, say at which input.
  Laid BY PROGRAM, IN A SANDBOX (cutbox-rows.mjs): the forced cells as the released guide's own fill.sh prints them over the translation 0850dface3b4ae37… (all of the seat's roots in one cut). By AI agents, Wed Nov 11 2026. No macro, syntax, notation, axiom, sorry.
-/
import Derived.Test.YtmhdciohpmofbaaChecked
import GoSem.Claim
import GoSem.ClaimJoined
import GoSem.ClaimMapViews
import Derived.JoinedTies
import Derived.KernelRfl
namespace Go.Proofs.Ytmhdciohpmofbaa
/- THE CELL 'sum', in the pinned program and in every row, IS THE sha256 OF THE DUMP (.gsa) THAT YtmhdciohpmofbaaProg.lean LOADS. Nothing in Lean hashes anything: it is a label: what it is worth is what the hold of that sum in a sandbox is worth. -/
noncomputable def Try.pinned : Pinned := { name := "ytmhdciohpmofbaa", sum := "0850dface3b4ae376032e0f6b5e7b8caf5b16484d50793227b9f329941267738", checked := Try.checked }
namespace Rows
def none {H : Type} : Left H := { results := [], args := [] }

/-- 'laws.FnExactTransformBy': WHATEVER THE INPUT: true; the input reads as it did. -/
def fnExactTransformBySpec : ChangeSpec := { name := "fnExactTransformBy", fn := fun _ => fun
  | [d1, d2] => { results := [.lit (.bool true)], args := [d1, d2] }
  | _ => none }
def fnExactTransformByRow : OpenClaim := { program := "ytmhdciohpmofbaa", sum := "0850dface3b4ae376032e0f6b5e7b8caf5b16484d50793227b9f329941267738", func := "loop.example/shadowseries/laws.FnExactTransformBy", spec := "fnExactTransformBy", unfollowed := true, recurses := true, apart := false }
def FnExactTransformBySaid : Prop := fnExactTransformByRow.holds Try.pinned (OpenSpec.ofChange fnExactTransformBySpec)

/-- ITS FALSE NEIGHBOUR: 'it returns false'. Refute it at one input. -/
def fnExactTransformByWrong : ChangeSpec := { name := "fnExactTransformBy", fn := fun _ => fun
  | [d1, d2] => { results := [.lit (.bool false)], args := [d1, d2] }
  | _ => none }
def FnExactTransformByWrongFalsely : Prop := fnExactTransformByRow.holds Try.pinned (OpenSpec.ofChange fnExactTransformByWrong)

/-- 'laws.FnExactHankelOf': WHATEVER THE INPUT: true; the input reads as it did. -/
def fnExactHankelOfSpec : ChangeSpec := { name := "fnExactHankelOf", fn := fun _ => fun
  | [d] => { results := [.lit (.bool true)], args := [d] }
  | _ => none }
def fnExactHankelOfRow : OpenClaim := { program := "ytmhdciohpmofbaa", sum := "0850dface3b4ae376032e0f6b5e7b8caf5b16484d50793227b9f329941267738", func := "loop.example/shadowseries/laws.FnExactHankelOf", spec := "fnExactHankelOf", unfollowed := true, recurses := true, apart := false }
def FnExactHankelOfSaid : Prop := fnExactHankelOfRow.holds Try.pinned (OpenSpec.ofChange fnExactHankelOfSpec)

/-- ITS FALSE NEIGHBOUR: 'it returns false'. Refute it at one input. -/
def fnExactHankelOfWrong : ChangeSpec := { name := "fnExactHankelOf", fn := fun _ => fun
  | [d] => { results := [.lit (.bool false)], args := [d] }
  | _ => none }
def FnExactHankelOfWrongFalsely : Prop := fnExactHankelOfRow.holds Try.pinned (OpenSpec.ofChange fnExactHankelOfWrong)

/-- 'laws.FnExactBinomialOf': WHATEVER THE INPUT: true; the input reads as it did. -/
def fnExactBinomialOfSpec : ChangeSpec := { name := "fnExactBinomialOf", fn := fun _ => fun
  | [d1, d2] => { results := [.lit (.bool true)], args := [d1, d2] }
  | _ => none }
def fnExactBinomialOfRow : OpenClaim := { program := "ytmhdciohpmofbaa", sum := "0850dface3b4ae376032e0f6b5e7b8caf5b16484d50793227b9f329941267738", func := "loop.example/shadowseries/laws.FnExactBinomialOf", spec := "fnExactBinomialOf", unfollowed := true, recurses := true, apart := false }
def FnExactBinomialOfSaid : Prop := fnExactBinomialOfRow.holds Try.pinned (OpenSpec.ofChange fnExactBinomialOfSpec)

/-- ITS FALSE NEIGHBOUR: 'it returns false'. Refute it at one input. -/
def fnExactBinomialOfWrong : ChangeSpec := { name := "fnExactBinomialOf", fn := fun _ => fun
  | [d1, d2] => { results := [.lit (.bool false)], args := [d1, d2] }
  | _ => none }
def FnExactBinomialOfWrongFalsely : Prop := fnExactBinomialOfRow.holds Try.pinned (OpenSpec.ofChange fnExactBinomialOfWrong)

/-- 'laws.FnExactAlternateOf': WHATEVER THE INPUT: true; the input reads as it did. -/
def fnExactAlternateOfSpec : ChangeSpec := { name := "fnExactAlternateOf", fn := fun _ => fun
  | [d] => { results := [.lit (.bool true)], args := [d] }
  | _ => none }
def fnExactAlternateOfRow : OpenClaim := { program := "ytmhdciohpmofbaa", sum := "0850dface3b4ae376032e0f6b5e7b8caf5b16484d50793227b9f329941267738", func := "loop.example/shadowseries/laws.FnExactAlternateOf", spec := "fnExactAlternateOf", unfollowed := true, recurses := true, apart := false }
def FnExactAlternateOfSaid : Prop := fnExactAlternateOfRow.holds Try.pinned (OpenSpec.ofChange fnExactAlternateOfSpec)

/-- ITS FALSE NEIGHBOUR: 'it returns false'. Refute it at one input. -/
def fnExactAlternateOfWrong : ChangeSpec := { name := "fnExactAlternateOf", fn := fun _ => fun
  | [d] => { results := [.lit (.bool false)], args := [d] }
  | _ => none }
def FnExactAlternateOfWrongFalsely : Prop := fnExactAlternateOfRow.holds Try.pinned (OpenSpec.ofChange fnExactAlternateOfWrong)

/-- 'laws.FnExactZigzagOf': WHATEVER THE INPUT: true; the input reads as it did. -/
def fnExactZigzagOfSpec : ChangeSpec := { name := "fnExactZigzagOf", fn := fun _ => fun
  | [d] => { results := [.lit (.bool true)], args := [d] }
  | _ => none }
def fnExactZigzagOfRow : OpenClaim := { program := "ytmhdciohpmofbaa", sum := "0850dface3b4ae376032e0f6b5e7b8caf5b16484d50793227b9f329941267738", func := "loop.example/shadowseries/laws.FnExactZigzagOf", spec := "fnExactZigzagOf", unfollowed := true, recurses := true, apart := false }
def FnExactZigzagOfSaid : Prop := fnExactZigzagOfRow.holds Try.pinned (OpenSpec.ofChange fnExactZigzagOfSpec)

/-- ITS FALSE NEIGHBOUR: 'it returns false'. Refute it at one input. -/
def fnExactZigzagOfWrong : ChangeSpec := { name := "fnExactZigzagOf", fn := fun _ => fun
  | [d] => { results := [.lit (.bool false)], args := [d] }
  | _ => none }
def FnExactZigzagOfWrongFalsely : Prop := fnExactZigzagOfRow.holds Try.pinned (OpenSpec.ofChange fnExactZigzagOfWrong)

/-- 'laws.FnExactBellNumbers': WHATEVER THE INPUT: true; the input reads as it did. -/
def fnExactBellNumbersSpec : ChangeSpec := { name := "fnExactBellNumbers", fn := fun _ => fun
  | [d] => { results := [.lit (.bool true)], args := [d] }
  | _ => none }
def fnExactBellNumbersRow : OpenClaim := { program := "ytmhdciohpmofbaa", sum := "0850dface3b4ae376032e0f6b5e7b8caf5b16484d50793227b9f329941267738", func := "loop.example/shadowseries/laws.FnExactBellNumbers", spec := "fnExactBellNumbers", unfollowed := true, recurses := true, apart := false }
def FnExactBellNumbersSaid : Prop := fnExactBellNumbersRow.holds Try.pinned (OpenSpec.ofChange fnExactBellNumbersSpec)

/-- ITS FALSE NEIGHBOUR: 'it returns false'. Refute it at one input. -/
def fnExactBellNumbersWrong : ChangeSpec := { name := "fnExactBellNumbers", fn := fun _ => fun
  | [d] => { results := [.lit (.bool false)], args := [d] }
  | _ => none }
def FnExactBellNumbersWrongFalsely : Prop := fnExactBellNumbersRow.holds Try.pinned (OpenSpec.ofChange fnExactBellNumbersWrong)

/-- 'laws.FnExactLostNumbers': WHATEVER THE INPUT: true; the input reads as it did. -/
def fnExactLostNumbersSpec : ChangeSpec := { name := "fnExactLostNumbers", fn := fun _ => fun
  | [d] => { results := [.lit (.bool true)], args := [d] }
  | _ => none }
def fnExactLostNumbersRow : OpenClaim := { program := "ytmhdciohpmofbaa", sum := "0850dface3b4ae376032e0f6b5e7b8caf5b16484d50793227b9f329941267738", func := "loop.example/shadowseries/laws.FnExactLostNumbers", spec := "fnExactLostNumbers", unfollowed := true, recurses := true, apart := false }
def FnExactLostNumbersSaid : Prop := fnExactLostNumbersRow.holds Try.pinned (OpenSpec.ofChange fnExactLostNumbersSpec)

/-- ITS FALSE NEIGHBOUR: 'it returns false'. Refute it at one input. -/
def fnExactLostNumbersWrong : ChangeSpec := { name := "fnExactLostNumbers", fn := fun _ => fun
  | [d] => { results := [.lit (.bool false)], args := [d] }
  | _ => none }
def FnExactLostNumbersWrongFalsely : Prop := fnExactLostNumbersRow.holds Try.pinned (OpenSpec.ofChange fnExactLostNumbersWrong)

/-- 'laws.FnExactUpDownNumbers': WHATEVER THE INPUT: true; the input reads as it did. -/
def fnExactUpDownNumbersSpec : ChangeSpec := { name := "fnExactUpDownNumbers", fn := fun _ => fun
  | [d] => { results := [.lit (.bool true)], args := [d] }
  | _ => none }
def fnExactUpDownNumbersRow : OpenClaim := { program := "ytmhdciohpmofbaa", sum := "0850dface3b4ae376032e0f6b5e7b8caf5b16484d50793227b9f329941267738", func := "loop.example/shadowseries/laws.FnExactUpDownNumbers", spec := "fnExactUpDownNumbers", unfollowed := true, recurses := true, apart := false }
def FnExactUpDownNumbersSaid : Prop := fnExactUpDownNumbersRow.holds Try.pinned (OpenSpec.ofChange fnExactUpDownNumbersSpec)

/-- ITS FALSE NEIGHBOUR: 'it returns false'. Refute it at one input. -/
def fnExactUpDownNumbersWrong : ChangeSpec := { name := "fnExactUpDownNumbers", fn := fun _ => fun
  | [d] => { results := [.lit (.bool false)], args := [d] }
  | _ => none }
def FnExactUpDownNumbersWrongFalsely : Prop := fnExactUpDownNumbersRow.holds Try.pinned (OpenSpec.ofChange fnExactUpDownNumbersWrong)

/- THE SECOND FORM. 'bulk': how many values and letters a reading holds, each counted each time it is reached (what is shared counts as often as it is met; a slice's spare places count too). A statement '..UptoSaid' is the law's where the arguments, and the package variables that the reading takes, are together of bulk at most 1048576: NARROWER than '..Said'. Prove '..Said' where nothing that the law and all that it calls make is longer than what came in: it says more and counts as full. Else prove '..UptoSaid'. A law counts once. -/
mutual
def uptoBulk {H : Type} : DataW H → Nat
  | .lit (.string bytes) => bytes.length + 1
  | .lit _ => 1
  | .nil => 1
  | .ptr d => uptoBulk d + 1
  | .slice elems spare => uptoBulkAll elems + uptoBulkAll spare + 1
  | .agg parts => uptoBulkAll parts + 1
  | .iface _ d => uptoBulk d + 1
  | .map entries => uptoBulkEntries entries + 1
  | .held _ => 1
def uptoBulkAll {H : Type} : List (DataW H) → Nat
  | [] => 0
  | d :: r => uptoBulk d + uptoBulkAll r
def uptoBulkEntries {H : Type} : List (Lit × DataW H) → Nat
  | [] => 0
  | x :: r => uptoBulkEntry x + uptoBulkEntries r
def uptoBulkEntry {H : Type} : Lit × DataW H → Nat
  | (.string bytes, d) => bytes.length + uptoBulk d + 1
  | (_, d) => uptoBulk d + 1
 end
def uptoSmall : (H : Type) → List (DataW H) → Bool := fun _ ds => decide (uptoBulkAll ds ≤ 1048576)
def OpenSpec.upto (s : _root_.Go.ChangeSpec) : _root_.Go.OpenSpec := { _root_.Go.OpenSpec.ofChange s with cond := some uptoSmall }

/-- 'laws.FnExactTransformBy', WHERE WHAT IT READS IS OF BULK AT MOST 1048576: true; the input reads as it did. -/
def fnExactTransformByUptoRow : OpenClaim := { program := "ytmhdciohpmofbaa", sum := "0850dface3b4ae376032e0f6b5e7b8caf5b16484d50793227b9f329941267738", func := "loop.example/shadowseries/laws.FnExactTransformBy", spec := "fnExactTransformBy", unfollowed := true, recurses := true, apart := false, narrowed := true }
def FnExactTransformByUptoSaid : Prop := fnExactTransformByUptoRow.holds Try.pinned (OpenSpec.upto fnExactTransformBySpec)

/-- 'laws.FnExactHankelOf', WHERE WHAT IT READS IS OF BULK AT MOST 1048576: true; the input reads as it did. -/
def fnExactHankelOfUptoRow : OpenClaim := { program := "ytmhdciohpmofbaa", sum := "0850dface3b4ae376032e0f6b5e7b8caf5b16484d50793227b9f329941267738", func := "loop.example/shadowseries/laws.FnExactHankelOf", spec := "fnExactHankelOf", unfollowed := true, recurses := true, apart := false, narrowed := true }
def FnExactHankelOfUptoSaid : Prop := fnExactHankelOfUptoRow.holds Try.pinned (OpenSpec.upto fnExactHankelOfSpec)

/-- 'laws.FnExactBinomialOf', WHERE WHAT IT READS IS OF BULK AT MOST 1048576: true; the input reads as it did. -/
def fnExactBinomialOfUptoRow : OpenClaim := { program := "ytmhdciohpmofbaa", sum := "0850dface3b4ae376032e0f6b5e7b8caf5b16484d50793227b9f329941267738", func := "loop.example/shadowseries/laws.FnExactBinomialOf", spec := "fnExactBinomialOf", unfollowed := true, recurses := true, apart := false, narrowed := true }
def FnExactBinomialOfUptoSaid : Prop := fnExactBinomialOfUptoRow.holds Try.pinned (OpenSpec.upto fnExactBinomialOfSpec)

/-- 'laws.FnExactAlternateOf', WHERE WHAT IT READS IS OF BULK AT MOST 1048576: true; the input reads as it did. -/
def fnExactAlternateOfUptoRow : OpenClaim := { program := "ytmhdciohpmofbaa", sum := "0850dface3b4ae376032e0f6b5e7b8caf5b16484d50793227b9f329941267738", func := "loop.example/shadowseries/laws.FnExactAlternateOf", spec := "fnExactAlternateOf", unfollowed := true, recurses := true, apart := false, narrowed := true }
def FnExactAlternateOfUptoSaid : Prop := fnExactAlternateOfUptoRow.holds Try.pinned (OpenSpec.upto fnExactAlternateOfSpec)

/-- 'laws.FnExactZigzagOf', WHERE WHAT IT READS IS OF BULK AT MOST 1048576: true; the input reads as it did. -/
def fnExactZigzagOfUptoRow : OpenClaim := { program := "ytmhdciohpmofbaa", sum := "0850dface3b4ae376032e0f6b5e7b8caf5b16484d50793227b9f329941267738", func := "loop.example/shadowseries/laws.FnExactZigzagOf", spec := "fnExactZigzagOf", unfollowed := true, recurses := true, apart := false, narrowed := true }
def FnExactZigzagOfUptoSaid : Prop := fnExactZigzagOfUptoRow.holds Try.pinned (OpenSpec.upto fnExactZigzagOfSpec)

/-- 'laws.FnExactBellNumbers', WHERE WHAT IT READS IS OF BULK AT MOST 1048576: true; the input reads as it did. -/
def fnExactBellNumbersUptoRow : OpenClaim := { program := "ytmhdciohpmofbaa", sum := "0850dface3b4ae376032e0f6b5e7b8caf5b16484d50793227b9f329941267738", func := "loop.example/shadowseries/laws.FnExactBellNumbers", spec := "fnExactBellNumbers", unfollowed := true, recurses := true, apart := false, narrowed := true }
def FnExactBellNumbersUptoSaid : Prop := fnExactBellNumbersUptoRow.holds Try.pinned (OpenSpec.upto fnExactBellNumbersSpec)

/-- 'laws.FnExactLostNumbers', WHERE WHAT IT READS IS OF BULK AT MOST 1048576: true; the input reads as it did. -/
def fnExactLostNumbersUptoRow : OpenClaim := { program := "ytmhdciohpmofbaa", sum := "0850dface3b4ae376032e0f6b5e7b8caf5b16484d50793227b9f329941267738", func := "loop.example/shadowseries/laws.FnExactLostNumbers", spec := "fnExactLostNumbers", unfollowed := true, recurses := true, apart := false, narrowed := true }
def FnExactLostNumbersUptoSaid : Prop := fnExactLostNumbersUptoRow.holds Try.pinned (OpenSpec.upto fnExactLostNumbersSpec)

/-- 'laws.FnExactUpDownNumbers', WHERE WHAT IT READS IS OF BULK AT MOST 1048576: true; the input reads as it did. -/
def fnExactUpDownNumbersUptoRow : OpenClaim := { program := "ytmhdciohpmofbaa", sum := "0850dface3b4ae376032e0f6b5e7b8caf5b16484d50793227b9f329941267738", func := "loop.example/shadowseries/laws.FnExactUpDownNumbers", spec := "fnExactUpDownNumbers", unfollowed := true, recurses := true, apart := false, narrowed := true }
def FnExactUpDownNumbersUptoSaid : Prop := fnExactUpDownNumbersUptoRow.holds Try.pinned (OpenSpec.upto fnExactUpDownNumbersSpec)

end Rows
end Go.Proofs.Ytmhdciohpmofbaa

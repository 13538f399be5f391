/-
  No cell of these rows narrows 'for every input' (looked for: loops, veiled, ifaces, maps, wideKeys, modest, calm, conditions, laid).
  DERIVED. THE GIVEN ROWS OF THIS SEAT. 7 by the template 'for every input the law returns true; each argument reads behind the call as it read before'; 0 by the template 'total and deterministic' (their statements: YtmhdciohpmofbacTotals.lean).
  GIVEN WITH THE SEED: the statements are not yours to turn. If you find one false, say at which input.
  Laid BY PROGRAM, IN A SANDBOX (cutbox-rows.mjs): the forced cells as the released guide's own fill.sh prints them over the translation 3179f86432145a0f… (all of the seat's roots in one cut). By AI agents, Wed Nov 11 2026. No macro, syntax, notation, axiom, sorry.
-/
import Derived.Test.YtmhdciohpmofbacChecked
import GoSem.Claim
import GoSem.ClaimJoined
import GoSem.ClaimMapViews
import Derived.JoinedTies
import Derived.KernelRfl
namespace Go.Proofs.Ytmhdciohpmofbac
/- THE CELL 'sum', in the pinned program and in every row, IS THE sha256 OF THE DUMP (.gsa) THAT YtmhdciohpmofbacProg.lean LOADS. Nothing in Lean hashes anything: it is a label: what it is worth is what the hold of that sum in a sandbox is worth. -/
noncomputable def Try.pinned : Pinned := { name := "ytmhdciohpmofbac", sum := "3179f86432145a0f99687447b441f820172567b6729ba76affe43d4b9f7a9d95", checked := Try.checked }
namespace Rows
def none {H : Type} : Left H := { results := [], args := [] }

/-- 'laws.FnHankelOf': WHATEVER THE INPUT: true; the input reads as it did. -/
def fnHankelOfSpec : ChangeSpec := { name := "fnHankelOf", fn := fun _ => fun
  | [d] => { results := [.lit (.bool true)], args := [d] }
  | _ => none }
def fnHankelOfRow : OpenClaim := { program := "ytmhdciohpmofbac", sum := "3179f86432145a0f99687447b441f820172567b6729ba76affe43d4b9f7a9d95", func := "loop.example/shadowseries/laws.FnHankelOf", spec := "fnHankelOf", unfollowed := true, recurses := true, apart := false }
def FnHankelOfSaid : Prop := fnHankelOfRow.holds Try.pinned (OpenSpec.ofChange fnHankelOfSpec)

/-- ITS FALSE NEIGHBOUR: 'it returns false'. Refute it at one input. -/
def fnHankelOfWrong : ChangeSpec := { name := "fnHankelOf", fn := fun _ => fun
  | [d] => { results := [.lit (.bool false)], args := [d] }
  | _ => none }
def FnHankelOfWrongFalsely : Prop := fnHankelOfRow.holds Try.pinned (OpenSpec.ofChange fnHankelOfWrong)

/-- 'laws.FnBinomialOf': WHATEVER THE INPUT: true; the input reads as it did. -/
def fnBinomialOfSpec : ChangeSpec := { name := "fnBinomialOf", fn := fun _ => fun
  | [d] => { results := [.lit (.bool true)], args := [d] }
  | _ => none }
def fnBinomialOfRow : OpenClaim := { program := "ytmhdciohpmofbac", sum := "3179f86432145a0f99687447b441f820172567b6729ba76affe43d4b9f7a9d95", func := "loop.example/shadowseries/laws.FnBinomialOf", spec := "fnBinomialOf", unfollowed := true, recurses := true, apart := false }
def FnBinomialOfSaid : Prop := fnBinomialOfRow.holds Try.pinned (OpenSpec.ofChange fnBinomialOfSpec)

/-- ITS FALSE NEIGHBOUR: 'it returns false'. Refute it at one input. -/
def fnBinomialOfWrong : ChangeSpec := { name := "fnBinomialOf", fn := fun _ => fun
  | [d] => { results := [.lit (.bool false)], args := [d] }
  | _ => none }
def FnBinomialOfWrongFalsely : Prop := fnBinomialOfRow.holds Try.pinned (OpenSpec.ofChange fnBinomialOfWrong)

/-- 'laws.FnAlternateOf': WHATEVER THE INPUT: true; the input reads as it did. -/
def fnAlternateOfSpec : ChangeSpec := { name := "fnAlternateOf", fn := fun _ => fun
  | [d] => { results := [.lit (.bool true)], args := [d] }
  | _ => none }
def fnAlternateOfRow : OpenClaim := { program := "ytmhdciohpmofbac", sum := "3179f86432145a0f99687447b441f820172567b6729ba76affe43d4b9f7a9d95", func := "loop.example/shadowseries/laws.FnAlternateOf", spec := "fnAlternateOf", unfollowed := true, recurses := true, apart := false }
def FnAlternateOfSaid : Prop := fnAlternateOfRow.holds Try.pinned (OpenSpec.ofChange fnAlternateOfSpec)

/-- ITS FALSE NEIGHBOUR: 'it returns false'. Refute it at one input. -/
def fnAlternateOfWrong : ChangeSpec := { name := "fnAlternateOf", fn := fun _ => fun
  | [d] => { results := [.lit (.bool false)], args := [d] }
  | _ => none }
def FnAlternateOfWrongFalsely : Prop := fnAlternateOfRow.holds Try.pinned (OpenSpec.ofChange fnAlternateOfWrong)

/-- 'laws.FnZigzagOf': WHATEVER THE INPUT: true; the input reads as it did. -/
def fnZigzagOfSpec : ChangeSpec := { name := "fnZigzagOf", fn := fun _ => fun
  | [d] => { results := [.lit (.bool true)], args := [d] }
  | _ => none }
def fnZigzagOfRow : OpenClaim := { program := "ytmhdciohpmofbac", sum := "3179f86432145a0f99687447b441f820172567b6729ba76affe43d4b9f7a9d95", func := "loop.example/shadowseries/laws.FnZigzagOf", spec := "fnZigzagOf", unfollowed := true, recurses := true, apart := false }
def FnZigzagOfSaid : Prop := fnZigzagOfRow.holds Try.pinned (OpenSpec.ofChange fnZigzagOfSpec)

/-- ITS FALSE NEIGHBOUR: 'it returns false'. Refute it at one input. -/
def fnZigzagOfWrong : ChangeSpec := { name := "fnZigzagOf", fn := fun _ => fun
  | [d] => { results := [.lit (.bool false)], args := [d] }
  | _ => none }
def FnZigzagOfWrongFalsely : Prop := fnZigzagOfRow.holds Try.pinned (OpenSpec.ofChange fnZigzagOfWrong)

/-- 'laws.FnBellNumbers': WHATEVER THE INPUT: true; the input reads as it did. -/
def fnBellNumbersSpec : ChangeSpec := { name := "fnBellNumbers", fn := fun _ => fun
  | [d] => { results := [.lit (.bool true)], args := [d] }
  | _ => none }
def fnBellNumbersRow : OpenClaim := { program := "ytmhdciohpmofbac", sum := "3179f86432145a0f99687447b441f820172567b6729ba76affe43d4b9f7a9d95", func := "loop.example/shadowseries/laws.FnBellNumbers", spec := "fnBellNumbers", unfollowed := true, recurses := true, apart := false }
def FnBellNumbersSaid : Prop := fnBellNumbersRow.holds Try.pinned (OpenSpec.ofChange fnBellNumbersSpec)

/-- ITS FALSE NEIGHBOUR: 'it returns false'. Refute it at one input. -/
def fnBellNumbersWrong : ChangeSpec := { name := "fnBellNumbers", fn := fun _ => fun
  | [d] => { results := [.lit (.bool false)], args := [d] }
  | _ => none }
def FnBellNumbersWrongFalsely : Prop := fnBellNumbersRow.holds Try.pinned (OpenSpec.ofChange fnBellNumbersWrong)

/-- 'laws.FnLostNumbers': WHATEVER THE INPUT: true; the input reads as it did. -/
def fnLostNumbersSpec : ChangeSpec := { name := "fnLostNumbers", fn := fun _ => fun
  | [d] => { results := [.lit (.bool true)], args := [d] }
  | _ => none }
def fnLostNumbersRow : OpenClaim := { program := "ytmhdciohpmofbac", sum := "3179f86432145a0f99687447b441f820172567b6729ba76affe43d4b9f7a9d95", func := "loop.example/shadowseries/laws.FnLostNumbers", spec := "fnLostNumbers", unfollowed := true, recurses := true, apart := false }
def FnLostNumbersSaid : Prop := fnLostNumbersRow.holds Try.pinned (OpenSpec.ofChange fnLostNumbersSpec)

/-- ITS FALSE NEIGHBOUR: 'it returns false'. Refute it at one input. -/
def fnLostNumbersWrong : ChangeSpec := { name := "fnLostNumbers", fn := fun _ => fun
  | [d] => { results := [.lit (.bool false)], args := [d] }
  | _ => none }
def FnLostNumbersWrongFalsely : Prop := fnLostNumbersRow.holds Try.pinned (OpenSpec.ofChange fnLostNumbersWrong)

/-- 'laws.FnUpDownNumbers': WHATEVER THE INPUT: true; the input reads as it did. -/
def fnUpDownNumbersSpec : ChangeSpec := { name := "fnUpDownNumbers", fn := fun _ => fun
  | [d] => { results := [.lit (.bool true)], args := [d] }
  | _ => none }
def fnUpDownNumbersRow : OpenClaim := { program := "ytmhdciohpmofbac", sum := "3179f86432145a0f99687447b441f820172567b6729ba76affe43d4b9f7a9d95", func := "loop.example/shadowseries/laws.FnUpDownNumbers", spec := "fnUpDownNumbers", unfollowed := true, recurses := true, apart := false }
def FnUpDownNumbersSaid : Prop := fnUpDownNumbersRow.holds Try.pinned (OpenSpec.ofChange fnUpDownNumbersSpec)

/-- ITS FALSE NEIGHBOUR: 'it returns false'. Refute it at one input. -/
def fnUpDownNumbersWrong : ChangeSpec := { name := "fnUpDownNumbers", fn := fun _ => fun
  | [d] => { results := [.lit (.bool false)], args := [d] }
  | _ => none }
def FnUpDownNumbersWrongFalsely : Prop := fnUpDownNumbersRow.holds Try.pinned (OpenSpec.ofChange fnUpDownNumbersWrong)

/- THE SECOND FORM. 'bulk': how many values and letters a reading holds, each counted each time it is reached (what is shared counts as often as it is met; a slice's spare places count too). A statement '..UptoSaid' is the law's where the arguments, and the package variables that the reading takes, are together of bulk at most 1048576: NARROWER than '..Said'. Prove '..Said' where nothing that the law and all that it calls make is longer than what came in: it says more and counts as full. Else prove '..UptoSaid'. A law counts once. -/
mutual
def uptoBulk {H : Type} : DataW H → Nat
  | .lit (.string bytes) => bytes.length + 1
  | .lit _ => 1
  | .nil => 1
  | .ptr d => uptoBulk d + 1
  | .slice elems spare => uptoBulkAll elems + uptoBulkAll spare + 1
  | .agg parts => uptoBulkAll parts + 1
  | .iface _ d => uptoBulk d + 1
  | .map entries => uptoBulkEntries entries + 1
  | .held _ => 1
def uptoBulkAll {H : Type} : List (DataW H) → Nat
  | [] => 0
  | d :: r => uptoBulk d + uptoBulkAll r
def uptoBulkEntries {H : Type} : List (Lit × DataW H) → Nat
  | [] => 0
  | x :: r => uptoBulkEntry x + uptoBulkEntries r
def uptoBulkEntry {H : Type} : Lit × DataW H → Nat
  | (.string bytes, d) => bytes.length + uptoBulk d + 1
  | (_, d) => uptoBulk d + 1
 end
def uptoSmall : (H : Type) → List (DataW H) → Bool := fun _ ds => decide (uptoBulkAll ds ≤ 1048576)
def OpenSpec.upto (s : _root_.Go.ChangeSpec) : _root_.Go.OpenSpec := { _root_.Go.OpenSpec.ofChange s with cond := some uptoSmall }

/-- 'laws.FnHankelOf', WHERE WHAT IT READS IS OF BULK AT MOST 1048576: true; the input reads as it did. -/
def fnHankelOfUptoRow : OpenClaim := { program := "ytmhdciohpmofbac", sum := "3179f86432145a0f99687447b441f820172567b6729ba76affe43d4b9f7a9d95", func := "loop.example/shadowseries/laws.FnHankelOf", spec := "fnHankelOf", unfollowed := true, recurses := true, apart := false, narrowed := true }
def FnHankelOfUptoSaid : Prop := fnHankelOfUptoRow.holds Try.pinned (OpenSpec.upto fnHankelOfSpec)

/-- 'laws.FnBinomialOf', WHERE WHAT IT READS IS OF BULK AT MOST 1048576: true; the input reads as it did. -/
def fnBinomialOfUptoRow : OpenClaim := { program := "ytmhdciohpmofbac", sum := "3179f86432145a0f99687447b441f820172567b6729ba76affe43d4b9f7a9d95", func := "loop.example/shadowseries/laws.FnBinomialOf", spec := "fnBinomialOf", unfollowed := true, recurses := true, apart := false, narrowed := true }
def FnBinomialOfUptoSaid : Prop := fnBinomialOfUptoRow.holds Try.pinned (OpenSpec.upto fnBinomialOfSpec)

/-- 'laws.FnAlternateOf', WHERE WHAT IT READS IS OF BULK AT MOST 1048576: true; the input reads as it did. -/
def fnAlternateOfUptoRow : OpenClaim := { program := "ytmhdciohpmofbac", sum := "3179f86432145a0f99687447b441f820172567b6729ba76affe43d4b9f7a9d95", func := "loop.example/shadowseries/laws.FnAlternateOf", spec := "fnAlternateOf", unfollowed := true, recurses := true, apart := false, narrowed := true }
def FnAlternateOfUptoSaid : Prop := fnAlternateOfUptoRow.holds Try.pinned (OpenSpec.upto fnAlternateOfSpec)

/-- 'laws.FnZigzagOf', WHERE WHAT IT READS IS OF BULK AT MOST 1048576: true; the input reads as it did. -/
def fnZigzagOfUptoRow : OpenClaim := { program := "ytmhdciohpmofbac", sum := "3179f86432145a0f99687447b441f820172567b6729ba76affe43d4b9f7a9d95", func := "loop.example/shadowseries/laws.FnZigzagOf", spec := "fnZigzagOf", unfollowed := true, recurses := true, apart := false, narrowed := true }
def FnZigzagOfUptoSaid : Prop := fnZigzagOfUptoRow.holds Try.pinned (OpenSpec.upto fnZigzagOfSpec)

/-- 'laws.FnBellNumbers', WHERE WHAT IT READS IS OF BULK AT MOST 1048576: true; the input reads as it did. -/
def fnBellNumbersUptoRow : OpenClaim := { program := "ytmhdciohpmofbac", sum := "3179f86432145a0f99687447b441f820172567b6729ba76affe43d4b9f7a9d95", func := "loop.example/shadowseries/laws.FnBellNumbers", spec := "fnBellNumbers", unfollowed := true, recurses := true, apart := false, narrowed := true }
def FnBellNumbersUptoSaid : Prop := fnBellNumbersUptoRow.holds Try.pinned (OpenSpec.upto fnBellNumbersSpec)

/-- 'laws.FnLostNumbers', WHERE WHAT IT READS IS OF BULK AT MOST 1048576: true; the input reads as it did. -/
def fnLostNumbersUptoRow : OpenClaim := { program := "ytmhdciohpmofbac", sum := "3179f86432145a0f99687447b441f820172567b6729ba76affe43d4b9f7a9d95", func := "loop.example/shadowseries/laws.FnLostNumbers", spec := "fnLostNumbers", unfollowed := true, recurses := true, apart := false, narrowed := true }
def FnLostNumbersUptoSaid : Prop := fnLostNumbersUptoRow.holds Try.pinned (OpenSpec.upto fnLostNumbersSpec)

/-- 'laws.FnUpDownNumbers', WHERE WHAT IT READS IS OF BULK AT MOST 1048576: true; the input reads as it did. -/
def fnUpDownNumbersUptoRow : OpenClaim := { program := "ytmhdciohpmofbac", sum := "3179f86432145a0f99687447b441f820172567b6729ba76affe43d4b9f7a9d95", func := "loop.example/shadowseries/laws.FnUpDownNumbers", spec := "fnUpDownNumbers", unfollowed := true, recurses := true, apart := false, narrowed := true }
def FnUpDownNumbersUptoSaid : Prop := fnUpDownNumbersUptoRow.holds Try.pinned (OpenSpec.upto fnUpDownNumbersSpec)

end Rows
end Go.Proofs.Ytmhdciohpmofbac

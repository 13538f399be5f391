import Derived.Test.YtpjenggjcpahaaaPr
import Derived.Test.YtpjenggjcpahaaaRep
namespace Go.Proofs.Ytpjenggjcpahaaa.Pr
open Go.ChangeShapes Go.WideShapes Go.ChangeAt Go.RowKit Go.Sx Go.Proofs.Ytpjenggjcpahaaa.Ids
set_option linter.unusedVariables false
set_option maxRecDepth 1000000
set_option linter.unusedSimpArgs false

/-- Rows before, one that is bad, rows behind. -/
noncomputable def jr (L n : Nat) (Γ : List Fact) (x : V Sy) (ys : List (V Sy)) : Option (V Sy × Sto Sy) :=
  symRun Try.prog noK (Γ ++ bndZ n) 60 12 [.slice (((List.range n).map fun i => V.slice (ints (rowZ L i))) ++ x :: ys)] ⟨0, [], 0⟩
theorem few0 : noPair (symRun Try.prog noK [] 60 12 [.emp] ⟨0, [], 0⟩) = true := by kernel_rfl
theorem few1 (y : V Sy) : noPair (symRun Try.prog noK [] 60 12 [.slice [y]] ⟨0, [], 0⟩) = true := by (show _ = _; kernel_rfl)
theorem many7 (y1 y2 y3 y4 y5 y6 y7 : V Sy) (r : List (V Sy)) : noPair (symRun Try.prog noK [] 60 12 [.slice (y1 :: y2 :: y3 :: y4 :: y5 :: y6 :: y7 :: r)] ⟨0, [], 0⟩) = true := by (show _ = _; kernel_rfl)
theorem jLo_2_0 (y0 : V Sy) : noPair (jr 2 0 [⟨true, vx (6 * 0 + 1), .c (-1000000000), true⟩] (.slice (ints (rowZ 2 0))) [y0]) = true := by (show _ = _; kernel_rfl)
theorem jHi_2_0 (y0 : V Sy) : noPair (jr 2 0 [⟨true, .c 1000000000, vx (6 * 0 + 1), true⟩, ⟨true, vx (6 * 0 + 1), .c (-1000000000), false⟩] (.slice (ints (rowZ 2 0))) [y0]) = true := by (show _ = _; kernel_rfl)
theorem jL_2_0_0 (y0 : V Sy) : noPair (jr 2 0 [] (patL []) [y0]) = true := by (show _ = _; kernel_rfl)
theorem jL_2_0_1 (a : Int) (y0 : V Sy) : noPair (jr 2 0 [] (patL [a]) [y0]) = true := by (show _ = _; kernel_rfl)
theorem jL_2_0_3 (a : Int) (b : Int) (c : Int) (y0 : V Sy) : noPair (jr 2 0 [] (patL [a, b, c]) [y0]) = true := by (show _ = _; kernel_rfl)
theorem jL_2_0_4 (a : Int) (b : Int) (c : Int) (d : Int) (y0 : V Sy) : noPair (jr 2 0 [] (patL [a, b, c, d]) [y0]) = true := by (show _ = _; kernel_rfl)
theorem jL_2_0_5 (a : Int) (b : Int) (c : Int) (d : Int) (e : Int) (y0 : V Sy) : noPair (jr 2 0 [] (patL [a, b, c, d, e]) [y0]) = true := by (show _ = _; kernel_rfl)
theorem jL_2_0_6 (a : Int) (b : Int) (c : Int) (d : Int) (e : Int) (f : Int) (y0 : V Sy) : noPair (jr 2 0 [] (patL [a, b, c, d, e, f]) [y0]) = true := by (show _ = _; kernel_rfl)
theorem jL_2_0_7 (a : Int) (b : Int) (c : Int) (d : Int) (e : Int) (f : Int) (g : Int) (r : List Int) (y0 : V Sy) : noPair (jr 2 0 [] (patL (a :: b :: c :: d :: e :: f :: g :: r)) [y0]) = true := by (show _ = _; kernel_rfl)
theorem jLen_2_0 (y0 : V Sy) : ∀ zs : List Int, zs.length ≠ 2 → noPair (jr 2 0 [] (patL zs) [y0]) = true
  | [], _ => jL_2_0_0 y0
  | [a], _ => jL_2_0_1 a y0
  | [a, b], h => absurd rfl h
  | [a, b, c], _ => jL_2_0_3 a b c y0
  | [a, b, c, d], _ => jL_2_0_4 a b c d y0
  | [a, b, c, d, e], _ => jL_2_0_5 a b c d e y0
  | [a, b, c, d, e, f], _ => jL_2_0_6 a b c d e f y0
  | a :: b :: c :: d :: e :: f :: g :: r, _ => jL_2_0_7 a b c d e f g r y0
theorem jLo_2_1 : noPair (jr 2 1 [⟨true, vx (6 * 1 + 1), .c (-1000000000), true⟩] (.slice (ints (rowZ 2 1))) []) = true := by (show _ = _; kernel_rfl)
theorem jHi_2_1 : noPair (jr 2 1 [⟨true, .c 1000000000, vx (6 * 1 + 1), true⟩, ⟨true, vx (6 * 1 + 1), .c (-1000000000), false⟩] (.slice (ints (rowZ 2 1))) []) = true := by (show _ = _; kernel_rfl)
theorem jL_2_1_0 : noPair (jr 2 1 [] (patL []) []) = true := by (show _ = _; kernel_rfl)
theorem jL_2_1_1 (a : Int) : noPair (jr 2 1 [] (patL [a]) []) = true := by (show _ = _; kernel_rfl)
theorem jL_2_1_3 (a : Int) (b : Int) (c : Int) : noPair (jr 2 1 [] (patL [a, b, c]) []) = true := by (show _ = _; kernel_rfl)
theorem jL_2_1_4 (a : Int) (b : Int) (c : Int) (d : Int) : noPair (jr 2 1 [] (patL [a, b, c, d]) []) = true := by (show _ = _; kernel_rfl)
theorem jL_2_1_5 (a : Int) (b : Int) (c : Int) (d : Int) (e : Int) : noPair (jr 2 1 [] (patL [a, b, c, d, e]) []) = true := by (show _ = _; kernel_rfl)
theorem jL_2_1_6 (a : Int) (b : Int) (c : Int) (d : Int) (e : Int) (f : Int) : noPair (jr 2 1 [] (patL [a, b, c, d, e, f]) []) = true := by (show _ = _; kernel_rfl)
theorem jL_2_1_7 (a : Int) (b : Int) (c : Int) (d : Int) (e : Int) (f : Int) (g : Int) (r : List Int) : noPair (jr 2 1 [] (patL (a :: b :: c :: d :: e :: f :: g :: r)) []) = true := by (show _ = _; kernel_rfl)
theorem jLen_2_1 : ∀ zs : List Int, zs.length ≠ 2 → noPair (jr 2 1 [] (patL zs) []) = true
  | [], _ => jL_2_1_0 
  | [a], _ => jL_2_1_1 a
  | [a, b], h => absurd rfl h
  | [a, b, c], _ => jL_2_1_3 a b c
  | [a, b, c, d], _ => jL_2_1_4 a b c d
  | [a, b, c, d, e], _ => jL_2_1_5 a b c d e
  | [a, b, c, d, e, f], _ => jL_2_1_6 a b c d e f
  | a :: b :: c :: d :: e :: f :: g :: r, _ => jL_2_1_7 a b c d e f g r
theorem jLo_3_0 (y0 : V Sy) (y1 : V Sy) : noPair (jr 3 0 [⟨true, vx (6 * 0 + 1), .c (-1000000000), true⟩] (.slice (ints (rowZ 3 0))) [y0, y1]) = true := by (show _ = _; kernel_rfl)
theorem jHi_3_0 (y0 : V Sy) (y1 : V Sy) : noPair (jr 3 0 [⟨true, .c 1000000000, vx (6 * 0 + 1), true⟩, ⟨true, vx (6 * 0 + 1), .c (-1000000000), false⟩] (.slice (ints (rowZ 3 0))) [y0, y1]) = true := by (show _ = _; kernel_rfl)
theorem jL_3_0_0 (y0 : V Sy) (y1 : V Sy) : noPair (jr 3 0 [] (patL []) [y0, y1]) = true := by (show _ = _; kernel_rfl)
theorem jL_3_0_1 (a : Int) (y0 : V Sy) (y1 : V Sy) : noPair (jr 3 0 [] (patL [a]) [y0, y1]) = true := by (show _ = _; kernel_rfl)
theorem jL_3_0_2 (a : Int) (b : Int) (y0 : V Sy) (y1 : V Sy) : noPair (jr 3 0 [] (patL [a, b]) [y0, y1]) = true := by (show _ = _; kernel_rfl)
theorem jL_3_0_4 (a : Int) (b : Int) (c : Int) (d : Int) (y0 : V Sy) (y1 : V Sy) : noPair (jr 3 0 [] (patL [a, b, c, d]) [y0, y1]) = true := by (show _ = _; kernel_rfl)
theorem jL_3_0_5 (a : Int) (b : Int) (c : Int) (d : Int) (e : Int) (y0 : V Sy) (y1 : V Sy) : noPair (jr 3 0 [] (patL [a, b, c, d, e]) [y0, y1]) = true := by (show _ = _; kernel_rfl)
theorem jL_3_0_6 (a : Int) (b : Int) (c : Int) (d : Int) (e : Int) (f : Int) (y0 : V Sy) (y1 : V Sy) : noPair (jr 3 0 [] (patL [a, b, c, d, e, f]) [y0, y1]) = true := by (show _ = _; kernel_rfl)
theorem jL_3_0_7 (a : Int) (b : Int) (c : Int) (d : Int) (e : Int) (f : Int) (g : Int) (r : List Int) (y0 : V Sy) (y1 : V Sy) : noPair (jr 3 0 [] (patL (a :: b :: c :: d :: e :: f :: g :: r)) [y0, y1]) = true := by (show _ = _; kernel_rfl)
theorem jLen_3_0 (y0 : V Sy) (y1 : V Sy) : ∀ zs : List Int, zs.length ≠ 3 → noPair (jr 3 0 [] (patL zs) [y0, y1]) = true
  | [], _ => jL_3_0_0 y0 y1
  | [a], _ => jL_3_0_1 a y0 y1
  | [a, b], _ => jL_3_0_2 a b y0 y1
  | [a, b, c], h => absurd rfl h
  | [a, b, c, d], _ => jL_3_0_4 a b c d y0 y1
  | [a, b, c, d, e], _ => jL_3_0_5 a b c d e y0 y1
  | [a, b, c, d, e, f], _ => jL_3_0_6 a b c d e f y0 y1
  | a :: b :: c :: d :: e :: f :: g :: r, _ => jL_3_0_7 a b c d e f g r y0 y1
theorem jLo_3_1 (y0 : V Sy) : noPair (jr 3 1 [⟨true, vx (6 * 1 + 1), .c (-1000000000), true⟩] (.slice (ints (rowZ 3 1))) [y0]) = true := by (show _ = _; kernel_rfl)
theorem jHi_3_1 (y0 : V Sy) : noPair (jr 3 1 [⟨true, .c 1000000000, vx (6 * 1 + 1), true⟩, ⟨true, vx (6 * 1 + 1), .c (-1000000000), false⟩] (.slice (ints (rowZ 3 1))) [y0]) = true := by (show _ = _; kernel_rfl)
theorem jL_3_1_0 (y0 : V Sy) : noPair (jr 3 1 [] (patL []) [y0]) = true := by (show _ = _; kernel_rfl)
theorem jL_3_1_1 (a : Int) (y0 : V Sy) : noPair (jr 3 1 [] (patL [a]) [y0]) = true := by (show _ = _; kernel_rfl)
theorem jL_3_1_2 (a : Int) (b : Int) (y0 : V Sy) : noPair (jr 3 1 [] (patL [a, b]) [y0]) = true := by (show _ = _; kernel_rfl)
theorem jL_3_1_4 (a : Int) (b : Int) (c : Int) (d : Int) (y0 : V Sy) : noPair (jr 3 1 [] (patL [a, b, c, d]) [y0]) = true := by (show _ = _; kernel_rfl)
theorem jL_3_1_5 (a : Int) (b : Int) (c : Int) (d : Int) (e : Int) (y0 : V Sy) : noPair (jr 3 1 [] (patL [a, b, c, d, e]) [y0]) = true := by (show _ = _; kernel_rfl)
theorem jL_3_1_6 (a : Int) (b : Int) (c : Int) (d : Int) (e : Int) (f : Int) (y0 : V Sy) : noPair (jr 3 1 [] (patL [a, b, c, d, e, f]) [y0]) = true := by (show _ = _; kernel_rfl)
theorem jL_3_1_7 (a : Int) (b : Int) (c : Int) (d : Int) (e : Int) (f : Int) (g : Int) (r : List Int) (y0 : V Sy) : noPair (jr 3 1 [] (patL (a :: b :: c :: d :: e :: f :: g :: r)) [y0]) = true := by (show _ = _; kernel_rfl)
theorem jLen_3_1 (y0 : V Sy) : ∀ zs : List Int, zs.length ≠ 3 → noPair (jr 3 1 [] (patL zs) [y0]) = true
  | [], _ => jL_3_1_0 y0
  | [a], _ => jL_3_1_1 a y0
  | [a, b], _ => jL_3_1_2 a b y0
  | [a, b, c], h => absurd rfl h
  | [a, b, c, d], _ => jL_3_1_4 a b c d y0
  | [a, b, c, d, e], _ => jL_3_1_5 a b c d e y0
  | [a, b, c, d, e, f], _ => jL_3_1_6 a b c d e f y0
  | a :: b :: c :: d :: e :: f :: g :: r, _ => jL_3_1_7 a b c d e f g r y0
theorem jLo_3_2 : noPair (jr 3 2 [⟨true, vx (6 * 2 + 1), .c (-1000000000), true⟩] (.slice (ints (rowZ 3 2))) []) = true := by (show _ = _; kernel_rfl)
theorem jHi_3_2 : noPair (jr 3 2 [⟨true, .c 1000000000, vx (6 * 2 + 1), true⟩, ⟨true, vx (6 * 2 + 1), .c (-1000000000), false⟩] (.slice (ints (rowZ 3 2))) []) = true := by (show _ = _; kernel_rfl)
theorem jL_3_2_0 : noPair (jr 3 2 [] (patL []) []) = true := by (show _ = _; kernel_rfl)
theorem jL_3_2_1 (a : Int) : noPair (jr 3 2 [] (patL [a]) []) = true := by (show _ = _; kernel_rfl)
theorem jL_3_2_2 (a : Int) (b : Int) : noPair (jr 3 2 [] (patL [a, b]) []) = true := by (show _ = _; kernel_rfl)
theorem jL_3_2_4 (a : Int) (b : Int) (c : Int) (d : Int) : noPair (jr 3 2 [] (patL [a, b, c, d]) []) = true := by (show _ = _; kernel_rfl)
theorem jL_3_2_5 (a : Int) (b : Int) (c : Int) (d : Int) (e : Int) : noPair (jr 3 2 [] (patL [a, b, c, d, e]) []) = true := by (show _ = _; kernel_rfl)
theorem jL_3_2_6 (a : Int) (b : Int) (c : Int) (d : Int) (e : Int) (f : Int) : noPair (jr 3 2 [] (patL [a, b, c, d, e, f]) []) = true := by (show _ = _; kernel_rfl)
theorem jL_3_2_7 (a : Int) (b : Int) (c : Int) (d : Int) (e : Int) (f : Int) (g : Int) (r : List Int) : noPair (jr 3 2 [] (patL (a :: b :: c :: d :: e :: f :: g :: r)) []) = true := by (show _ = _; kernel_rfl)
theorem jLen_3_2 : ∀ zs : List Int, zs.length ≠ 3 → noPair (jr 3 2 [] (patL zs) []) = true
  | [], _ => jL_3_2_0 
  | [a], _ => jL_3_2_1 a
  | [a, b], _ => jL_3_2_2 a b
  | [a, b, c], h => absurd rfl h
  | [a, b, c, d], _ => jL_3_2_4 a b c d
  | [a, b, c, d, e], _ => jL_3_2_5 a b c d e
  | [a, b, c, d, e, f], _ => jL_3_2_6 a b c d e f
  | a :: b :: c :: d :: e :: f :: g :: r, _ => jL_3_2_7 a b c d e f g r
theorem jLo_4_0 (y0 : V Sy) (y1 : V Sy) (y2 : V Sy) : noPair (jr 4 0 [⟨true, vx (6 * 0 + 1), .c (-1000000000), true⟩] (.slice (ints (rowZ 4 0))) [y0, y1, y2]) = true := by (show _ = _; kernel_rfl)
theorem jHi_4_0 (y0 : V Sy) (y1 : V Sy) (y2 : V Sy) : noPair (jr 4 0 [⟨true, .c 1000000000, vx (6 * 0 + 1), true⟩, ⟨true, vx (6 * 0 + 1), .c (-1000000000), false⟩] (.slice (ints (rowZ 4 0))) [y0, y1, y2]) = true := by (show _ = _; kernel_rfl)
theorem jL_4_0_0 (y0 : V Sy) (y1 : V Sy) (y2 : V Sy) : noPair (jr 4 0 [] (patL []) [y0, y1, y2]) = true := by (show _ = _; kernel_rfl)
theorem jL_4_0_1 (a : Int) (y0 : V Sy) (y1 : V Sy) (y2 : V Sy) : noPair (jr 4 0 [] (patL [a]) [y0, y1, y2]) = true := by (show _ = _; kernel_rfl)
theorem jL_4_0_2 (a : Int) (b : Int) (y0 : V Sy) (y1 : V Sy) (y2 : V Sy) : noPair (jr 4 0 [] (patL [a, b]) [y0, y1, y2]) = true := by (show _ = _; kernel_rfl)
theorem jL_4_0_3 (a : Int) (b : Int) (c : Int) (y0 : V Sy) (y1 : V Sy) (y2 : V Sy) : noPair (jr 4 0 [] (patL [a, b, c]) [y0, y1, y2]) = true := by (show _ = _; kernel_rfl)
theorem jL_4_0_5 (a : Int) (b : Int) (c : Int) (d : Int) (e : Int) (y0 : V Sy) (y1 : V Sy) (y2 : V Sy) : noPair (jr 4 0 [] (patL [a, b, c, d, e]) [y0, y1, y2]) = true := by (show _ = _; kernel_rfl)
theorem jL_4_0_6 (a : Int) (b : Int) (c : Int) (d : Int) (e : Int) (f : Int) (y0 : V Sy) (y1 : V Sy) (y2 : V Sy) : noPair (jr 4 0 [] (patL [a, b, c, d, e, f]) [y0, y1, y2]) = true := by (show _ = _; kernel_rfl)
theorem jL_4_0_7 (a : Int) (b : Int) (c : Int) (d : Int) (e : Int) (f : Int) (g : Int) (r : List Int) (y0 : V Sy) (y1 : V Sy) (y2 : V Sy) : noPair (jr 4 0 [] (patL (a :: b :: c :: d :: e :: f :: g :: r)) [y0, y1, y2]) = true := by (show _ = _; kernel_rfl)
theorem jLen_4_0 (y0 : V Sy) (y1 : V Sy) (y2 : V Sy) : ∀ zs : List Int, zs.length ≠ 4 → noPair (jr 4 0 [] (patL zs) [y0, y1, y2]) = true
  | [], _ => jL_4_0_0 y0 y1 y2
  | [a], _ => jL_4_0_1 a y0 y1 y2
  | [a, b], _ => jL_4_0_2 a b y0 y1 y2
  | [a, b, c], _ => jL_4_0_3 a b c y0 y1 y2
  | [a, b, c, d], h => absurd rfl h
  | [a, b, c, d, e], _ => jL_4_0_5 a b c d e y0 y1 y2
  | [a, b, c, d, e, f], _ => jL_4_0_6 a b c d e f y0 y1 y2
  | a :: b :: c :: d :: e :: f :: g :: r, _ => jL_4_0_7 a b c d e f g r y0 y1 y2
theorem jLo_4_1 (y0 : V Sy) (y1 : V Sy) : noPair (jr 4 1 [⟨true, vx (6 * 1 + 1), .c (-1000000000), true⟩] (.slice (ints (rowZ 4 1))) [y0, y1]) = true := by (show _ = _; kernel_rfl)
theorem jHi_4_1 (y0 : V Sy) (y1 : V Sy) : noPair (jr 4 1 [⟨true, .c 1000000000, vx (6 * 1 + 1), true⟩, ⟨true, vx (6 * 1 + 1), .c (-1000000000), false⟩] (.slice (ints (rowZ 4 1))) [y0, y1]) = true := by (show _ = _; kernel_rfl)
theorem jL_4_1_0 (y0 : V Sy) (y1 : V Sy) : noPair (jr 4 1 [] (patL []) [y0, y1]) = true := by (show _ = _; kernel_rfl)
theorem jL_4_1_1 (a : Int) (y0 : V Sy) (y1 : V Sy) : noPair (jr 4 1 [] (patL [a]) [y0, y1]) = true := by (show _ = _; kernel_rfl)
theorem jL_4_1_2 (a : Int) (b : Int) (y0 : V Sy) (y1 : V Sy) : noPair (jr 4 1 [] (patL [a, b]) [y0, y1]) = true := by (show _ = _; kernel_rfl)
theorem jL_4_1_3 (a : Int) (b : Int) (c : Int) (y0 : V Sy) (y1 : V Sy) : noPair (jr 4 1 [] (patL [a, b, c]) [y0, y1]) = true := by (show _ = _; kernel_rfl)
theorem jL_4_1_5 (a : Int) (b : Int) (c : Int) (d : Int) (e : Int) (y0 : V Sy) (y1 : V Sy) : noPair (jr 4 1 [] (patL [a, b, c, d, e]) [y0, y1]) = true := by (show _ = _; kernel_rfl)
theorem jL_4_1_6 (a : Int) (b : Int) (c : Int) (d : Int) (e : Int) (f : Int) (y0 : V Sy) (y1 : V Sy) : noPair (jr 4 1 [] (patL [a, b, c, d, e, f]) [y0, y1]) = true := by (show _ = _; kernel_rfl)
theorem jL_4_1_7 (a : Int) (b : Int) (c : Int) (d : Int) (e : Int) (f : Int) (g : Int) (r : List Int) (y0 : V Sy) (y1 : V Sy) : noPair (jr 4 1 [] (patL (a :: b :: c :: d :: e :: f :: g :: r)) [y0, y1]) = true := by (show _ = _; kernel_rfl)
theorem jLen_4_1 (y0 : V Sy) (y1 : V Sy) : ∀ zs : List Int, zs.length ≠ 4 → noPair (jr 4 1 [] (patL zs) [y0, y1]) = true
  | [], _ => jL_4_1_0 y0 y1
  | [a], _ => jL_4_1_1 a y0 y1
  | [a, b], _ => jL_4_1_2 a b y0 y1
  | [a, b, c], _ => jL_4_1_3 a b c y0 y1
  | [a, b, c, d], h => absurd rfl h
  | [a, b, c, d, e], _ => jL_4_1_5 a b c d e y0 y1
  | [a, b, c, d, e, f], _ => jL_4_1_6 a b c d e f y0 y1
  | a :: b :: c :: d :: e :: f :: g :: r, _ => jL_4_1_7 a b c d e f g r y0 y1
theorem jLo_4_2 (y0 : V Sy) : noPair (jr 4 2 [⟨true, vx (6 * 2 + 1), .c (-1000000000), true⟩] (.slice (ints (rowZ 4 2))) [y0]) = true := by (show _ = _; kernel_rfl)
theorem jHi_4_2 (y0 : V Sy) : noPair (jr 4 2 [⟨true, .c 1000000000, vx (6 * 2 + 1), true⟩, ⟨true, vx (6 * 2 + 1), .c (-1000000000), false⟩] (.slice (ints (rowZ 4 2))) [y0]) = true := by (show _ = _; kernel_rfl)
theorem jL_4_2_0 (y0 : V Sy) : noPair (jr 4 2 [] (patL []) [y0]) = true := by (show _ = _; kernel_rfl)
theorem jL_4_2_1 (a : Int) (y0 : V Sy) : noPair (jr 4 2 [] (patL [a]) [y0]) = true := by (show _ = _; kernel_rfl)
theorem jL_4_2_2 (a : Int) (b : Int) (y0 : V Sy) : noPair (jr 4 2 [] (patL [a, b]) [y0]) = true := by (show _ = _; kernel_rfl)
theorem jL_4_2_3 (a : Int) (b : Int) (c : Int) (y0 : V Sy) : noPair (jr 4 2 [] (patL [a, b, c]) [y0]) = true := by (show _ = _; kernel_rfl)
theorem jL_4_2_5 (a : Int) (b : Int) (c : Int) (d : Int) (e : Int) (y0 : V Sy) : noPair (jr 4 2 [] (patL [a, b, c, d, e]) [y0]) = true := by (show _ = _; kernel_rfl)
theorem jL_4_2_6 (a : Int) (b : Int) (c : Int) (d : Int) (e : Int) (f : Int) (y0 : V Sy) : noPair (jr 4 2 [] (patL [a, b, c, d, e, f]) [y0]) = true := by (show _ = _; kernel_rfl)
theorem jL_4_2_7 (a : Int) (b : Int) (c : Int) (d : Int) (e : Int) (f : Int) (g : Int) (r : List Int) (y0 : V Sy) : noPair (jr 4 2 [] (patL (a :: b :: c :: d :: e :: f :: g :: r)) [y0]) = true := by (show _ = _; kernel_rfl)
theorem jLen_4_2 (y0 : V Sy) : ∀ zs : List Int, zs.length ≠ 4 → noPair (jr 4 2 [] (patL zs) [y0]) = true
  | [], _ => jL_4_2_0 y0
  | [a], _ => jL_4_2_1 a y0
  | [a, b], _ => jL_4_2_2 a b y0
  | [a, b, c], _ => jL_4_2_3 a b c y0
  | [a, b, c, d], h => absurd rfl h
  | [a, b, c, d, e], _ => jL_4_2_5 a b c d e y0
  | [a, b, c, d, e, f], _ => jL_4_2_6 a b c d e f y0
  | a :: b :: c :: d :: e :: f :: g :: r, _ => jL_4_2_7 a b c d e f g r y0
theorem jLo_4_3 : noPair (jr 4 3 [⟨true, vx (6 * 3 + 1), .c (-1000000000), true⟩] (.slice (ints (rowZ 4 3))) []) = true := by (show _ = _; kernel_rfl)
theorem jHi_4_3 : noPair (jr 4 3 [⟨true, .c 1000000000, vx (6 * 3 + 1), true⟩, ⟨true, vx (6 * 3 + 1), .c (-1000000000), false⟩] (.slice (ints (rowZ 4 3))) []) = true := by (show _ = _; kernel_rfl)
theorem jL_4_3_0 : noPair (jr 4 3 [] (patL []) []) = true := by (show _ = _; kernel_rfl)
theorem jL_4_3_1 (a : Int) : noPair (jr 4 3 [] (patL [a]) []) = true := by (show _ = _; kernel_rfl)
theorem jL_4_3_2 (a : Int) (b : Int) : noPair (jr 4 3 [] (patL [a, b]) []) = true := by (show _ = _; kernel_rfl)
theorem jL_4_3_3 (a : Int) (b : Int) (c : Int) : noPair (jr 4 3 [] (patL [a, b, c]) []) = true := by (show _ = _; kernel_rfl)
theorem jL_4_3_5 (a : Int) (b : Int) (c : Int) (d : Int) (e : Int) : noPair (jr 4 3 [] (patL [a, b, c, d, e]) []) = true := by (show _ = _; kernel_rfl)
theorem jL_4_3_6 (a : Int) (b : Int) (c : Int) (d : Int) (e : Int) (f : Int) : noPair (jr 4 3 [] (patL [a, b, c, d, e, f]) []) = true := by (show _ = _; kernel_rfl)
theorem jL_4_3_7 (a : Int) (b : Int) (c : Int) (d : Int) (e : Int) (f : Int) (g : Int) (r : List Int) : noPair (jr 4 3 [] (patL (a :: b :: c :: d :: e :: f :: g :: r)) []) = true := by (show _ = _; kernel_rfl)
theorem jLen_4_3 : ∀ zs : List Int, zs.length ≠ 4 → noPair (jr 4 3 [] (patL zs) []) = true
  | [], _ => jL_4_3_0 
  | [a], _ => jL_4_3_1 a
  | [a, b], _ => jL_4_3_2 a b
  | [a, b, c], _ => jL_4_3_3 a b c
  | [a, b, c, d], h => absurd rfl h
  | [a, b, c, d, e], _ => jL_4_3_5 a b c d e
  | [a, b, c, d, e, f], _ => jL_4_3_6 a b c d e f
  | a :: b :: c :: d :: e :: f :: g :: r, _ => jL_4_3_7 a b c d e f g r
theorem jLo_5_0 (y0 : V Sy) (y1 : V Sy) (y2 : V Sy) (y3 : V Sy) : noPair (jr 5 0 [⟨true, vx (6 * 0 + 1), .c (-1000000000), true⟩] (.slice (ints (rowZ 5 0))) [y0, y1, y2, y3]) = true := by (show _ = _; kernel_rfl)
theorem jHi_5_0 (y0 : V Sy) (y1 : V Sy) (y2 : V Sy) (y3 : V Sy) : noPair (jr 5 0 [⟨true, .c 1000000000, vx (6 * 0 + 1), true⟩, ⟨true, vx (6 * 0 + 1), .c (-1000000000), false⟩] (.slice (ints (rowZ 5 0))) [y0, y1, y2, y3]) = true := by (show _ = _; kernel_rfl)
theorem jL_5_0_0 (y0 : V Sy) (y1 : V Sy) (y2 : V Sy) (y3 : V Sy) : noPair (jr 5 0 [] (patL []) [y0, y1, y2, y3]) = true := by (show _ = _; kernel_rfl)
theorem jL_5_0_1 (a : Int) (y0 : V Sy) (y1 : V Sy) (y2 : V Sy) (y3 : V Sy) : noPair (jr 5 0 [] (patL [a]) [y0, y1, y2, y3]) = true := by (show _ = _; kernel_rfl)
theorem jL_5_0_2 (a : Int) (b : Int) (y0 : V Sy) (y1 : V Sy) (y2 : V Sy) (y3 : V Sy) : noPair (jr 5 0 [] (patL [a, b]) [y0, y1, y2, y3]) = true := by (show _ = _; kernel_rfl)
theorem jL_5_0_3 (a : Int) (b : Int) (c : Int) (y0 : V Sy) (y1 : V Sy) (y2 : V Sy) (y3 : V Sy) : noPair (jr 5 0 [] (patL [a, b, c]) [y0, y1, y2, y3]) = true := by (show _ = _; kernel_rfl)
theorem jL_5_0_4 (a : Int) (b : Int) (c : Int) (d : Int) (y0 : V Sy) (y1 : V Sy) (y2 : V Sy) (y3 : V Sy) : noPair (jr 5 0 [] (patL [a, b, c, d]) [y0, y1, y2, y3]) = true := by (show _ = _; kernel_rfl)
theorem jL_5_0_6 (a : Int) (b : Int) (c : Int) (d : Int) (e : Int) (f : Int) (y0 : V Sy) (y1 : V Sy) (y2 : V Sy) (y3 : V Sy) : noPair (jr 5 0 [] (patL [a, b, c, d, e, f]) [y0, y1, y2, y3]) = true := by (show _ = _; kernel_rfl)
theorem jL_5_0_7 (a : Int) (b : Int) (c : Int) (d : Int) (e : Int) (f : Int) (g : Int) (r : List Int) (y0 : V Sy) (y1 : V Sy) (y2 : V Sy) (y3 : V Sy) : noPair (jr 5 0 [] (patL (a :: b :: c :: d :: e :: f :: g :: r)) [y0, y1, y2, y3]) = true := by (show _ = _; kernel_rfl)
theorem jLen_5_0 (y0 : V Sy) (y1 : V Sy) (y2 : V Sy) (y3 : V Sy) : ∀ zs : List Int, zs.length ≠ 5 → noPair (jr 5 0 [] (patL zs) [y0, y1, y2, y3]) = true
  | [], _ => jL_5_0_0 y0 y1 y2 y3
  | [a], _ => jL_5_0_1 a y0 y1 y2 y3
  | [a, b], _ => jL_5_0_2 a b y0 y1 y2 y3
  | [a, b, c], _ => jL_5_0_3 a b c y0 y1 y2 y3
  | [a, b, c, d], _ => jL_5_0_4 a b c d y0 y1 y2 y3
  | [a, b, c, d, e], h => absurd rfl h
  | [a, b, c, d, e, f], _ => jL_5_0_6 a b c d e f y0 y1 y2 y3
  | a :: b :: c :: d :: e :: f :: g :: r, _ => jL_5_0_7 a b c d e f g r y0 y1 y2 y3
theorem jLo_5_1 (y0 : V Sy) (y1 : V Sy) (y2 : V Sy) : noPair (jr 5 1 [⟨true, vx (6 * 1 + 1), .c (-1000000000), true⟩] (.slice (ints (rowZ 5 1))) [y0, y1, y2]) = true := by (show _ = _; kernel_rfl)
theorem jHi_5_1 (y0 : V Sy) (y1 : V Sy) (y2 : V Sy) : noPair (jr 5 1 [⟨true, .c 1000000000, vx (6 * 1 + 1), true⟩, ⟨true, vx (6 * 1 + 1), .c (-1000000000), false⟩] (.slice (ints (rowZ 5 1))) [y0, y1, y2]) = true := by (show _ = _; kernel_rfl)
theorem jL_5_1_0 (y0 : V Sy) (y1 : V Sy) (y2 : V Sy) : noPair (jr 5 1 [] (patL []) [y0, y1, y2]) = true := by (show _ = _; kernel_rfl)
theorem jL_5_1_1 (a : Int) (y0 : V Sy) (y1 : V Sy) (y2 : V Sy) : noPair (jr 5 1 [] (patL [a]) [y0, y1, y2]) = true := by (show _ = _; kernel_rfl)
theorem jL_5_1_2 (a : Int) (b : Int) (y0 : V Sy) (y1 : V Sy) (y2 : V Sy) : noPair (jr 5 1 [] (patL [a, b]) [y0, y1, y2]) = true := by (show _ = _; kernel_rfl)
theorem jL_5_1_3 (a : Int) (b : Int) (c : Int) (y0 : V Sy) (y1 : V Sy) (y2 : V Sy) : noPair (jr 5 1 [] (patL [a, b, c]) [y0, y1, y2]) = true := by (show _ = _; kernel_rfl)
theorem jL_5_1_4 (a : Int) (b : Int) (c : Int) (d : Int) (y0 : V Sy) (y1 : V Sy) (y2 : V Sy) : noPair (jr 5 1 [] (patL [a, b, c, d]) [y0, y1, y2]) = true := by (show _ = _; kernel_rfl)
theorem jL_5_1_6 (a : Int) (b : Int) (c : Int) (d : Int) (e : Int) (f : Int) (y0 : V Sy) (y1 : V Sy) (y2 : V Sy) : noPair (jr 5 1 [] (patL [a, b, c, d, e, f]) [y0, y1, y2]) = true := by (show _ = _; kernel_rfl)
theorem jL_5_1_7 (a : Int) (b : Int) (c : Int) (d : Int) (e : Int) (f : Int) (g : Int) (r : List Int) (y0 : V Sy) (y1 : V Sy) (y2 : V Sy) : noPair (jr 5 1 [] (patL (a :: b :: c :: d :: e :: f :: g :: r)) [y0, y1, y2]) = true := by (show _ = _; kernel_rfl)
theorem jLen_5_1 (y0 : V Sy) (y1 : V Sy) (y2 : V Sy) : ∀ zs : List Int, zs.length ≠ 5 → noPair (jr 5 1 [] (patL zs) [y0, y1, y2]) = true
  | [], _ => jL_5_1_0 y0 y1 y2
  | [a], _ => jL_5_1_1 a y0 y1 y2
  | [a, b], _ => jL_5_1_2 a b y0 y1 y2
  | [a, b, c], _ => jL_5_1_3 a b c y0 y1 y2
  | [a, b, c, d], _ => jL_5_1_4 a b c d y0 y1 y2
  | [a, b, c, d, e], h => absurd rfl h
  | [a, b, c, d, e, f], _ => jL_5_1_6 a b c d e f y0 y1 y2
  | a :: b :: c :: d :: e :: f :: g :: r, _ => jL_5_1_7 a b c d e f g r y0 y1 y2
theorem jLo_5_2 (y0 : V Sy) (y1 : V Sy) : noPair (jr 5 2 [⟨true, vx (6 * 2 + 1), .c (-1000000000), true⟩] (.slice (ints (rowZ 5 2))) [y0, y1]) = true := by (show _ = _; kernel_rfl)
theorem jHi_5_2 (y0 : V Sy) (y1 : V Sy) : noPair (jr 5 2 [⟨true, .c 1000000000, vx (6 * 2 + 1), true⟩, ⟨true, vx (6 * 2 + 1), .c (-1000000000), false⟩] (.slice (ints (rowZ 5 2))) [y0, y1]) = true := by (show _ = _; kernel_rfl)
theorem jL_5_2_0 (y0 : V Sy) (y1 : V Sy) : noPair (jr 5 2 [] (patL []) [y0, y1]) = true := by (show _ = _; kernel_rfl)
theorem jL_5_2_1 (a : Int) (y0 : V Sy) (y1 : V Sy) : noPair (jr 5 2 [] (patL [a]) [y0, y1]) = true := by (show _ = _; kernel_rfl)
theorem jL_5_2_2 (a : Int) (b : Int) (y0 : V Sy) (y1 : V Sy) : noPair (jr 5 2 [] (patL [a, b]) [y0, y1]) = true := by (show _ = _; kernel_rfl)
theorem jL_5_2_3 (a : Int) (b : Int) (c : Int) (y0 : V Sy) (y1 : V Sy) : noPair (jr 5 2 [] (patL [a, b, c]) [y0, y1]) = true := by (show _ = _; kernel_rfl)
theorem jL_5_2_4 (a : Int) (b : Int) (c : Int) (d : Int) (y0 : V Sy) (y1 : V Sy) : noPair (jr 5 2 [] (patL [a, b, c, d]) [y0, y1]) = true := by (show _ = _; kernel_rfl)
theorem jL_5_2_6 (a : Int) (b : Int) (c : Int) (d : Int) (e : Int) (f : Int) (y0 : V Sy) (y1 : V Sy) : noPair (jr 5 2 [] (patL [a, b, c, d, e, f]) [y0, y1]) = true := by (show _ = _; kernel_rfl)
theorem jL_5_2_7 (a : Int) (b : Int) (c : Int) (d : Int) (e : Int) (f : Int) (g : Int) (r : List Int) (y0 : V Sy) (y1 : V Sy) : noPair (jr 5 2 [] (patL (a :: b :: c :: d :: e :: f :: g :: r)) [y0, y1]) = true := by (show _ = _; kernel_rfl)
theorem jLen_5_2 (y0 : V Sy) (y1 : V Sy) : ∀ zs : List Int, zs.length ≠ 5 → noPair (jr 5 2 [] (patL zs) [y0, y1]) = true
  | [], _ => jL_5_2_0 y0 y1
  | [a], _ => jL_5_2_1 a y0 y1
  | [a, b], _ => jL_5_2_2 a b y0 y1
  | [a, b, c], _ => jL_5_2_3 a b c y0 y1
  | [a, b, c, d], _ => jL_5_2_4 a b c d y0 y1
  | [a, b, c, d, e], h => absurd rfl h
  | [a, b, c, d, e, f], _ => jL_5_2_6 a b c d e f y0 y1
  | a :: b :: c :: d :: e :: f :: g :: r, _ => jL_5_2_7 a b c d e f g r y0 y1
theorem jLo_5_3 (y0 : V Sy) : noPair (jr 5 3 [⟨true, vx (6 * 3 + 1), .c (-1000000000), true⟩] (.slice (ints (rowZ 5 3))) [y0]) = true := by (show _ = _; kernel_rfl)
theorem jHi_5_3 (y0 : V Sy) : noPair (jr 5 3 [⟨true, .c 1000000000, vx (6 * 3 + 1), true⟩, ⟨true, vx (6 * 3 + 1), .c (-1000000000), false⟩] (.slice (ints (rowZ 5 3))) [y0]) = true := by (show _ = _; kernel_rfl)
theorem jL_5_3_0 (y0 : V Sy) : noPair (jr 5 3 [] (patL []) [y0]) = true := by (show _ = _; kernel_rfl)
theorem jL_5_3_1 (a : Int) (y0 : V Sy) : noPair (jr 5 3 [] (patL [a]) [y0]) = true := by (show _ = _; kernel_rfl)
theorem jL_5_3_2 (a : Int) (b : Int) (y0 : V Sy) : noPair (jr 5 3 [] (patL [a, b]) [y0]) = true := by (show _ = _; kernel_rfl)
theorem jL_5_3_3 (a : Int) (b : Int) (c : Int) (y0 : V Sy) : noPair (jr 5 3 [] (patL [a, b, c]) [y0]) = true := by (show _ = _; kernel_rfl)
theorem jL_5_3_4 (a : Int) (b : Int) (c : Int) (d : Int) (y0 : V Sy) : noPair (jr 5 3 [] (patL [a, b, c, d]) [y0]) = true := by (show _ = _; kernel_rfl)
theorem jL_5_3_6 (a : Int) (b : Int) (c : Int) (d : Int) (e : Int) (f : Int) (y0 : V Sy) : noPair (jr 5 3 [] (patL [a, b, c, d, e, f]) [y0]) = true := by (show _ = _; kernel_rfl)
theorem jL_5_3_7 (a : Int) (b : Int) (c : Int) (d : Int) (e : Int) (f : Int) (g : Int) (r : List Int) (y0 : V Sy) : noPair (jr 5 3 [] (patL (a :: b :: c :: d :: e :: f :: g :: r)) [y0]) = true := by (show _ = _; kernel_rfl)
theorem jLen_5_3 (y0 : V Sy) : ∀ zs : List Int, zs.length ≠ 5 → noPair (jr 5 3 [] (patL zs) [y0]) = true
  | [], _ => jL_5_3_0 y0
  | [a], _ => jL_5_3_1 a y0
  | [a, b], _ => jL_5_3_2 a b y0
  | [a, b, c], _ => jL_5_3_3 a b c y0
  | [a, b, c, d], _ => jL_5_3_4 a b c d y0
  | [a, b, c, d, e], h => absurd rfl h
  | [a, b, c, d, e, f], _ => jL_5_3_6 a b c d e f y0
  | a :: b :: c :: d :: e :: f :: g :: r, _ => jL_5_3_7 a b c d e f g r y0
theorem jLo_5_4 : noPair (jr 5 4 [⟨true, vx (6 * 4 + 1), .c (-1000000000), true⟩] (.slice (ints (rowZ 5 4))) []) = true := by (show _ = _; kernel_rfl)
theorem jHi_5_4 : noPair (jr 5 4 [⟨true, .c 1000000000, vx (6 * 4 + 1), true⟩, ⟨true, vx (6 * 4 + 1), .c (-1000000000), false⟩] (.slice (ints (rowZ 5 4))) []) = true := by (show _ = _; kernel_rfl)
theorem jL_5_4_0 : noPair (jr 5 4 [] (patL []) []) = true := by (show _ = _; kernel_rfl)
theorem jL_5_4_1 (a : Int) : noPair (jr 5 4 [] (patL [a]) []) = true := by (show _ = _; kernel_rfl)
theorem jL_5_4_2 (a : Int) (b : Int) : noPair (jr 5 4 [] (patL [a, b]) []) = true := by (show _ = _; kernel_rfl)
theorem jL_5_4_3 (a : Int) (b : Int) (c : Int) : noPair (jr 5 4 [] (patL [a, b, c]) []) = true := by (show _ = _; kernel_rfl)
theorem jL_5_4_4 (a : Int) (b : Int) (c : Int) (d : Int) : noPair (jr 5 4 [] (patL [a, b, c, d]) []) = true := by (show _ = _; kernel_rfl)
theorem jL_5_4_6 (a : Int) (b : Int) (c : Int) (d : Int) (e : Int) (f : Int) : noPair (jr 5 4 [] (patL [a, b, c, d, e, f]) []) = true := by (show _ = _; kernel_rfl)
theorem jL_5_4_7 (a : Int) (b : Int) (c : Int) (d : Int) (e : Int) (f : Int) (g : Int) (r : List Int) : noPair (jr 5 4 [] (patL (a :: b :: c :: d :: e :: f :: g :: r)) []) = true := by (show _ = _; kernel_rfl)
theorem jLen_5_4 : ∀ zs : List Int, zs.length ≠ 5 → noPair (jr 5 4 [] (patL zs) []) = true
  | [], _ => jL_5_4_0 
  | [a], _ => jL_5_4_1 a
  | [a, b], _ => jL_5_4_2 a b
  | [a, b, c], _ => jL_5_4_3 a b c
  | [a, b, c, d], _ => jL_5_4_4 a b c d
  | [a, b, c, d, e], h => absurd rfl h
  | [a, b, c, d, e, f], _ => jL_5_4_6 a b c d e f
  | a :: b :: c :: d :: e :: f :: g :: r, _ => jL_5_4_7 a b c d e f g r
theorem jLo_6_0 (y0 : V Sy) (y1 : V Sy) (y2 : V Sy) (y3 : V Sy) (y4 : V Sy) : noPair (jr 6 0 [⟨true, vx (6 * 0 + 1), .c (-1000000000), true⟩] (.slice (ints (rowZ 6 0))) [y0, y1, y2, y3, y4]) = true := by (show _ = _; kernel_rfl)
theorem jHi_6_0 (y0 : V Sy) (y1 : V Sy) (y2 : V Sy) (y3 : V Sy) (y4 : V Sy) : noPair (jr 6 0 [⟨true, .c 1000000000, vx (6 * 0 + 1), true⟩, ⟨true, vx (6 * 0 + 1), .c (-1000000000), false⟩] (.slice (ints (rowZ 6 0))) [y0, y1, y2, y3, y4]) = true := by (show _ = _; kernel_rfl)
theorem jL_6_0_0 (y0 : V Sy) (y1 : V Sy) (y2 : V Sy) (y3 : V Sy) (y4 : V Sy) : noPair (jr 6 0 [] (patL []) [y0, y1, y2, y3, y4]) = true := by (show _ = _; kernel_rfl)
theorem jL_6_0_1 (a : Int) (y0 : V Sy) (y1 : V Sy) (y2 : V Sy) (y3 : V Sy) (y4 : V Sy) : noPair (jr 6 0 [] (patL [a]) [y0, y1, y2, y3, y4]) = true := by (show _ = _; kernel_rfl)
theorem jL_6_0_2 (a : Int) (b : Int) (y0 : V Sy) (y1 : V Sy) (y2 : V Sy) (y3 : V Sy) (y4 : V Sy) : noPair (jr 6 0 [] (patL [a, b]) [y0, y1, y2, y3, y4]) = true := by (show _ = _; kernel_rfl)
theorem jL_6_0_3 (a : Int) (b : Int) (c : Int) (y0 : V Sy) (y1 : V Sy) (y2 : V Sy) (y3 : V Sy) (y4 : V Sy) : noPair (jr 6 0 [] (patL [a, b, c]) [y0, y1, y2, y3, y4]) = true := by (show _ = _; kernel_rfl)
theorem jL_6_0_4 (a : Int) (b : Int) (c : Int) (d : Int) (y0 : V Sy) (y1 : V Sy) (y2 : V Sy) (y3 : V Sy) (y4 : V Sy) : noPair (jr 6 0 [] (patL [a, b, c, d]) [y0, y1, y2, y3, y4]) = true := by (show _ = _; kernel_rfl)
theorem jL_6_0_5 (a : Int) (b : Int) (c : Int) (d : Int) (e : Int) (y0 : V Sy) (y1 : V Sy) (y2 : V Sy) (y3 : V Sy) (y4 : V Sy) : noPair (jr 6 0 [] (patL [a, b, c, d, e]) [y0, y1, y2, y3, y4]) = true := by (show _ = _; kernel_rfl)
theorem jL_6_0_7 (a : Int) (b : Int) (c : Int) (d : Int) (e : Int) (f : Int) (g : Int) (r : List Int) (y0 : V Sy) (y1 : V Sy) (y2 : V Sy) (y3 : V Sy) (y4 : V Sy) : noPair (jr 6 0 [] (patL (a :: b :: c :: d :: e :: f :: g :: r)) [y0, y1, y2, y3, y4]) = true := by (show _ = _; kernel_rfl)
theorem jLen_6_0 (y0 : V Sy) (y1 : V Sy) (y2 : V Sy) (y3 : V Sy) (y4 : V Sy) : ∀ zs : List Int, zs.length ≠ 6 → noPair (jr 6 0 [] (patL zs) [y0, y1, y2, y3, y4]) = true
  | [], _ => jL_6_0_0 y0 y1 y2 y3 y4
  | [a], _ => jL_6_0_1 a y0 y1 y2 y3 y4
  | [a, b], _ => jL_6_0_2 a b y0 y1 y2 y3 y4
  | [a, b, c], _ => jL_6_0_3 a b c y0 y1 y2 y3 y4
  | [a, b, c, d], _ => jL_6_0_4 a b c d y0 y1 y2 y3 y4
  | [a, b, c, d, e], _ => jL_6_0_5 a b c d e y0 y1 y2 y3 y4
  | [a, b, c, d, e, f], h => absurd rfl h
  | a :: b :: c :: d :: e :: f :: g :: r, _ => jL_6_0_7 a b c d e f g r y0 y1 y2 y3 y4
theorem jLo_6_1 (y0 : V Sy) (y1 : V Sy) (y2 : V Sy) (y3 : V Sy) : noPair (jr 6 1 [⟨true, vx (6 * 1 + 1), .c (-1000000000), true⟩] (.slice (ints (rowZ 6 1))) [y0, y1, y2, y3]) = true := by (show _ = _; kernel_rfl)
theorem jHi_6_1 (y0 : V Sy) (y1 : V Sy) (y2 : V Sy) (y3 : V Sy) : noPair (jr 6 1 [⟨true, .c 1000000000, vx (6 * 1 + 1), true⟩, ⟨true, vx (6 * 1 + 1), .c (-1000000000), false⟩] (.slice (ints (rowZ 6 1))) [y0, y1, y2, y3]) = true := by (show _ = _; kernel_rfl)
theorem jL_6_1_0 (y0 : V Sy) (y1 : V Sy) (y2 : V Sy) (y3 : V Sy) : noPair (jr 6 1 [] (patL []) [y0, y1, y2, y3]) = true := by (show _ = _; kernel_rfl)
theorem jL_6_1_1 (a : Int) (y0 : V Sy) (y1 : V Sy) (y2 : V Sy) (y3 : V Sy) : noPair (jr 6 1 [] (patL [a]) [y0, y1, y2, y3]) = true := by (show _ = _; kernel_rfl)
theorem jL_6_1_2 (a : Int) (b : Int) (y0 : V Sy) (y1 : V Sy) (y2 : V Sy) (y3 : V Sy) : noPair (jr 6 1 [] (patL [a, b]) [y0, y1, y2, y3]) = true := by (show _ = _; kernel_rfl)
theorem jL_6_1_3 (a : Int) (b : Int) (c : Int) (y0 : V Sy) (y1 : V Sy) (y2 : V Sy) (y3 : V Sy) : noPair (jr 6 1 [] (patL [a, b, c]) [y0, y1, y2, y3]) = true := by (show _ = _; kernel_rfl)
theorem jL_6_1_4 (a : Int) (b : Int) (c : Int) (d : Int) (y0 : V Sy) (y1 : V Sy) (y2 : V Sy) (y3 : V Sy) : noPair (jr 6 1 [] (patL [a, b, c, d]) [y0, y1, y2, y3]) = true := by (show _ = _; kernel_rfl)
theorem jL_6_1_5 (a : Int) (b : Int) (c : Int) (d : Int) (e : Int) (y0 : V Sy) (y1 : V Sy) (y2 : V Sy) (y3 : V Sy) : noPair (jr 6 1 [] (patL [a, b, c, d, e]) [y0, y1, y2, y3]) = true := by (show _ = _; kernel_rfl)
theorem jL_6_1_7 (a : Int) (b : Int) (c : Int) (d : Int) (e : Int) (f : Int) (g : Int) (r : List Int) (y0 : V Sy) (y1 : V Sy) (y2 : V Sy) (y3 : V Sy) : noPair (jr 6 1 [] (patL (a :: b :: c :: d :: e :: f :: g :: r)) [y0, y1, y2, y3]) = true := by (show _ = _; kernel_rfl)
theorem jLen_6_1 (y0 : V Sy) (y1 : V Sy) (y2 : V Sy) (y3 : V Sy) : ∀ zs : List Int, zs.length ≠ 6 → noPair (jr 6 1 [] (patL zs) [y0, y1, y2, y3]) = true
  | [], _ => jL_6_1_0 y0 y1 y2 y3
  | [a], _ => jL_6_1_1 a y0 y1 y2 y3
  | [a, b], _ => jL_6_1_2 a b y0 y1 y2 y3
  | [a, b, c], _ => jL_6_1_3 a b c y0 y1 y2 y3
  | [a, b, c, d], _ => jL_6_1_4 a b c d y0 y1 y2 y3
  | [a, b, c, d, e], _ => jL_6_1_5 a b c d e y0 y1 y2 y3
  | [a, b, c, d, e, f], h => absurd rfl h
  | a :: b :: c :: d :: e :: f :: g :: r, _ => jL_6_1_7 a b c d e f g r y0 y1 y2 y3
theorem jLo_6_2 (y0 : V Sy) (y1 : V Sy) (y2 : V Sy) : noPair (jr 6 2 [⟨true, vx (6 * 2 + 1), .c (-1000000000), true⟩] (.slice (ints (rowZ 6 2))) [y0, y1, y2]) = true := by (show _ = _; kernel_rfl)
theorem jHi_6_2 (y0 : V Sy) (y1 : V Sy) (y2 : V Sy) : noPair (jr 6 2 [⟨true, .c 1000000000, vx (6 * 2 + 1), true⟩, ⟨true, vx (6 * 2 + 1), .c (-1000000000), false⟩] (.slice (ints (rowZ 6 2))) [y0, y1, y2]) = true := by (show _ = _; kernel_rfl)
theorem jL_6_2_0 (y0 : V Sy) (y1 : V Sy) (y2 : V Sy) : noPair (jr 6 2 [] (patL []) [y0, y1, y2]) = true := by (show _ = _; kernel_rfl)
theorem jL_6_2_1 (a : Int) (y0 : V Sy) (y1 : V Sy) (y2 : V Sy) : noPair (jr 6 2 [] (patL [a]) [y0, y1, y2]) = true := by (show _ = _; kernel_rfl)
theorem jL_6_2_2 (a : Int) (b : Int) (y0 : V Sy) (y1 : V Sy) (y2 : V Sy) : noPair (jr 6 2 [] (patL [a, b]) [y0, y1, y2]) = true := by (show _ = _; kernel_rfl)
theorem jL_6_2_3 (a : Int) (b : Int) (c : Int) (y0 : V Sy) (y1 : V Sy) (y2 : V Sy) : noPair (jr 6 2 [] (patL [a, b, c]) [y0, y1, y2]) = true := by (show _ = _; kernel_rfl)
theorem jL_6_2_4 (a : Int) (b : Int) (c : Int) (d : Int) (y0 : V Sy) (y1 : V Sy) (y2 : V Sy) : noPair (jr 6 2 [] (patL [a, b, c, d]) [y0, y1, y2]) = true := by (show _ = _; kernel_rfl)
theorem jL_6_2_5 (a : Int) (b : Int) (c : Int) (d : Int) (e : Int) (y0 : V Sy) (y1 : V Sy) (y2 : V Sy) : noPair (jr 6 2 [] (patL [a, b, c, d, e]) [y0, y1, y2]) = true := by (show _ = _; kernel_rfl)
theorem jL_6_2_7 (a : Int) (b : Int) (c : Int) (d : Int) (e : Int) (f : Int) (g : Int) (r : List Int) (y0 : V Sy) (y1 : V Sy) (y2 : V Sy) : noPair (jr 6 2 [] (patL (a :: b :: c :: d :: e :: f :: g :: r)) [y0, y1, y2]) = true := by (show _ = _; kernel_rfl)
theorem jLen_6_2 (y0 : V Sy) (y1 : V Sy) (y2 : V Sy) : ∀ zs : List Int, zs.length ≠ 6 → noPair (jr 6 2 [] (patL zs) [y0, y1, y2]) = true
  | [], _ => jL_6_2_0 y0 y1 y2
  | [a], _ => jL_6_2_1 a y0 y1 y2
  | [a, b], _ => jL_6_2_2 a b y0 y1 y2
  | [a, b, c], _ => jL_6_2_3 a b c y0 y1 y2
  | [a, b, c, d], _ => jL_6_2_4 a b c d y0 y1 y2
  | [a, b, c, d, e], _ => jL_6_2_5 a b c d e y0 y1 y2
  | [a, b, c, d, e, f], h => absurd rfl h
  | a :: b :: c :: d :: e :: f :: g :: r, _ => jL_6_2_7 a b c d e f g r y0 y1 y2
theorem jLo_6_3 (y0 : V Sy) (y1 : V Sy) : noPair (jr 6 3 [⟨true, vx (6 * 3 + 1), .c (-1000000000), true⟩] (.slice (ints (rowZ 6 3))) [y0, y1]) = true := by (show _ = _; kernel_rfl)
theorem jHi_6_3 (y0 : V Sy) (y1 : V Sy) : noPair (jr 6 3 [⟨true, .c 1000000000, vx (6 * 3 + 1), true⟩, ⟨true, vx (6 * 3 + 1), .c (-1000000000), false⟩] (.slice (ints (rowZ 6 3))) [y0, y1]) = true := by (show _ = _; kernel_rfl)
theorem jL_6_3_0 (y0 : V Sy) (y1 : V Sy) : noPair (jr 6 3 [] (patL []) [y0, y1]) = true := by (show _ = _; kernel_rfl)
theorem jL_6_3_1 (a : Int) (y0 : V Sy) (y1 : V Sy) : noPair (jr 6 3 [] (patL [a]) [y0, y1]) = true := by (show _ = _; kernel_rfl)
theorem jL_6_3_2 (a : Int) (b : Int) (y0 : V Sy) (y1 : V Sy) : noPair (jr 6 3 [] (patL [a, b]) [y0, y1]) = true := by (show _ = _; kernel_rfl)
theorem jL_6_3_3 (a : Int) (b : Int) (c : Int) (y0 : V Sy) (y1 : V Sy) : noPair (jr 6 3 [] (patL [a, b, c]) [y0, y1]) = true := by (show _ = _; kernel_rfl)
theorem jL_6_3_4 (a : Int) (b : Int) (c : Int) (d : Int) (y0 : V Sy) (y1 : V Sy) : noPair (jr 6 3 [] (patL [a, b, c, d]) [y0, y1]) = true := by (show _ = _; kernel_rfl)
theorem jL_6_3_5 (a : Int) (b : Int) (c : Int) (d : Int) (e : Int) (y0 : V Sy) (y1 : V Sy) : noPair (jr 6 3 [] (patL [a, b, c, d, e]) [y0, y1]) = true := by (show _ = _; kernel_rfl)
theorem jL_6_3_7 (a : Int) (b : Int) (c : Int) (d : Int) (e : Int) (f : Int) (g : Int) (r : List Int) (y0 : V Sy) (y1 : V Sy) : noPair (jr 6 3 [] (patL (a :: b :: c :: d :: e :: f :: g :: r)) [y0, y1]) = true := by (show _ = _; kernel_rfl)
theorem jLen_6_3 (y0 : V Sy) (y1 : V Sy) : ∀ zs : List Int, zs.length ≠ 6 → noPair (jr 6 3 [] (patL zs) [y0, y1]) = true
  | [], _ => jL_6_3_0 y0 y1
  | [a], _ => jL_6_3_1 a y0 y1
  | [a, b], _ => jL_6_3_2 a b y0 y1
  | [a, b, c], _ => jL_6_3_3 a b c y0 y1
  | [a, b, c, d], _ => jL_6_3_4 a b c d y0 y1
  | [a, b, c, d, e], _ => jL_6_3_5 a b c d e y0 y1
  | [a, b, c, d, e, f], h => absurd rfl h
  | a :: b :: c :: d :: e :: f :: g :: r, _ => jL_6_3_7 a b c d e f g r y0 y1
theorem jLo_6_4 (y0 : V Sy) : noPair (jr 6 4 [⟨true, vx (6 * 4 + 1), .c (-1000000000), true⟩] (.slice (ints (rowZ 6 4))) [y0]) = true := by (show _ = _; kernel_rfl)
theorem jHi_6_4 (y0 : V Sy) : noPair (jr 6 4 [⟨true, .c 1000000000, vx (6 * 4 + 1), true⟩, ⟨true, vx (6 * 4 + 1), .c (-1000000000), false⟩] (.slice (ints (rowZ 6 4))) [y0]) = true := by (show _ = _; kernel_rfl)
theorem jL_6_4_0 (y0 : V Sy) : noPair (jr 6 4 [] (patL []) [y0]) = true := by (show _ = _; kernel_rfl)
theorem jL_6_4_1 (a : Int) (y0 : V Sy) : noPair (jr 6 4 [] (patL [a]) [y0]) = true := by (show _ = _; kernel_rfl)
theorem jL_6_4_2 (a : Int) (b : Int) (y0 : V Sy) : noPair (jr 6 4 [] (patL [a, b]) [y0]) = true := by (show _ = _; kernel_rfl)
theorem jL_6_4_3 (a : Int) (b : Int) (c : Int) (y0 : V Sy) : noPair (jr 6 4 [] (patL [a, b, c]) [y0]) = true := by (show _ = _; kernel_rfl)
theorem jL_6_4_4 (a : Int) (b : Int) (c : Int) (d : Int) (y0 : V Sy) : noPair (jr 6 4 [] (patL [a, b, c, d]) [y0]) = true := by (show _ = _; kernel_rfl)
theorem jL_6_4_5 (a : Int) (b : Int) (c : Int) (d : Int) (e : Int) (y0 : V Sy) : noPair (jr 6 4 [] (patL [a, b, c, d, e]) [y0]) = true := by (show _ = _; kernel_rfl)
theorem jL_6_4_7 (a : Int) (b : Int) (c : Int) (d : Int) (e : Int) (f : Int) (g : Int) (r : List Int) (y0 : V Sy) : noPair (jr 6 4 [] (patL (a :: b :: c :: d :: e :: f :: g :: r)) [y0]) = true := by (show _ = _; kernel_rfl)
theorem jLen_6_4 (y0 : V Sy) : ∀ zs : List Int, zs.length ≠ 6 → noPair (jr 6 4 [] (patL zs) [y0]) = true
  | [], _ => jL_6_4_0 y0
  | [a], _ => jL_6_4_1 a y0
  | [a, b], _ => jL_6_4_2 a b y0
  | [a, b, c], _ => jL_6_4_3 a b c y0
  | [a, b, c, d], _ => jL_6_4_4 a b c d y0
  | [a, b, c, d, e], _ => jL_6_4_5 a b c d e y0
  | [a, b, c, d, e, f], h => absurd rfl h
  | a :: b :: c :: d :: e :: f :: g :: r, _ => jL_6_4_7 a b c d e f g r y0
theorem jLo_6_5 : noPair (jr 6 5 [⟨true, vx (6 * 5 + 1), .c (-1000000000), true⟩] (.slice (ints (rowZ 6 5))) []) = true := by (show _ = _; kernel_rfl)
theorem jHi_6_5 : noPair (jr 6 5 [⟨true, .c 1000000000, vx (6 * 5 + 1), true⟩, ⟨true, vx (6 * 5 + 1), .c (-1000000000), false⟩] (.slice (ints (rowZ 6 5))) []) = true := by (show _ = _; kernel_rfl)
theorem jL_6_5_0 : noPair (jr 6 5 [] (patL []) []) = true := by (show _ = _; kernel_rfl)
theorem jL_6_5_1 (a : Int) : noPair (jr 6 5 [] (patL [a]) []) = true := by (show _ = _; kernel_rfl)
theorem jL_6_5_2 (a : Int) (b : Int) : noPair (jr 6 5 [] (patL [a, b]) []) = true := by (show _ = _; kernel_rfl)
theorem jL_6_5_3 (a : Int) (b : Int) (c : Int) : noPair (jr 6 5 [] (patL [a, b, c]) []) = true := by (show _ = _; kernel_rfl)
theorem jL_6_5_4 (a : Int) (b : Int) (c : Int) (d : Int) : noPair (jr 6 5 [] (patL [a, b, c, d]) []) = true := by (show _ = _; kernel_rfl)
theorem jL_6_5_5 (a : Int) (b : Int) (c : Int) (d : Int) (e : Int) : noPair (jr 6 5 [] (patL [a, b, c, d, e]) []) = true := by (show _ = _; kernel_rfl)
theorem jL_6_5_7 (a : Int) (b : Int) (c : Int) (d : Int) (e : Int) (f : Int) (g : Int) (r : List Int) : noPair (jr 6 5 [] (patL (a :: b :: c :: d :: e :: f :: g :: r)) []) = true := by (show _ = _; kernel_rfl)
theorem jLen_6_5 : ∀ zs : List Int, zs.length ≠ 6 → noPair (jr 6 5 [] (patL zs) []) = true
  | [], _ => jL_6_5_0 
  | [a], _ => jL_6_5_1 a
  | [a, b], _ => jL_6_5_2 a b
  | [a, b, c], _ => jL_6_5_3 a b c
  | [a, b, c, d], _ => jL_6_5_4 a b c d
  | [a, b, c, d, e], _ => jL_6_5_5 a b c d e
  | [a, b, c, d, e, f], h => absurd rfl h
  | a :: b :: c :: d :: e :: f :: g :: r, _ => jL_6_5_7 a b c d e f g r
theorem jLen_all {L n : Nat} (h1 : 2 ≤ L) (h6 : L ≤ 6) (hn : n < L) (ys : List (V Sy)) (hy : ys.length = L - 1 - n) (zs : List Int) (hz : zs.length ≠ L) : noPair (jr L n [] (patL zs) ys) = true := by
  have hL : L = 2 ∨ L = 3 ∨ L = 4 ∨ L = 5 ∨ L = 6 := by omega
  rcases hL with rfl | rfl | rfl | rfl | rfl
  · have hc : n = 0 ∨ n = 1 := by omega
    rcases hc with rfl | rfl
    · match ys, hy with
      | [y0], _ => exact jLen_2_0 y0 zs hz
    · match ys, hy with
      | [], _ => exact jLen_2_1  zs hz
  · have hc : n = 0 ∨ n = 1 ∨ n = 2 := by omega
    rcases hc with rfl | rfl | rfl
    · match ys, hy with
      | [y0, y1], _ => exact jLen_3_0 y0 y1 zs hz
    · match ys, hy with
      | [y0], _ => exact jLen_3_1 y0 zs hz
    · match ys, hy with
      | [], _ => exact jLen_3_2  zs hz
  · have hc : n = 0 ∨ n = 1 ∨ n = 2 ∨ n = 3 := by omega
    rcases hc with rfl | rfl | rfl | rfl
    · match ys, hy with
      | [y0, y1, y2], _ => exact jLen_4_0 y0 y1 y2 zs hz
    · match ys, hy with
      | [y0, y1], _ => exact jLen_4_1 y0 y1 zs hz
    · match ys, hy with
      | [y0], _ => exact jLen_4_2 y0 zs hz
    · match ys, hy with
      | [], _ => exact jLen_4_3  zs hz
  · have hc : n = 0 ∨ n = 1 ∨ n = 2 ∨ n = 3 ∨ n = 4 := by omega
    rcases hc with rfl | rfl | rfl | rfl | rfl
    · match ys, hy with
      | [y0, y1, y2, y3], _ => exact jLen_5_0 y0 y1 y2 y3 zs hz
    · match ys, hy with
      | [y0, y1, y2], _ => exact jLen_5_1 y0 y1 y2 zs hz
    · match ys, hy with
      | [y0, y1], _ => exact jLen_5_2 y0 y1 zs hz
    · match ys, hy with
      | [y0], _ => exact jLen_5_3 y0 zs hz
    · match ys, hy with
      | [], _ => exact jLen_5_4  zs hz
  · have hc : n = 0 ∨ n = 1 ∨ n = 2 ∨ n = 3 ∨ n = 4 ∨ n = 5 := by omega
    rcases hc with rfl | rfl | rfl | rfl | rfl | rfl
    · match ys, hy with
      | [y0, y1, y2, y3, y4], _ => exact jLen_6_0 y0 y1 y2 y3 y4 zs hz
    · match ys, hy with
      | [y0, y1, y2, y3], _ => exact jLen_6_1 y0 y1 y2 y3 zs hz
    · match ys, hy with
      | [y0, y1, y2], _ => exact jLen_6_2 y0 y1 y2 zs hz
    · match ys, hy with
      | [y0, y1], _ => exact jLen_6_3 y0 y1 zs hz
    · match ys, hy with
      | [y0], _ => exact jLen_6_4 y0 zs hz
    · match ys, hy with
      | [], _ => exact jLen_6_5  zs hz
theorem jLo_all {L n : Nat} (h1 : 2 ≤ L) (h6 : L ≤ 6) (hn : n < L) (ys : List (V Sy)) (hy : ys.length = L - 1 - n) : noPair (jr L n [⟨true, vx (6 * n + 1), .c (-1000000000), true⟩] (.slice (ints (rowZ L n))) ys) = true := by
  have hL : L = 2 ∨ L = 3 ∨ L = 4 ∨ L = 5 ∨ L = 6 := by omega
  rcases hL with rfl | rfl | rfl | rfl | rfl
  · have hc : n = 0 ∨ n = 1 := by omega
    rcases hc with rfl | rfl
    · match ys, hy with
      | [y0], _ => exact jLo_2_0 y0
    · match ys, hy with
      | [], _ => exact jLo_2_1 
  · have hc : n = 0 ∨ n = 1 ∨ n = 2 := by omega
    rcases hc with rfl | rfl | rfl
    · match ys, hy with
      | [y0, y1], _ => exact jLo_3_0 y0 y1
    · match ys, hy with
      | [y0], _ => exact jLo_3_1 y0
    · match ys, hy with
      | [], _ => exact jLo_3_2 
  · have hc : n = 0 ∨ n = 1 ∨ n = 2 ∨ n = 3 := by omega
    rcases hc with rfl | rfl | rfl | rfl
    · match ys, hy with
      | [y0, y1, y2], _ => exact jLo_4_0 y0 y1 y2
    · match ys, hy with
      | [y0, y1], _ => exact jLo_4_1 y0 y1
    · match ys, hy with
      | [y0], _ => exact jLo_4_2 y0
    · match ys, hy with
      | [], _ => exact jLo_4_3 
  · have hc : n = 0 ∨ n = 1 ∨ n = 2 ∨ n = 3 ∨ n = 4 := by omega
    rcases hc with rfl | rfl | rfl | rfl | rfl
    · match ys, hy with
      | [y0, y1, y2, y3], _ => exact jLo_5_0 y0 y1 y2 y3
    · match ys, hy with
      | [y0, y1, y2], _ => exact jLo_5_1 y0 y1 y2
    · match ys, hy with
      | [y0, y1], _ => exact jLo_5_2 y0 y1
    · match ys, hy with
      | [y0], _ => exact jLo_5_3 y0
    · match ys, hy with
      | [], _ => exact jLo_5_4 
  · have hc : n = 0 ∨ n = 1 ∨ n = 2 ∨ n = 3 ∨ n = 4 ∨ n = 5 := by omega
    rcases hc with rfl | rfl | rfl | rfl | rfl | rfl
    · match ys, hy with
      | [y0, y1, y2, y3, y4], _ => exact jLo_6_0 y0 y1 y2 y3 y4
    · match ys, hy with
      | [y0, y1, y2, y3], _ => exact jLo_6_1 y0 y1 y2 y3
    · match ys, hy with
      | [y0, y1, y2], _ => exact jLo_6_2 y0 y1 y2
    · match ys, hy with
      | [y0, y1], _ => exact jLo_6_3 y0 y1
    · match ys, hy with
      | [y0], _ => exact jLo_6_4 y0
    · match ys, hy with
      | [], _ => exact jLo_6_5 
theorem jHi_all {L n : Nat} (h1 : 2 ≤ L) (h6 : L ≤ 6) (hn : n < L) (ys : List (V Sy)) (hy : ys.length = L - 1 - n) : noPair (jr L n [⟨true, .c 1000000000, vx (6 * n + 1), true⟩, ⟨true, vx (6 * n + 1), .c (-1000000000), false⟩] (.slice (ints (rowZ L n))) ys) = true := by
  have hL : L = 2 ∨ L = 3 ∨ L = 4 ∨ L = 5 ∨ L = 6 := by omega
  rcases hL with rfl | rfl | rfl | rfl | rfl
  · have hc : n = 0 ∨ n = 1 := by omega
    rcases hc with rfl | rfl
    · match ys, hy with
      | [y0], _ => exact jHi_2_0 y0
    · match ys, hy with
      | [], _ => exact jHi_2_1 
  · have hc : n = 0 ∨ n = 1 ∨ n = 2 := by omega
    rcases hc with rfl | rfl | rfl
    · match ys, hy with
      | [y0, y1], _ => exact jHi_3_0 y0 y1
    · match ys, hy with
      | [y0], _ => exact jHi_3_1 y0
    · match ys, hy with
      | [], _ => exact jHi_3_2 
  · have hc : n = 0 ∨ n = 1 ∨ n = 2 ∨ n = 3 := by omega
    rcases hc with rfl | rfl | rfl | rfl
    · match ys, hy with
      | [y0, y1, y2], _ => exact jHi_4_0 y0 y1 y2
    · match ys, hy with
      | [y0, y1], _ => exact jHi_4_1 y0 y1
    · match ys, hy with
      | [y0], _ => exact jHi_4_2 y0
    · match ys, hy with
      | [], _ => exact jHi_4_3 
  · have hc : n = 0 ∨ n = 1 ∨ n = 2 ∨ n = 3 ∨ n = 4 := by omega
    rcases hc with rfl | rfl | rfl | rfl | rfl
    · match ys, hy with
      | [y0, y1, y2, y3], _ => exact jHi_5_0 y0 y1 y2 y3
    · match ys, hy with
      | [y0, y1, y2], _ => exact jHi_5_1 y0 y1 y2
    · match ys, hy with
      | [y0, y1], _ => exact jHi_5_2 y0 y1
    · match ys, hy with
      | [y0], _ => exact jHi_5_3 y0
    · match ys, hy with
      | [], _ => exact jHi_5_4 
  · have hc : n = 0 ∨ n = 1 ∨ n = 2 ∨ n = 3 ∨ n = 4 ∨ n = 5 := by omega
    rcases hc with rfl | rfl | rfl | rfl | rfl | rfl
    · match ys, hy with
      | [y0, y1, y2, y3, y4], _ => exact jHi_6_0 y0 y1 y2 y3 y4
    · match ys, hy with
      | [y0, y1, y2, y3], _ => exact jHi_6_1 y0 y1 y2 y3
    · match ys, hy with
      | [y0, y1, y2], _ => exact jHi_6_2 y0 y1 y2
    · match ys, hy with
      | [y0, y1], _ => exact jHi_6_3 y0 y1
    · match ys, hy with
      | [y0], _ => exact jHi_6_4 y0
    · match ys, hy with
      | [], _ => exact jHi_6_5 
end Go.Proofs.Ytpjenggjcpahaaa.Pr

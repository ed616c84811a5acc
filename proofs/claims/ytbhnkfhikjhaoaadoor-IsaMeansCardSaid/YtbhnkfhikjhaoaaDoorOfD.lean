/-
  The contract of Of of package isa: a word, read, by its bits.
-/
import Derived.Test.YtbhnkfhikjhaoaaDoorIsaA
namespace Go.Proofs.YtbhnkfhikjhaoaaDoor
open Go.ChangeShapes Go.WideShapes Go.ChangeAt Go.RowKit
set_option linter.unusedVariables false

/-- a word, read: the instruction, and whether it is odd -/
def dec (x : Int) : Ins × Bool :=
  if tk x 2 = 0 then (of0 x, odd0 x) else if tk x 2 = 1 then (of1 x, odd1 x) else if tk x 2 = 2 then (of2 x, false)
  else if tk (rst x 2) 1 = 1 then (of4 x, false) else if tk (rst (rst x 2) 1) 1 = 1 ∧ x % 16 = 12 then (of6 x, odd6 x) else (of5 x, odd5 x)
theorem of_any (x : Int) (x0 : 0 ≤ x) (x1 : x ≤ 4294967295) (w : World) : Calls Tryd.prog 5 #[.int .u32 x] w (OfIs (dec x).1 (dec x).2 w) := by
  have h4 := tk_bd x 2 (by omega) x0 x1
  by_cases h0 : tk x 2 = 0
  · simpa only [dec, if_pos h0] using of_0 x x0 x1 h0 w
  · by_cases h1 : tk x 2 = 1
    · simpa only [dec, if_neg h0, if_pos h1] using of_1 x x0 x1 h1 w
    · by_cases h2 : tk x 2 = 2
      · simpa only [dec, if_neg h0, if_neg h1, if_pos h2] using of_2 x x0 x1 h2 w
      · have h3 : tk x 2 = 3 := by omega
        by_cases h5 : tk (rst x 2) 1 = 1
        · simpa only [dec, if_neg h0, if_neg h1, if_neg h2, if_pos h5] using of_4 x x0 x1 h3 h5 w
        · by_cases h6 : tk (rst (rst x 2) 1) 1 = 1 ∧ x % 16 = 12
          · simpa only [dec, if_neg h0, if_neg h1, if_neg h2, if_neg h5, if_pos h6] using of_6 x x0 x1 h3 h5 h6.1 h6.2 w
          · simpa only [dec, if_neg h0, if_neg h1, if_neg h2, if_neg h5, if_neg h6] using of_5 x x0 x1 h3 h5 (by omega) w
theorem of_fine (x : Int) (i : Ins) (x0 : 0 ≤ x) (x1 : x ≤ 4294967295) (h : dec x = (i, false)) (w : World) : Calls Tryd.prog 5 #[.int .u32 x] w fun e w' => e = .returned (.tuple #[insV i, .int .i64 0]) ∧ Below w.heap.size w w' := by
  have := of_any x x0 x1 w
  rw [h] at this
  exact this
theorem of_odd (x : Int) (x0 : 0 ≤ x) (x1 : x ≤ 4294967295) (h : (dec x).2 = true) (w : World) : Calls Tryd.prog 5 #[.int .u32 x] w fun e w' => e = .returned (.tuple #[insV ins0, .int .i64 4]) ∧ Below w.heap.size w w' := by
  have := of_any x x0 x1 w
  rw [h] at this
  exact this
end Go.Proofs.YtbhnkfhikjhaoaaDoor

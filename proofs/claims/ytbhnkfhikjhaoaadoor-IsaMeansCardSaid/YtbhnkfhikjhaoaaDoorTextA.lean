/-
  The contracts of word's and the reference's functions on texts.
-/
import Derived.Test.YtbhnkfhikjhaoaaDoorWordR
import Derived.Test.YtbhnkfhikjhaoaaDoorText
import Derived.Test.YtbhnkfhikjhaoaaDoorShelf

namespace Go.Proofs.YtbhnkfhikjhaoaaDoor
open Go.ChangeShapes Go.WideShapes Go.ChangeAt Go.RowKit
set_option linter.unusedVariables false

theorem dec_any (a : Int) (w : World) (hT : Tab w) : Calls Tryd.prog 24 #[.int .u32 a] w fun e w' => e = .returned (.string (itoaB (wrap32 a))) ∧ Below w.heap.size w w' := by
  have ha := wrap32_bd a
  have H := Lib.hid hT
  clear hT
  go_enter Tryd.func24, Tryd.ntmps24
  go_wp2_with (go_at_call 21; refine (Tryd.strconv_Itoa _ (by omega) (by omega) _ H.out).mono ?_; rintro e w' ⟨rfl, k, os, rfl⟩)
  go_ret
  exact ⟨rfl, grow_below _ _ _⟩
end Go.Proofs.YtbhnkfhikjhaoaaDoor

/-
  The contracts of word's and the reference's functions on texts.
-/
import Derived.Test.YtlodoilihminaaaGreatDoorWordR
import Derived.Test.YtlodoilihminaaaGreatDoorText
import Derived.Test.YtlodoilihminaaaGreatDoorShelf

namespace Go.Proofs.YtlodoilihminaaaGreatDoor
open Go.ChangeShapes Go.WideShapes Go.ChangeAt Go.RowKit
set_option linter.unusedVariables false

theorem dec_any (a : Int) (w : World) (hT : Tab w) : Calls Tryz.prog 70 #[.int .u32 a] w fun e w' => e = .returned (.string (itoaB (wrap32 a))) ∧ Below w.heap.size w w' := by
  have ha := wrap32_bd a
  have H := Lib.hid hT
  clear hT
  go_enter Tryz.func70, Tryz.ntmps70
  go_wp2_with (go_at_call 41; refine (Tryz.strconv_Itoa _ (by omega) (by omega) _ H.out).mono ?_; rintro e w' ⟨rfl, k, os, rfl⟩)
  go_ret
  exact ⟨rfl, grow_below _ _ _⟩
end Go.Proofs.YtlodoilihminaaaGreatDoor

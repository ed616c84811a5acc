/-
  The law's chapter's rows, of layer 7; object.File.
-/
import Derived.Test.YtekipbfafofkdaaObN
import Derived.Test.YtekipbfafofkdaaEvD
namespace Go.Proofs.Ytekipbfafofkdaa
open Go.ChangeShapes Go.WideShapes Go.ChangeAt Go.RowKit
set_option linter.unusedVariables false
set_option maxRecDepth 1000000 in
theorem known7_any (w : World) : Calls Try.prog 6 #[] w fun e w' => e = .returned (.bool true) ∧ Below w.heap.size w w' :=
  Ev.closed_true 1000 30 (by kernel_rfl) w
theorem ofile_any (s : ByteArray) (hs : s.size ≤ 1000) (w : World) : Calls Try.prog 9 #[.string s] w fun e w' => e = .returned (.string (s ++ ⟨#[46, 111]⟩)) ∧ w = w' := by
  go_enter Try.func9, Try.ntmps9
  go_wp2_with fail
  go_ret
  exact ⟨rfl, rfl⟩
end Go.Proofs.Ytekipbfafofkdaa

/-
  The chapter's rows of layer 12 hold: the law's own 'known', reckoned by the kernel.
-/
import Derived.Test.YtckomckdefcebaaEvD
import Derived.Test.YtckomckdefcebaaRows
import Derived.KernelRfl
import Derived.Test.YtckomckdefcebaaBase
namespace Go.Proofs.Ytckomckdefcebaa
open Go.ChangeShapes Go.WideShapes Go.ChangeAt Go.RowKit
set_option linter.unusedVariables false
theorem known12_any (w : World) : Calls Try.prog 7 #[] w fun e w' => e = .returned (.bool true) ∧ Below w.heap.size w w' :=
  Ev.closed_true 1000 30 (by kernel_rfl) w
end Go.Proofs.Ytckomckdefcebaa

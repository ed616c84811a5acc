/-
  The chapter's rows of layer 9 hold: the law's own helper, reckoned by the kernel.
-/
import Derived.Test.YtboobjlbjmlboaaRows
import Derived.Test.YtboobjlbjmlboaaEvD
import Derived.WalkKit
import Derived.ProofKit
import Derived.OpenShut
import Derived.KernelRfl
namespace Go.Proofs.Ytboobjlbjmlboaa
open Go.ChangeShapes Go.WideShapes Go.ChangeAt Go.RowKit
set_option linter.unusedVariables false
set_option maxRecDepth 1000000 in
theorem known9_any (w : World) : Calls Try.prog 8 #[] w fun e w' => e = .returned (.bool true) ∧ Below w.heap.size w w' :=
  Ev.closed_true 1000 40 (by kernel_rfl) w
end Go.Proofs.Ytboobjlbjmlboaa

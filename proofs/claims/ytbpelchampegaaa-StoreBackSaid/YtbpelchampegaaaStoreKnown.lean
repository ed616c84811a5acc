/-
  The chapter's rows of layer 2 hold, and a store that is not there answers as it must: the law's own helpers, reckoned by the kernel.
-/
import Derived.Test.YtbpelchampegaaaRows
import Derived.Test.YtbpelchampegaaaEvD
import Derived.WalkKit
import Derived.ProofKit
import Derived.OpenShut
import Derived.KernelRfl
namespace Go.Proofs.Ytbpelchampegaaa
open Go.ChangeShapes Go.WideShapes Go.ChangeAt Go.RowKit
set_option linter.unusedVariables false
set_option maxRecDepth 1000000 in
theorem known2_any (w : World) : Calls Try.prog 6 #[] w fun e w' => e = .returned (.bool true) ∧ Below w.heap.size w w' :=
  Ev.closed_true 1000 30 (by kernel_rfl) w
end Go.Proofs.Ytbpelchampegaaa

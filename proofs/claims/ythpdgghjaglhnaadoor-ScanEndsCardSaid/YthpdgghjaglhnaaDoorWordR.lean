/-
  The contracts of the reference's functions on numbers (selfsameref01).
-/
import Derived.Test.YthpdgghjaglhnaaDoorWordA

namespace Go.Proofs.YthpdgghjaglhnaaDoor
open Go.ChangeShapes Go.WideShapes Go.ChangeAt Go.RowKit
set_option linter.unusedVariables false

end Go.Proofs.YthpdgghjaglhnaaDoor

/-
  The contracts of the reference's functions on numbers (selfsameref01).
-/
import Derived.Test.YtkeehdaeanmiiaaWordA

namespace Go.Proofs.Ytkeehdaeanmiiaa
open Go.ChangeShapes Go.WideShapes Go.ChangeAt Go.RowKit
set_option linter.unusedVariables false

end Go.Proofs.Ytkeehdaeanmiiaa

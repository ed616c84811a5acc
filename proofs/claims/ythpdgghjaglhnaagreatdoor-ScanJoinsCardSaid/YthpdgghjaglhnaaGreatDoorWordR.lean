/-
  The contracts of the reference's functions on numbers (selfsameref01).
-/
import Derived.Test.YthpdgghjaglhnaaGreatDoorWordA

namespace Go.Proofs.YthpdgghjaglhnaaGreatDoor
open Go.ChangeShapes Go.WideShapes Go.ChangeAt Go.RowKit
set_option linter.unusedVariables false

end Go.Proofs.YthpdgghjaglhnaaGreatDoor

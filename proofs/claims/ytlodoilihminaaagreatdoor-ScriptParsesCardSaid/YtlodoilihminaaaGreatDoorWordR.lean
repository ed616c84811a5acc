/-
  The contracts of the reference's functions on numbers (selfsameref01).
-/
import Derived.Test.YtlodoilihminaaaGreatDoorWordA

namespace Go.Proofs.YtlodoilihminaaaGreatDoor
open Go.ChangeShapes Go.WideShapes Go.ChangeAt Go.RowKit
set_option linter.unusedVariables false

end Go.Proofs.YtlodoilihminaaaGreatDoor

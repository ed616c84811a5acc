/-
  ref25.EndText: how an end is told.
-/
import Derived.Test.YtlodoilihminaaaGreatDoorScrQ
namespace Go.Proofs.YtlodoilihminaaaGreatDoor
open Go.ChangeShapes Go.WideShapes Go.ChangeAt Go.RowKit
set_option linter.unusedVariables false
set_option linter.unusedSimpArgs false
end Go.Proofs.YtlodoilihminaaaGreatDoor

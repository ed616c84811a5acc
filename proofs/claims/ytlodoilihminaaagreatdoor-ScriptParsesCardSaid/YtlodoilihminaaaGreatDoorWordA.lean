/-
  The contracts of package word's functions on numbers.
-/
import Derived.Test.YtlodoilihminaaaGreatDoorWordN
import Derived.Deep.QuietTactic
import Derived.BigQuiet
namespace Go.Proofs.YtlodoilihminaaaGreatDoor
open Go.ChangeShapes Go.WideShapes Go.ChangeAt Go.RowKit
set_option linter.unusedVariables false

end Go.Proofs.YtlodoilihminaaaGreatDoor

/-
  The contracts of package word's functions on numbers.
-/
import Derived.Test.YtlodoilihminaaaDoorWordN
import Derived.Deep.QuietTactic
import Derived.BigQuiet
namespace Go.Proofs.YtlodoilihminaaaDoor
open Go.ChangeShapes Go.WideShapes Go.ChangeAt Go.RowKit
set_option linter.unusedVariables false

end Go.Proofs.YtlodoilihminaaaDoor

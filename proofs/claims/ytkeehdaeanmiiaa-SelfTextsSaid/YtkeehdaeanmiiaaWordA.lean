/-
  The contracts of package word's functions on numbers.
-/
import Derived.Test.YtkeehdaeanmiiaaWordN
import Derived.Deep.QuietTactic
import Derived.BigQuiet
namespace Go.Proofs.Ytkeehdaeanmiiaa
open Go.ChangeShapes Go.WideShapes Go.ChangeAt Go.RowKit
set_option linter.unusedVariables false

end Go.Proofs.Ytkeehdaeanmiiaa

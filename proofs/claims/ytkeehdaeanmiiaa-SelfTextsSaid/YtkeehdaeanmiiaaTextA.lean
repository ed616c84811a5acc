/-
  The contracts of word's and the reference's functions on texts.
-/
import Derived.Test.YtkeehdaeanmiiaaWordR
import Derived.Test.YtkeehdaeanmiiaaText
import Derived.Lib.Repeat
import Derived.Lib.TrimByte
import Derived.Lib.Case

namespace Go.Proofs.Ytkeehdaeanmiiaa
open Go.ChangeShapes Go.WideShapes Go.ChangeAt Go.RowKit
set_option linter.unusedVariables false

end Go.Proofs.Ytkeehdaeanmiiaa

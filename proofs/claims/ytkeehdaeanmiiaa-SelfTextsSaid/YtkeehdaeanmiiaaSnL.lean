/-
  A scanner in memory: the next symbol.
-/
import Derived.Test.YtkeehdaeanmiiaaSnH
import Derived.Test.YtkeehdaeanmiiaaSnI
import Derived.Test.YtkeehdaeanmiiaaSnJ
import Derived.Test.YtkeehdaeanmiiaaSnN
namespace Go.Proofs.Ytkeehdaeanmiiaa
open Go.ChangeShapes Go.WideShapes Go.ChangeAt Go.RowKit
open Ev (WRow)
set_option linter.unusedVariables false
set_option linter.unusedSimpArgs false
/-- a symbol that begins where the scanner stands -/
def tokF (s : Sn) : Sn :=
  if s.src.length ≤ s.at_ then s
  else if letB (nth s.src s.at_) then nameF s
  else if digB (nth s.src s.at_) then numF s
  else if nth s.src s.at_ = 34 then textF s
  else signF s
/-- a symbol's begin -/
def begF (s : Sn) (p : Nat) : Sn := { s with at_ := p, sym := 0, pos := p, val := 0, id := 0, txt := bs [] }
/-- the next symbol -/
def getF (s : Sn) : Sn :=
  if s.code ≠ 0 then s
  else if (bl (s.src.drop s.at_)).1 then tokF (begF s (s.src.length - (bl (s.src.drop s.at_)).2.length))
  else markF { s with at_ := s.src.length } 5 ((s.src.length - (bl (s.src.drop s.at_)).2.length : Nat) : Int)
section
variable {w : World} {B : Nat} {q : Sp} {s : Sn}
end
end Go.Proofs.Ytkeehdaeanmiiaa

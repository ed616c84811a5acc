/-
  A scanner in memory: blanks.
-/
import Derived.Test.YtkeehdaeanmiiaaSnE
namespace Go.Proofs.Ytkeehdaeanmiiaa
open Go.ChangeShapes Go.WideShapes Go.ChangeAt Go.RowKit
open Ev (WRow)
set_option linter.unusedVariables false
set_option linter.unusedSimpArgs false
/-- how blanks are gone over -/
def Blk (w : World) (B : Nat) (q : Sp) (s : Sn) (r : Bool × List Int) (e : Ending) (w' : World) : Prop := e = .returned (.bool r.1) ∧ SnAt w' B q (if r.1 then { s with at_ := s.src.length - r.2.length } else markF { s with at_ := s.src.length } 5 ((s.src.length - r.2.length : Nat) : Int)) ∧ Sf q q w w'
section
variable {w : World} {B : Nat} {q : Sp} {s : Sn}
end
end Go.Proofs.Ytkeehdaeanmiiaa

/-
  A scanner in memory: a name is read.
-/
import Derived.Test.YtkeehdaeanmiiaaSnG
namespace Go.Proofs.Ytkeehdaeanmiiaa
open Go.ChangeShapes Go.WideShapes Go.ChangeAt Go.RowKit
open Ev (WRow)
set_option linter.unusedVariables false
set_option linter.unusedSimpArgs false
theorem markF_kw (s : Sn) (c p : Int) : (markF s c p).kw = s.kw := by unfold markF; split <;> rfl
theorem internF_kw (s : Sn) (l : List UInt8) : (internF s l).kw = s.kw := by
  unfold internF
  repeat' split
  all_goals first | rfl | exact markF_kw ..
theorem internF_at (s : Sn) (l : List UInt8) : (internF s l).at_ = s.at_ := by
  unfold internF
  repeat' split
  all_goals first | rfl | exact markF_at ..
theorem internF_src (s : Sn) (l : List UInt8) : (internF s l).src = s.src := by
  unfold internF
  repeat' split
  all_goals first | rfl | exact markF_src ..
theorem ldB_0 : ldB 0 = false := by decide
def Done (w : World) (B : Nat) (q : Sp) (s' : Sn) (e : Ending) (w' : World) : Prop := e = .returned (.tuple #[]) ∧ ∃ q', SnAt w' B q' s' ∧ Sf q q' w w'
section
variable {w : World} {B : Nat} {q : Sp} {s : Sn}
end
end Go.Proofs.Ytkeehdaeanmiiaa

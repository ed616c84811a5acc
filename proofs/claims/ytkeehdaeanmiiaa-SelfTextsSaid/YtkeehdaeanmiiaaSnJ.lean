/-
  A scanner in memory: a sign is read.
-/
import Derived.Test.YtkeehdaeanmiiaaSnE
namespace Go.Proofs.Ytkeehdaeanmiiaa
open Go.ChangeShapes Go.WideShapes Go.ChangeAt Go.RowKit
open Ev (WRow)
set_option linter.unusedVariables false
set_option linter.unusedSimpArgs false
/-- a sign that begins where the scanner stands -/
def signF (s : Sn) : Sn :=
  match sgF (nth s.src s.at_) with
  | none => markF s 1 s.pos
  | some y =>
    if nth s.src (s.at_ + 1) = 61 ∧ (y = 3 ∨ y = 5) then { s with sym := y + 1, at_ := s.at_ + 2 }
    else if nth s.src (s.at_ + 1) = 61 ∧ y = 23 then { s with sym := 24, at_ := s.at_ + 2 }
    else { s with sym := y, at_ := s.at_ + 1 }
section
variable {w : World} {B : Nat} {q : Sp} {s : Sn}
theorem lk_mem : ∀ (l : List (Int × Int)) (c y : Int), lk l c = some y → (c, y) ∈ l
  | [], c, y, h => by cases h
  | p :: r, c, y, h => by
    rw [lk] at h
    split at h
    · rename_i e
      subst e
      obtain rfl := Option.some.inj h
      exact List.mem_cons_self
    · exact List.mem_cons_of_mem _ (lk_mem r c y h)
theorem sgF_bd {c y : Int} (h : sgF c = some y) : 1 ≤ y ∧ y ≤ 23 := by
  have h2 := lk_mem _ _ _ h
  have : ∀ p ∈ sgP, 1 ≤ p.2 ∧ p.2 ≤ 23 := by decide
  exact this _ h2
end
end Go.Proofs.Ytkeehdaeanmiiaa

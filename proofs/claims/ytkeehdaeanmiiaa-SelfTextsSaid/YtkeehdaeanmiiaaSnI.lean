/-
  A scanner in memory: a text is read.
-/
import Derived.Test.YtkeehdaeanmiiaaSnG
namespace Go.Proofs.Ytkeehdaeanmiiaa
open Go.ChangeShapes Go.WideShapes Go.ChangeAt Go.RowKit
open Ev (WRow)
set_option linter.unusedVariables false
set_option linter.unusedSimpArgs false
def txB (c : Int) : Bool := decide (32 ≤ c) && (decide (c ≤ 126) && decide (c ≠ 34))
theorem txB_0 : txB 0 = false := by decide
/-- a text that begins where the scanner stands -/
def textF (s : Sn) : Sn :=
  let f := s.at_ + 1
  let k := tw txB (s.src.drop f)
  let s1 : Sn := { s with at_ := f + k }
  if nth s.src (f + k) ≠ 34 ∨ 63 < k then markF s1 4 s1.pos
  else { s1 with sym := 28, txt := bs (chars ((s.src.drop f).take k)), val := if k = 1 then nth s.src f else s.val, at_ := f + k + 1 }
section
variable {w : World} {B : Nat} {q : Sp} {s : Sn}
theorem chars_get (zs : List Int) (h : ∀ z ∈ zs, 0 ≤ z ∧ z < 256) (i : Nat) (hi : i < (bs (chars zs)).size) : ((bs (chars zs))[i].toNat : Int) = nth zs i := by
  have hl : (bs (chars zs)).size = zs.length := by unfold bs chars; simp [ByteArray.size]
  rw [hl] at hi
  have e : (bs (chars zs))[i] = (chars zs)[i]'(by unfold chars; simpa using hi) := rfl
  rw [e, nth_eq _ _ hi]
  unfold chars
  rw [List.getElem_map]
  obtain ⟨h0, h1⟩ := h _ (List.getElem_mem hi)
  simp
  omega
end
end Go.Proofs.Ytkeehdaeanmiiaa

/-
  A new scanner.
-/
import Derived.Test.YtkeehdaeanmiiaaSnM
import Derived.Deep.Cut
namespace Go.Proofs.Ytkeehdaeanmiiaa
open Go.ChangeShapes Go.WideShapes Go.ChangeAt Go.RowKit
open Ev (WRow)
set_option linter.unusedVariables false
set_option linter.unusedSimpArgs false
theorem ws_take_len (i : Nat) (h : i ≤ 57) : (wsL.take i).length = i := by rw [List.length_take, wsL_len]; omega
theorem owns_form {w : World} {B sz n : Nat} {e : TypeId} {v : Value} {xs : List Value} (h : w.ownsRow B e sz v n xs) : ∃ A c, v = .slice A n c := by
  rcases h.2 with ⟨e, e0⟩ | ⟨g, cap, cur, e, _⟩
  · exact ⟨none, 0, by rw [e, e0]⟩
  · exact ⟨_, cap, e⟩
section
variable {w : World} {B : Nat} {q : Sp}
theorem kwL_at {i : Nat} (h : i < 29) : ∃ l, kwL[i]? = some l ∧ wsL[i]? = some l := by
  have h2 : i < kwL.length := h
  refine ⟨kwL[i], List.getElem?_eq_getElem h2, ?_⟩
  unfold wsL
  rw [List.getElem?_append_left h2, List.getElem?_eq_getElem h2]
theorem pdL_at {i : Nat} (h : i < 28) : ∃ l, pdL[i]? = some l ∧ wsL[29 + i]? = some l := by
  have h2 : i < pdL.length := h
  refine ⟨pdL[i], List.getElem?_eq_getElem h2, ?_⟩
  unfold wsL
  rw [List.getElem?_append_right (by show 29 ≤ _; omega), show 29 + i - kwL.length = i by show 29 + i - 29 = i; omega, List.getElem?_eq_getElem h2]
end
end Go.Proofs.Ytkeehdaeanmiiaa

/-
  Two objects that may be, of the same bytes as texts, are one.
-/
import Derived.Test.YtekipbfafofkdaaObK
import Derived.Test.YtekipbfafofkdaaObT
namespace Go.Proofs.Ytekipbfafofkdaa
open Go.ChangeShapes Go.WideShapes Go.ChangeAt Go.RowKit
set_option linter.unusedVariables false
theorem bts_bd (s : ByteArray) : ∀ z ∈ bts s, 0 ≤ z ∧ z ≤ 255 := by
  intro z hz
  unfold bts at hz
  obtain ⟨c, -, rfl⟩ := List.mem_map.1 hz
  have := c.toNat_lt
  omega
theorem w4_bd (n : Int) : ∀ z ∈ w4 n, 0 ≤ z ∧ z ≤ 255 := by
  intro z hz
  simp only [w4, List.mem_cons, List.not_mem_nil, or_false] at hz
  omega
theorem nm_bd (s : ByteArray) : ∀ z ∈ nm s, 0 ≤ z ∧ z ≤ 255 := by
  intro z hz
  rcases List.mem_cons.1 hz with rfl | hz
  · omega
  · exact bts_bd s z hz
theorem one_bd (n : Int) : ∀ z ∈ [n % 256], 0 ≤ z ∧ z ≤ 255 := by
  intro z hz
  simp only [List.mem_cons, List.not_mem_nil, or_false] at hz
  omega
theorem app_bd {x y : List Int} (hx : ∀ z ∈ x, 0 ≤ z ∧ z ≤ 255) (hy : ∀ z ∈ y, 0 ≤ z ∧ z ≤ 255) : ∀ z ∈ x ++ y, 0 ≤ z ∧ z ≤ 255 := by
  intro z hz
  rcases List.mem_append.1 hz with h | h
  · exact hx z h
  · exact hy z h
theorem flat_bd {α : Type} {f : α → List Int} (h : ∀ a, ∀ z ∈ f a, 0 ≤ z ∧ z ≤ 255) (l : List α) : ∀ z ∈ l.flatMap f, 0 ≤ z ∧ z ≤ 255 := by
  intro z hz
  obtain ⟨a, -, ha⟩ := List.mem_flatMap.1 hz
  exact h a z ha
theorem bytesO_bd {o : Ob} (ht : ∀ z ∈ o.text, 0 ≤ z ∧ z ≤ 255) : ∀ z ∈ bytesO o, 0 ≤ z ∧ z ≤ 255 := by
  unfold bytesO
  refine app_bd (by intro z hz; simp at hz; omega) (app_bd (nm_bd _) (app_bd (w4_bd _) (app_bd (one_bd _) (app_bd (flat_bd (fun a => app_bd (nm_bd _) (w4_bd _)) _) (app_bd (w4_bd _) (app_bd (w4_bd _) (app_bd ht (app_bd (w4_bd _) (app_bd (flat_bd w4_bd _) (app_bd (one_bd _) (app_bd (flat_bd w4_bd _) (app_bd (w4_bd _) (flat_bd (fun a => app_bd (w4_bd _) ?_) _)))))))))))))
  intro z hz
  simp only [List.mem_cons, List.not_mem_nil, or_false] at hz
  omega
theorem text_bd {w : World} {a : Option Addr} {len cap : Nat} {l : List Int} (h : IsRow .u8 w a len cap l) : ∀ z ∈ l, 0 ≤ z ∧ z ≤ 255 := fun z hz => by
  have h : (decide ((0 : Int) ≤ z) && decide (z ≤ 255)) = true := h.2.2.2.1 z hz
  simp only [Bool.and_eq_true, decide_eq_true_eq] at h
  exact h
theorem bytes_same {o p : Ob} (ho : o.Tells) (hp : p.Tells) (h1 : ∀ z ∈ o.text, 0 ≤ z ∧ z ≤ 255) (h2 : ∀ z ∈ p.text, 0 ≤ z ∧ z ≤ 255) : ((strOf (bytesO o)).toList == (strOf (bytesO p)).toList) = sameB o p := by
  rw [Bool.eq_iff_iff, beq_iff_eq, sameB_iff]
  constructor
  · intro h
    exact bytesO_inj ho hp (strOf_inj (bytesO_bd h1) (bytesO_bd h2) (toList_inj h))
  · rintro rfl
    rfl
end Go.Proofs.Ytekipbfafofkdaa

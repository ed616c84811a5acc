/-
  The contracts of OfDec and OfHex, word's and the reference's.
-/
import Derived.Test.YtkeehdaeanmiiaaTextA
import Derived.Laws.RangeString
import Derived.Laws.RangeAny
import Derived.Lib.OthersKept

import Derived.WalkMore
namespace Go.Proofs.Ytkeehdaeanmiiaa
open Go.ChangeShapes Go.WideShapes Go.ChangeAt Go.RowKit
set_option linter.unusedVariables false

theorem below_iter (w : World) (s : ByteArray) (pos : Nat) : Below w.heap.size w (w.iter s pos) := (Below.refl _ _).alloc (Nat.le_refl _) _
theorem get_list {s : ByteArray} {l : List UInt8} (h : s = S l) (i : Nat) (hi : i < s.size) (hl : i < l.length) : s[i] = l[i] := by subst h; rfl

theorem out_in (n : Int) (h0 : -2147483648 ≤ n) (h1 : n ≤ 2147483647) : out32 n = false := by unfold out32; simp; omega
theorem wrap_w32 (n : Int) (h0 : -2147483648 ≤ n) (h1 : n ≤ 2147483647) : wrap32 (n % 4294967296) = n := by unfold wrap32; omega
theorem wrap_in (n : Int) (h0 : -2147483648 ≤ n) (h1 : n ≤ 2147483647) : wrap32 n = n := by unfold wrap32; omega
theorem width_pos (s : ByteArray) (pos : Nat) (h : pos < s.size) : 1 ≤ (Utf8.decode s pos).2 := by
  by_cases ha : (s[pos]'h).toNat < 128
  · rw [decode_ascii s pos h ha]
    exact Nat.le_refl _
  · exact (decode_high s pos h (by omega)).2
theorem neq_list (a b : ByteArray) (h : a ≠ b) : (a.toList == b.toList) = false := by
  rw [beq_eq_false_iff_ne, ByteArray.toList_eq, ByteArray.toList_eq]
  intro e
  exact h (by rw [← S_list a, ← S_list b, e])
theorem out_range (n : Int) (h : out32 n = false) : -2147483648 ≤ n ∧ n ≤ 2147483647 := by unfold out32 at h; simp at h; omega
end Go.Proofs.Ytkeehdaeanmiiaa

/-
  The contracts of the makers of a table of types (layer 12's types.Table): Array, Open, Record, Pointer, Import.
-/
import Derived.Test.YtckomckdefcebaaTypesA
namespace Go.Proofs.Ytckomckdefcebaa
open Go.ChangeShapes Go.WideShapes Go.ChangeAt Go.RowKit
set_option linter.unusedVariables false
/-- what a maker that is not refused does: a type more, of that size -/
def Made (w : World) (B p n : Nat) (xs : List Value) (f : Int) (z : Int) (e : Ending) (w' : World) : Prop := e = .returned (.tuple #[.int .i64 n, .int .i64 0]) ∧ Below B w w' ∧ ∃ g' cap' x0 x1 x2 x4 x5 x6, TabAt w' B p g' cap' (n + 1) (xs ++ [x0, x1, x2, .int .i64 z, x4, x5, x6]) f
/-- what one that is refused does -/
def Refused (w : World) (B p g cap n : Nat) (xs : List Value) (f : Int) (c : Int) (e : Ending) (w' : World) : Prop := e = .returned (.tuple #[.int .i64 0, .int .i64 c]) ∧ Below B w w' ∧ TabAt w' B p g cap n xs f
section
variable {w : World} {B p g cap n : Nat} {xs : List Value} {f : Int}
theorem array_good (h : TabAt w B p g cap n xs f) (l : Int) (b : Nat) (z : Int) (b0 : 0 < b) (b1 : b < n) (hz : Sz xs b z) (l0 : 1 ≤ l) (l1 : l ≤ 65535) (z0 : 1 ≤ z) (m0 : 0 ≤ l * z) (hm : l * z ≤ 262144) (hn : n ≤ 200) (hB : B ≤ w.heap.size) :
    Calls Try.prog 15 #[.pointer (some ⟨p, 0, none⟩), .int .i64 l, .int .i64 b] w (Made w B p n xs f ((l * z + 3) / 4 * 4)) := by
  obtain ⟨m, hmm⟩ : ∃ m, l * z = m := ⟨_, rfl⟩
  rw [hmm] at m0 hm ⊢
  have HI := Lib.hid (is_any h)
  have HS := Lib.hid (size_yes h b z b0 b1 hz)
  have HA := Lib.hid (add_room h hn (.int .i64 1) (.int .i64 b) (.int .i64 l) (.int .i64 ((m + 3) / 4 * 4)) (.slice none 0 0) (.int .i64 0) (.int .i64 0) (by simp [Value.oneCell']) hB)
  have hw : IntKind.i64.wrap m = m := IntWalk.i64_in _ (by omega)
  have e1 : decide (l < 1) = false := by simp; omega
  have e2 : decide (65535 < l) = false := by simp; omega
  have e3 : (z == 0) = false := by simp; omega
  clear h
  go_enter Try.func15, Try.ntmps15
  go_wp2_with (first | (go_at_call 39; refine HI.out.mono ?_; rintro e w' ⟨rfl, rfl⟩) | (go_at_call 21; refine HS.out.mono ?_; rintro e w' ⟨rfl, rfl⟩) | (go_at_call 40; refine (up_any m m0 (by omega) _).mono ?_; rintro e w' ⟨rfl, rfl⟩) | (go_at_call 41; refine HA.out.mono ?_; rintro e w' ⟨rfl, hb, gg, cc, ht⟩))
  go_ret2
  exact ⟨rfl, hb, gg, cc, _, _, _, _, _, _, ht⟩
theorem array_bad (h : TabAt w B p g cap n xs f) (l b z : Int) (hz : ∀ W, TabAt W B p g cap n xs f → Calls Try.prog 21 #[.pointer (some ⟨p, 0, none⟩), .int .i64 b] W fun e w' => e = .returned (.int .i64 z) ∧ W = w') (z0 : 0 ≤ z) (z1 : z ≤ 262144) (hbad : l < 1 ∨ 65535 < l ∨ z = 0 ∨ (0 ≤ l * z ∧ l * z ≤ 4611686018427387904 ∧ 262144 < l * z)) :
    Calls Try.prog 15 #[.pointer (some ⟨p, 0, none⟩), .int .i64 l, .int .i64 b] w (Refused w B p g cap n xs f 30) := by
  obtain ⟨m, hmm⟩ : ∃ m, l * z = m := ⟨_, rfl⟩
  rw [hmm] at hbad
  have HI := Lib.hid (is_any h)
  have HS := Lib.hid (hz w h)
  have HL := Lib.hid h
  clear h hz
  by_cases h1 : l < 1
  · go_enter Try.func15, Try.ntmps15
    go_wp2_with (first | (go_at_call 39; refine HI.out.mono ?_; rintro e w' ⟨rfl, rfl⟩) | (go_at_call 21; refine HS.out.mono ?_; rintro e w' ⟨rfl, rfl⟩))
    go_ret2
    exact ⟨rfl, Below.refl _ _, HL.out⟩
  by_cases h2 : 65535 < l
  · go_enter Try.func15, Try.ntmps15
    go_wp2_with (first | (go_at_call 39; refine HI.out.mono ?_; rintro e w' ⟨rfl, rfl⟩) | (go_at_call 21; refine HS.out.mono ?_; rintro e w' ⟨rfl, rfl⟩))
    go_ret2
    exact ⟨rfl, Below.refl _ _, HL.out⟩
  by_cases h3 : z = 0
  · subst h3
    go_enter Try.func15, Try.ntmps15
    go_wp2_with (first | (go_at_call 39; refine HI.out.mono ?_; rintro e w' ⟨rfl, rfl⟩) | (go_at_call 21; refine HS.out.mono ?_; rintro e w' ⟨rfl, rfl⟩))
    go_ret2
    exact ⟨rfl, Below.refl _ _, HL.out⟩
  · obtain ⟨m0, m1, m2⟩ : 0 ≤ m ∧ m ≤ 4611686018427387904 ∧ 262144 < m := by omega
    have hw : IntKind.i64.wrap m = m := IntWalk.i64_in _ (by omega)
    have e1 : decide (l < 1) = false := by simp; omega
    have e2 : decide (65535 < l) = false := by simp; omega
    have e3 : (z == 0) = false := by simp; omega
    go_enter Try.func15, Try.ntmps15
    go_wp2_with (first | (go_at_call 39; refine HI.out.mono ?_; rintro e w' ⟨rfl, rfl⟩) | (go_at_call 21; refine HS.out.mono ?_; rintro e w' ⟨rfl, rfl⟩) | (go_at_call 40; refine (up_any m m0 (by omega) _).mono ?_; rintro e w' ⟨rfl, rfl⟩))
    go_ret2
    exact ⟨rfl, Below.refl _ _, HL.out⟩
end
end Go.Proofs.Ytckomckdefcebaa

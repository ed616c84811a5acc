/-
  The contracts of package word's functions on numbers.
-/
import Derived.Test.YtojifffenfmklaaWordN
import Derived.Deep.QuietTactic
import Derived.BigQuiet
namespace Go.Proofs.Ytojifffenfmklaa
open Go.ChangeShapes Go.WideShapes Go.ChangeAt Go.RowKit
set_option linter.unusedVariables false

theorem mul32_any (a b : Int) (a0 : 0 ≤ a) (a1 : a ≤ 4294967295) (b0 : 0 ≤ b) (b1 : b ≤ 4294967295) (w : World) :
    Calls Try.prog 35 #[.int .u32 a, .int .u32 b] w fun e w' => e = .returned (.tuple #[.int .u32 (a * b / 4294967296), .int .u32 (w32 (a * b))]) ∧ w = w' := by
  have h1 : 0 ≤ a * b := Int.mul_nonneg a0 b0
  have h2 : a * b ≤ 4294967295 * 4294967295 := Int.mul_le_mul a1 b1 b0 (by omega)
  go_enter Try.func35, Try.ntmps35
  go_wp2
  go_ret2
  exact ⟨ret_int2 (by omega) (by unfold w32; omega), rfl⟩
theorem mul_no (a b : Int) (a0 : 0 ≤ a) (a1 : a ≤ 4294967295) (b0 : 0 ≤ b) (b1 : b ≤ 4294967295) (w : World) :
    Calls Try.prog 25 #[.int .u32 a, .int .u32 b, .bool false] w fun e w' => e = .returned (.tuple #[.int .u32 (w32 (a * b)), .int .u32 (a * b / 4294967296)]) ∧ w = w' := by
  go_enter Try.func25, Try.ntmps25
  go_wp2_with (go_at_call 35; refine (mul32_any _ _ (by omega) (by omega) (by omega) (by omega) _).mono ?_; rintro e w' ⟨rfl, rfl⟩)
  go_ret2
  exact ⟨rfl, rfl⟩
theorem mul_yes (a b : Int) (a0 : 0 ≤ a) (a1 : a ≤ 4294967295) (b0 : 0 ≤ b) (b1 : b ≤ 4294967295) (w : World) :
    Calls Try.prog 25 #[.int .u32 a, .int .u32 b, .bool true] w fun e w' => e = .returned (.tuple #[.int .u32 (w32 (wrap32 a * wrap32 b)), .int .u32 (w32 (wrap32 a * wrap32 b / 4294967296))]) ∧ w = w' := by
  have ha := wrap32_bd a
  have hb := wrap32_bd b
  have hab : -4611686018427387904 ≤ wrap32 a * wrap32 b ∧ wrap32 a * wrap32 b ≤ 4611686018427387904 := prod32 _ _ ha hb
  go_enter Try.func25, Try.ntmps25
  go_wp2
  go_ret2
  exact ⟨ret_int2 (by rw [IntKind.wrap_u64]; unfold w32; omega) (by rw [IntKind.wrap_u64]; unfold w32; omega), rfl⟩
end Go.Proofs.Ytojifffenfmklaa

/-
  The contracts of package word's functions on numbers.
-/
import Derived.Test.YthpdgghjaglhnaaGreatDoorWordN
import Derived.Deep.QuietTactic
import Derived.BigQuiet
namespace Go.Proofs.YthpdgghjaglhnaaGreatDoor
open Go.ChangeShapes Go.WideShapes Go.ChangeAt Go.RowKit
set_option linter.unusedVariables false

theorem outside_any (n : Int) (w : World) : Calls Tryz.prog 63 #[.int .i64 n] w fun e w' => e = .returned (.bool (out32 n)) ∧ w = w' := by
  go_enter Tryz.func63, Tryz.ntmps63
  go_wp2
  go_ret
  exact ⟨ret_bool (by unfold out32 wrap64 wrap32; rw [Bool.eq_iff_iff]; simp; omega), rfl⟩
theorem mul32_any (a b : Int) (a0 : 0 ≤ a) (a1 : a ≤ 4294967295) (b0 : 0 ≤ b) (b1 : b ≤ 4294967295) (w : World) :
    Calls Tryz.prog 68 #[.int .u32 a, .int .u32 b] w fun e w' => e = .returned (.tuple #[.int .u32 (a * b / 4294967296), .int .u32 (w32 (a * b))]) ∧ w = w' := by
  have h1 : 0 ≤ a * b := Int.mul_nonneg a0 b0
  have h2 : a * b ≤ 4294967295 * 4294967295 := Int.mul_le_mul a1 b1 b0 (by omega)
  go_enter Tryz.func68, Tryz.ntmps68
  go_wp2
  go_ret2
  exact ⟨ret_int2 (by omega) (by unfold w32; omega), rfl⟩
end Go.Proofs.YthpdgghjaglhnaaGreatDoor

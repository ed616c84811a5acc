/-
  The contracts of package word's functions on numbers.
-/
import Derived.Test.YtlgdlaohfkgkfaaGreatWordN
import Derived.Deep.QuietTactic
import Derived.BigQuiet
namespace Go.Proofs.YtlgdlaohfkgkfaaGreat
open Go.ChangeShapes Go.WideShapes Go.ChangeAt Go.RowKit
set_option linter.unusedVariables false

theorem one_any (b : Bool) (w : World) : Calls Tryz.prog 121 #[.bool b] w fun e w' => e = .returned (.int .u32 (bit b)) ∧ w = w' := by
  cases b
  · go_enter Tryz.func121, Tryz.ntmps121
    go_wp2
    go_ret
    exact ⟨rfl, rfl⟩
  · go_enter Tryz.func121, Tryz.ntmps121
    go_wp2
    go_ret
    exact ⟨rfl, rfl⟩
theorem outside_any (n : Int) (w : World) : Calls Tryz.prog 122 #[.int .i64 n] w fun e w' => e = .returned (.bool (out32 n)) ∧ w = w' := by
  go_enter Tryz.func122, Tryz.ntmps122
  go_wp2
  go_ret
  exact ⟨ret_bool (by unfold out32 wrap64 wrap32; rw [Bool.eq_iff_iff]; simp; omega), rfl⟩
theorem add32_any (a b c : Int) (a0 : 0 ≤ a) (a1 : a ≤ 4294967295) (b0 : 0 ≤ b) (b1 : b ≤ 4294967295) (c0 : 0 ≤ c) (c1 : c ≤ 1) (w : World) :
    Calls Tryz.prog 120 #[.int .u32 a, .int .u32 b, .int .u32 c] w fun e w' => e = .returned (.tuple #[.int .u32 (w32 (a + b + c)), .int .u32 ((a + b + c) / 4294967296)]) ∧ w = w' := by
  go_enter Tryz.func120, Tryz.ntmps120
  go_wp2
  go_ret2
  exact ⟨ret_int2 (by unfold w32; omega) (by omega), rfl⟩
theorem sub32_any (a b c : Int) (a0 : 0 ≤ a) (a1 : a ≤ 4294967295) (b0 : 0 ≤ b) (b1 : b ≤ 4294967295) (c0 : 0 ≤ c) (c1 : c ≤ 1) (w : World) :
    Calls Tryz.prog 123 #[.int .u32 a, .int .u32 b, .int .u32 c] w fun e w' => e = .returned (.tuple #[.int .u32 (w32 (a - b - c)), .int .u32 (brw (a - b - c))]) ∧ w = w' := by
  go_enter Tryz.func123, Tryz.ntmps123
  go_wp2
  go_ret2
  exact ⟨ret_int2 (by unfold w32; omega) (borrow_int a b c a0 a1 b0 b1 c0 c1), rfl⟩
theorem mul32_any (a b : Int) (a0 : 0 ≤ a) (a1 : a ≤ 4294967295) (b0 : 0 ≤ b) (b1 : b ≤ 4294967295) (w : World) :
    Calls Tryz.prog 124 #[.int .u32 a, .int .u32 b] w fun e w' => e = .returned (.tuple #[.int .u32 (a * b / 4294967296), .int .u32 (w32 (a * b))]) ∧ w = w' := by
  have h1 : 0 ≤ a * b := Int.mul_nonneg a0 b0
  have h2 : a * b ≤ 4294967295 * 4294967295 := Int.mul_le_mul a1 b1 b0 (by omega)
  go_enter Tryz.func124, Tryz.ntmps124
  go_wp2
  go_ret2
  exact ⟨ret_int2 (by omega) (by unfold w32; omega), rfl⟩
theorem add_any (a b : Int) (c : Bool) (a0 : 0 ≤ a) (a1 : a ≤ 4294967295) (b0 : 0 ≤ b) (b1 : b ≤ 4294967295) (w : World) :
    Calls Tryz.prog 109 #[.int .u32 a, .int .u32 b, .bool c] w fun e w' => e = .returned (.tuple #[.int .u32 (w32 (a + b + bit c)), .bool (decide (4294967296 ≤ a + b + bit c)), .bool (out32 (wrap32 a + wrap32 b + bit c))]) ∧ w = w' := by
  have hc := bit_bd c
  have ha := wrap32_bd a
  have hb := wrap32_bd b
  go_enter Tryz.func109, Tryz.ntmps109
  go_wp2_with (first | (go_at_call 121; refine (one_any _ _).mono ?_; rintro e w' ⟨rfl, rfl⟩) | (go_at_call 120; refine (add32_any _ _ _ (by omega) (by omega) (by omega) (by omega) (by omega) (by omega) _).mono ?_; rintro e w' ⟨rfl, rfl⟩) | (go_at_call 122; refine (outside_any _ _).mono ?_; rintro e w' ⟨rfl, rfl⟩))
  go_ret3
  exact ⟨ret_ibb rfl (by rw [Bool.eq_iff_iff]; simp; omega) rfl, rfl⟩
theorem sub_any (a b : Int) (c : Bool) (a0 : 0 ≤ a) (a1 : a ≤ 4294967295) (b0 : 0 ≤ b) (b1 : b ≤ 4294967295) (w : World) :
    Calls Tryz.prog 110 #[.int .u32 a, .int .u32 b, .bool c] w fun e w' => e = .returned (.tuple #[.int .u32 (w32 (a - b - bit c)), .bool (decide (a - b - bit c < 0)), .bool (out32 (wrap32 a - wrap32 b - bit c))]) ∧ w = w' := by
  have hc := bit_bd c
  have ha := wrap32_bd a
  have hb := wrap32_bd b
  have hw := brw_bd (a - b - bit c)
  go_enter Tryz.func110, Tryz.ntmps110
  go_wp2_with (first | (go_at_call 121; refine (one_any _ _).mono ?_; rintro e w' ⟨rfl, rfl⟩) | (go_at_call 123; refine (sub32_any _ _ _ (by omega) (by omega) (by omega) (by omega) (by omega) (by omega) _).mono ?_; rintro e w' ⟨rfl, rfl⟩) | (go_at_call 122; refine (outside_any _ _).mono ?_; rintro e w' ⟨rfl, rfl⟩))
  go_ret3
  exact ⟨ret_ibb rfl (brw_eq _) rfl, rfl⟩
theorem mul_no (a b : Int) (a0 : 0 ≤ a) (a1 : a ≤ 4294967295) (b0 : 0 ≤ b) (b1 : b ≤ 4294967295) (w : World) :
    Calls Tryz.prog 111 #[.int .u32 a, .int .u32 b, .bool false] w fun e w' => e = .returned (.tuple #[.int .u32 (w32 (a * b)), .int .u32 (a * b / 4294967296)]) ∧ w = w' := by
  go_enter Tryz.func111, Tryz.ntmps111
  go_wp2_with (go_at_call 124; refine (mul32_any _ _ (by omega) (by omega) (by omega) (by omega) _).mono ?_; rintro e w' ⟨rfl, rfl⟩)
  go_ret2
  exact ⟨rfl, rfl⟩
theorem mul_yes (a b : Int) (a0 : 0 ≤ a) (a1 : a ≤ 4294967295) (b0 : 0 ≤ b) (b1 : b ≤ 4294967295) (w : World) :
    Calls Tryz.prog 111 #[.int .u32 a, .int .u32 b, .bool true] w fun e w' => e = .returned (.tuple #[.int .u32 (w32 (wrap32 a * wrap32 b)), .int .u32 (w32 (wrap32 a * wrap32 b / 4294967296))]) ∧ w = w' := by
  have ha := wrap32_bd a
  have hb := wrap32_bd b
  have hab : -4611686018427387904 ≤ wrap32 a * wrap32 b ∧ wrap32 a * wrap32 b ≤ 4611686018427387904 := prod32 _ _ ha hb
  go_enter Tryz.func111, Tryz.ntmps111
  go_wp2
  go_ret2
  exact ⟨ret_int2 (by rw [IntKind.wrap_u64]; unfold w32; omega) (by rw [IntKind.wrap_u64]; unfold w32; omega), rfl⟩
theorem div_no (a b : Int) (h : wrap32 b ≤ 0) (w : World) :
    Calls Tryz.prog 112 #[.int .u32 a, .int .u32 b] w fun e w' => e = .returned (.tuple #[.int .u32 0, .int .u32 0, .int .i64 2]) ∧ w = w' := by
  have ha := wrap32_bd a
  have hb := wrap32_bd b
  go_enter Tryz.func112, Tryz.ntmps112
  go_wp2
  all_goals go_ret3
  exact ⟨rfl, rfl⟩
theorem div_yes (a b : Int) (h : 1 ≤ wrap32 b) (w : World) :
    Calls Tryz.prog 112 #[.int .u32 a, .int .u32 b] w fun e w' => e = .returned (.tuple #[.int .u32 (w32 (wrap32 a / wrap32 b)), .int .u32 (wrap32 a % wrap32 b), .int .i64 0]) ∧ ∃ n, w' = w.drewN n := by
  have ha := wrap32_bd a
  have hb := wrap32_bd b
  go_enter Tryz.func112, Tryz.ntmps112
  go_wp2
  go_quiet (fail)
  go_wp2
  all_goals go_ret3
  all_goals
    have hf := divfix (wrap32 a) (wrap32 b) h
    have ht := tdiv_bd (wrap32 a) (wrap32 b) ha h
    have m0 := Int.emod_nonneg (wrap32 a) (show wrap32 b ≠ 0 by omega)
    have m1 := Int.emod_lt_of_pos (wrap32 a) (show 0 < wrap32 b by omega)
  · obtain ⟨e1, e2⟩ := hf.1 (by assumption)
    rw [e1, e2]
    exact ⟨ret_iii (by unfold w32 wrap64; omega) (by unfold wrap64; omega) rfl, _, rfl⟩
  · obtain ⟨e1, e2⟩ := hf.2 (by assumption)
    rw [e1, e2]
    exact ⟨ret_iii (by unfold w32; omega) (by omega) rfl, _, rfl⟩
theorem left_any (a b : Int) (a0 : 0 ≤ a) (a1 : a ≤ 4294967295) (b0 : 0 ≤ b) (b1 : b ≤ 4294967295) (w : World) :
    Calls Tryz.prog 106 #[.int .u32 a, .int .u32 b] w fun e w' => e = .returned (.int .u32 (lsh a b)) ∧ w = w' := by
  have h31 := and31 b b0 b1
  go_enter Tryz.func106, Tryz.ntmps106
  go_wp2
  go_ret
  exact ⟨ret_int rfl, rfl⟩
theorem right_any (a b : Int) (a0 : 0 ≤ a) (a1 : a ≤ 4294967295) (b0 : 0 ≤ b) (b1 : b ≤ 4294967295) (w : World) :
    Calls Tryz.prog 107 #[.int .u32 a, .int .u32 b] w fun e w' => e = .returned (.int .u32 (ash a b)) ∧ w = w' := by
  have h31 := and31 b b0 b1
  have ha := wrap32_bd a
  go_enter Tryz.func107, Tryz.ntmps107
  go_wp2
  go_ret
  exact ⟨ret_int rfl, rfl⟩
theorem rot_any (a k : Int) (a0 : 0 ≤ a) (a1 : a ≤ 4294967295) (b0 : 0 ≤ k) (b1 : k ≤ 31) (w : World) :
    Calls Tryz.prog 119 #[.int .u32 a, .int .i64 (-k)] w fun e w' => e = .returned (.int .u32 (trn a k)) ∧ w = w' := by
  have hk := neg31 k b0 b1
  go_enter Tryz.func119, Tryz.ntmps119
  go_wp2
  go_ret
  exact ⟨ret_int (rot_or a k a0 a1 b0 b1), rfl⟩
theorem turn_any (a b : Int) (a0 : 0 ≤ a) (a1 : a ≤ 4294967295) (b0 : 0 ≤ b) (b1 : b ≤ 4294967295) (w : World) :
    Calls Tryz.prog 108 #[.int .u32 a, .int .u32 b] w fun e w' => e = .returned (.int .u32 (trn a b)) ∧ w = w' := by
  have h31 := and31 b b0 b1
  go_enter Tryz.func108, Tryz.ntmps108
  go_wp2_with (go_at_call 119; refine (rot_any _ _ (by omega) (by omega) (by omega) (by omega) _).mono ?_; rintro e w' ⟨rfl, rfl⟩)
  go_ret
  exact ⟨ret_int (by unfold trn; rw [show b % 32 % 32 = b % 32 by omega]), rfl⟩
end Go.Proofs.YtlgdlaohfkgkfaaGreat

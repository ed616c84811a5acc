/-
  The contracts of the reference's functions on numbers (selfsameref01).
-/
import Derived.Test.YtgjecfchnokcfaaWordA

namespace Go.Proofs.Ytgjecfchnokcfaa
open Go.ChangeShapes Go.WideShapes Go.ChangeAt Go.RowKit
set_option linter.unusedVariables false

theorem signed_any (a : Int) (a0 : 0 ≤ a) (a1 : a ≤ 4294967295) (w : World) : Calls Try.prog 24 #[.int .u32 a] w fun e w' => e = .returned (.int .i64 (wrap32 a)) ∧ w = w' := by
  by_cases h : 2147483648 ≤ a
  · go_enter Try.func24, Try.ntmps24
    go_wp2
    go_ret
    exact ⟨ret_int (wrap32_hi a h a1).symm, rfl⟩
  · go_enter Try.func24, Try.ntmps24
    go_wp2
    go_ret
    exact ⟨ret_int (wrap32_lo a a0 (by omega)).symm, rfl⟩
theorem rword_any (n : Int) (h0 : -4611686018427387904 ≤ n) (h1 : n ≤ 4611686018427387904) (w : World) : Calls Try.prog 23 #[.int .i64 n] w fun e w' => e = .returned (.int .u32 (w32 n)) ∧ w = w' := by
  have hf := divfix n 4294967296 (by omega)
  have m0 := Int.emod_nonneg n (show (4294967296 : Int) ≠ 0 by omega)
  have m1 := Int.emod_lt_of_pos n (show (0 : Int) < 4294967296 by omega)
  have HF := Lib.hid hf
  clear hf
  by_cases h : 0 ≤ n
  · go_enter Try.func23, Try.ntmps23
    go_wp2
    go_ret
    exact ⟨ret_int (by unfold w32; omega), rfl⟩
  · have g0 : n.tmod 4294967296 ≤ 0 := by
      have := Int.tmod_nonneg (a := -n) 4294967296 (by omega)
      rw [Int.neg_tmod] at this
      omega
    have g1 := Int.lt_tmod_of_pos n (show (0 : Int) < 4294967296 by omega)
    go_enter Try.func23, Try.ntmps23
    go_wp2
    all_goals go_ret
    · exact ⟨ret_int (by have := (HF.out.1 (by assumption)).2; unfold w32; omega), rfl⟩
    · exact ⟨ret_int (by have := (HF.out.2 (by assumption)).2; unfold w32; omega), rfl⟩
theorem routside_any (n : Int) (w : World) : Calls Try.prog 68 #[.int .i64 n] w fun e w' => e = .returned (.bool (out32 n)) ∧ w = w' := by
  go_enter Try.func68, Try.ntmps68
  go_wp2
  all_goals go_ret
  all_goals exact ⟨ret_bool (by unfold out32; rw [Bool.eq_iff_iff]; simp; omega), rfl⟩
theorem radd_any (a b : Int) (c : Bool) (a0 : 0 ≤ a) (a1 : a ≤ 4294967295) (b0 : 0 ≤ b) (b1 : b ≤ 4294967295) (w : World) :
    Calls Try.prog 59 #[.int .u32 a, .int .u32 b, .bool c] w fun e w' => e = .returned (.tuple #[.int .u32 (w32 (a + b + bit c)), .bool (decide (4294967296 ≤ a + b + bit c)), .bool (out32 (wrap32 a + wrap32 b + bit c))]) ∧ w = w' := by
  have ha := wrap32_bd a
  have hb := wrap32_bd b
  cases c
  all_goals
    go_enter Try.func59, Try.ntmps59
    go_wp2_with (first | (go_at_call 24; refine (signed_any _ (by omega) (by omega) _).mono ?_; rintro e w' ⟨rfl, rfl⟩) | (go_at_call 23; refine (rword_any _ (by omega) (by omega) _).mono ?_; rintro e w' ⟨rfl, rfl⟩) | (go_at_call 68; refine (routside_any _ _).mono ?_; rintro e w' ⟨rfl, rfl⟩))
    go_ret3
    exact ⟨ret_ibb (by simp [bit]) (by rw [Bool.eq_iff_iff]; simp [bit]) (by simp [bit]), rfl⟩
theorem rsub_any (a b : Int) (c : Bool) (a0 : 0 ≤ a) (a1 : a ≤ 4294967295) (b0 : 0 ≤ b) (b1 : b ≤ 4294967295) (w : World) :
    Calls Try.prog 60 #[.int .u32 a, .int .u32 b, .bool c] w fun e w' => e = .returned (.tuple #[.int .u32 (w32 (a - b - bit c)), .bool (decide (a - b - bit c < 0)), .bool (out32 (wrap32 a - wrap32 b - bit c))]) ∧ w = w' := by
  have ha := wrap32_bd a
  have hb := wrap32_bd b
  cases c
  all_goals
    go_enter Try.func60, Try.ntmps60
    go_wp2_with (first | (go_at_call 24; refine (signed_any _ (by omega) (by omega) _).mono ?_; rintro e w' ⟨rfl, rfl⟩) | (go_at_call 23; refine (rword_any _ (by omega) (by omega) _).mono ?_; rintro e w' ⟨rfl, rfl⟩) | (go_at_call 68; refine (routside_any _ _).mono ?_; rintro e w' ⟨rfl, rfl⟩))
    go_ret3
    exact ⟨ret_ibb (by simp [bit]) (by rw [Bool.eq_iff_iff]; simp [bit]) (by simp [bit]), rfl⟩
theorem rleft_any (a b : Int) (a0 : 0 ≤ a) (a1 : a ≤ 4294967295) (b0 : 0 ≤ b) (b1 : b ≤ 4294967295) (w : World) :
    Calls Try.prog 55 #[.int .u32 a, .int .u32 b] w fun e w' => e = .returned (.int .u32 (lsh a b)) ∧ w = w' := by
  go_enter Try.func55, Try.ntmps55
  go_wp2_with fail
  go_loop [0, 5] (fun s i => ∃ j : Nat, j ≤ (b % 32).toNat ∧ i = .int .u32 j ∧ s = .int .u32 (lshN a j)) (fun _ i => (b % 32).toNat - (intOf i).toNat)
  case atStart => exact ⟨0, Nat.zero_le _, rfl, by rw [lshN_zero a a0 a1]⟩
  case round =>
    obtain ⟨j, hj, rfl, rfl⟩ := hrel
    have hb := lshN_bd a j
    by_cases hlt : j < (b % 32).toNat
    · have HS := Lib.hid (lshN_succ a j)
      go_wp2_with (go_at_call 23; refine (rword_any _ (by omega) (by omega) _).mono ?_; rintro e w' ⟨rfl, rfl⟩)
      go_round
      case rel => exact ⟨j + 1, by omega, by go_num, by rw [HS.out]⟩
      case measure => simp [intOf]; omega
    · go_wp2
      go_ret
      exact ⟨ret_int (by unfold lsh; rw [show (b % 32).toNat = j by omega]), rfl⟩
theorem rright_any (a b : Int) (a0 : 0 ≤ a) (a1 : a ≤ 4294967295) (b0 : 0 ≤ b) (b1 : b ≤ 4294967295) (w : World) :
    Calls Try.prog 56 #[.int .u32 a, .int .u32 b] w fun e w' => e = .returned (.int .u32 (ash a b)) ∧ w = w' := by
  go_enter Try.func56, Try.ntmps56
  go_wp2_with fail
  go_loop [0, 5] (fun s i => ∃ j : Nat, j ≤ (b % 32).toNat ∧ i = .int .u32 j ∧ s = .int .u32 (ashN a j)) (fun _ i => (b % 32).toNat - (intOf i).toNat)
  case atStart => exact ⟨0, Nat.zero_le _, rfl, by rw [ashN_zero a a0 a1]⟩
  case round =>
    obtain ⟨j, hj, rfl, rfl⟩ := hrel
    have hb := ashN_bd a j
    by_cases hlt : j < (b % 32).toNat
    · have HS := Lib.hid (ashN_succ a j)
      go_wp2
      go_round
      case rel => exact ⟨j + 1, by omega, by go_num, by rw [HS.out]⟩
      case measure => simp [intOf]; omega
    · go_wp2
      go_ret
      exact ⟨ret_int (by unfold ash; rw [show (b % 32).toNat = j by omega]), rfl⟩
theorem rturn_any (a b : Int) (a0 : 0 ≤ a) (a1 : a ≤ 4294967295) (b0 : 0 ≤ b) (b1 : b ≤ 4294967295) (w : World) :
    Calls Try.prog 57 #[.int .u32 a, .int .u32 b] w fun e w' => e = .returned (.int .u32 (trn a b)) ∧ w = w' := by
  go_enter Try.func57, Try.ntmps57
  go_wp2_with fail
  go_loop [0, 5] (fun s i => ∃ j : Nat, j ≤ (b % 32).toNat ∧ i = .int .u32 j ∧ s = .int .u32 (trnN a j)) (fun _ i => (b % 32).toNat - (intOf i).toNat)
  case atStart => exact ⟨0, Nat.zero_le _, rfl, by rw [trnN_zero a]⟩
  case round =>
    obtain ⟨j, hj, rfl, rfl⟩ := hrel
    have hb := trnN_bd a j a0 a1 (by omega)
    by_cases hlt : j < (b % 32).toNat
    · have HS := Lib.hid (trnN_succ a j a0 (by omega))
      go_wp2
      go_round
      case rel => exact ⟨j + 1, by omega, by go_num, by rw [HS.out]⟩
      case measure => simp [intOf]; omega
    · go_wp2
      go_ret
      exact ⟨ret_int (by unfold trn; rw [show (b % 32).toNat = j by omega]), rfl⟩
theorem rdiv_any (a b : Int) (a0 : 0 ≤ a) (a1 : a ≤ 4294967295) (b0 : 0 ≤ b) (b1 : b ≤ 4294967295) (h : 1 ≤ wrap32 b) (w : World) :
    Calls Try.prog 26 #[.int .u32 a, .int .u32 b] w fun e w' => e = .returned (.tuple #[.int .u32 (w32 (wrap32 a / wrap32 b)), .int .u32 (wrap32 a % wrap32 b)]) ∧ w = w' := by
  have ha := wrap32_bd a
  have hb := wrap32_bd b
  have ht := tdiv_bd (wrap32 a) (wrap32 b) ha h
  obtain ⟨Q, R, eQ, eR, q1, q2, q3, r0, r1, g0, g1, g2⟩ := quo_all (wrap32 a) (wrap32 b) ha h
  rw [eQ, eR]
  have q4 : 0 ≤ wrap32 a - Q * wrap32 b ∧ wrap32 a - Q * wrap32 b ≤ 2147483647 := by rw [q3]; omega
  have G2 := Lib.hid g2
  have Q3 := Lib.hid q3
  clear eQ eR g2 q3
  go_enter Try.func26, Try.ntmps26
  go_wp2_with (go_at_call 24; refine (signed_any _ (by omega) (by omega) _).mono ?_; rintro e w' ⟨rfl, rfl⟩)
  go_loop [8] (fun s => ∃ q : Int, s = .int .i64 q ∧ (q = Q ∨ (q = Q + 1 ∧ Q ≤ 2147483646))) (fun s => (intOf s - Q).toNat)
  case atStart => exact ⟨_, rfl, G2.out⟩
  case round =>
    obtain ⟨q, rfl, hq1⟩ := hrel
    have hp := prod32 q (wrap32 b) (by omega) hb
    rcases hq1 with rfl | ⟨e, f⟩
    · go_wp2_with (go_at_call 23; refine (rword_any _ (by omega) (by omega) _).mono ?_; rintro e w' ⟨rfl, rfl⟩)
      go_ret2
      exact ⟨ret_int2 rfl (by rw [Q3.out]; exact w32_in _ r0 (by omega)), rfl⟩
    · have h1 : wrap32 a < q * wrap32 b := by rw [e]; exact q2
      have g3 : -2147483648 ≤ q - 1 ∧ q - 1 ≤ 2147483646 := by omega
      have E := Lib.hid e
      clear e q1 q2
      go_wp2_with fail
      go_round
      case rel => exact ⟨q - 1, rfl, .inl (by have := E.out; omega)⟩
      case measure => have := E.out; simp [intOf]; omega
theorem rmul_no (a b : Int) (a0 : 0 ≤ a) (a1 : a ≤ 4294967295) (b0 : 0 ≤ b) (b1 : b ≤ 4294967295) (w : World) :
    Calls Try.prog 61 #[.int .u32 a, .int .u32 b, .bool false] w fun e w' => e = .returned (.tuple #[.int .u32 (w32 (a * b)), .int .u32 (a * b / 4294967296)]) ∧ w = w' := by
  obtain ⟨x1, x0, ex1, ex0, hx1, hx0, hx⟩ : ∃ x1 x0, a / 65536 = x1 ∧ a % 65536 = x0 ∧ (0 ≤ x1 ∧ x1 ≤ 65535) ∧ (0 ≤ x0 ∧ x0 ≤ 65535) ∧ a = x1 * 65536 + x0 := ⟨_, _, rfl, rfl, by omega, by omega, by omega⟩
  obtain ⟨y1, y0, ey1, ey0, hy1, hy0, hy⟩ : ∃ y1 y0, b / 65536 = y1 ∧ b % 65536 = y0 ∧ (0 ≤ y1 ∧ y1 ≤ 65535) ∧ (0 ≤ y0 ∧ y0 ≤ 65535) ∧ b = y1 * 65536 + y0 := ⟨_, _, rfl, rfl, by omega, by omega, by omega⟩
  have m11 := prod16 x1 y1 hx1 hy1
  have m10 := prod16 x1 y0 hx1 hy0
  have m01 := prod16 x0 y1 hx0 hy1
  have m00 := prod16 x0 y0 hx0 hy0
  have E := Lib.hid (mul_parts a b x1 x0 y1 y0 hx hy)
  clear hx hy
  go_enter Try.func61, Try.ntmps61
  go_wp2_with fail
  go_ret2
  exact ⟨ret_int2 (by rw [E.out]; unfold w32; generalize x1 * y1 = p at *; generalize x1 * y0 = q at *; generalize x0 * y1 = r at *; generalize x0 * y0 = s at *; omega)
    (by rw [E.out]; generalize x1 * y1 = p at *; generalize x1 * y0 = q at *; generalize x0 * y1 = r at *; generalize x0 * y0 = s at *; omega), rfl⟩
theorem rmul_yes (a b : Int) (a0 : 0 ≤ a) (a1 : a ≤ 4294967295) (b0 : 0 ≤ b) (b1 : b ≤ 4294967295) (w : World) :
    Calls Try.prog 61 #[.int .u32 a, .int .u32 b, .bool true] w fun e w' => e = .returned (.tuple #[.int .u32 (w32 (wrap32 a * wrap32 b)), .int .u32 (w32 (wrap32 a * wrap32 b / 4294967296))]) ∧ w = w' := by
  obtain ⟨x1, x0, ex1, ex0, hx1, hx0, hx⟩ : ∃ x1 x0, a / 65536 = x1 ∧ a % 65536 = x0 ∧ (0 ≤ x1 ∧ x1 ≤ 65535) ∧ (0 ≤ x0 ∧ x0 ≤ 65535) ∧ a = x1 * 65536 + x0 := ⟨_, _, rfl, rfl, by omega, by omega, by omega⟩
  obtain ⟨y1, y0, ey1, ey0, hy1, hy0, hy⟩ : ∃ y1 y0, b / 65536 = y1 ∧ b % 65536 = y0 ∧ (0 ≤ y1 ∧ y1 ≤ 65535) ∧ (0 ≤ y0 ∧ y0 ≤ 65535) ∧ b = y1 * 65536 + y0 := ⟨_, _, rfl, rfl, by omega, by omega, by omega⟩
  have m11 := prod16 x1 y1 hx1 hy1
  have m10 := prod16 x1 y0 hx1 hy0
  have m01 := prod16 x0 y1 hx0 hy1
  have m00 := prod16 x0 y0 hx0 hy0
  have E := Lib.hid (mul_parts a b x1 x0 y1 y0 hx hy)
  clear hx hy
  by_cases ha : 2147483648 ≤ a <;> by_cases hb : 2147483648 ≤ b
  all_goals
    have S := mul_signed a b a0 a1 b0 b1
    simp only [ha, hb, if_true, if_false] at S
    have T := Lib.hid S
    clear S
    have ga : ¬ (2147483648 ≤ a) → 0 ≤ wrap32 a := fun h => by rw [wrap32_lo a a0 (by omega)]; exact a0
    have gb : ¬ (2147483648 ≤ b) → 0 ≤ wrap32 b := fun h => by rw [wrap32_lo b b0 (by omega)]; exact b0
    have ha' : 2147483648 ≤ a → wrap32 a < 0 := fun h => by rw [wrap32_hi a h a1]; omega
    have hb' : 2147483648 ≤ b → wrap32 b < 0 := fun h => by rw [wrap32_hi b h b1]; omega
    first | have ga := ga ha | have ha' := ha' ha
    first | have gb := gb hb | have hb' := hb' hb
    go_enter Try.func61, Try.ntmps61
    go_wp2_with (go_at_call 24; refine (signed_any _ (by omega) (by omega) _).mono ?_; rintro e w' ⟨rfl, rfl⟩)
    go_ret2
    refine ⟨ret_int2 ?_ ?_, rfl⟩
    · rw [T.out, E.out]; unfold w32; generalize x1 * y1 = p at *; generalize x1 * y0 = q at *; generalize x0 * y1 = r at *; generalize x0 * y0 = s at *; omega
    · rw [T.out, E.out]; unfold w32; generalize x1 * y1 = p at *; generalize x1 * y0 = q at *; generalize x0 * y1 = r at *; generalize x0 * y0 = s at *; omega
end Go.Proofs.Ytgjecfchnokcfaa

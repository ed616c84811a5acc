/-
  The contracts of word's and the reference's functions on texts.
-/
import Derived.Test.YtpfbonknajcmaaaDoorWordR
import Derived.Test.YtpfbonknajcmaaaDoorText
import Derived.Test.YtpfbonknajcmaaaDoorShelf

namespace Go.Proofs.YtpfbonknajcmaaaDoor
open Go.ChangeShapes Go.WideShapes Go.ChangeAt Go.RowKit
set_option linter.unusedVariables false

theorem dec_any (a : Int) (w : World) (hT : Tab w) : Calls Tryd.prog 39 #[.int .u32 a] w fun e w' => e = .returned (.string (itoaB (wrap32 a))) ∧ Below w.heap.size w w' := by
  have ha := wrap32_bd a
  have H := Lib.hid hT
  clear hT
  go_enter Tryd.func39, Tryd.ntmps39
  go_wp2_with (go_at_call 51; refine (Tryd.strconv_Itoa _ (by omega) (by omega) _ H.out).mono ?_; rintro e w' ⟨rfl, k, os, rfl⟩)
  go_ret
  exact ⟨rfl, grow_below _ _ _⟩
theorem conv1 (W : World) (z : Int) : (convert 40 9 (.slice (some ⟨W.heap.size, 0, none⟩) 1 1)).run Tryd.prog (W.alloc (.cells #[.int .u8 z] 5)) = .ok (.string (dg1 z)) (W.alloc (.cells #[.int .u8 z] 5)) := by
  rw [run_convert_bytes_string _ _ _ 5 _ _ _ Tryd.underlying40 Tryd.underlying5 Tryd.underlying9]
  rw [run_bytesToString _ _ _ _ [z] (by go_simp)]
  rfl
theorem rdec_any (a : Int) (a0 : 0 ≤ a) (a1 : a ≤ 4294967295) (w : World) : Calls Tryd.prog 40 #[.int .u32 a] w fun e w' => e = .returned (.string (itoaB (wrap32 a))) ∧ Below w.heap.size w w' := by
  have ha := wrap32_bd a
  by_cases h : wrap32 a < 0
  · obtain ⟨u, hu⟩ := Int.eq_ofNat_of_zero_le (show 0 ≤ -wrap32 a by omega)
    have hfin : itoaB (wrap32 a) = S [45] ++ S (Lib.decDigits u) := by
      unfold itoaB; rw [show wrap32 a = -(u : Int) by omega, Lib.itoa_neg u (by omega), S_append]; rfl
    have HF := Lib.hid hfin
    clear hfin
    go_enter Tryd.func40, Tryd.ntmps40
    go_wp2_with (go_at_call 19; refine (signed_any _ (by omega) (by omega) _).mono ?_; rintro e w' ⟨rfl, rfl⟩)
    go_loopw [3, 5] (fun n s wr => ∃ (m : Nat) (l : List UInt8), n = .int .i64 m ∧ s = .string (S l) ∧ Hid (DecInv u m l) ∧ Below w.heap.size w wr) (fun n s _ => (intOf n).toNat + emp s)
    case atStart => exact ⟨u, [], rfl, rfl, ⟨by omega, by simp, .inl ⟨rfl, rfl⟩⟩, Below.refl _ _⟩
    case round =>
      obtain ⟨m, l, rfl, rfl, HI, hb⟩ := hrel
      have hm : m ≤ 2147483648 := by have := HI.out.1; omega
      have hz : (S l).size ≤ 21 := by rw [S_size]; exact HI.out.2.1
      have hcv := conv1 wr (48 + (m : Int) % 10)
      have hdg := dg1_size (48 + (m : Int) % 10)
      by_cases hp : 0 < m
      · go_wp2_with fail
        go_roundw
        case rel => exact ⟨m / 10, _, by go_num, by rw [dg1_add], HI.out.step (by omega) (.inl hp), hb.alloc hb.size _⟩
        case measure => rw [dg1_add, emp_cons]; have := emp_le (.string (S l)); simp [intOf]; omega
      · by_cases he : l = []
        · have hE : (S l).toList.isEmpty = true := by rw [S_empty, he]; rfl
          have HE := Lib.hid he
          clear he
          go_wp2_with fail
          go_roundw
          case rel => exact ⟨m / 10, _, by go_num, by rw [dg1_add], HI.out.step (by omega) (.inr HE.out), hb.alloc hb.size _⟩
          case measure => rw [dg1_add, emp_cons, HE.out, emp_nil]; simp [intOf]; omega
        · have hE : (S l).toList.isEmpty = false := by rw [S_empty]; cases l; exact absurd rfl he; rfl
          go_wp2_with fail
          go_ret
          exact ⟨ret_str (by rw [HF.out, ← HI.out.done hp he]; rfl), hb⟩
  · obtain ⟨u, hu⟩ := Int.eq_ofNat_of_zero_le (show 0 ≤ wrap32 a by omega)
    have hfin : itoaB (wrap32 a) = S [] ++ S (Lib.decDigits u) := by
      unfold itoaB; rw [hu, Lib.itoa_nonneg, S_append]; rfl
    have HF := Lib.hid hfin
    clear hfin
    go_enter Tryd.func40, Tryd.ntmps40
    go_wp2_with (go_at_call 19; refine (signed_any _ (by omega) (by omega) _).mono ?_; rintro e w' ⟨rfl, rfl⟩)
    go_loopw [3, 5] (fun n s wr => ∃ (m : Nat) (l : List UInt8), n = .int .i64 m ∧ s = .string (S l) ∧ Hid (DecInv u m l) ∧ Below w.heap.size w wr) (fun n s _ => (intOf n).toNat + emp s)
    case atStart => exact ⟨u, [], rfl, rfl, ⟨by omega, by simp, .inl ⟨rfl, rfl⟩⟩, Below.refl _ _⟩
    case round =>
      obtain ⟨m, l, rfl, rfl, HI, hb⟩ := hrel
      have hm : m ≤ 2147483648 := by have := HI.out.1; omega
      have hz : (S l).size ≤ 21 := by rw [S_size]; exact HI.out.2.1
      have hcv := conv1 wr (48 + (m : Int) % 10)
      have hdg := dg1_size (48 + (m : Int) % 10)
      by_cases hp : 0 < m
      · go_wp2_with fail
        go_roundw
        case rel => exact ⟨m / 10, _, by go_num, by rw [dg1_add], HI.out.step (by omega) (.inl hp), hb.alloc hb.size _⟩
        case measure => rw [dg1_add, emp_cons]; have := emp_le (.string (S l)); simp [intOf]; omega
      · by_cases he : l = []
        · have hE : (S l).toList.isEmpty = true := by rw [S_empty, he]; rfl
          have HE := Lib.hid he
          clear he
          go_wp2_with fail
          go_roundw
          case rel => exact ⟨m / 10, _, by go_num, by rw [dg1_add], HI.out.step (by omega) (.inr HE.out), hb.alloc hb.size _⟩
          case measure => rw [dg1_add, emp_cons, HE.out, emp_nil]; simp [intOf]; omega
        · have hE : (S l).toList.isEmpty = false := by rw [S_empty]; cases l; exact absurd rfl he; rfl
          go_wp2_with fail
          go_ret
          exact ⟨ret_str (by rw [HF.out, ← HI.out.done hp he]; rfl), hb⟩
theorem hexIndex (n : Int) (h0 : 0 ≤ n) (h1 : n ≤ 15) (W : World) : (Instr.index 9 (.string { data := #[48, 49, 50, 51, 52, 53, 54, 55, 56, 57, 97, 98, 99, 100, 101, 102] }) (.int .u32 n)).run Tryd.prog W = .ok (.int .u8 (hxd n)) W := by
  have : n = 0 ∨ n = 1 ∨ n = 2 ∨ n = 3 ∨ n = 4 ∨ n = 5 ∨ n = 6 ∨ n = 7 ∨ n = 8 ∨ n = 9 ∨ n = 10 ∨ n = 11 ∨ n = 12 ∨ n = 13 ∨ n = 14 ∨ n = 15 := by omega
  rcases this with rfl | rfl | rfl | rfl | rfl | rfl | rfl | rfl | rfl | rfl | rfl | rfl | rfl | rfl | rfl | rfl <;> (show Sem.run _ _ _ = _; simp [hxd, go_sem, Instr.index]; rfl)
theorem conv8 (W : World) (z0 z1 z2 z3 z4 z5 z6 z7 : Int) :
    (convert 40 9 (.slice (some ⟨W.heap.size, 0, none⟩) 8 8)).run Tryd.prog (W.alloc (.cells #[.int .u8 z0, .int .u8 z1, .int .u8 z2, .int .u8 z3, .int .u8 z4, .int .u8 z5, .int .u8 z6, .int .u8 z7] 61)) =
    .ok (.string (S [UInt8.ofNat z0.toNat, UInt8.ofNat z1.toNat, UInt8.ofNat z2.toNat, UInt8.ofNat z3.toNat, UInt8.ofNat z4.toNat, UInt8.ofNat z5.toNat, UInt8.ofNat z6.toNat, UInt8.ofNat z7.toNat]))
      (W.alloc (.cells #[.int .u8 z0, .int .u8 z1, .int .u8 z2, .int .u8 z3, .int .u8 z4, .int .u8 z5, .int .u8 z6, .int .u8 z7] 61)) := by
  rw [run_convert_bytes_string _ _ _ 5 _ _ _ Tryd.underlying40 Tryd.underlying5 Tryd.underlying9]
  rw [run_bytesToString _ _ _ _ [z0, z1, z2, z3, z4, z5, z6, z7] (by go_simp)]
  rfl
def h8 (z0 z1 z2 z3 z4 z5 z6 z7 : Int) : ByteArray := S [UInt8.ofNat (hxd z0).toNat, UInt8.ofNat (hxd z1).toNat, UInt8.ofNat (hxd z2).toNat, UInt8.ofNat (hxd z3).toNat, UInt8.ofNat (hxd z4).toNat, UInt8.ofNat (hxd z5).toNat, UInt8.ofNat (hxd z6).toNat, UInt8.ofNat (hxd z7).toNat]
theorem h8_hexB (a : Int) (a0 : 0 ≤ a) : h8 (a / 268435456 % 16) (a / 16777216 % 16) (a / 1048576 % 16) (a / 65536 % 16) (a / 4096 % 16) (a / 256 % 16) (a / 16 % 16) (a % 16) = hexB a := by
  obtain ⟨n, rfl⟩ := Int.eq_ofNat_of_zero_le a0
  have key : ∀ (d : Nat) (D : Int), D = d → UInt8.ofNat (hxd ((n : Int) / D % 16)).toNat = hexdig (n / d % 16) := fun d D hD => by
    subst hD
    rw [show ((n : Int) / (d : Int) % 16) = ((n / d % 16 : Nat) : Int) by simp]
    exact hxd_byte _ (by omega)
  have k1 : UInt8.ofNat (hxd ((n : Int) % 16)).toNat = hexdig (n / 1 % 16) := by
    have := key 1 1 rfl
    simpa using this
  unfold h8 hexB hexL
  rw [key 268435456 268435456 rfl, key 16777216 16777216 rfl, key 1048576 1048576 rfl, key 65536 65536 rfl, key 4096 4096 rfl, key 256 256 rfl, key 16 16 rfl, k1]
  rfl
theorem hex_any (a : Int) (a0 : 0 ≤ a) (a1 : a ≤ 4294967295) (w : World) : Calls Tryd.prog 41 #[.int .u32 a] w fun e w' => e = .returned (.string (hexB a)) ∧ Below w.heap.size w w' := by
  have hfin := Lib.hid (h8_hexB a a0)
  have e0 := and15 (a / 268435456) (by omega) (by omega)
  have e1 := and15 (a / 16777216) (by omega) (by omega)
  have e2 := and15 (a / 1048576) (by omega) (by omega)
  have e3 := and15 (a / 65536) (by omega) (by omega)
  have e4 := and15 (a / 4096) (by omega) (by omega)
  have e5 := and15 (a / 256) (by omega) (by omega)
  have e6 := and15 (a / 16) (by omega) (by omega)
  have e7 := and15 a (by omega) (by omega)
  have i0 := hexIndex (a / 268435456 % 16) (by omega) (by omega)
  have i1 := hexIndex (a / 16777216 % 16) (by omega) (by omega)
  have i2 := hexIndex (a / 1048576 % 16) (by omega) (by omega)
  have i3 := hexIndex (a / 65536 % 16) (by omega) (by omega)
  have i4 := hexIndex (a / 4096 % 16) (by omega) (by omega)
  have i5 := hexIndex (a / 256 % 16) (by omega) (by omega)
  have i6 := hexIndex (a / 16 % 16) (by omega) (by omega)
  have i7 := hexIndex (a % 16) (by omega) (by omega)
  have hcv := conv8 w (hxd (a / 268435456 % 16)) (hxd (a / 16777216 % 16)) (hxd (a / 1048576 % 16)) (hxd (a / 65536 % 16)) (hxd (a / 4096 % 16)) (hxd (a / 256 % 16)) (hxd (a / 16 % 16)) (hxd (a % 16))
  go_enter Tryd.func41, Tryd.ntmps41
  go_wp2
  refine wp_loop_rounds 9 ?_
  iterate 9 (rw [rounds_succ]; go_wp2)
  go_ret
  exact ⟨by rw [← hfin.out]; rfl, (Below.refl _ _).alloc (Nat.le_refl _) _⟩
theorem rhex_any (a : Int) (a0 : 0 ≤ a) (a1 : a ≤ 4294967295) (w : World) : Calls Tryd.prog 42 #[.int .u32 a] w fun e w' => e = .returned (.string (hexB a)) ∧ Below w.heap.size w w' := by
  obtain ⟨n, rfl⟩ := Int.eq_ofNat_of_zero_le a0
  go_enter Tryd.func42, Tryd.ntmps42
  go_wp2_with fail
  go_loopw [0, 3, 4] (fun x s i wr => ∃ j : Nat, j ≤ 8 ∧ i = .int .i64 j ∧ x = .int .u32 ((n / 16 ^ j : Nat) : Int) ∧ s = .string (S (hexT n j)) ∧ Below w.heap.size w wr) (fun _ _ i _ => 8 - (intOf i).toNat)
  case atStart => exact ⟨0, by omega, rfl, by simp, rfl, Below.refl _ _⟩
  case round =>
    obtain ⟨j, hj, rfl, rfl, rfl, hb⟩ := hrel
    have hz : (S (hexT n j)).size ≤ 8 := by rw [S_size, hexT_length]; exact hj
    by_cases hlt : j < 8
    · have HS := Lib.hid (hexT_step n j)
      have HP := Lib.hid (show n / 16 ^ (j + 1) = n / 16 ^ j / 16 by rw [Nat.pow_succ, Nat.div_div_eq_div_mul])
      have hx : n / 16 ^ j ≤ 4294967295 := Nat.le_trans (Nat.div_le_self _ _) (by omega)
      generalize n / 16 ^ j = x at *
      by_cases h9 : x % 16 < 10
      · have hcv := conv1 wr ((x : Int) % 16 + 48)
        have hdg := dg1_size ((x : Int) % 16 + 48)
        go_wp2_with fail
        go_roundw
        case rel => exact ⟨j + 1, by omega, by go_num, by rw [HP.out]; go_num, by rw [dg1_lo _ _ h9, HS.out], hb.alloc hb.size _⟩
        case measure => simp [intOf]; omega
      · have hcv := conv1 wr ((x : Int) % 16 - 10 + 97)
        have hdg := dg1_size ((x : Int) % 16 - 10 + 97)
        go_wp2_with fail
        go_roundw
        case rel => exact ⟨j + 1, by omega, by go_num, by rw [HP.out]; go_num, by rw [dg1_hi _ _ h9, HS.out], hb.alloc hb.size _⟩
        case measure => simp [intOf]; omega
    · go_wp2_with fail
      go_ret
      exact ⟨ret_str (by obtain rfl : j = 8 := by omega
                         rfl), hb⟩
end Go.Proofs.YtpfbonknajcmaaaDoor

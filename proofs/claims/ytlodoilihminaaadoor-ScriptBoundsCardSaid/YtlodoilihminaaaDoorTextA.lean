/-
  The contracts of word's and the reference's functions on texts.
-/
import Derived.Test.YtlodoilihminaaaDoorWordR
import Derived.Test.YtlodoilihminaaaDoorText
import Derived.Test.YtlodoilihminaaaDoorShelf

namespace Go.Proofs.YtlodoilihminaaaDoor
open Go.ChangeShapes Go.WideShapes Go.ChangeAt Go.RowKit
set_option linter.unusedVariables false

theorem dec_any (a : Int) (w : World) (hT : Tab w) : Calls Tryd.prog 61 #[.int .u32 a] w fun e w' => e = .returned (.string (itoaB (wrap32 a))) ∧ Below w.heap.size w w' := by
  have ha := wrap32_bd a
  have H := Lib.hid hT
  clear hT
  go_enter Tryd.func61, Tryd.ntmps61
  go_wp2_with (go_at_call 31; refine (Tryd.strconv_Itoa _ (by omega) (by omega) _ H.out).mono ?_; rintro e w' ⟨rfl, k, os, rfl⟩)
  go_ret
  exact ⟨rfl, grow_below _ _ _⟩
theorem conv1 (W : World) (z : Int) : (convert 23 9 (.slice (some ⟨W.heap.size, 0, none⟩) 1 1)).run Tryd.prog (W.alloc (.cells #[.int .u8 z] 5)) = .ok (.string (dg1 z)) (W.alloc (.cells #[.int .u8 z] 5)) := by
  rw [run_convert_bytes_string _ _ _ 5 _ _ _ Tryd.underlying23 Tryd.underlying5 Tryd.underlying9]
  rw [run_bytesToString _ _ _ _ [z] (by go_simp)]
  rfl
theorem rdec_any (a : Int) (a0 : 0 ≤ a) (a1 : a ≤ 4294967295) (w : World) : Calls Tryd.prog 45 #[.int .u32 a] w fun e w' => e = .returned (.string (itoaB (wrap32 a))) ∧ Below w.heap.size w w' := by
  have ha := wrap32_bd a
  by_cases h : wrap32 a < 0
  · obtain ⟨u, hu⟩ := Int.eq_ofNat_of_zero_le (show 0 ≤ -wrap32 a by omega)
    have hfin : itoaB (wrap32 a) = S [45] ++ S (Lib.decDigits u) := by
      unfold itoaB; rw [show wrap32 a = -(u : Int) by omega, Lib.itoa_neg u (by omega), S_append]; rfl
    have HF := Lib.hid hfin
    clear hfin
    go_enter Tryd.func45, Tryd.ntmps45
    go_wp2_with (go_at_call 62; refine (signed_any _ (by omega) (by omega) _).mono ?_; rintro e w' ⟨rfl, rfl⟩)
    go_loopw [3, 5] (fun n s wr => ∃ (m : Nat) (l : List UInt8), n = .int .i64 m ∧ s = .string (S l) ∧ Hid (DecInv u m l) ∧ Below w.heap.size w wr) (fun n s _ => (intOf n).toNat + emp s)
    case atStart => exact ⟨u, [], rfl, rfl, ⟨by omega, by simp, .inl ⟨rfl, rfl⟩⟩, Below.refl _ _⟩
    case round =>
      obtain ⟨m, l, rfl, rfl, HI, hb⟩ := hrel
      have hm : m ≤ 2147483648 := by have := HI.out.1; omega
      have hz : (S l).size ≤ 21 := by rw [S_size]; exact HI.out.2.1
      have hcv := conv1 wr (48 + (m : Int) % 10)
      have hdg := dg1_size (48 + (m : Int) % 10)
      by_cases hp : 0 < m
      · go_wp2_with fail
        go_roundw
        case rel => exact ⟨m / 10, _, by go_num, by rw [dg1_add], HI.out.step (by omega) (.inl hp), hb.alloc hb.size _⟩
        case measure => rw [dg1_add, emp_cons]; have := emp_le (.string (S l)); simp [intOf]; omega
      · by_cases he : l = []
        · have hE : (S l).toList.isEmpty = true := by rw [S_empty, he]; rfl
          have HE := Lib.hid he
          clear he
          go_wp2_with fail
          go_roundw
          case rel => exact ⟨m / 10, _, by go_num, by rw [dg1_add], HI.out.step (by omega) (.inr HE.out), hb.alloc hb.size _⟩
          case measure => rw [dg1_add, emp_cons, HE.out, emp_nil]; simp [intOf]; omega
        · have hE : (S l).toList.isEmpty = false := by rw [S_empty]; cases l; exact absurd rfl he; rfl
          go_wp2_with fail
          go_ret
          exact ⟨ret_str (by rw [HF.out, ← HI.out.done hp he]; rfl), hb⟩
  · obtain ⟨u, hu⟩ := Int.eq_ofNat_of_zero_le (show 0 ≤ wrap32 a by omega)
    have hfin : itoaB (wrap32 a) = S [] ++ S (Lib.decDigits u) := by
      unfold itoaB; rw [hu, Lib.itoa_nonneg, S_append]; rfl
    have HF := Lib.hid hfin
    clear hfin
    go_enter Tryd.func45, Tryd.ntmps45
    go_wp2_with (go_at_call 62; refine (signed_any _ (by omega) (by omega) _).mono ?_; rintro e w' ⟨rfl, rfl⟩)
    go_loopw [3, 5] (fun n s wr => ∃ (m : Nat) (l : List UInt8), n = .int .i64 m ∧ s = .string (S l) ∧ Hid (DecInv u m l) ∧ Below w.heap.size w wr) (fun n s _ => (intOf n).toNat + emp s)
    case atStart => exact ⟨u, [], rfl, rfl, ⟨by omega, by simp, .inl ⟨rfl, rfl⟩⟩, Below.refl _ _⟩
    case round =>
      obtain ⟨m, l, rfl, rfl, HI, hb⟩ := hrel
      have hm : m ≤ 2147483648 := by have := HI.out.1; omega
      have hz : (S l).size ≤ 21 := by rw [S_size]; exact HI.out.2.1
      have hcv := conv1 wr (48 + (m : Int) % 10)
      have hdg := dg1_size (48 + (m : Int) % 10)
      by_cases hp : 0 < m
      · go_wp2_with fail
        go_roundw
        case rel => exact ⟨m / 10, _, by go_num, by rw [dg1_add], HI.out.step (by omega) (.inl hp), hb.alloc hb.size _⟩
        case measure => rw [dg1_add, emp_cons]; have := emp_le (.string (S l)); simp [intOf]; omega
      · by_cases he : l = []
        · have hE : (S l).toList.isEmpty = true := by rw [S_empty, he]; rfl
          have HE := Lib.hid he
          clear he
          go_wp2_with fail
          go_roundw
          case rel => exact ⟨m / 10, _, by go_num, by rw [dg1_add], HI.out.step (by omega) (.inr HE.out), hb.alloc hb.size _⟩
          case measure => rw [dg1_add, emp_cons, HE.out, emp_nil]; simp [intOf]; omega
        · have hE : (S l).toList.isEmpty = false := by rw [S_empty]; cases l; exact absurd rfl he; rfl
          go_wp2_with fail
          go_ret
          exact ⟨ret_str (by rw [HF.out, ← HI.out.done hp he]; rfl), hb⟩
end Go.Proofs.YtlodoilihminaaaDoor

/-
  The known rows of layer 1's law package: they hold.
-/
import Derived.Test.YtpfbonknajcmaaaDoorTextB
namespace Go.Proofs.YtpfbonknajcmaaaDoor
open Go.ChangeShapes Go.WideShapes Go.ChangeAt Go.RowKit
set_option linter.unusedVariables false

theorem num_any (e : Int) (w : World) : Calls Tryd.prog 20 #[.int .i64 e] w fun x w' => x = .returned (.int .i64 e) ∧ w = w' := by
  go_enter Tryd.func20, Tryd.ntmps20
  go_wp2
  go_ret
  exact ⟨rfl, rfl⟩
theorem k_add (w : World) : Calls Tryd.prog 12 #[.int .u32 4294967295, .int .u32 1, .bool false] w fun e w' => e = .returned (.tuple #[.int .u32 0, .bool true, .bool false]) ∧ w = w' :=
  (add_any _ _ _ (by omega) (by omega) (by omega) (by omega) w).mono fun e w' ⟨h1, h2⟩ => ⟨by rw [h1]; kernel_rfl, h2⟩
theorem k_sub (w : World) : Calls Tryd.prog 14 #[.int .u32 0, .int .u32 1, .bool false] w fun e w' => e = .returned (.tuple #[.int .u32 4294967295, .bool true, .bool false]) ∧ w = w' :=
  (sub_any _ _ _ (by omega) (by omega) (by omega) (by omega) w).mono fun e w' ⟨h1, h2⟩ => ⟨by rw [h1]; kernel_rfl, h2⟩
theorem k_div (w : World) : Calls Tryd.prog 18 #[.int .u32 4294967289, .int .u32 2] w fun e w' => e = .returned (.tuple #[.int .u32 4294967292, .int .u32 1, .int .i64 0]) ∧ ∃ n, w' = w.drewN n :=
  (div_yes _ _ (by rw [wrap_in 2 (by omega) (by omega)]; omega) w).mono fun e w' ⟨h1, h2⟩ => ⟨by rw [h1]; kernel_rfl, h2⟩
theorem k_mul (w : World) : Calls Tryd.prog 16 #[.int .u32 4294967295, .int .u32 2, .bool true] w fun e w' => e = .returned (.tuple #[.int .u32 4294967294, .int .u32 4294967295]) ∧ w = w' :=
  (mul_yes _ _ (by omega) (by omega) (by omega) (by omega) w).mono fun e w' ⟨h1, h2⟩ => ⟨by rw [h1]; kernel_rfl, h2⟩
theorem itoa_no1 (v : Int) : itoaB v ≠ { data := #[45, 48] } := by
  intro h
  have h := S_inj (show S (Lib.itoa v) = S [45, 48] from h)
  unfold Lib.itoa at h
  split at h
  · rename_i hv
    have h1 : Lib.decDigits v.natAbs = [48] := by injection h
    have h2 := dval_decDigits v.natAbs
    rw [h1] at h2
    simp [dval] at h2
    omega
  · have h1 := decDigits_dig v.toNat 45 (by rw [h]; simp)
    unfold isDig at h1
    revert h1; decide
theorem itoa_no2 (v : Int) (h1 : v ≤ 2147483647) : itoaB v ≠ { data := #[50, 49, 52, 55, 52, 56, 51, 54, 52, 56] } := by
  intro h
  have h := S_inj (show S (Lib.itoa v) = S [50, 49, 52, 55, 52, 56, 51, 54, 52, 56] from h)
  unfold Lib.itoa at h
  split at h
  · injection h with a b
    revert a; decide
  · have h2 := dval_decDigits v.toNat
    rw [h] at h2
    have h3 : dval [50, 49, 52, 55, 52, 56, 51, 54, 52, 56] = 2147483648 := by decide +kernel
    rw [h3] at h2
    omega
theorem k_dec (w : World) (hT : Tab w) : Calls Tryd.prog 39 #[.int .u32 4294967291] w fun e w' => e = .returned (.string { data := #[45, 53] }) ∧ Below w.heap.size w w' :=
  (dec_any _ w hT).mono fun e w' ⟨h1, h2⟩ => ⟨by rw [h1, show wrap32 4294967291 = -5 from by kernel_rfl]; unfold itoaB; rw [show Lib.itoa (-5) = [45, 53] from Lib.itoa_neg 5 (by omega) ▸ by rw [Lib.decDigits_one (by omega)]; rfl]; rfl, h2⟩
theorem k_hex (w : World) : Calls Tryd.prog 41 #[.int .u32 10] w fun e w' => e = .returned (.string { data := #[48, 48, 48, 48, 48, 48, 48, 97] }) ∧ Below w.heap.size w w' :=
  (hex_any _ (by omega) (by omega) w).mono fun e w' ⟨h1, h2⟩ => ⟨by rw [h1]; kernel_rfl, h2⟩
theorem known_any (w : World) (hT : Tab w) : Calls Tryd.prog 21 #[] w fun e w' => e = .returned (.bool true) ∧ Below w.heap.size w w' := by
  have HT := Lib.hid hT
  clear hT
  go_enter Tryd.func21, Tryd.ntmps21
  go_wp2_with (first | (go_at_call 12; refine (k_add _).mono ?_; rintro e w' ⟨rfl, rfl⟩) | (go_at_call 14; refine (k_sub _).mono ?_; rintro e w' ⟨rfl, rfl⟩) | (go_at_call 16; refine (k_mul _).mono ?_; rintro e w' ⟨rfl, rfl⟩) | (go_at_call 18; refine (k_div _).mono ?_; rintro e w' ⟨rfl, n1, rfl⟩))
  refine (ofDec_no _ (fun v _ _ => itoa_no1 v) _ (HT.out.below (below_drewN (Below.refl _ _) _))).mono ?_
  rintro e w1 ⟨rfl, hb1⟩
  go_wp2_with fail
  have hb1' : Below w.heap.size w w1 := (below_drewN (Below.refl _ _) _).trans hb1
  refine (ofDec_no _ (fun v _ h => itoa_no2 v h) _ (HT.out.below hb1')).mono ?_
  rintro e w2 ⟨rfl, hb2⟩
  have hb2' : Below w.heap.size w w2 := hb1'.trans (hb2.mono hb1'.size)
  clear hb1 hb2
  go_wp2_with (go_at_call 20; refine (num_any _ _).mono ?_; rintro e w' ⟨rfl, rfl⟩)
  refine (k_dec _ (HT.out.below hb2')).mono ?_
  rintro e w3 ⟨rfl, hb3⟩
  have hb3' : Below w.heap.size w w3 := hb2'.trans (hb3.mono hb2'.size)
  clear hb3
  go_wp2_with (go_at_call 20; refine (num_any _ _).mono ?_; rintro e w' ⟨rfl, rfl⟩)
  refine (k_hex _).mono ?_
  rintro e w4 ⟨rfl, hb4⟩
  have hb4' : Below w.heap.size w w4 := hb3'.trans (hb4.mono hb3'.size)
  clear hb4
  go_wp2_with fail
  go_ret
  exact ⟨rfl, hb4'⟩
end Go.Proofs.YtpfbonknajcmaaaDoor

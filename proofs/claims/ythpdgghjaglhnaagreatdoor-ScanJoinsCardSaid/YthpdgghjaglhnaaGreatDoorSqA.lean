/-
  The document's scanner: letters, digits, bytes; blanks and comments.
-/
import Derived.Test.YthpdgghjaglhnaaGreatDoorSqP
namespace Go.Proofs.YthpdgghjaglhnaaGreatDoor
open Go.ChangeShapes Go.WideShapes Go.ChangeAt Go.RowKit
set_option linter.unusedVariables false
set_option linter.unusedSimpArgs false
theorem qletter_any (c : Int) (w : World) : Calls Tryz.prog 20 #[.int .u8 c] w fun e w' => e = .returned (.bool (letB c)) ∧ w = w' := by
  unfold letB
  by_cases h1 : 65 ≤ c <;> by_cases h2 : c ≤ 90 <;> by_cases h3 : 97 ≤ c <;> by_cases h4 : c ≤ 122
  all_goals
    go_enter Tryz.func20, Tryz.ntmps20
    go_wp2
    go_ret
    refine ⟨?_, rfl⟩
    first | rfl | (simp [h1, h2, h3, h4]; done) | (simp [h1, h2, h3, h4]; omega) | (exfalso; omega)
theorem qdigit_any (c : Int) (w : World) : Calls Tryz.prog 22 #[.int .u8 c] w fun e w' => e = .returned (.bool (digB c)) ∧ w = w' := by
  unfold digB
  by_cases h1 : 48 ≤ c <;> by_cases h2 : c ≤ 57
  all_goals
    go_enter Tryz.func22, Tryz.ntmps22
    go_wp2
    go_ret
    refine ⟨?_, rfl⟩
    first | rfl | (simp [h1, h2]; done) | (simp [h1, h2]; omega) | (exfalso; omega)
section
variable {w : World} {A : Option Addr} {n c : Nat} {zs : List Int}
theorem qat_any (hr : Rd w w.heap.size .u8 A n zs) (hn : n ≤ 65535) (i : Nat) (hi : i ≤ 100000) :
    Calls Tryz.prog 21 #[.slice A n c, .int .i64 (i : Int)] w fun e w' => e = .returned (.int .u8 (nth zs i)) ∧ w = w' := by
  by_cases h : i < n
  · obtain ⟨x, rfl, hx, hc⟩ := hr.2 (by omega)
    have hcell := hc i h
    clear hc hr
    go_enter Tryz.func21, Tryz.ntmps21
    go_wp2_with fail
    go_ret
    exact ⟨rfl, rfl⟩
  · rw [nth_ge zs i (by rw [hr.1]; omega)]
    clear hr
    go_enter Tryz.func21, Tryz.ntmps21
    go_wp2_with fail
    go_ret
    exact ⟨rfl, rfl⟩
theorem qat1 (hr : Rd w w.heap.size .u8 A n zs) (hn : n ≤ 65535) (i : Nat) (hi : i ≤ 90000) :
    Calls Tryz.prog 21 #[.slice A n c, .int .i64 ((i : Int) + 1)] w fun e w' => e = .returned (.int .u8 (nth zs (i + 1))) ∧ w = w' := qat_any hr hn (i + 1) (by omega)
theorem qdrewN {B : Nat} {a W : World} (h : Below B a W) (n : Nat) : Below B a (W.drewN n) := h.trans ⟨rfl, rfl, rfl, Nat.le_refl _, fun _ _ => rfl⟩
/-- what is told of blanks -/
def BkV (zs : List Int) (r : Bool × List Int) : Value := .tuple #[.int .i64 (if r.1 then ((zs.length - r.2.length : Nat) : Int) else (zs.length : Int)), .int .i64 (if r.1 then -1 else ((zs.length - r.2.length : Nat) : Int))]
set_option maxRecDepth 100000 in
set_option maxHeartbeats 4000000 in
theorem qblank_any (hr : Rd w w.heap.size .u8 A n zs) (hn : n ≤ 65535) (i : Nat) (hi : i ≤ n) :
    Calls Tryz.prog 19 #[.slice A n c, .int .i64 (i : Int)] w fun e w' => e = .returned (BkV zs (bl (zs.drop i))) ∧ w = w' := by
  have HA := Lib.hid (fun k hk => qat1 (c := c) hr hn k hk)
  have hl := hr.1
  have HL := Lib.hid hl
  have HC := Lib.hid hr.2
  clear hl hr
  go_enter Tryz.func19, Tryz.ntmps19
  go_wp2_with fail
  go_loopw [1] (fun iv wr => ∃ a : Nat, iv = .int .i64 (a : Int) ∧ a ≤ n ∧ wr = w ∧ Hid (bl (zs.drop a) = bl (zs.drop i))) (fun iv _ => n - (intOf iv).toNat)
  case atStart => exact ⟨i, rfl, hi, rfl, Lib.hid rfl⟩
  case round =>
    clear hi
    obtain ⟨a, rfl, ha, rfl, HB⟩ := hrel
    by_cases hov : n ≤ a
    · obtain rfl : a = n := by omega
      have HE := Lib.hid (bl_end zs a (by rw [HL.out]; exact Nat.le_refl _))
      go_wp2_with fail
      go_ret2
      rw [← HB.out, HE.out]
      exact ⟨by unfold BkV; simp [HL.out], rfl⟩
    · have hlt : a < zs.length := by rw [HL.out]; omega
      have BB := Lib.hid (bl_bad zs a hlt)
      have BO := Lib.hid fun h1 h2 r => @bl_over zs a hlt h1 h2 r
      have BL := Lib.hid (bl_blank zs a hlt)
      have BS := Lib.hid (bl_stop zs a hlt)
      have K1 := HA.out a (by omega)
      obtain ⟨x, hx0, hx1, hx2⟩ := HC.out (by omega)
      have hc := hx2 a (by omega)
      have HX2 := Lib.hid hx2
      have HX1 := Lib.hid hx1
      subst hx0
      have HX0 := Lib.hid (show ∃ y, y = nth zs a from ⟨_, rfl⟩)
      have HX1 := Lib.hid (show ∃ y, y = nth zs (a + 1) from ⟨_, rfl⟩)
      obtain ⟨x0, hx0⟩ := HX0.out
      obtain ⟨x1, hx1'⟩ := HX1.out
      rw [← hx0] at hc BB BO BL BS
      rw [← hx1'] at K1 BB BO BL BS
      have E0 := Lib.hid hx0
      have E1 := Lib.hid hx1'
      replace K1 := Lib.hid K1
      clear hx0 hx1' hx1 hx2 HX0 HX1 hlt
      by_cases h32 : x0 ≤ 32
      · have CF := Lib.hid (BL.out (by omega) h32)
        clear BB BO BL BS
        go_wp2_with fail
        exact ⟨⟨a + 1, by simp, by omega, (by first | rfl | trivial), Lib.hid (by rw [← HB.out, CF.out])⟩, by simp [intOf]; omega⟩
      by_cases h40 : x0 = 40
      rotate_left
      · have h40b : (x0 != 40) = true := by simpa using h40
        have CF := Lib.hid (BS.out (by omega) h32)
        clear BB BO BL BS h40
        go_wp2_with fail
        go_ret2
        rw [← HB.out, CF.out]
        have e : zs.length - (zs.drop a).length = a := by simp [HL.out]; omega
        exact ⟨by unfold BkV; simp only [e]; simp, rfl⟩
      subst h40
      by_cases h42 : x1 = 42
      rotate_left
      · have h42b : (x1 != 42) = true := by simpa using h42
        have CF := Lib.hid (BS.out (by omega) h32)
        clear BB BO BL BS h42
        go_wp2_with (go_at_call 21; (with_reducible refine K1.out.mono ?_); rintro e w' ⟨rfl, rfl⟩)
        go_ret2
        rw [← HB.out, CF.out]
        have e : zs.length - (zs.drop a).length = a := by simp [HL.out]; omega
        exact ⟨by unfold BkV; simp only [e]; simp, rfl⟩
      subst h42
      clear BL BS
      go_wp2_with (go_at_call 21; (with_reducible refine K1.out.mono ?_); rintro e w' ⟨rfl, rfl⟩)
      clear K1 hc h32
      go_loopw [1, 7] (fun iv dv wl => ∃ b d : Nat, iv = .int .i64 (b : Int) ∧ dv = .int .i64 (d : Int) ∧ a ≤ b ∧ b ≤ n ∧ d ≤ b ∧ wl = wr ∧ Hid (cm (zs.drop b) d = cm (zs.drop a) 0) ∧ Hid (d = 0 → b = a)) (fun iv _ _ => n - (intOf iv).toNat)
      case atStart => exact ⟨a, 0, rfl, rfl, Nat.le_refl _, ha, Nat.zero_le _, rfl, Lib.hid rfl, Lib.hid fun _ => rfl⟩
      case round =>
        obtain ⟨b, d, rfl, rfl, hab, hb, hdb, rfl, HM, H0⟩ := hrel
        by_cases hov2 : n ≤ b
        · obtain rfl : b = n := by omega
          have hd0 : d ≠ 0 := fun e => hov (by have := H0.out e; omega)
          have hn : cm (zs.drop a) 0 = none := by rw [← HM.out]; exact cm_end zs b d (by rw [HL.out]; exact Nat.le_refl _)
          have CF := Lib.hid (BB.out (by simp) (by simp) hn)
          have hd1 : 0 < d := by omega
          clear BB BO hn hd0 H0 HM
          go_wp2_with fail
          go_ret2
          rw [← HB.out, CF.out]
          have e : zs.length - (zs.drop a).length = a := by simp [HL.out]; omega
          exact ⟨by unfold BkV; simp only [e]; simp [HL.out], rfl⟩
        · have hlt : b < zs.length := by rw [HL.out]; omega
          have CO := Lib.hid (cm_open zs b d hlt)
          have CC := Lib.hid (cm_close zs b d hlt)
          have CS := Lib.hid (cm_step zs b d hlt)
          have Z1 : Hid (nth zs (b + 1) ≠ 0 → b + 2 ≤ n) := Lib.hid fun h => by
            by_cases h2 : b + 2 ≤ n
            · exact h2
            · exact absurd (nth_ge zs (b + 1) (by rw [HL.out]; omega)) h
          have K1 := HA.out b (by omega)
          have hc := HX2.out b (by omega)
          have H00 : Hid (d = 0 → nth zs b = 40 ∧ nth zs (b + 1) = 42) := Lib.hid fun e => by rw [H0.out e]; exact ⟨E0.out.symm, E1.out.symm⟩
          clear hlt H0
          generalize nth zs b = x2 at *
          generalize nth zs (b + 1) = x3 at *
          replace K1 := Lib.hid K1
          by_cases e0 : x2 = 40 ∧ x3 = 42
          · obtain ⟨rfl, rfl⟩ := e0
            have CF := Lib.hid (CO.out (by simp) (by simp))
            have hb2 := Z1.out (by omega)
            have hd1 : ((d : Int) + 1 == 0) = false := by simp; omega
            clear CO CC CS H00 Z1 BB BO
            go_wp2_with (go_at_call 21; (with_reducible refine K1.out.mono ?_); rintro e w' ⟨rfl, rfl⟩)
            exact ⟨⟨b + 2, d + 1, by simp, by simp, by omega, by omega, by omega, (by first | rfl | trivial), Lib.hid (by rw [← HM.out, CF.out]), Lib.hid (by omega)⟩, by simp [intOf]; omega⟩
          by_cases e2 : x2 = 42 ∧ x3 = 41
          · obtain ⟨rfl, rfl⟩ := e2
            have CF := Lib.hid (CC.out (by simp) (by simp))
            have hb2 := Z1.out (by omega)
            have hd0 : d ≠ 0 := fun e => by have := (H00.out e).1; omega
            clear CO CC CS H00 Z1 e0
            by_cases h1 : d = 1
            · subst h1
              have CF2 : cm (zs.drop a) 0 = some (zs.drop (b + 2)) := by rw [← HM.out, CF.out, if_pos rfl]
              have CF3 := Lib.hid (BO.out (by simp) (by simp) _ CF2)
              clear CF CF2 hd0 BB BO
              go_wp2_with (go_at_call 21; (with_reducible refine K1.out.mono ?_); rintro e w' ⟨rfl, rfl⟩)
              exact ⟨⟨b + 2, by simp, by omega, (by first | rfl | trivial), Lib.hid (by rw [← HB.out, CF3.out])⟩, by simp [intOf]; omega⟩
            · obtain ⟨d, rfl⟩ : ∃ k, d = k + 1 := ⟨d - 1, by omega⟩
              have hdn2 : (((d + 1 : Nat) : Int) - 1 == 0) = false := by simp; omega
              replace CF := Lib.hid (show cm (zs.drop b) (d + 1) = cm (zs.drop (b + 2)) d by rw [CF.out, if_neg h1]; rfl)
              clear BB BO
              go_wp2_with (go_at_call 21; (with_reducible refine K1.out.mono ?_); rintro e w' ⟨rfl, rfl⟩)
              exact ⟨⟨b + 2, d, by simp, by simp, by omega, by omega, by omega, (by first | rfl | trivial), Lib.hid (by rw [← HM.out, CF.out]), Lib.hid (by omega)⟩, by simp [intOf]; omega⟩
          have CF := Lib.hid (CS.out e0 e2)
          have hd0 : d ≠ 0 := fun e => e0 (H00.out e)
          have hd1 : ((d : Int) == 0) = false := by simp; omega
          clear CO CC CS H00 Z1 BB BO
          by_cases e40 : x2 = 40
          · subst e40
            have e42 : (x3 == 42) = false := by simpa using fun e => e0 ⟨rfl, e⟩
            clear e0 e2
            go_wp2_with (go_at_call 21; (with_reducible refine K1.out.mono ?_); rintro e w' ⟨rfl, rfl⟩)
            exact ⟨⟨b + 1, d, by simp, by simp, by omega, by omega, by omega, (by first | rfl | trivial), Lib.hid (by rw [← HM.out, CF.out]), Lib.hid (by omega)⟩, by simp [intOf]; omega⟩
          have e40b : (x2 == 40) = false := by simpa using e40
          by_cases e41 : x2 = 42
          · subst e41
            have e42 : (x3 == 41) = false := by simpa using fun e => e2 ⟨rfl, e⟩
            clear e0 e2 e40
            go_wp2_with (go_at_call 21; (with_reducible refine K1.out.mono ?_); rintro e w' ⟨rfl, rfl⟩)
            exact ⟨⟨b + 1, d, by simp, by simp, by omega, by omega, by omega, (by first | rfl | trivial), Lib.hid (by rw [← HM.out, CF.out]), Lib.hid (by omega)⟩, by simp [intOf]; omega⟩
          · have e41b : (x2 == 42) = false := by simpa using e41
            clear e0 e2 e40 e41
            go_wp2_with fail
            exact ⟨⟨b + 1, d, by simp, by simp, by omega, by omega, by omega, (by first | rfl | trivial), Lib.hid (by rw [← HM.out, CF.out]), Lib.hid (by omega)⟩, by simp [intOf]; omega⟩
end
end Go.Proofs.YthpdgghjaglhnaaGreatDoor

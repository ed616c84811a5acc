/-
  More contracts of package key: Same, the reference's sum of powers, the known rows of the law package.
-/
import Derived.Test.YtojifffenfmklaaKeyA
namespace Go.Proofs.Ytojifffenfmklaa
open Go.ChangeShapes Go.WideShapes Go.ChangeAt Go.RowKit
set_option linter.unusedVariables false

theorem rdL_one (W : World) (y : Lst) (t : TypeId) (hy : Rd W W.heap.size .u8 y.a y.n y.l) (hb : ∀ i, 0 ≤ nth y.l i ∧ nth y.l i ≤ 255) (hn : y.n ≤ maxLen) :
    RdL (W.alloc (.cells #[y.val] t)) (W.alloc (.cells #[y.val] t)).heap.size (some ⟨W.heap.size, 0, none⟩) 1 [y] := by
  refine ⟨rfl, fun _ => ⟨_, rfl, by simp, fun i z hi => ?_⟩, fun z hz => ?_⟩
  · match i, hi with
    | 0, hi => simp at hi; subst hi; simp [Addr.add]
  · rw [List.mem_singleton] at hz
    subst hz
    exact ⟨(hy.below ((Below.refl _ _).alloc (Nat.le_refl _) _)).more (by simp), hb, hn⟩
theorem allOf_one (y : Lst) : allOf [y] = y.l := by simp [allOf]
theorem same_any (A : Option Addr) (n c : Nat) (l : List Int) (A' : Option Addr) (n' c' : Nat) (l' : List Int) (w : World) (hr : Rd w w.heap.size .u8 A n l) (hr' : Rd w w.heap.size .u8 A' n' l')
    (hb : ∀ i, 0 ≤ nth l i ∧ nth l i ≤ 255) (hb' : ∀ i, 0 ≤ nth l' i ∧ nth l' i ≤ 255) (hn : n ≤ maxLen) (hn' : n' ≤ maxLen) :
    Calls Try.prog 16 #[.slice A n c, .slice A' n' c'] w fun e w' => e = .returned (.bool (fnv 2166136261 l == fnv 2166136261 l')) ∧ Below w.heap.size w w' := by
  have R1 := rdL_one w ⟨A, n, c, l⟩ 25 hr hb hn
  have H1 := Lib.hid R1
  have H2 := Lib.hid hr'
  have H3 := Lib.hid hb'
  clear R1 hr hr' hb hb' hn
  go_enter Try.func16, Try.ntmps16
  go_wp2_with fail
  refine (key_of_any _ 1 1 _ _ H1.out (by unfold maxLen; omega)).mono ?_
  rintro e w1 ⟨rfl, b1⟩
  rw [allOf_one]
  have b1' : Below w.heap.size w w1 := ((Below.refl _ _).alloc (Nat.le_refl _) _).trans (b1.mono (by simp))
  clear b1
  have H4 := Lib.hid (rdL_one w1 ⟨A', n', c', l'⟩ 25 ((H2.out.below b1').more b1'.size) H3.out hn')
  clear hn'
  go_wp2_with fail
  refine (key_of_any _ 1 1 _ _ H4.out (by unfold maxLen; omega)).mono ?_
  rintro e w2 ⟨rfl, b2⟩
  rw [allOf_one]
  have b2' : Below w.heap.size w w2 := (b1'.alloc b1'.size _).trans (b2.mono (by simp; have := b1'.size; omega))
  clear b2
  go_wp2_with fail
  go_ret
  exact ⟨rfl, b2'⟩
theorem rkey_any (A : Option Addr) (n c : Nat) (zs : List Int) (w : World) (hr : Rd w w.heap.size .u8 A n zs) (hb : ∀ i, 0 ≤ nth zs i ∧ nth zs i ≤ 255) (hn : n ≤ maxLen) :
    Calls Try.prog 13 #[.slice A n c] w fun e w' => e = .returned (.int .u32 (fnv 2166136261 zs)) ∧ w = w' := by
  unfold maxLen at hn
  obtain ⟨hl, hcell⟩ := hr
  have HC := Lib.hid hcell
  have HL := Lib.hid hl
  have HB := Lib.hid hb
  clear hcell hl hb
  go_enter Try.func13, Try.ntmps13
  go_wp2_with fail
  go_loop [3, 4, 5] (fun s p i => ∃ (j : Nat) (S P : Int), j ≤ n ∧ i = .int .i64 ((j : Int) - 1) ∧ s = .int .u64 S ∧ p = .int .u64 P ∧ 0 ≤ S ∧ S < 4294967296 ∧ 0 ≤ P ∧ P < 4294967296 ∧ Hid (Pow (zs.drop j) P S)) (fun _ _ i => (intOf i + 1).toNat)
  case atStart => exact ⟨n, 0, 1, Nat.le_refl _, rfl, rfl, rfl, by omega, by omega, by omega, by omega, Lib.hid (by rw [List.drop_of_length_le (by rw [HL.out]; exact Nat.le_refl _)]; exact Pow.nil)⟩
  case round =>
    obtain ⟨j, S, P, hj, rfl, rfl, rfl, s0, s1, p0, p1, HP⟩ := hrel
    by_cases h0 : 1 ≤ j
    · obtain ⟨i, rfl⟩ : ∃ i, j = i + 1 := ⟨j - 1, by omega⟩
      obtain ⟨x, rfl, hx, hcell⟩ := HC.out (by omega)
      have hc := hcell i (by omega)
      have hz := HB.out i
      have HD := Lib.hid (drop_nth zs i (by rw [HL.out]; omega))
      have HN := Lib.hid (HP.out.cons (nth zs i))
      clear hcell
      have ej : (((i + 1 : Nat) : Int) - 1) = (i : Int) := by omega
      rw [ej]
      clear ej
      generalize nth zs i = z at *
      have hzp0 : 0 ≤ (z + 1) * P := Int.mul_nonneg (by omega) p0
      have hzp1 : (z + 1) * P ≤ 256 * 4294967296 := Int.mul_le_mul (by omega) (by omega) p0 (by omega)
      go_wp2_with fail
      go_round
      case rel => exact ⟨i, _, _, by omega, by go_num, rfl, rfl, by omega, by omega, by omega, by omega, Lib.hid (by rw [HD.out]; exact HN.out)⟩
      case measure => simp [intOf]
    · obtain rfl : j = 0 := by omega
      have HF := Lib.hid (HP.out.at 2166136261 (by omega) (by omega))
      go_wp2_with fail
      go_ret
      exact ⟨ret_int (by have := HF.out; rw [List.drop_zero] at this; rw [this]; omega), rfl⟩
theorem known6_any (w : World) : Calls Try.prog 10 #[] w fun e w' => e = .returned (.bool true) ∧ Below w.heap.size w w' := by
  have HN := Lib.hid (show RdL w w.heap.size none 0 [] from ⟨rfl, fun h => absurd h (by omega), fun y hy => by cases hy⟩)
  go_enter Try.func10, Try.ntmps10
  go_wp2_with (go_at_call 17; refine (start_any _).mono ?_; rintro e w' ⟨rfl, rfl⟩)
  refine (key_of_any none 0 0 [] _ HN.out (by unfold maxLen; omega)).mono ?_
  rintro e w1 ⟨rfl, b1⟩
  rw [show fnv 2166136261 (allOf []) = 2166136261 from rfl]
  have R1 := (rdL_one (w1.alloc (.cells #[.int .u8 0] 5)) ⟨some ⟨w1.heap.size, 0, none⟩, 1, 1, [0]⟩ 25 (rd_one w1 0 5) (fun i => nth_mem (fun z => 0 ≤ z ∧ z ≤ 255) _ (by intro y hy; simp at hy; subst hy; omega) (by omega) i) (by show 1 ≤ maxLen; unfold maxLen; omega))
  rw [show (w1.alloc (.cells #[.int .u8 0] 5)).heap.size = w1.heap.size + 1 by simp] at R1
  have H1 := Lib.hid R1
  clear R1
  go_wp2_with fail
  refine (key_of_any _ 1 1 _ _ H1.out (by unfold maxLen; omega)).mono ?_
  rintro e w2 ⟨rfl, b2⟩
  rw [allOf_one, show fnv 2166136261 [0] = 84696352 by decide +kernel]
  have b2' : Below w.heap.size w w2 := ((b1.alloc b1.size _).alloc (by simp; have := b1.size; omega) _).trans (b2.mono (by simp; have := b1.size; omega))
  clear b1 b2
  go_wp2_with fail
  go_ret
  exact ⟨rfl, b2'⟩
end Go.Proofs.Ytojifffenfmklaa

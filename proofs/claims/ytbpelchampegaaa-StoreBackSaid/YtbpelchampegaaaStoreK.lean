/-
  Names of files that may be.
-/
import Derived.Test.YtbpelchampegaaaStoreH
namespace Go.Proofs.Ytbpelchampegaaa
open Go.ChangeShapes Go.WideShapes Go.ChangeAt Go.RowKit
set_option linter.unusedVariables false
def fletI (c : Int) : Prop := (65 ≤ c ∧ c ≤ 90) ∨ (97 ≤ c ∧ c ≤ 122)
def fchI (c : Int) : Prop := fletI c ∨ c = 46 ∨ (48 ≤ c ∧ c ≤ 57)
theorem fletter_yes (c : Int) (h : fletI c) (w : World) : Calls Try.prog 35 #[.int .u8 c] w fun e w' => e = .returned (.bool true) ∧ w' = w := by
  unfold fletI at h
  rcases h with ⟨h1, h2⟩ | ⟨h1, h2⟩
  all_goals
    go_enter Try.func35, Try.ntmps35
    go_wp2_with fail
    go_ret
    exact ⟨ret_bool (by first | (simp; done) | (simp; omega)), rfl⟩
theorem fletter_no (c : Int) (h : ¬ fletI c) (w : World) : Calls Try.prog 35 #[.int .u8 c] w fun e w' => e = .returned (.bool false) ∧ w' = w := by
  unfold fletI at h
  rcases (by omega : c < 65 ∨ (90 < c ∧ c < 97) ∨ 122 < c) with h1 | ⟨h1, h2⟩ | h1
  all_goals
    go_enter Try.func35, Try.ntmps35
    go_wp2_with fail
    go_ret
    exact ⟨ret_bool (by first | (simp; done) | (simp; omega)), rfl⟩
set_option maxHeartbeats 1000000 in
theorem mayname_yes (nm : ByteArray) (h0 : 1 ≤ nm.size) (h1 : nm.size ≤ 31) (hf : fletI (nm[0].toNat : Int)) (hc : ∀ k (h : k < nm.size), fchI (nm[k].toNat : Int)) (w : World) : Calls Try.prog 26 #[.string nm] w fun e w' => e = .returned (.bool true) ∧ w' = w := by
  have HF := Lib.hid hf
  have HC := Lib.hid hc
  clear hf hc
  go_enter Try.func26, Try.ntmps26
  go_wp2_with (go_at_call 35; with_reducible refine (fletter_yes _ HF.out _).mono ?_; rintro e w' ⟨rfl, rfl⟩)
  go_loop [21] (fun i => ∃ k : Nat, k ≤ nm.size ∧ i = .int .i64 k) (fun i => nm.size - (intOf i).toNat)
  case atStart => exact ⟨0, Nat.zero_le _, rfl⟩
  case round =>
    obtain ⟨k, hk, rfl⟩ := hrel
    by_cases hlt : k < nm.size
    · have hch := HC.out k hlt
      by_cases hl : fletI (nm[k].toNat : Int)
      · have HL := Lib.hid hl
        clear hl
        go_wp2_with (go_at_call 35; with_reducible refine (fletter_yes _ HL.out _).mono ?_; rintro e w' ⟨rfl, rfl⟩)
        go_round
        case rel => exact ⟨k + 1, by omega, rfl⟩
        case measure => simp [intOf]; omega
      · have HL := Lib.hid hl
        unfold fchI at hch
        rcases hch with hch | hch | ⟨hc1, hc2⟩
        · exact absurd hch hl
        · clear hl HL
          have HL : ¬ fletI 46 := by unfold fletI; omega
          go_wp2_with (go_at_call 35; with_reducible refine (fletter_no 46 HL _).mono ?_; rintro e w' ⟨rfl, rfl⟩)
          go_round
          case rel => exact ⟨k + 1, by omega, rfl⟩
          case measure => simp [intOf]; omega
        · clear hl
          have hne : ((nm[k].toNat : Int) == 46) = false := by simp; omega
          go_wp2_with (go_at_call 35; with_reducible refine (fletter_no _ HL.out _).mono ?_; rintro e w' ⟨rfl, rfl⟩)
          go_round
          case rel => exact ⟨k + 1, by omega, rfl⟩
          case measure => simp [intOf]; omega
    · obtain rfl : k = nm.size := by omega
      go_wp2_with fail
      go_ret
      exact ⟨rfl, rfl⟩
theorem may_a (w : World) : May w ⟨#[97]⟩ := fun W => mayname_yes ⟨#[97]⟩ (by decide) (by decide) (.inr (by decide)) (fun k h => by
  have : k = 0 := by have : (⟨#[97]⟩ : ByteArray).size = 1 := rfl
                     omega
  subst this
  exact .inl (.inr (show (97 : Int) ≤ ((97 : Nat) : Int) ∧ ((97 : Nat) : Int) ≤ 122 from by omega))) W
theorem may_b (w : World) : May w ⟨#[98]⟩ := fun W => mayname_yes ⟨#[98]⟩ (by decide) (by decide) (.inr (by decide)) (fun k h => by
  have : k = 0 := by have : (⟨#[98]⟩ : ByteArray).size = 1 := rfl
                     omega
  subst this
  exact .inl (.inr (show (97 : Int) ≤ ((98 : Nat) : Int) ∧ ((98 : Nat) : Int) ≤ 122 from by omega))) W
end Go.Proofs.Ytbpelchampegaaa

/-
  Names that may be, by the document's own answer; words' bytes behind bytes.
-/
import Derived.Test.YtbpelchampegaaaStoreO
namespace Go.Proofs.Ytbpelchampegaaa
open Go.ChangeShapes Go.WideShapes Go.ChangeAt Go.RowKit
set_option linter.unusedVariables false
structure FName (nm : ByteArray) : Prop where
  one : 1 ≤ nm.size
  few : nm.size ≤ 31
  first : fletI (nm[0].toNat : Int)
  all : ∀ k (h : k < nm.size), fchI (nm[k].toNat : Int)
theorem FName.may {nm : ByteArray} (h : FName nm) (w : World) : May w nm := fun W => mayname_yes nm h.one h.few h.first h.all W
theorem rfletter_yes (c : Int) (h : fletI c) (w : World) : Calls Try.prog 24 #[.int .u8 c] w fun e w' => e = .returned (.bool true) ∧ w' = w := by
  unfold fletI at h
  rcases h with ⟨h1, h2⟩ | ⟨h1, h2⟩
  all_goals
    go_enter Try.func24, Try.ntmps24
    go_wp2_with fail
    go_ret
    exact ⟨ret_bool (by first | (simp; done) | (simp; omega)), rfl⟩
theorem rfletter_no (c : Int) (h : ¬ fletI c) (w : World) : Calls Try.prog 24 #[.int .u8 c] w fun e w' => e = .returned (.bool false) ∧ w' = w := by
  unfold fletI at h
  rcases (by omega : c < 65 ∨ (90 < c ∧ c < 97) ∨ 122 < c) with h1 | ⟨h1, h2⟩ | h1
  all_goals
    go_enter Try.func24, Try.ntmps24
    go_wp2_with fail
    go_ret
    exact ⟨ret_bool (by first | (simp; done) | (simp; omega)), rfl⟩
set_option maxHeartbeats 1000000 in
theorem rmay_any (nm : ByteArray) (hs : nm.size ≤ maxLen) (w : World) : Calls Try.prog 7 #[.string nm] w fun e w' => (e = .returned (.bool false) ∧ w' = w ∧ ¬ FName nm) ∨ (e = .returned (.bool true) ∧ w' = w ∧ FName nm) := by
  unfold maxLen at hs
  by_cases h0 : 1 ≤ nm.size
  · by_cases h1 : nm.size ≤ 31
    · by_cases hf : fletI (nm[0].toNat : Int)
      · have HF := Lib.hid hf
        clear hf
        go_enter Try.func7, Try.ntmps7
        go_wp2_with (go_at_call 24; with_reducible refine (rfletter_yes _ HF.out _).mono ?_; rintro e w' ⟨rfl, rfl⟩)
        go_loop [3] (fun i => ∃ k : Nat, k ≤ nm.size ∧ i = .int .i64 k ∧ Hid (∀ j (h : j < nm.size), j < k → fchI (nm[j].toNat : Int))) (fun i => nm.size - (intOf i).toNat)
        case atStart => exact ⟨0, Nat.zero_le _, rfl, Lib.hid fun j hj hk => by omega⟩
        case round =>
          obtain ⟨k, hk, rfl, HC⟩ := hrel
          by_cases hlt : k < nm.size
          · have hu : (nm[k].toNat : Int) ≤ 255 := by have := nm[k].toNat_lt; omega
            have hnext : fchI (nm[k].toNat : Int) → Hid (∀ j (h : j < nm.size), j < k + 1 → fchI (nm[j].toNat : Int)) := fun hc => Lib.hid fun j hj hjk => by
              by_cases e : j = k
              · subst e; exact hc
              · exact HC.out j hj (by omega)
            have HNX := Lib.hid hnext
            clear hnext
            by_cases hl : fletI (nm[k].toNat : Int)
            · have HL := Lib.hid hl
              clear hl
              go_wp2_with (go_at_call 24; with_reducible refine (rfletter_yes _ HL.out _).mono ?_; rintro e w' ⟨rfl, rfl⟩)
              go_round
              case rel => exact ⟨k + 1, by omega, rfl, HNX.out (.inl HL.out)⟩
              case measure => simp [intOf]; omega
            · have HL := Lib.hid hl
              clear hl
              by_cases h4 : (nm[k].toNat : Int) = 46
              · have h5 : ((nm[k].toNat : Int) != 46) = false := by rw [bne_eq_false_iff_eq]; exact h4
                have h6 : ((nm[k].toNat : Int) < 48) := by omega
                have HH := HNX.out (.inr (.inl h4))
                clear h4
                go_wp2_with (go_at_call 24; with_reducible refine (rfletter_no _ HL.out _).mono ?_; rintro e w' ⟨rfl, rfl⟩)
                go_round
                case rel => exact ⟨k + 1, by omega, rfl, HH⟩
                case measure => simp [intOf]; omega
              · have h5 : ((nm[k].toNat : Int) != 46) = true := by rw [bne_iff_ne]; exact h4
                by_cases h6 : (nm[k].toNat : Int) < 48
                · go_wp2_with (go_at_call 24; with_reducible refine (rfletter_no _ HL.out _).mono ?_; rintro e w' ⟨rfl, rfl⟩)
                  go_ret
                  exact .inl ⟨rfl, rfl, fun h => by { have := h.all k hlt; unfold fchI at this; rcases this with a | a | a; exact HL.out a; omega; omega }⟩
                · by_cases h7 : 57 < (nm[k].toNat : Int)
                  · go_wp2_with (go_at_call 24; with_reducible refine (rfletter_no _ HL.out _).mono ?_; rintro e w' ⟨rfl, rfl⟩)
                    go_ret
                    exact .inl ⟨rfl, rfl, fun h => by { have := h.all k hlt; unfold fchI at this; rcases this with a | a | a; exact HL.out a; omega; omega }⟩
                  · have HH := HNX.out (.inr (.inr ⟨by omega, by omega⟩))
                    go_wp2_with (go_at_call 24; with_reducible refine (rfletter_no _ HL.out _).mono ?_; rintro e w' ⟨rfl, rfl⟩)
                    go_round
                    case rel => exact ⟨k + 1, by omega, rfl, HH⟩
                    case measure => simp [intOf]; omega
          · obtain rfl : k = nm.size := by omega
            go_wp2_with fail
            go_ret
            exact .inr ⟨rfl, rfl, h0, h1, HF.out, fun j hj => HC.out j hj hj⟩
      · have HF := Lib.hid hf
        clear hf
        go_enter Try.func7, Try.ntmps7
        go_wp2_with (go_at_call 24; with_reducible refine (rfletter_no _ HF.out _).mono ?_; rintro e w' ⟨rfl, rfl⟩)
        go_ret
        exact .inl ⟨rfl, rfl, fun h => HF.out h.first⟩
    · go_enter Try.func7, Try.ntmps7
      go_wp2_with fail
      go_ret
      exact .inl ⟨rfl, rfl, fun h => h1 h.few⟩
  · go_enter Try.func7, Try.ntmps7
    go_wp2_with fail
    go_ret
    exact .inl ⟨rfl, rfl, fun h => h0 h.one⟩
theorem rmay_yes {nm : ByteArray} (hs : nm.size ≤ maxLen) (h : FName nm) (w : World) : Calls Try.prog 7 #[.string nm] w fun e w' => e = .returned (.bool true) ∧ w' = w :=
  (rmay_any nm hs w).mono fun e w' hh => by
    rcases hh with ⟨-, -, h1⟩ | ⟨h1, h2, -⟩
    · exact absurd h h1
    · exact ⟨h1, h2⟩
theorem rmay_no {nm : ByteArray} (hs : nm.size ≤ maxLen) (h : ¬ FName nm) (w : World) : Calls Try.prog 7 #[.string nm] w fun e w' => e = .returned (.bool false) ∧ w' = w :=
  (rmay_any nm hs w).mono fun e w' hh => by
    rcases hh with ⟨h1, h2, -⟩ | ⟨-, -, h1⟩
    · exact ⟨h1, h2⟩
    · exact absurd h1 h
theorem wroteL_end (xs : List Int) (zs : List Int) : wroteL xs xs.length zs = xs ++ zs := by
  induction zs generalizing xs with
  | nil => simp [wroteL]
  | cons z zs ih =>
    have h1 : wrote xs xs.length z = xs ++ [z] := by unfold wrote; rw [if_pos rfl]
    have h2 : xs.length + 1 = (xs ++ [z]).length := by simp
    rw [wroteL, h1, h2, ih]
    simp
theorem nth_app_left (xs ys : List Int) {i : Nat} (h : i < xs.length) : nth (xs ++ ys) i = nth xs i := by
  unfold nth; rw [List.getD_eq_getElem?_getD, List.getD_eq_getElem?_getD, List.getElem?_append_left h]
theorem nth_app_right (xs ys : List Int) (i : Nat) : nth (xs ++ ys) (xs.length + i) = nth ys i := by
  unfold nth; rw [List.getD_eq_getElem?_getD, List.getD_eq_getElem?_getD, List.getElem?_append_right (by omega), show xs.length + i - xs.length = i by omega]
theorem nth_bytesOf (l : List Int) (j : Nat) (hj : j < l.length) (i : Nat) (hi : i < 4) : nth (bytesOf l) (4 * j + i) = nth (byt (nth l j)) i := by
  induction l generalizing j with
  | nil => simp at hj
  | cons z l ih =>
    have e : bytesOf (z :: l) = byt z ++ bytesOf l := by simp [bytesOf]
    rw [e]
    have hb : (byt z).length = 4 := rfl
    cases j with
    | zero => rw [show 4 * 0 + i = i by omega, nth_app_left _ _ (by omega)]; rfl
    | succ j =>
      rw [show 4 * (j + 1) + i = (byt z).length + (4 * j + i) by omega, nth_app_right, ih j (by simpa using hj)]
      rfl
theorem leb_bytesOf (xs l : List Int) (j : Nat) (hj : j < l.length) (h0 : 0 ≤ nth l j) (h1 : nth l j ≤ 4294967295) : leb (xs ++ bytesOf l) (xs.length + 4 * j) 4 = nth l j := by
  simp only [leb]
  have e : ∀ i, i < 4 → nth (xs ++ bytesOf l) (xs.length + 4 * j + i) = nth (byt (nth l j)) i := fun i hi => by
    rw [Nat.add_assoc, nth_app_right, nth_bytesOf l j hj i hi]
  rw [e 0 (by omega), e 1 (by omega), e 2 (by omega), e 3 (by omega)]
  generalize nth l j = z at *
  have f0 : nth (byt z) 0 = z % 256 := rfl
  have f1 : nth (byt z) 1 = z / 256 % 256 := rfl
  have f2 : nth (byt z) 2 = z / 65536 % 256 := rfl
  have f3 : nth (byt z) 3 = z / 16777216 % 256 := rfl
  rw [f0, f1, f2, f3]
  simp
  omega
end Go.Proofs.Ytbpelchampegaaa

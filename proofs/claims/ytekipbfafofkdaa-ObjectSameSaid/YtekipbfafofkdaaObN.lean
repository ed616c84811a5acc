/-
  Names: contracts of pack.MayName, object.MayName, the document's own.
-/
import Derived.Test.YtekipbfafofkdaaObI
import Derived.WalkKit
import Derived.ProofKit
import Derived.KernelRfl
namespace Go.Proofs.Ytekipbfafofkdaa
open Go.ChangeShapes Go.WideShapes Go.ChangeAt Go.RowKit
set_option linter.unusedVariables false
set_option linter.unusedSimpArgs false
def letB (c : Int) : Bool := decide ((65 ≤ c ∧ c ≤ 90) ∨ (97 ≤ c ∧ c ≤ 122))
def digB (c : Int) : Bool := decide (48 ≤ c ∧ c ≤ 57)
def okB (c : UInt8) : Bool := letB (c.toNat : Int) || digB (c.toNat : Int)
theorem letter_any (c : Int) (w : World) : Calls Try.prog 43 #[.int .u8 c] w fun e w' => e = .returned (.bool (letB c)) ∧ w = w' := by
  have h : c < 65 ∨ (65 ≤ c ∧ c ≤ 90) ∨ (90 < c ∧ c < 97) ∨ (97 ≤ c ∧ c ≤ 122) ∨ 122 < c := by omega
  rcases h with h | h | h | h | h
  all_goals
    go_enter Try.func43, Try.ntmps43
    go_wp2
    go_ret
    exact ⟨ret_bool (by unfold letB; first | (rw [eq_comm, decide_eq_true_eq]; omega) | (rw [eq_comm, decide_eq_false_iff_not]; omega) | (rw [Bool.eq_iff_iff]; simp only [Bool.or_eq_true, decide_eq_true_eq]; omega)), rfl⟩
def nameB (s : ByteArray) : Bool := decide (1 ≤ s.size ∧ s.size ≤ 15) && (letB ((s.data.toList.headD 0).toNat : Int) && s.data.toList.all okB)
theorem all_succ (s : ByteArray) (k : Nat) (h : k < s.size) : (s.data.toList.take (k + 1)).all okB = ((s.data.toList.take k).all okB && okB s[k]) := by
  rw [List.take_succ_eq_append_getElem (by simpa using h), List.all_append]
  simp
  rfl
theorem all_no (s : ByteArray) (k : Nat) (h : k < s.size) (hn : okB s[k] = false) : s.data.toList.all okB = false := by
  refine List.all_eq_false.2 ⟨s[k], ?_, by simp [hn]⟩
  exact List.getElem_mem (l := s.data.toList) (by simpa using h)
theorem head_at (s : ByteArray) (h : 0 < s.size) : s.data.toList.headD 0 = s[0] := by
  have hl : 0 < s.data.toList.length := by simpa using h
  cases hs : s.data.toList with
  | nil => rw [hs] at hl; simp at hl
  | cons c l =>
    have : s.data.toList[0] = c := by simp [hs]
    rw [← this]; rfl
theorem ok_let {c : UInt8} (h : letB (c.toNat : Int) = true) : okB c = true := by unfold okB; rw [h]; rfl
theorem ok_dig {c : UInt8} (h0 : 48 ≤ (c.toNat : Int)) (h1 : (c.toNat : Int) ≤ 57) : okB c = true := by unfold okB digB; rw [decide_eq_true (And.intro h0 h1), Bool.or_true]
theorem ok_no {c : UInt8} (h : letB (c.toNat : Int) = false) (hd : (c.toNat : Int) < 48 ∨ 57 < (c.toNat : Int)) : okB c = false := by unfold okB digB; rw [h, decide_eq_false (by omega)]; rfl
set_option maxHeartbeats 2000000 in
theorem name_any (s : ByteArray) (hs : s.size ≤ maxLen) (w : World) : Calls Try.prog 16 #[.string s] w fun e w' => e = .returned (.bool (nameB s)) ∧ w = w' := by
  unfold maxLen at hs
  by_cases h1 : s.size < 1
  · have e := Lib.hid (show nameB s = false by unfold nameB; rw [decide_eq_false (by omega)]; rfl)
    go_enter Try.func16, Try.ntmps16
    go_wp2_with fail
    go_ret
    exact ⟨ret_bool e.out.symm, rfl⟩
  by_cases h2 : 15 < s.size
  · have e := Lib.hid (show nameB s = false by unfold nameB; rw [decide_eq_false (by omega)]; rfl)
    go_enter Try.func16, Try.ntmps16
    go_wp2_with fail
    go_ret
    exact ⟨ret_bool e.out.symm, rfl⟩
  have h0 : 0 < s.size := by omega
  have hh := head_at s h0
  have e := Lib.hid (show nameB s = (letB (s[0].toNat : Int) && s.data.toList.all okB) by unfold nameB; rw [decide_eq_true (by omega), hh]; rfl)
  clear hh
  cases hl : letB (s[0].toNat : Int) with
  | false =>
    rw [hl] at e
    go_enter Try.func16, Try.ntmps16
    go_wp2_with (go_at_call 43; refine (letter_any _ _).mono ?_; rintro e w' ⟨rfl, rfl⟩; rw [hl])
    go_ret
    exact ⟨ret_bool e.out.symm, rfl⟩
  | true =>
    rw [hl] at e
    go_enter Try.func16, Try.ntmps16
    go_wp2_with (go_at_call 43; refine (letter_any _ _).mono ?_; rintro e w' ⟨rfl, rfl⟩; rw [hl])
    go_loop [3, 4, 21] (fun x y i => ∃ k : Nat, k ≤ s.size ∧ i = .int .i64 k ∧ Hid ((s.data.toList.take k).all okB = true)) (fun _ _ i => s.size - (intOf i).toNat)
    case atStart => exact ⟨0, Nat.zero_le _, rfl, Lib.hid rfl⟩
    case round =>
      obtain ⟨k, hk, rfl, hR⟩ := hrel
      by_cases hlt : k < s.size
      · have HS := Lib.hid (all_succ s k hlt)
        have HN := Lib.hid (all_no s k hlt)
        cases hc : letB (s[k].toNat : Int) with
        | true =>
          have HO := Lib.hid (ok_let hc)
          go_wp2_with (go_at_call 43; refine (letter_any _ _).mono ?_; rintro e w' ⟨rfl, rfl⟩; rw [hc])
          go_round
          case rel => exact ⟨k + 1, by omega, rfl, Lib.hid (by rw [HS.out, hR.out, HO.out]; rfl)⟩
          case measure => simp [intOf]; omega
        | false =>
          have hd : (s[k].toNat : Int) < 48 ∨ 57 < (s[k].toNat : Int) ∨ (48 ≤ (s[k].toNat : Int) ∧ (s[k].toNat : Int) ≤ 57) := by omega
          rcases hd with hd | hd | hd
          · have HO := Lib.hid (ok_no hc (.inl hd))
            go_wp2_with (go_at_call 43; refine (letter_any _ _).mono ?_; rintro e w' ⟨rfl, rfl⟩; rw [hc])
            go_ret
            exact ⟨ret_bool (by rw [e.out, HN.out HO.out]; rfl), rfl⟩
          · have HO := Lib.hid (ok_no hc (.inr hd))
            go_wp2_with (go_at_call 43; refine (letter_any _ _).mono ?_; rintro e w' ⟨rfl, rfl⟩; rw [hc])
            go_ret
            exact ⟨ret_bool (by rw [e.out, HN.out HO.out]; rfl), rfl⟩
          · have HO := Lib.hid (ok_dig hd.1 hd.2)
            go_wp2_with (go_at_call 43; refine (letter_any _ _).mono ?_; rintro e w' ⟨rfl, rfl⟩; rw [hc])
            go_round
            case rel => exact ⟨k + 1, by omega, rfl, Lib.hid (by rw [HS.out, hR.out, HO.out]; rfl)⟩
            case measure => simp [intOf]; omega
      · have hk' : k = s.size := by omega
        go_wp2_with fail
        go_ret
        exact ⟨ret_bool (by rw [e.out]; have := hR.out; rw [List.take_of_length_le (by simp; omega)] at this; rw [this]; rfl), rfl⟩
theorem oname_any (s : ByteArray) (hs : s.size ≤ maxLen) (w : World) : Calls Try.prog 7 #[.string s] w fun e w' => e = .returned (.bool (nameB s)) ∧ w = w' := by
  go_enter Try.func7, Try.ntmps7
  go_wp2_with fail
  refine (name_any s hs _).mono ?_
  rintro e w' ⟨rfl, rfl⟩
  go_wp2
  go_ret
  exact ⟨rfl, rfl⟩
theorem name_no (s : ByteArray) (h : s.data.toList.all okB = false) : nameB s = false := by unfold nameB; rw [h]; simp
theorem name_no0 (s : ByteArray) (h0 : 0 < s.size) (h : letB (s[0].toNat : Int) = false) : nameB s = false := by unfold nameB; rw [head_at s h0, h]; simp
theorem let_cases (c : Int) (h : letB c = false) : (c < 65 ∨ 90 < c ∧ c < 97 ∨ 122 < c) := by
  unfold letB at h
  rw [decide_eq_false_iff_not] at h
  omega
theorem let_yes (c : Int) (h : letB c = true) : (65 ≤ c ∧ c ≤ 90) ∨ (97 ≤ c ∧ c ≤ 122) := by
  unfold letB at h
  rw [decide_eq_true_eq] at h
  exact h
set_option maxHeartbeats 4000000 in
theorem rname_any (s : ByteArray) (hs : s.size ≤ maxLen) (w : World) : Calls Try.prog 8 #[.string s] w fun e w' => e = .returned (.bool (nameB s)) ∧ w = w' := by
  unfold maxLen at hs
  go_enter Try.func8, Try.ntmps8
  go_wp2_with fail
  go_loop [3] (fun i => ∃ k : Nat, k ≤ s.size ∧ i = .int .i64 k ∧ Hid ((s.data.toList.take k).all okB = true) ∧ Hid (∀ h : 0 < s.size, 0 < k → letB (s[0].toNat : Int) = true)) (fun i => s.size - (intOf i).toNat)
  case atStart => exact ⟨0, Nat.zero_le _, rfl, Lib.hid rfl, Lib.hid (fun _ h => by omega)⟩
  case round =>
    obtain ⟨k, hk, rfl, hR, hZ⟩ := hrel
    by_cases hlt : k < s.size
    · have HS := Lib.hid (all_succ s k hlt)
      have HN := Lib.hid (all_no s k hlt)
      cases hc : letB (s[k].toNat : Int) with
      | true =>
        have HO := Lib.hid (ok_let hc)
        have HL : Hid (∀ h : 0 < s.size, letB (s[0].toNat : Int) = true) := Lib.hid fun h => by
          by_cases k0 : k = 0
          · subst k0; exact hc
          · exact hZ.out h (by omega)
        rcases let_yes _ hc with ⟨h1, h2⟩ | ⟨h1, h2⟩
        all_goals
          go_wp2_with fail
          go_round
          case rel => exact ⟨k + 1, by omega, rfl, Lib.hid (by rw [HS.out, hR.out, HO.out]; rfl), Lib.hid fun h _ => HL.out h⟩
          case measure => simp [intOf]; omega
      | false =>
        have h3 := let_cases _ hc
        by_cases hd : 48 ≤ (s[k].toNat : Int) ∧ (s[k].toNat : Int) ≤ 57
        · obtain ⟨d1, d2⟩ := hd
          have HO := Lib.hid (ok_dig d1 d2)
          by_cases k0 : k = 0
          · subst k0
            have e := Lib.hid (name_no0 s (by omega) hc)
            have y65 : decide (65 ≤ (s[0].toNat : Int)) = false := decide_eq_false (by omega)
            go_wp2_with fail
            go_ret
            exact ⟨ret_bool e.out.symm, rfl⟩
          · have hk0 : 0 < k := by omega
            have y65 : decide (65 ≤ (s[k].toNat : Int)) = false := decide_eq_false (by omega)
            go_wp2_with fail
            go_round
            case rel => exact ⟨k + 1, by omega, rfl, Lib.hid (by rw [HS.out, hR.out, HO.out]; rfl), Lib.hid fun h _ => hZ.out h (by omega)⟩
            case measure => simp [intOf]; omega
        · have hd2 : (s[k].toNat : Int) < 48 ∨ 57 < (s[k].toNat : Int) := by omega
          have e := Lib.hid (name_no s (HN.out (ok_no hc hd2)))
          rcases hd2 with hd2 | hd2
          · have x48 : decide (48 ≤ (s[k].toNat : Int)) = false := decide_eq_false (by omega)
            rcases h3 with h3 | ⟨h3, h4⟩ | h3
            · have z0 := hk
              have y0 : decide (65 ≤ (s[k].toNat : Int)) = false := decide_eq_false (by omega)
              go_wp2_with fail
              go_ret
              exact ⟨ret_bool e.out.symm, rfl⟩
            · have z0 := hk
              have y0 : decide (65 ≤ (s[k].toNat : Int)) = true := decide_eq_true (by omega)
              have y1 : decide ((s[k].toNat : Int) ≤ 90) = false := decide_eq_false (by omega)
              have y2 : decide (97 ≤ (s[k].toNat : Int)) = false := decide_eq_false (by omega)
              go_wp2_with fail
              go_ret
              exact ⟨ret_bool e.out.symm, rfl⟩
            · have z0 := hk
              have y0 : decide (65 ≤ (s[k].toNat : Int)) = true := decide_eq_true (by omega)
              have y1 : decide ((s[k].toNat : Int) ≤ 90) = false := decide_eq_false (by omega)
              have y2 : decide (97 ≤ (s[k].toNat : Int)) = true := decide_eq_true (by omega)
              have y3 : decide ((s[k].toNat : Int) ≤ 122) = false := decide_eq_false (by omega)
              go_wp2_with fail
              go_ret
              exact ⟨ret_bool e.out.symm, rfl⟩
          · have x48 : decide (48 ≤ (s[k].toNat : Int)) = true := decide_eq_true (by omega)
            have x57 : decide ((s[k].toNat : Int) ≤ 57) = false := decide_eq_false (by omega)
            rcases h3 with h3 | ⟨h3, h4⟩ | h3
            · have z0 := hk
              have y0 : decide (65 ≤ (s[k].toNat : Int)) = false := decide_eq_false (by omega)
              go_wp2_with fail
              go_ret
              exact ⟨ret_bool e.out.symm, rfl⟩
            · have z0 := hk
              have y0 : decide (65 ≤ (s[k].toNat : Int)) = true := decide_eq_true (by omega)
              have y1 : decide ((s[k].toNat : Int) ≤ 90) = false := decide_eq_false (by omega)
              have y2 : decide (97 ≤ (s[k].toNat : Int)) = false := decide_eq_false (by omega)
              go_wp2_with fail
              go_ret
              exact ⟨ret_bool e.out.symm, rfl⟩
            · have z0 := hk
              have y0 : decide (65 ≤ (s[k].toNat : Int)) = true := decide_eq_true (by omega)
              have y1 : decide ((s[k].toNat : Int) ≤ 90) = false := decide_eq_false (by omega)
              have y2 : decide (97 ≤ (s[k].toNat : Int)) = true := decide_eq_true (by omega)
              have y3 : decide ((s[k].toNat : Int) ≤ 122) = false := decide_eq_false (by omega)
              go_wp2_with fail
              go_ret
              exact ⟨ret_bool e.out.symm, rfl⟩
    · have hk' : k = s.size := by omega
      subst hk'
      have HA : Hid (s.data.toList.all okB = true) := Lib.hid (by have := hR.out; rw [List.take_of_length_le (by simp)] at this; exact this)
      have e : Hid (nameB s = decide (1 ≤ s.size ∧ s.size ≤ 15)) := Lib.hid (by
        unfold nameB
        by_cases h0 : 0 < s.size
        · rw [head_at s h0, hZ.out h0 h0, HA.out]; simp
        · rw [decide_eq_false (by omega)]; rfl)
      by_cases h1 : 1 ≤ s.size
      · by_cases h2 : s.size ≤ 15
        · go_wp2_with fail
          go_ret
          exact ⟨ret_bool (by rw [e.out]; first | exact (decide_eq_true (And.intro h1 h2)).symm | (rw [Bool.eq_iff_iff]; simp only [decide_eq_true_eq]; omega)), rfl⟩
        · have h3 : ¬ (s.size : Int) ≤ 15 := by omega
          go_wp2_with fail
          go_ret
          exact ⟨ret_bool (by rw [e.out]; first | exact (decide_eq_false (by omega)).symm | (rw [Bool.eq_iff_iff]; simp only [decide_eq_true_eq]; omega)), rfl⟩
      · have h3 : ¬ (s.size : Int) ≥ 1 := by omega
        go_wp2_with fail
        go_ret
        exact ⟨ret_bool (by rw [e.out]; first | exact (decide_eq_false (by omega)).symm | (rw [Bool.eq_iff_iff]; simp only [decide_eq_true_eq]; omega)), rfl⟩
end Go.Proofs.Ytekipbfafofkdaa

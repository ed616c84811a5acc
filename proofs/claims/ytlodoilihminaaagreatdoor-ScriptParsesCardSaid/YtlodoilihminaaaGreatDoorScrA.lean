/-
  Names of files and modules, numbers, bytes, lists of names: contracts of the program and of the document.
-/
import Derived.Test.YtlodoilihminaaaGreatDoorScrP
import Derived.Test.YtlodoilihminaaaGreatDoorShelf
import Derived.WalkKit
import Derived.ProofKit
import Derived.KernelRfl
import Derived.WalkSpells
namespace Go.Proofs.YtlodoilihminaaaGreatDoor
open Go.ChangeShapes Go.WideShapes Go.ChangeAt Go.RowKit
set_option linter.unusedVariables false
set_option linter.unusedSimpArgs false
theorem sletter_any (c : Int) (w : World) : Calls Tryz.prog 81 #[.int .u8 c] w fun e w' => e = .returned (.bool (letB c)) ∧ w = w' := by
  have h : c < 65 ∨ (65 ≤ c ∧ c ≤ 90) ∨ (90 < c ∧ c < 97) ∨ (97 ≤ c ∧ c ≤ 122) ∨ 122 < c := by omega
  rcases h with h | h | h | h | h
  all_goals
    go_enter Tryz.func81, Tryz.ntmps81
    go_wp2
    go_ret
    exact ⟨ret_bool (by unfold letB; first | (rw [eq_comm, decide_eq_true_eq]; omega) | (rw [eq_comm, decide_eq_false_iff_not]; omega) | (rw [Bool.eq_iff_iff]; simp only [Bool.or_eq_true, decide_eq_true_eq]; omega)), rfl⟩
theorem rfletter_any (c : Int) (w : World) : Calls Tryz.prog 80 #[.int .u8 c] w fun e w' => e = .returned (.bool (letB c)) ∧ w = w' := by
  have h : c < 65 ∨ (65 ≤ c ∧ c ≤ 90) ∨ (90 < c ∧ c < 97) ∨ (97 ≤ c ∧ c ≤ 122) ∨ 122 < c := by omega
  rcases h with h | h | h | h | h
  all_goals
    go_enter Tryz.func80, Tryz.ntmps80
    go_wp2
    go_ret
    exact ⟨ret_bool (by unfold letB; first | (rw [eq_comm, decide_eq_true_eq]; omega) | (rw [eq_comm, decide_eq_false_iff_not]; omega) | (rw [Bool.eq_iff_iff]; simp only [Bool.or_eq_true, decide_eq_true_eq]; omega)), rfl⟩
theorem fall_succ (s : ByteArray) (k : Nat) (h : k < s.size) : (s.data.toList.take (k + 1)).all fokB = ((s.data.toList.take k).all fokB && fokB s[k]) := by
  rw [List.take_succ_eq_append_getElem (by simpa using h), List.all_append]
  simp
  rfl
theorem fall_no (s : ByteArray) (k : Nat) (h : k < s.size) (hn : fokB s[k] = false) : s.data.toList.all fokB = false := by
  refine List.all_eq_false.2 ⟨s[k], ?_, by simp [hn]⟩
  exact List.getElem_mem (l := s.data.toList) (by simpa using h)
theorem fhead_at (s : ByteArray) (h : 0 < s.size) : s.data.toList.headD 0 = s[0] := by
  have hl : 0 < s.data.toList.length := by simpa using h
  cases hs : s.data.toList with
  | nil => rw [hs] at hl; simp at hl
  | cons c l =>
    have : s.data.toList[0] = c := by simp [hs]
    rw [← this]; rfl
theorem fok_let {c : UInt8} (h : letB (c.toNat : Int) = true) : fokB c = true := by unfold fokB; rw [h]; rfl
theorem fok_dig {c : UInt8} (h0 : 48 ≤ (c.toNat : Int)) (h1 : (c.toNat : Int) ≤ 57) : fokB c = true := by unfold fokB digB; rw [decide_eq_true (And.intro h0 h1)]; simp
theorem fok_dot {c : UInt8} (h : (c.toNat : Int) = 46) : fokB c = true := by unfold fokB; rw [decide_eq_true h]; simp
theorem fok_no {c : UInt8} (h : letB (c.toNat : Int) = false) (hd : (c.toNat : Int) < 48 ∨ 57 < (c.toNat : Int)) (h6 : ¬ (c.toNat : Int) = 46) : fokB c = false := by unfold fokB digB; rw [h, decide_eq_false (by omega), decide_eq_false h6]; rfl
theorem slen (s : ByteArray) : s.data.toList.length = s.size := by simp
set_option maxHeartbeats 4000000 in
theorem sname_any (s : ByteArray) (hs : s.size ≤ maxLen) (w : World) : Calls Tryz.prog 63 #[.string s] w fun e w' => e = .returned (.bool (fnB s.data.toList)) ∧ w = w' := by
  unfold maxLen at hs
  by_cases h1 : s.size < 1
  · have e := Lib.hid (show fnB s.data.toList = false by unfold fnB; rw [slen, decide_eq_false (by omega)]; rfl)
    go_enter Tryz.func63, Tryz.ntmps63
    go_wp2_with fail
    go_ret
    exact ⟨ret_bool e.out.symm, rfl⟩
  by_cases h2 : 31 < s.size
  · have e := Lib.hid (show fnB s.data.toList = false by unfold fnB; rw [slen, decide_eq_false (by omega)]; rfl)
    go_enter Tryz.func63, Tryz.ntmps63
    go_wp2_with fail
    go_ret
    exact ⟨ret_bool e.out.symm, rfl⟩
  have h0 : 0 < s.size := by omega
  have hh := fhead_at s h0
  have e := Lib.hid (show fnB s.data.toList = (letB (s[0].toNat : Int) && s.data.toList.all fokB) by unfold fnB; rw [slen, decide_eq_true (by omega), hh]; rfl)
  clear hh
  cases hl : letB (s[0].toNat : Int) with
  | false =>
    rw [hl] at e
    go_enter Tryz.func63, Tryz.ntmps63
    go_wp2_with (go_at_call 81; refine (sletter_any _ _).mono ?_; rintro e w' ⟨rfl, rfl⟩; rw [hl])
    go_ret
    exact ⟨ret_bool e.out.symm, rfl⟩
  | true =>
    rw [hl] at e
    go_enter Tryz.func63, Tryz.ntmps63
    go_wp2_with (go_at_call 81; refine (sletter_any _ _).mono ?_; rintro e w' ⟨rfl, rfl⟩; rw [hl])
    go_loop [3, 4, 21] (fun x y i => ∃ k : Nat, k ≤ s.size ∧ i = .int .i64 k ∧ Hid ((s.data.toList.take k).all fokB = true)) (fun _ _ i => s.size - (intOf i).toNat)
    case atStart => exact ⟨0, Nat.zero_le _, rfl, Lib.hid rfl⟩
    case round =>
      obtain ⟨k, hk, rfl, hR⟩ := hrel
      by_cases hlt : k < s.size
      · have HS := Lib.hid (fall_succ s k hlt)
        have HN := Lib.hid (fall_no s k hlt)
        cases hc : letB (s[k].toNat : Int) with
        | true =>
          have HO := Lib.hid (fok_let hc)
          go_wp2_with (go_at_call 81; refine (sletter_any _ _).mono ?_; rintro e w' ⟨rfl, rfl⟩; rw [hc])
          go_round
          case rel => exact ⟨k + 1, by omega, rfl, Lib.hid (by rw [HS.out, hR.out, HO.out]; rfl)⟩
          case measure => simp [intOf]; omega
        | false =>
          have hd : (s[k].toNat : Int) = 46 ∨ ((s[k].toNat : Int) < 48 ∧ ¬ (s[k].toNat : Int) = 46) ∨ 57 < (s[k].toNat : Int) ∨ (48 ≤ (s[k].toNat : Int) ∧ (s[k].toNat : Int) ≤ 57) := by omega
          rcases hd with hd | ⟨hd, h6⟩ | hd | hd
          · have HO := Lib.hid (fok_dot hd)
            have hd0 : (s[k].toNat : Int) < 48 := by omega
            have hd1 : ((s[k].toNat : Int) != 46) = false := by simp [hd]
            have hd2 : decide ((s[k].toNat : Int) = 46) = true := by simp [hd]
            clear hd
            go_wp2_with (go_at_call 81; refine (sletter_any _ _).mono ?_; rintro e w' ⟨rfl, rfl⟩; rw [hc])
            go_round
            case rel => exact ⟨k + 1, by omega, rfl, Lib.hid (by rw [HS.out, hR.out, HO.out]; rfl)⟩
            case measure => simp [intOf]; omega
          · have HO := Lib.hid (fok_no hc (.inl hd) h6)
            go_wp2_with (go_at_call 81; refine (sletter_any _ _).mono ?_; rintro e w' ⟨rfl, rfl⟩; rw [hc])
            go_ret
            exact ⟨ret_bool (by rw [e.out, HN.out HO.out]; rfl), rfl⟩
          · have h6 : ¬ (s[k].toNat : Int) = 46 := by omega
            have HO := Lib.hid (fok_no hc (.inr hd) h6)
            go_wp2_with (go_at_call 81; refine (sletter_any _ _).mono ?_; rintro e w' ⟨rfl, rfl⟩; rw [hc])
            go_ret
            exact ⟨ret_bool (by rw [e.out, HN.out HO.out]; rfl), rfl⟩
          · have h6 : ¬ (s[k].toNat : Int) = 46 := by omega
            have HO := Lib.hid (fok_dig hd.1 hd.2)
            go_wp2_with (go_at_call 81; refine (sletter_any _ _).mono ?_; rintro e w' ⟨rfl, rfl⟩; rw [hc])
            go_round
            case rel => exact ⟨k + 1, by omega, rfl, Lib.hid (by rw [HS.out, hR.out, HO.out]; rfl)⟩
            case measure => simp [intOf]; omega
      · have hk' : k = s.size := by omega
        go_wp2_with fail
        go_ret
        exact ⟨ret_bool (by rw [e.out]; have := hR.out; rw [List.take_of_length_le (by simp; omega)] at this; rw [this]; rfl), rfl⟩
set_option maxHeartbeats 4000000 in
theorem rsname_any (s : ByteArray) (hs : s.size ≤ maxLen) (w : World) : Calls Tryz.prog 58 #[.string s] w fun e w' => e = .returned (.bool (fnB s.data.toList)) ∧ w = w' := by
  unfold maxLen at hs
  by_cases h1 : s.size < 1
  · have e := Lib.hid (show fnB s.data.toList = false by unfold fnB; rw [slen, decide_eq_false (by omega)]; rfl)
    go_enter Tryz.func58, Tryz.ntmps58
    go_wp2_with fail
    go_ret
    exact ⟨ret_bool e.out.symm, rfl⟩
  by_cases h2 : 31 < s.size
  · have e := Lib.hid (show fnB s.data.toList = false by unfold fnB; rw [slen, decide_eq_false (by omega)]; rfl)
    go_enter Tryz.func58, Tryz.ntmps58
    go_wp2_with fail
    go_ret
    exact ⟨ret_bool e.out.symm, rfl⟩
  have h0 : 0 < s.size := by omega
  have hh := fhead_at s h0
  have e := Lib.hid (show fnB s.data.toList = (letB (s[0].toNat : Int) && s.data.toList.all fokB) by unfold fnB; rw [slen, decide_eq_true (by omega), hh]; rfl)
  clear hh
  cases hl : letB (s[0].toNat : Int) with
  | false =>
    rw [hl] at e
    go_enter Tryz.func58, Tryz.ntmps58
    go_wp2_with (go_at_call 80; refine (rfletter_any _ _).mono ?_; rintro e w' ⟨rfl, rfl⟩; rw [hl])
    go_ret
    exact ⟨ret_bool e.out.symm, rfl⟩
  | true =>
    rw [hl] at e
    go_enter Tryz.func58, Tryz.ntmps58
    go_wp2_with (go_at_call 80; refine (rfletter_any _ _).mono ?_; rintro e w' ⟨rfl, rfl⟩; rw [hl])
    go_loop [3] (fun i => ∃ k : Nat, k ≤ s.size ∧ i = .int .i64 k ∧ Hid ((s.data.toList.take k).all fokB = true)) (fun i => s.size - (intOf i).toNat)
    case atStart => exact ⟨0, Nat.zero_le _, rfl, Lib.hid rfl⟩
    case round =>
      obtain ⟨k, hk, rfl, hR⟩ := hrel
      by_cases hlt : k < s.size
      · have HS := Lib.hid (fall_succ s k hlt)
        have HN := Lib.hid (fall_no s k hlt)
        cases hc : letB (s[k].toNat : Int) with
        | true =>
          have HO := Lib.hid (fok_let hc)
          go_wp2_with (go_at_call 80; refine (rfletter_any _ _).mono ?_; rintro e w' ⟨rfl, rfl⟩; rw [hc])
          go_round
          case rel => exact ⟨k + 1, by omega, rfl, Lib.hid (by rw [HS.out, hR.out, HO.out]; rfl)⟩
          case measure => simp [intOf]; omega
        | false =>
          have hd : (s[k].toNat : Int) = 46 ∨ ((s[k].toNat : Int) < 48 ∧ ¬ (s[k].toNat : Int) = 46) ∨ 57 < (s[k].toNat : Int) ∨ (48 ≤ (s[k].toNat : Int) ∧ (s[k].toNat : Int) ≤ 57) := by omega
          rcases hd with hd | ⟨hd, h6⟩ | hd | hd
          · have HO := Lib.hid (fok_dot hd)
            have hd0 : (s[k].toNat : Int) < 48 := by omega
            have hd1 : ((s[k].toNat : Int) != 46) = false := by simp [hd]
            have hd2 : decide ((s[k].toNat : Int) = 46) = true := by simp [hd]
            clear hd
            go_wp2_with (go_at_call 80; refine (rfletter_any _ _).mono ?_; rintro e w' ⟨rfl, rfl⟩; rw [hc])
            go_round
            case rel => exact ⟨k + 1, by omega, rfl, Lib.hid (by rw [HS.out, hR.out, HO.out]; rfl)⟩
            case measure => simp [intOf]; omega
          · have HO := Lib.hid (fok_no hc (.inl hd) h6)
            go_wp2_with (go_at_call 80; refine (rfletter_any _ _).mono ?_; rintro e w' ⟨rfl, rfl⟩; rw [hc])
            go_ret
            exact ⟨ret_bool (by rw [e.out, HN.out HO.out]; rfl), rfl⟩
          · have h6 : ¬ (s[k].toNat : Int) = 46 := by omega
            have HO := Lib.hid (fok_no hc (.inr hd) h6)
            go_wp2_with (go_at_call 80; refine (rfletter_any _ _).mono ?_; rintro e w' ⟨rfl, rfl⟩; rw [hc])
            go_ret
            exact ⟨ret_bool (by rw [e.out, HN.out HO.out]; rfl), rfl⟩
          · have h6 : ¬ (s[k].toNat : Int) = 46 := by omega
            have HO := Lib.hid (fok_dig hd.1 hd.2)
            go_wp2_with (go_at_call 80; refine (rfletter_any _ _).mono ?_; rintro e w' ⟨rfl, rfl⟩; rw [hc])
            go_round
            case rel => exact ⟨k + 1, by omega, rfl, Lib.hid (by rw [HS.out, hR.out, HO.out]; rfl)⟩
            case measure => simp [intOf]; omega
      · have hk' : k = s.size := by omega
        go_wp2_with fail
        go_ret
        exact ⟨ret_bool (by rw [e.out]; have := hR.out; rw [List.take_of_length_le (by simp; omega)] at this; rw [this]; rfl), rfl⟩
end Go.Proofs.YtlodoilihminaaaGreatDoor

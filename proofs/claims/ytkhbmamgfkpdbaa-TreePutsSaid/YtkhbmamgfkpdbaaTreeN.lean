/-
  Names and keywords: contracts of pack.MayName, pack.Keyword (the document's own left out).
-/
import Derived.Test.YtkhbmamgfkpdbaaBase
import Derived.WalkKit
import Derived.ProofKit
import Derived.KernelRfl
namespace Go.Proofs.Ytkhbmamgfkpdbaa
open Go.ChangeShapes Go.WideShapes Go.ChangeAt Go.RowKit
set_option linter.unusedVariables false
set_option linter.unusedSimpArgs false
def kwL : List (List UInt8) := [[65, 82, 82, 65, 89], [66, 69, 71, 73, 78], [67, 79, 78, 83, 84], [68, 73, 86], [68, 79], [69, 76, 83, 69], [69, 76, 83, 73, 70], [69, 78, 68], [70, 65, 76, 83, 69], [73, 70], [73, 77, 80, 79, 82, 84], [73, 78], [77, 79, 68], [77, 79, 68, 85, 76, 69], [78, 73, 76], [79, 70], [79, 82], [80, 79, 73, 78, 84, 69, 82], [80, 82, 79, 67, 69, 68, 85, 82, 69], [82, 69, 67, 79, 82, 68], [82, 69, 80, 69, 65, 84], [82, 69, 84, 85, 82, 78], [84, 72, 69, 78], [84, 79], [84, 82, 85, 69], [84, 89, 80, 69], [85, 78, 84, 73, 76], [86, 65, 82], [87, 72, 73, 76, 69]]
def kw (s : ByteArray) : Bool := kwL.any fun k => s.toList == k
def letB (c : Int) : Bool := decide ((65 ≤ c ∧ c ≤ 90) ∨ (97 ≤ c ∧ c ≤ 122))
def digB (c : Int) : Bool := decide (48 ≤ c ∧ c ≤ 57)
def okB (c : UInt8) : Bool := letB (c.toNat : Int) || digB (c.toNat : Int)
theorem letter_any (c : Int) (w : World) : Calls Try.prog 55 #[.int .u8 c] w fun e w' => e = .returned (.bool (letB c)) ∧ w = w' := by
  have h : c < 65 ∨ (65 ≤ c ∧ c ≤ 90) ∨ (90 < c ∧ c < 97) ∨ (97 ≤ c ∧ c ≤ 122) ∨ 122 < c := by omega
  rcases h with h | h | h | h | h
  all_goals
    go_enter Try.func55, Try.ntmps55
    go_wp2
    go_ret
    exact ⟨ret_bool (by unfold letB; first | (rw [eq_comm, decide_eq_true_eq]; omega) | (rw [eq_comm, decide_eq_false_iff_not]; omega) | (rw [Bool.eq_iff_iff]; simp only [Bool.or_eq_true, decide_eq_true_eq]; omega)), rfl⟩
set_option maxHeartbeats 4000000 in
theorem kw_any (s : ByteArray) (w : World) : Calls Try.prog 56 #[.string s] w fun e w' => e = .returned (.bool (kw s)) ∧ w = w' := by
  go_enter Try.func56, Try.ntmps56
  go_wp2
  all_goals first | (exfalso; simp_all; done) | (go_ret; exact ⟨ret_bool (by simp only [kw, kwL, List.any_cons, List.any_nil, *, Bool.true_or, Bool.false_or, Bool.or_false]), rfl⟩)
def nameB (s : ByteArray) : Bool := decide (1 ≤ s.size ∧ s.size ≤ 15) && (letB ((s.data.toList.headD 0).toNat : Int) && s.data.toList.all okB)
theorem all_succ (s : ByteArray) (k : Nat) (h : k < s.size) : (s.data.toList.take (k + 1)).all okB = ((s.data.toList.take k).all okB && okB s[k]) := by
  rw [List.take_succ_eq_append_getElem (by simpa using h), List.all_append]
  simp
  rfl
theorem all_no (s : ByteArray) (k : Nat) (h : k < s.size) (hn : okB s[k] = false) : s.data.toList.all okB = false := by
  refine List.all_eq_false.2 ⟨s[k], ?_, by simp [hn]⟩
  exact List.getElem_mem (l := s.data.toList) (by simpa using h)
theorem head_at (s : ByteArray) (h : 0 < s.size) : s.data.toList.headD 0 = s[0] := by
  have hl : 0 < s.data.toList.length := by simpa using h
  cases hs : s.data.toList with
  | nil => rw [hs] at hl; simp at hl
  | cons c l =>
    have : s.data.toList[0] = c := by simp [hs]
    rw [← this]; rfl
theorem ok_let {c : UInt8} (h : letB (c.toNat : Int) = true) : okB c = true := by unfold okB; rw [h]; rfl
theorem ok_dig {c : UInt8} (h0 : 48 ≤ (c.toNat : Int)) (h1 : (c.toNat : Int) ≤ 57) : okB c = true := by unfold okB digB; rw [decide_eq_true (And.intro h0 h1), Bool.or_true]
theorem ok_no {c : UInt8} (h : letB (c.toNat : Int) = false) (hd : (c.toNat : Int) < 48 ∨ 57 < (c.toNat : Int)) : okB c = false := by unfold okB digB; rw [h, decide_eq_false (by omega)]; rfl
set_option maxHeartbeats 2000000 in
theorem name_any (s : ByteArray) (hs : s.size ≤ maxLen) (w : World) : Calls Try.prog 46 #[.string s] w fun e w' => e = .returned (.bool (nameB s)) ∧ w = w' := by
  unfold maxLen at hs
  by_cases h1 : s.size < 1
  · have e := Lib.hid (show nameB s = false by unfold nameB; rw [decide_eq_false (by omega)]; rfl)
    go_enter Try.func46, Try.ntmps46
    go_wp2_with fail
    go_ret
    exact ⟨ret_bool e.out.symm, rfl⟩
  by_cases h2 : 15 < s.size
  · have e := Lib.hid (show nameB s = false by unfold nameB; rw [decide_eq_false (by omega)]; rfl)
    go_enter Try.func46, Try.ntmps46
    go_wp2_with fail
    go_ret
    exact ⟨ret_bool e.out.symm, rfl⟩
  have h0 : 0 < s.size := by omega
  have hh := head_at s h0
  have e := Lib.hid (show nameB s = (letB (s[0].toNat : Int) && s.data.toList.all okB) by unfold nameB; rw [decide_eq_true (by omega), hh]; rfl)
  clear hh
  cases hl : letB (s[0].toNat : Int) with
  | false =>
    rw [hl] at e
    go_enter Try.func46, Try.ntmps46
    go_wp2_with (go_at_call 55; refine (letter_any _ _).mono ?_; rintro e w' ⟨rfl, rfl⟩; rw [hl])
    go_ret
    exact ⟨ret_bool e.out.symm, rfl⟩
  | true =>
    rw [hl] at e
    go_enter Try.func46, Try.ntmps46
    go_wp2_with (go_at_call 55; refine (letter_any _ _).mono ?_; rintro e w' ⟨rfl, rfl⟩; rw [hl])
    go_loop [3, 4, 21] (fun x y i => ∃ k : Nat, k ≤ s.size ∧ i = .int .i64 k ∧ Hid ((s.data.toList.take k).all okB = true)) (fun _ _ i => s.size - (intOf i).toNat)
    case atStart => exact ⟨0, Nat.zero_le _, rfl, Lib.hid rfl⟩
    case round =>
      obtain ⟨k, hk, rfl, hR⟩ := hrel
      by_cases hlt : k < s.size
      · have HS := Lib.hid (all_succ s k hlt)
        have HN := Lib.hid (all_no s k hlt)
        cases hc : letB (s[k].toNat : Int) with
        | true =>
          have HO := Lib.hid (ok_let hc)
          go_wp2_with (go_at_call 55; refine (letter_any _ _).mono ?_; rintro e w' ⟨rfl, rfl⟩; rw [hc])
          go_round
          case rel => exact ⟨k + 1, by omega, rfl, Lib.hid (by rw [HS.out, hR.out, HO.out]; rfl)⟩
          case measure => simp [intOf]; omega
        | false =>
          have hd : (s[k].toNat : Int) < 48 ∨ 57 < (s[k].toNat : Int) ∨ (48 ≤ (s[k].toNat : Int) ∧ (s[k].toNat : Int) ≤ 57) := by omega
          rcases hd with hd | hd | hd
          · have HO := Lib.hid (ok_no hc (.inl hd))
            go_wp2_with (go_at_call 55; refine (letter_any _ _).mono ?_; rintro e w' ⟨rfl, rfl⟩; rw [hc])
            go_ret
            exact ⟨ret_bool (by rw [e.out, HN.out HO.out]; rfl), rfl⟩
          · have HO := Lib.hid (ok_no hc (.inr hd))
            go_wp2_with (go_at_call 55; refine (letter_any _ _).mono ?_; rintro e w' ⟨rfl, rfl⟩; rw [hc])
            go_ret
            exact ⟨ret_bool (by rw [e.out, HN.out HO.out]; rfl), rfl⟩
          · have HO := Lib.hid (ok_dig hd.1 hd.2)
            go_wp2_with (go_at_call 55; refine (letter_any _ _).mono ?_; rintro e w' ⟨rfl, rfl⟩; rw [hc])
            go_round
            case rel => exact ⟨k + 1, by omega, rfl, Lib.hid (by rw [HS.out, hR.out, HO.out]; rfl)⟩
            case measure => simp [intOf]; omega
      · have hk' : k = s.size := by omega
        go_wp2_with fail
        go_ret
        exact ⟨ret_bool (by rw [e.out]; have := hR.out; rw [List.take_of_length_le (by simp; omega)] at this; rw [this]; rfl), rfl⟩
theorem tkw_any (s : ByteArray) (w : World) : Calls Try.prog 47 #[.string s] w fun e w' => e = .returned (.bool (kw s)) ∧ w = w' := by
  go_enter Try.func47, Try.ntmps47
  go_wp2_with fail
  refine (kw_any s _).mono ?_
  rintro e w' ⟨rfl, rfl⟩
  go_wp2
  go_ret
  exact ⟨rfl, rfl⟩
theorem tname_any (s : ByteArray) (hs : s.size ≤ maxLen) (w : World) : Calls Try.prog 32 #[.string s] w fun e w' => e = .returned (.bool (nameB s && !kw s)) ∧ w = w' := by
  cases hn : nameB s with
  | false =>
    go_enter Try.func32, Try.ntmps32
    go_wp2_with fail
    refine (name_any s hs _).mono ?_
    rintro e w' ⟨rfl, rfl⟩
    rw [hn]
    go_wp2_with fail
    go_ret
    exact ⟨rfl, rfl⟩
  | true =>
    go_enter Try.func32, Try.ntmps32
    go_wp2_with fail
    refine (name_any s hs _).mono ?_
    rintro e w' ⟨rfl, rfl⟩
    rw [hn]
    go_wp2_with fail
    refine (tkw_any s _).mono ?_
    rintro e w' ⟨rfl, rfl⟩
    go_wp2_with fail
    go_ret
    exact ⟨rfl, rfl⟩
end Go.Proofs.Ytkhbmamgfkpdbaa

/-
  The contracts of OfDec and OfHex, word's and the reference's.
-/
import Derived.Test.YthpdgghjaglhnaaGreatDoorTextA
import Derived.Laws.RangeString
import Derived.Laws.RangeAny
import Derived.Lib.OthersKept

import Derived.WalkMore
namespace Go.Proofs.YthpdgghjaglhnaaGreatDoor
open Go.ChangeShapes Go.WideShapes Go.ChangeAt Go.RowKit
set_option linter.unusedVariables false

theorem below_iter (w : World) (s : ByteArray) (pos : Nat) : Below w.heap.size w (w.iter s pos) := (Below.refl _ _).alloc (Nat.le_refl _) _
theorem get_list {s : ByteArray} {l : List UInt8} (h : s = S l) (i : Nat) (hi : i < s.size) (hl : i < l.length) : s[i] = l[i] := by subst h; rfl

theorem out_in (n : Int) (h0 : -2147483648 ≤ n) (h1 : n ≤ 2147483647) : out32 n = false := by unfold out32; simp; omega
theorem wrap_w32 (n : Int) (h0 : -2147483648 ≤ n) (h1 : n ≤ 2147483647) : wrap32 (n % 4294967296) = n := by unfold wrap32; omega
theorem wrap_in (n : Int) (h0 : -2147483648 ≤ n) (h1 : n ≤ 2147483647) : wrap32 n = n := by unfold wrap32; omega
theorem width_pos (s : ByteArray) (pos : Nat) (h : pos < s.size) : 1 ≤ (Utf8.decode s pos).2 := by
  by_cases ha : (s[pos]'h).toNat < 128
  · rw [decode_ascii s pos h ha]
    exact Nat.le_refl _
  · exact (decode_high s pos h (by omega)).2
theorem neq_list (a b : ByteArray) (h : a ≠ b) : (a.toList == b.toList) = false := by
  rw [beq_eq_false_iff_ne, ByteArray.toList_eq, ByteArray.toList_eq]
  intro e
  exact h (by rw [← S_list a, ← S_list b, e])
theorem out_range (n : Int) (h : out32 n = false) : -2147483648 ≤ n ∧ n ≤ 2147483647 := by unfold out32 at h; simp at h; omega
theorem ofDec_pos (u : Nat) (hu : u ≤ 2147483647) (w : World) (hT : Tab w) :
    Calls Tryz.prog 47 #[.string (S (Lib.decDigits u))] w fun e w' => e = .returned (.tuple #[.int .u32 u, .int .i64 0]) ∧ Below w.heap.size w w' := by
  have HT := Lib.hid hT
  clear hT
  obtain ⟨s, hs⟩ : ∃ s, s = S (Lib.decDigits u) := ⟨_, rfl⟩
  obtain ⟨l, hl⟩ : ∃ l, l = Lib.decDigits u := ⟨_, rfl⟩
  have hd : ∀ c ∈ l, isDig c := by rw [hl]; exact decDigits_dig u
  have hv : dval l = u := by rw [hl]; exact dval_decDigits u
  have hn : s.size = l.length := by rw [hs, S_size, hl]
  have hsl : s = S l := by rw [hs, hl]
  have hit : itoaB (wrap32 (u : Int)) = s := by rw [wrap_in _ (by omega) (by omega)]; unfold itoaB; rw [Lib.itoa_nonneg, hs]
  rw [← hs]
  have HD := Lib.hid hd
  have HV := Lib.hid hv
  have HN := Lib.hid hn
  have HS := Lib.hid hsl
  have HI := Lib.hid hit
  clear hd hv hn hs hl hsl hit
  go_enter Tryz.func47, Tryz.ntmps47
  go_wp2_with fail
  go_step3
  go_wp2_with fail
  go_step3
  go_wp2_with fail
  go_loopw [4, 5] (fun n m wr => ∃ pos : Nat, pos ≤ l.length ∧ wr = w.iter s pos ∧ n = .int .i64 (dval (l.take pos)) ∧ m = .bool false) (fun _ _ wr => s.size - wr.iterPos w.heap.size)
  case atStart => exact ⟨0, Nat.zero_le _, rfl, rfl, rfl⟩
  case round =>
    obtain ⟨pos, hpos, rfl, rfl, rfl⟩ := hrel
    obtain ⟨hb0, hb1⟩ := dval_take_le l HD.out pos
    rw [HV.out] at hb1
    have hb2 : dval (l.take pos) ≤ 2147483647 := by omega
    by_cases hp : pos < l.length
    · have hp' : pos < s.size := by rw [HN.out]; exact hp
      have hg : s[pos] = l[pos] := get_list HS.out pos hp' hp
      have hc := HD.out _ (List.getElem_mem hp)
      unfold isDig at hc
      have hdec := decode_ascii s pos hp' (by rw [hg]; omega)
      rw [hg] at hdec
      have hsu := Lib.hid (dval_take_succ l pos hp)
      obtain ⟨c, hcc⟩ : ∃ c : Nat, c = l[pos].toNat := ⟨_, rfl⟩
      rw [← hcc] at hdec hc hsu
      have hnx : ∀ ty, (Instr.next (.pointer (some ⟨w.heap.size, 0, none⟩)) true ty).run Tryz.prog (w.iter s pos) = _ := fun ty => run_next_any w s pos ty hp'
      rw [hdec] at hnx
      clear hdec hg hcc
      go_wp2_with fail
      go_roundw
      case rel => exact ⟨pos + 1, by omega, rfl, by rw [hsu.out], rfl⟩
      case measure => simp; omega
    · have hnx : ∀ ty, (Instr.next (.pointer (some ⟨w.heap.size, 0, none⟩)) true ty).run Tryz.prog (w.iter s pos) = _ := fun ty => run_next_end w s pos ty (by rw [HN.out]; exact hp)
      have he : dval (l.take pos) = u := by rw [List.take_of_length_le (by omega), HV.out]
      rw [he]
      have ho := out_in u (by omega) (by omega)
      clear he hb0 hb1 hb2
      go_wp2_with (go_at_call 63; refine (outside_any _ _).mono ?_; rintro e w' ⟨rfl, rfl⟩)
      refine (dec_any _ _ (HT.out.below (below_iter _ _ _))).mono ?_
      rintro e w' ⟨rfl, hb3⟩
      rw [HI.out]
      go_wp2_with fail
      rw [Exit.noGoto_ret]
      go_ret2
      exact ⟨rfl, (below_iter _ _ _).trans (hb3.mono (by show _ ≤ (w.alloc _).heap.size; simp))⟩
theorem ofDec_neg (u : Nat) (h1 : 1 ≤ u) (hu : u ≤ 2147483648) (w : World) (hT : Tab w) :
    Calls Tryz.prog 47 #[.string (S (45 :: Lib.decDigits u))] w fun e w' => e = .returned (.tuple #[.int .u32 (4294967296 - u), .int .i64 0]) ∧ Below w.heap.size w w' := by
  have HT := Lib.hid hT
  clear hT
  obtain ⟨s, hs⟩ : ∃ s, s = S (45 :: Lib.decDigits u) := ⟨_, rfl⟩
  obtain ⟨l, hl⟩ : ∃ l, l = Lib.decDigits u := ⟨_, rfl⟩
  have hd : ∀ c ∈ l, isDig c := by rw [hl]; exact decDigits_dig u
  have hv : dval l = u := by rw [hl]; exact dval_decDigits u
  have hn : s.size = l.length + 1 := by rw [hs, S_size, hl]; rfl
  have hsl : s = S (45 :: l) := by rw [hs, hl]
  have hit : itoaB (wrap32 (4294967296 - (u : Int))) = s := by
    rw [show wrap32 (4294967296 - (u : Int)) = -(u : Int) by unfold wrap32; omega]; unfold itoaB; rw [Lib.itoa_neg u h1, hs]
  rw [← hs]
  have HD := Lib.hid hd
  have HV := Lib.hid hv
  have HN := Lib.hid hn
  have HS := Lib.hid hsl
  have HI := Lib.hid hit
  clear hd hv hn hs hl hsl hit
  go_enter Tryz.func47, Tryz.ntmps47
  go_wp2_with fail
  go_step3
  go_wp2_with fail
  go_step3
  go_wp2_with fail
  go_loopw [4, 5] (fun n m wr => ∃ pos : Nat, pos ≤ l.length + 1 ∧ wr = w.iter s pos ∧ n = .int .i64 (dval (l.take (pos - 1))) ∧ m = .bool (decide (0 < pos))) (fun _ _ wr => s.size - wr.iterPos w.heap.size)
  case atStart => exact ⟨0, Nat.zero_le _, rfl, rfl, rfl⟩
  case round =>
    obtain ⟨pos, hpos, rfl, rfl, rfl⟩ := hrel
    by_cases h0 : pos = 0
    · subst h0
      have hp' : 0 < s.size := by rw [HN.out]; omega
      have hg : s[0] = 45 := get_list (l := 45 :: l) HS.out 0 hp' (by simp)
      have hdec := decode_ascii s 0 hp' (by rw [hg]; decide)
      rw [hg, show (45 : UInt8).toNat = 45 from rfl] at hdec
      have hnx : ∀ ty, (Instr.next (.pointer (some ⟨w.heap.size, 0, none⟩)) true ty).run Tryz.prog (w.iter s 0) = _ := fun ty => run_next_any w s 0 ty hp'
      rw [hdec] at hnx
      clear hdec hg
      go_wp2_with fail
      go_roundw
      case rel => exact ⟨1, by omega, rfl, rfl, rfl⟩
      case measure => simp; omega
    · obtain ⟨p, rfl⟩ : ∃ p, pos = p + 1 := ⟨pos - 1, by omega⟩
      rw [show p + 1 - 1 = p by omega, show decide (0 < p + 1) = true by simp]
      obtain ⟨hb0, hb1⟩ := dval_take_le l HD.out p
      rw [HV.out] at hb1
      have hb2 : dval (l.take p) ≤ 2147483648 := by omega
      by_cases hp : p < l.length
      · have hp' : p + 1 < s.size := by rw [HN.out]; omega
        have hg : s[p + 1] = l[p] := get_list (l := 45 :: l) HS.out (p + 1) hp' (by simp; omega)
        have hc := HD.out _ (List.getElem_mem hp)
        unfold isDig at hc
        have hdec := decode_ascii s (p + 1) hp' (by rw [hg]; omega)
        rw [hg] at hdec
        have hsu := Lib.hid (dval_take_succ l p hp)
        obtain ⟨c, hcc⟩ : ∃ c : Nat, c = l[p].toNat := ⟨_, rfl⟩
        rw [← hcc] at hdec hc hsu
        have hnx : ∀ ty, (Instr.next (.pointer (some ⟨w.heap.size, 0, none⟩)) true ty).run Tryz.prog (w.iter s (p + 1)) = _ := fun ty => run_next_any w s (p + 1) ty hp'
        rw [hdec] at hnx
        clear hdec hg hcc
        go_wp2_with fail
        go_roundw
        case rel => exact ⟨p + 2, by omega, rfl, by rw [show p + 2 - 1 = p + 1 by omega, hsu.out], by simp⟩
        case measure => simp; omega
      · have hnx : ∀ ty, (Instr.next (.pointer (some ⟨w.heap.size, 0, none⟩)) true ty).run Tryz.prog (w.iter s (p + 1)) = _ := fun ty => run_next_end w s (p + 1) ty (by rw [HN.out]; omega)
        have he : dval (l.take p) = u := by rw [List.take_of_length_le (by omega), HV.out]
        rw [he]
        have ho := out_in (-(u : Int)) (by omega) (by omega)
        clear he hb0 hb1 hb2
        go_wp2_with (go_at_call 63; refine (outside_any _ _).mono ?_; rintro e w' ⟨rfl, rfl⟩)
        rw [show (-(u : Int)) % 4294967296 = 4294967296 - u by omega]
        refine (dec_any _ _ (HT.out.below (below_iter _ _ _))).mono ?_
        rintro e w' ⟨rfl, hb3⟩
        rw [HI.out]
        go_wp2_with fail
        rw [Exit.noGoto_ret]
        go_ret2
        exact ⟨ret_int2 (by omega) rfl, (below_iter _ _ _).trans (hb3.mono (by show _ ≤ (w.alloc _).heap.size; simp))⟩
theorem ofDec_no (s : ByteArray) (hno : ∀ v : Int, -2147483648 ≤ v → v ≤ 2147483647 → itoaB v ≠ s) (w : World) (hT : Tab w) :
    Calls Tryz.prog 47 #[.string s] w fun e w' => e = .returned (.tuple #[.int .u32 0, .int .i64 4]) ∧ Below w.heap.size w w' := by
  have HT := Lib.hid hT
  have HNo := Lib.hid hno
  clear hT hno
  go_enter Tryz.func47, Tryz.ntmps47
  go_wp2_with fail
  go_step3
  go_wp2_with fail
  go_step3
  go_wp2_with fail
  go_loopw [4, 5] (fun n m wr => ∃ (pos : Nat) (k : Int) (b : Bool), wr = w.iter s pos ∧ n = .int .i64 k ∧ 0 ≤ k ∧ k ≤ 1099511627776 ∧ m = .bool b) (fun _ _ wr => s.size - wr.iterPos w.heap.size)
  case atStart => exact ⟨0, 0, false, rfl, rfl, by omega, by omega, rfl⟩
  case round =>
    obtain ⟨pos, k, b, rfl, rfl, k0, k1, rfl⟩ := hrel
    by_cases hp : pos < s.size
    · have hnx : ∀ ty, (Instr.next (.pointer (some ⟨w.heap.size, 0, none⟩)) true ty).run Tryz.prog (w.iter s pos) = _ := fun ty => run_next_any w s pos ty hp
      have ho1 : out32 (-1099511627776) = true := by decide
      have ho2 : out32 1099511627776 = true := by decide
      have hwd := width_pos s pos hp
      go_wp2_with (go_at_call 63; refine (outside_any _ _).mono ?_; rintro e w' ⟨rfl, rfl⟩)
      all_goals first
        | (rw [Exit.noGoto_ret]; go_ret2; exact ⟨rfl, below_iter _ _ _⟩)
        | skip
      all_goals go_roundw
      case rel => exact ⟨_, k, true, rfl, rfl, k0, k1, rfl⟩
      case measure => simp; omega
      case rel => exact ⟨_, _, b, rfl, rfl, by omega, by omega, rfl⟩
      case measure => simp; omega
    · have hnx : ∀ ty, (Instr.next (.pointer (some ⟨w.heap.size, 0, none⟩)) true ty).run Tryz.prog (w.iter s pos) = _ := fun ty => run_next_end w s pos ty hp
      cases b
      · cases ho : out32 k with
        | true =>
          go_wp2_with (go_at_call 63; refine (outside_any _ _).mono ?_; rintro e w' ⟨rfl, rfl⟩)
          rw [Exit.noGoto_ret]; go_ret2; exact ⟨rfl, below_iter _ _ _⟩
        | false =>
          obtain ⟨g0, g1⟩ := out_range k ho
          have hne := neq_list _ _ (HNo.out k g0 g1)
          rw [← wrap_in k g0 g1] at hne
          go_wp2_with (go_at_call 63; refine (outside_any _ _).mono ?_; rintro e w' ⟨rfl, rfl⟩)
          refine (dec_any _ _ (HT.out.below (below_iter _ _ _))).mono ?_
          rintro e w' ⟨rfl, hb3⟩
          go_wp2_with fail
          rw [Exit.noGoto_ret]; go_ret2; exact ⟨rfl, (below_iter _ _ _).trans (hb3.mono (by show _ ≤ (w.alloc _).heap.size; simp))⟩
      · cases ho : out32 (-k) with
        | true =>
          go_wp2_with (go_at_call 63; refine (outside_any _ _).mono ?_; rintro e w' ⟨rfl, rfl⟩)
          rw [Exit.noGoto_ret]; go_ret2; exact ⟨rfl, below_iter _ _ _⟩
        | false =>
          obtain ⟨g0, g1⟩ := out_range (-k) ho
          have hne := neq_list _ _ (HNo.out (-k) g0 g1)
          rw [← wrap_w32 (-k) g0 g1] at hne
          go_wp2_with (go_at_call 63; refine (outside_any _ _).mono ?_; rintro e w' ⟨rfl, rfl⟩)
          refine (dec_any _ _ (HT.out.below (below_iter _ _ _))).mono ?_
          rintro e w' ⟨rfl, hb3⟩
          go_wp2_with fail
          rw [Exit.noGoto_ret]; go_ret2; exact ⟨rfl, (below_iter _ _ _).trans (hb3.mono (by show _ ≤ (w.alloc _).heap.size; simp))⟩
end Go.Proofs.YthpdgghjaglhnaaGreatDoor

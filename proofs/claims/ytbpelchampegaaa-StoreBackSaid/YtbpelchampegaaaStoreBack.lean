/-
  StoreBack: for any at most 3000 bytes, any at most 60 words, any name: what a new rider wrote is read, byte by byte, and word by word, under the name under which it is registered, and by riders that stood on it, whatever becomes of the name; a file that was there of that name goes on for who stands on it. No condition.
-/
import Derived.Test.YtbpelchampegaaaStoreP
import Derived.Deep.Cut
import Derived.Lib.SlBytesConst
import Derived.Deep.RegionWith
import Derived.Deep.RegionHeld3
namespace Go.Proofs.Ytbpelchampegaaa.storeBack
open Go.ChangeShapes Go.WideShapes Go.ChangeAt Go.RowKit
open Go.ChangeMaps (open_string shut_string)
set_option linter.unusedVariables false
def elder : List Int := [101, 108, 100, 101, 114]
def dir0 (nm : ByteArray) : ByteArray → Option Nat := dirSet (fun _ => none) nm (some 0)
def dir1 (nm : ByteArray) : ByteArray → Option Nat := dirSet (dir0 nm) nm (some 1)
def dir2 (nm : ByteArray) : ByteArray → Option Nat := dirSet (dir1 nm) nm none
theorem dir0_nm (nm : ByteArray) : dir0 nm nm = some 0 := dirSet_same _ _ _
theorem dir1_nm (nm : ByteArray) : dir1 nm nm = some 1 := dirSet_same _ _ _
theorem dir2_nm (nm : ByteArray) : dir2 nm nm = none := dirSet_same _ _ _
theorem elder_str : strOf elder = ⟨#[101, 108, 100, 101, 114]⟩ := by decide
theorem rd_elder (V : World) (fr : Nat × Nat) : Rd (V.alloc (.cells #[.int .u8 101, .int .u8 108, .int .u8 100, .int .u8 101, .int .u8 114] 5 fr)) (V.alloc (.cells #[.int .u8 101, .int .u8 108, .int .u8 100, .int .u8 101, .int .u8 114] 5 fr)).heap.size .u8 (some ⟨V.heap.size, 0, none⟩) 5 elder := ⟨rfl, fun _ => ⟨_, rfl, by simp, fun j hj => by
  have hb : (V.alloc (.cells #[.int .u8 101, .int .u8 108, .int .u8 100, .int .u8 101, .int .u8 114] 5 fr)).heap[V.heap.size]? = some (.cells #[.int .u8 101, .int .u8 108, .int .u8 100, .int .u8 101, .int .u8 114] 5 fr) := heap_alloc_new V _
  rw [cell_add]
  unfold World.cell?
  rw [hb]
  rcases (by omega : j = 0 ∨ j = 1 ∨ j = 2 ∨ j = 3 ∨ j = 4) with rfl | rfl | rfl | rfl | rfl <;> rfl⟩⟩
theorem elder_bd : ∀ z ∈ elder, 0 ≤ z ∧ z ≤ 255 := by decide
theorem elder_e : nth elder 0 = 101 := by decide
theorem wrote_take (xs : List Int) (j : Nat) (hj : j < xs.length) : wrote (xs.take j) j (nth xs j) = xs.take (j + 1) := by
  have : (xs.take j).length = j := by rw [List.length_take]; omega
  unfold wrote
  rw [if_pos this.symm, take_nth xs j hj]
set_option maxHeartbeats 4000000 in
set_option maxRecDepth 4000 in
theorem walk (a0 : Option Addr) (len0 cap0 : Nat) (z0 : List Int) (a1 : Option Addr) (len1 cap1 : Nat) (z1 : List Int) (nm : ByteArray) (w : World) (w0 : IsRow .u8 w a0 len0 cap0 z0) (w1 : IsRow .u32 w a1 len1 cap1 z1) (w2 : nm.size ≤ maxLen) :
    Calls Try.prog 3 #[.slice a0 len0 cap0, .slice a1 len1 cap1, .string nm] w fun e w' => e = .returned (.bool true) ∧ Below w.heap.size w w' := by
  have hz : ∀ i, i < len0 → 0 ≤ nth z0 i ∧ nth z0 i ≤ 255 := fun i hi => bd_u8 (w0.2.2.2.1 (nth z0 i) (by rw [nth_eq z0 i (by rw [w0.1]; exact hi)]; exact List.getElem_mem _))
  have hy : ∀ i, i < len1 → 0 ≤ nth z1 i ∧ nth z1 i ≤ 4294967295 := fun i hi => bd_u32 (w1.2.2.2.1 (nth z1 i) (by rw [nth_eq z1 i (by rw [w1.1]; exact hi)]; exact List.getElem_mem _))
  have W0 := Lib.hid w0
  have W1 := Lib.hid w1
  have HZ := Lib.hid hz
  have HY := Lib.hid hy
  have hl0 : len0 ≤ maxLen := Nat.le_trans w0.2.1 w0.2.2.1
  have hl1 : len1 ≤ maxLen := Nat.le_trans w1.2.1 w1.2.2.1
  have KN := Lib.hid known2_any
  clear w0 w1 hz hy
  by_cases h3 : 3000 < len0
  · unfold maxLen at hl0 hl1
    go_enter Try.func3, Try.ntmps3
    go_wp2_with (go_at_call 6; refine (KN.out _).mono ?_; rintro e w' ⟨rfl, hb⟩)
    go_ret
    exact ⟨rfl, hb⟩
  by_cases h4 : 60 < len1
  · unfold maxLen at hl0 hl1
    go_enter Try.func3, Try.ntmps3
    go_wp2_with (go_at_call 6; refine (KN.out _).mono ?_; rintro e w' ⟨rfl, hb⟩)
    go_ret
    exact ⟨rfl, hb⟩
  by_cases hF : FName nm
  rotate_left
  · have HM := Lib.hid (rmay_no w2 hF)
    clear hF
    go_enter Try.func3, Try.ntmps3
    go_wp2_with (first | (go_at_call 6; refine (KN.out _).mono ?_; rintro e w' ⟨rfl, hb⟩) | (go_at_call 7; refine (HM.out _).mono ?_; rintro e w' ⟨rfl, rfl⟩))
    go_ret
    exact ⟨rfl, hb⟩
  have HM := Lib.hid (rmay_yes w2 hF)
  have FN := Lib.hid hF
  clear hF
  have hlz : z0.length = len0 := W0.out.1
  have hly : z1.length = len1 := W1.out.1
  have hs := w2
  have HS := Lib.hid hs
  clear hs w2
  have kc := fun (V : World) (C : Array Value) => Lib.run_convert_bytes_const (P := Try.prog) V 22 5 C 5 5 Try.underlying22 Try.underlying5
  go_enter Try.func3, Try.ntmps3
  go_upto_region 9 with (first
    | (go_at_call 6; refine (KN.out _).mono ?_; rintro e w' ⟨rfl, hb⟩; have HB0 := Lib.hid hb; clear hb)
    | (go_at_call 7; refine (HM.out _).mono ?_; rintro e w' ⟨rfl, rfl⟩)
    | (go_at_call 9; refine (num2_any _ _).mono ?_; rintro e w' ⟨rfl, rfl⟩)
    | (go_at_call 8; refine (new_any 20000 (by omega) _).mono ?_; rintro e w3 ⟨p, rfl, ⟨mb, g, hs⟩, hb⟩; have HS1 := Lib.hid (Stk.new hs hb.size); have HB1 := Lib.hid (HB0.out.trans (hb.mono HB0.out.size)); clear hs hb)
    | (go_at_call 10; refine (Stk.put (HS1.out.below (below1 _ _)) HS.out (FN.out.may _) (by rfl) (by omega) (rd_elder _ _) elder_bd (by omega)).mono ?_; rintro e w4 ⟨rfl, hs, hb⟩; have HS2 := Lib.hid hs; have HB2 := Lib.hid ((HB1.out.trans ((below1 _ _).mono HB1.out.size)).trans (hb.mono HB0.out.size)); clear hs hb)
    | (go_at_call 11; refine (Stk.old HS2.out (k := 0) HS.out (by exact dir0_nm nm) (f := (nm, elder, false)) (by rfl) (by simp)).mono ?_; rintro e w5 ⟨he, hs, hb⟩; obtain rfl : e = .returned (.int .i64 1) := he; have HS3 := Lib.hid hs; have HB3 := Lib.hid (HB2.out.trans (hb.mono HB0.out.size)); clear hs hb HS2 HB2)
    | (go_at_call 12; refine (Stk.fresh HS3.out HS.out (FN.out.may _) (by simp)).mono ?_; rintro e w6 ⟨he, hs, hb⟩; obtain rfl : e = .returned (.int .i64 2) := he; have HS4 : Hid (Stk w6 _ p 20000 5 [(nm, elder, true), (nm, [], true)] [(0, 0), (1, 0)] (dir0 nm) 1) := Lib.hid hs; have HB4 := Lib.hid (HB3.out.trans (hb.mono HB0.out.size)); clear hs hb HS3 HB3))
  obtain ⟨B, hBB, HT⟩ : ∃ B, w.heap.size ≤ B ∧ Hid (Stk w6 B p 20000 5 [(nm, elder, true), (nm, [], true)] [(0, 0), (1, 0)] (dir0 nm) 1) := ⟨_, HB0.out.size, HS4⟩
  clear kc HS1 HB1 HS4 HB0
  go_wp2_with fail
  go_loopw [11] (fun x wr => ∃ (j : Nat), j ≤ len0 ∧ x = .int .i64 j ∧ Hid (Stk wr B p 20000 (5 + j) [(nm, elder, true), (nm, z0.take j, true)] [(0, 0), (1, j)] (dir0 nm) 1 ∧ Below w.heap.size w wr)) (fun x _ => len0 - (intOf x).toNat)
  case atStart => exact ⟨0, Nat.zero_le _, rfl, Lib.hid ⟨HT.out, HB4.out⟩⟩
  case round =>
    obtain ⟨j, hj, rfl, HJ⟩ := hrel
    clear HT HB4
    by_cases hlt : j < len0
    · obtain ⟨x, rfl, hx, hc⟩ := W0.out.2.2.2.2.2 (by omega)
      have hcx : wr.cell? (x.add j) = some (.int .u8 (nth z0 j)) := by rw [HJ.out.2.cell (by rw [block_add]; exact hx)]; exact hc j hlt
      have zb := HZ.out j hlt
      have hlen : (z0.take j).length = j := by rw [List.length_take]; omega
      have HW := Lib.hid (Stk.write HJ.out.1 (f := 2) (i := 1) (k := 1) (a := j) (by rfl) (by rfl) (x := (nm, z0.take j, true)) (by rfl) (by show j ≤ (z0.take j).length; omega) (nth z0 j) zb.1 zb.2 (by show 5 + j + (j + 1 - (z0.take j).length) ≤ 20000; omega) (by omega))
      have hnext : ∀ w2 : World, Stk w2 B p 20000 (5 + j + (j + 1 - (z0.take j).length)) ([(nm, elder, true), (nm, z0.take j, true)].set 1 (nm, wrote (z0.take j) j (nth z0 j), true)) ([(0, 0), (1, j)].set 1 (1, j + 1)) (dir0 nm) 1 → Below B wr w2 → Hid (Stk w2 B p 20000 (5 + (j + 1)) [(nm, elder, true), (nm, z0.take (j + 1), true)] [(0, 0), (1, j + 1)] (dir0 nm) 1 ∧ Below w.heap.size w w2) := fun w2 hs hb => Lib.hid ⟨by rw [wrote_take z0 j (by omega), show 5 + j + (j + 1 - (z0.take j).length) = 5 + (j + 1) by omega] at hs; exact hs, HJ.out.2.trans (hb.mono hBB)⟩
      have HN := Lib.hid hnext
      clear hnext hlen hc HJ
      generalize nth z0 j = z at *
      go_wp2_with (first | (go_at_call 9; refine (num2_any _ _).mono ?_; rintro e w' ⟨rfl, rfl⟩) | (go_at_call 13; refine HW.out.mono ?_; rintro e w2 ⟨rfl, hs, hb⟩; have HA := HN.out w2 hs hb; clear hs hb))
      exact ⟨⟨j + 1, by omega, by simp, HA⟩, by simp [intOf]; omega⟩
    · obtain rfl : len0 = j := by omega
      have ht : z0.take len0 = z0 := List.take_of_length_le (by omega)
      have HT : Hid (Stk wr B p 20000 (5 + len0 + 0) [(nm, elder, true), (nm, z0 ++ bytesOf (z1.take 0), true)] [(0, 0), (1, len0 + 0)] (dir0 nm) 1) := Lib.hid (by have := HJ.out.1; rw [ht] at this; simpa [bytesOf] using this)
      have HB := Lib.hid HJ.out.2
      clear HJ ht hlt hj
      go_wp2_with fail
      go_loopw [12] (fun x wr => ∃ (j : Nat), j ≤ len1 ∧ x = .int .i64 j ∧ Hid (Stk wr B p 20000 (5 + len0 + 4 * j) [(nm, elder, true), (nm, z0 ++ bytesOf (z1.take j), true)] [(0, 0), (1, len0 + 4 * j)] (dir0 nm) 1 ∧ Below w.heap.size w wr)) (fun x _ => len1 - (intOf x).toNat)
      case atStart => exact ⟨0, Nat.zero_le _, rfl, Lib.hid ⟨HT.out, HB.out⟩⟩
      case round =>
        obtain ⟨j, hj, rfl, HJ⟩ := hrel
        clear HT HB
        by_cases hlt : j < len1
        · obtain ⟨x, rfl, hx, hc⟩ := W1.out.2.2.2.2.2 (by omega)
          have hcx : wr.cell? (x.add j) = some (.int .u32 (nth z1 j)) := by rw [HJ.out.2.cell (by rw [block_add]; exact hx)]; exact hc j hlt
          have zb := HY.out j hlt
          have hlen : (z0 ++ bytesOf (z1.take j)).length = len0 + 4 * j := by rw [List.length_append, bytesOf_length, List.length_take]; omega
          have HW := Lib.hid (Stk.wword HJ.out.1 (f := 2) (i := 1) (k := 1) (a := len0 + 4 * j) (by rfl) (by rfl) (x := (nm, z0 ++ bytesOf (z1.take j), true)) (by rfl) (by show len0 + 4 * j ≤ (z0 ++ bytesOf (z1.take j)).length; omega) (nth z1 j) zb.1 zb.2 (by show 5 + len0 + 4 * j + (len0 + 4 * j + 4 - (z0 ++ bytesOf (z1.take j)).length) ≤ 20000; omega) (by omega))
          have hnext : ∀ w2 : World, Stk w2 B p 20000 (5 + len0 + 4 * j + (len0 + 4 * j + 4 - (z0 ++ bytesOf (z1.take j)).length)) ([(nm, elder, true), (nm, z0 ++ bytesOf (z1.take j), true)].set 1 (nm, wroteL (z0 ++ bytesOf (z1.take j)) (len0 + 4 * j) (byt (nth z1 j)), true)) ([(0, 0), (1, len0 + 4 * j)].set 1 (1, len0 + 4 * j + 4)) (dir0 nm) 1 → Below B wr w2 → Hid (Stk w2 B p 20000 (5 + len0 + 4 * (j + 1)) [(nm, elder, true), (nm, z0 ++ bytesOf (z1.take (j + 1)), true)] [(0, 0), (1, len0 + 4 * (j + 1))] (dir0 nm) 1 ∧ Below w.heap.size w w2) := fun w2 hs hb => Lib.hid ⟨by
            rw [show wroteL (z0 ++ bytesOf (z1.take j)) (len0 + 4 * j) (byt (nth z1 j)) = z0 ++ bytesOf (z1.take (j + 1)) by rw [← hlen, wroteL_end, bytesOf_take z1 j (by omega), List.append_assoc], show 5 + len0 + 4 * j + (len0 + 4 * j + 4 - (z0 ++ bytesOf (z1.take j)).length) = 5 + len0 + 4 * (j + 1) by omega] at hs
            exact hs, HJ.out.2.trans (hb.mono hBB)⟩
          have HN := Lib.hid hnext
          clear hnext hlen hc HJ
          generalize nth z1 j = z at *
          go_wp2_with (first | (go_at_call 9; refine (num2_any _ _).mono ?_; rintro e w' ⟨rfl, rfl⟩) | (go_at_call 14; refine HW.out.mono ?_; rintro e w2 ⟨rfl, hs, hb⟩; have HA := HN.out w2 hs hb; clear hs hb))
          exact ⟨⟨j + 1, by omega, by simp, HA⟩, by simp [intOf]; omega⟩
        · obtain rfl : len1 = j := by omega
          have ht : z1.take len1 = z1 := List.take_of_length_le (by omega)
          have hXl : (z0 ++ bytesOf z1).length = len0 + 4 * len1 := by rw [List.length_append, bytesOf_length]; omega
          have HT : Hid (Stk wr B p 20000 (5 + len0 + 4 * len1) [(nm, elder, true), (nm, z0 ++ bytesOf z1, true)] [(0, 0), (1, len0 + 4 * len1)] (dir0 nm) 1) := Lib.hid (by have := HJ.out.1; rw [ht] at this; exact this)
          have HB := Lib.hid HJ.out.2
          have HXb : Hid (∀ i, i < len0 → nth (z0 ++ bytesOf z1) i = nth z0 i) := Lib.hid fun i hi => nth_app_left _ _ (by omega)
          have HXw : Hid (∀ j, j < len1 → leb (z0 ++ bytesOf z1) (len0 + 4 * j) 4 = nth z1 j) := Lib.hid fun j hj => by
            have := leb_bytesOf z0 z1 j (by omega) (HY.out j hj).1 (HY.out j hj).2
            rw [hlz] at this
            exact this
          clear HJ ht hlt hj
          generalize z0 ++ bytesOf z1 = X at *
          have HE := Lib.hid elder_str
          go_upto_region 28 with (first
            | (go_at_call 9; refine (num2_any _ _).mono ?_; rintro e w' ⟨rfl, rfl⟩)
            | (go_at_call 15; refine (Stk.get HT.out HS.out (FN.out.may _) (by exact dir0_nm nm) (k := 0) (f := (nm, elder, true)) (by rfl)).mono ?_; rintro e w2 ⟨v, rfl, ho, hb⟩; obtain ⟨A1, c1, rfl, -, hr⟩ := rd_own ho; have cv1 := conv_rd hr c1; rw [HE.out] at cv1; have HT1 := Lib.hid (HT.out.below hb); have HB1 := Lib.hid (HB.out.trans (hb.mono HB.out.size)); clear hr hb ho HT HB)
            | (go_at_call 16; refine (Stk.register HT1.out (f := 2) (i := 1) (k := 1) (a := len0 + 4 * len1) (by rfl) (by rfl) (x := (nm, X, true)) (by rfl) (j := 0) (y := (nm, elder, true)) (by rfl) (by omega) (by rfl) (by exact dir0_nm nm) (by omega)).mono ?_; rintro e w3 ⟨rfl, hs, hb⟩; have HT2 : Hid (Stk w3 B p 20000 (5 + len0 + 4 * len1) [(nm, elder, true), (nm, X, true)] [(0, 0), (1, len0 + 4 * len1)] (dir1 nm) 2) := Lib.hid hs; have HB2 := Lib.hid (HB1.out.trans (hb.mono hBB)); clear hs hb HT1 HB1 cv1)
            | (go_at_call 17; refine (Stk.length HT2.out (f := 2) (i := 1) (k := 1) (a := len0 + 4 * len1) (by rfl) (by rfl) (x := (nm, X, true)) (by rfl)).mono ?_; rintro e w' ⟨he, rfl⟩; have he : e = .returned (.int .i64 (X.length : Nat)) := he; rw [hXl] at he; subst he)
            | (go_at_call 18; refine (Stk.eof HT2.out (f := 2) (i := 1) (k := 1) (a := len0 + 4 * len1) (by rfl) (by rfl) (x := (nm, X, true)) (by rfl)).mono ?_; rintro e w4 ⟨he, hs, hb⟩; have he : e = .returned (.bool (len0 + 4 * len1 == X.length)) := he; rw [hXl, beq_self_eq_true] at he; subst he; have HT3 := Lib.hid hs; have HB3 := Lib.hid (HB2.out.trans (hb.mono HB2.out.size)); clear hs hb HT2 HB2)
            | (go_at_call 11; refine (Stk.old HT3.out (k := 1) HS.out (by exact dir1_nm nm) (f := (nm, X, true)) (by rfl) (by simp)).mono ?_; rintro e w5 ⟨he, hs, hb⟩; obtain rfl : e = .returned (.int .i64 3) := he; have HT4 : Hid (Stk w5 B p 20000 (5 + len0 + 4 * len1) [(nm, elder, true), (nm, X, true)] [(0, 0), (1, len0 + 4 * len1), (1, 0)] (dir1 nm) 2) := Lib.hid hs; have HB4 := Lib.hid (HB3.out.trans (hb.mono hBB)); clear hs hb HT3 HB3)
            | (go_at_call 19; refine (Stk.delete HT4.out (k := 1) HS.out (by exact dir1_nm nm) (f := (nm, X, true)) (by rfl) (by rfl)).mono ?_; rintro e w5 ⟨rfl, hs, hb⟩; have HT5 : Hid (Stk w5 B p 20000 (5 + len0 + 4 * len1) [(nm, elder, true), (nm, X, true)] [(0, 0), (1, len0 + 4 * len1), (1, 0)] (dir2 nm) 2) := Lib.hid hs; have HB5 := Lib.hid (HB4.out.trans (hb.mono hBB)); clear hs hb HT4 HB4)
            | (go_at_call 15; refine (Stk.get_no HT5.out HS.out (FN.out.may _) (by exact dir2_nm nm)).mono ?_; rintro e w' ⟨rfl, rfl⟩)
            | (go_at_call 11; refine (Stk.old_no HT5.out HS.out (by exact dir2_nm nm)).mono ?_; rintro e w' ⟨rfl, rfl⟩)
            | (go_at_call 17; refine (Stk.length HT5.out (f := 1) (i := 0) (k := 0) (a := 0) (by rfl) (by rfl) (x := (nm, elder, true)) (by rfl)).mono ?_; rintro e w' ⟨he, rfl⟩; obtain rfl : e = .returned (.int .i64 5) := he)
            | (go_at_call 20; refine (Stk.read HT5.out (f := 1) (i := 0) (k := 0) (a := 0) (by rfl) (by rfl) (x := (nm, elder, true)) (by rfl) (by show 0 < elder.length; decide)).mono ?_; rintro e w6 ⟨he, hs, hb⟩; have he : e = .returned (.int .u8 (nth elder 0)) := he; rw [elder_e] at he; subst he; have HT6 : Hid (Stk w6 B p 20000 (5 + len0 + 4 * len1) [(nm, elder, true), (nm, X, true)] [(0, 1), (1, len0 + 4 * len1), (1, 0)] (dir2 nm) 2) := Lib.hid hs; have HB6 := Lib.hid (HB5.out.trans (hb.mono hBB)); clear hs hb HT5 HB5)
            | (go_at_call 21; refine (Stk.seek HT6.out (f := 2) (i := 1) (k := 1) (a := len0 + 4 * len1) (by rfl) (by rfl) (x := (nm, X, true)) (by rfl) 0 (by omega) (by omega)).mono ?_; rintro e w7 ⟨rfl, hs, hb⟩; have HT7 : Hid (Stk w7 B p 20000 (5 + len0 + 4 * len1) [(nm, elder, true), (nm, X, true)] [(0, 1), (1, 0), (1, 0)] (dir2 nm) 2) := Lib.hid (by have e : seekN 0 X.length = 0 := by { unfold seekN; simp }; have hs : Stk w7 B p 20000 (5 + len0 + 4 * len1) [(nm, elder, true), (nm, X, true)] [(0, 1), (1, seekN 0 X.length), (1, 0)] (dir2 nm) 2 := hs; rw [e] at hs; exact hs); have HB7 := Lib.hid (HB6.out.trans (hb.mono hBB)); clear hs hb HT6 HB6))
          have hU : (5 + len0 + 4 * len1) = 5 + len0 + 4 * len1 := rfl
          generalize 5 + len0 + 4 * len1 = U at HT7
          clear hU HE
          go_wp2_with fail
          go_loopw [18] (fun x wr => ∃ (j : Nat), j ≤ len0 ∧ x = .int .i64 j ∧ Hid (Stk wr B p 20000 U [(nm, elder, true), (nm, X, true)] [(0, 1), (1, j), (1, j)] (dir2 nm) 2 ∧ Below w.heap.size w wr)) (fun x _ => len0 - (intOf x).toNat)
          case atStart => exact ⟨0, Nat.zero_le _, rfl, Lib.hid ⟨HT7.out, HB7.out⟩⟩
          case round =>
            obtain ⟨j, hj, rfl, HJ⟩ := hrel
            clear HT7 HB7
            by_cases hlt : j < len0
            · obtain ⟨x, rfl, hx, hc⟩ := W0.out.2.2.2.2.2 (by omega)
              have HC : Hid (∀ V : World, Below w.heap.size w V → V.cell? (x.add j) = some (.int .u8 (nth z0 j))) := Lib.hid fun V hV => by rw [hV.cell (by rw [block_add]; exact hx)]; exact hc j hlt
              have hXj := HXb.out j hlt
              have hne : (j == X.length) = false := by simp; omega
              have HNE := Lib.hid hne
              have HXJ := Lib.hid hXj
              have zb := HZ.out j hlt
              clear hc hXj hne
              generalize nth z0 j = z at *
              have HS0 := Lib.hid (HJ.out.1.rest ((Rest.refl wr).drew))
              have B3 : Below w.heap.size w wr.drew := HJ.out.2.trans (((Rest.refl wr).drew).below _)
              have c3 : wr.drew.cell? (x.add j) = some (.int .u8 z) := HC.out _ B3
              have hjl : (j : Int) < (len0 : Int) := by omega
              clear HJ
              go_wp2_with fail
              go_region_held3 (fun w' => Below w.heap.size w w' ∧ w'.cell? (x.add j) = some (.int .u8 z))
                (first | exact ⟨by assumption, by assumption⟩ | go_keep)
                ((first
                | (go_at_call 18; refine (Stk.eof HS0.out (f := 3) (i := 2) (k := 1) (a := j) (by rfl) (by rfl) (x := (nm, X, true)) (by rfl)).mono ?_; rintro e v1 ⟨he, hs, hb⟩; have he : e = .returned (.bool (j == X.length)) := he; rw [HNE.out] at he; subst he; have HS1 := Lib.hid hs; have B4 : Below w.heap.size w v1 := B3.trans (hb.mono B3.size); have c4 := HC.out _ B4; clear hs hb HS0)
                | (go_at_call 20; refine (Stk.read HS1.out (f := 3) (i := 2) (k := 1) (a := j) (by rfl) (by rfl) (x := (nm, X, true)) (by rfl) (by show j < X.length; omega)).mono ?_; rintro e v2 ⟨he, hs, hb⟩; have he : e = .returned (.int .u8 (nth X j)) := he; rw [HXJ.out] at he; subst he; have HS2 : Hid (Stk v2 B p 20000 U [(nm, elder, true), (nm, X, true)] [(0, 1), (1, j), (1, j + 1)] (dir2 nm) 2) := Lib.hid hs; have B5 : Below w.heap.size w v2 := B4.trans (hb.mono hBB); have c5 := HC.out _ B5; clear hs hb HS1)
                | (go_at_call 20; refine (Stk.read HS2.out (f := 2) (i := 1) (k := 1) (a := j) (by rfl) (by rfl) (x := (nm, X, true)) (by rfl) (by show j < X.length; omega)).mono ?_; rintro e v3 ⟨he, hs, hb⟩; have he : e = .returned (.int .u8 (nth X j)) := he; rw [HXJ.out] at he; subst he; have HS3 : Hid (Stk v3 B p 20000 U [(nm, elder, true), (nm, X, true)] [(0, 1), (1, j + 1), (1, j + 1)] (dir2 nm) 2) := Lib.hid hs; have B6 : Below w.heap.size w v3 := B5.trans (hb.mono hBB); have c6 := HC.out _ B6; clear hs hb HS2)))
              go_wp2_with fail
              exact ⟨⟨j + 1, by omega, by simp, Lib.hid ⟨HS3.out, B6⟩⟩, by simp [intOf]; omega⟩
            · obtain rfl : len0 = j := by omega
              have HT : Hid (Stk wr B p 20000 U [(nm, elder, true), (nm, X, true)] [(0, 1), (1, len0), (1, len0 + 4 * 0)] (dir2 nm) 2) := Lib.hid HJ.out.1
              have HB := Lib.hid HJ.out.2
              clear HJ hlt hj
              go_wp2_with fail
              go_loopw [19] (fun x wr => ∃ (j : Nat), j ≤ len1 ∧ x = .int .i64 j ∧ Hid (Stk wr B p 20000 U [(nm, elder, true), (nm, X, true)] [(0, 1), (1, len0), (1, len0 + 4 * j)] (dir2 nm) 2 ∧ Below w.heap.size w wr)) (fun x _ => len1 - (intOf x).toNat)
              case atStart => exact ⟨0, Nat.zero_le _, rfl, Lib.hid ⟨HT.out, HB.out⟩⟩
              case round =>
                obtain ⟨j, hj, rfl, HJ⟩ := hrel
                clear HT HB
                by_cases hlt : j < len1
                · obtain ⟨x, rfl, hx, hc⟩ := W1.out.2.2.2.2.2 (by omega)
                  have HC : Hid (∀ V : World, Below w.heap.size w V → V.cell? (x.add j) = some (.int .u32 (nth z1 j))) := Lib.hid fun V hV => by rw [hV.cell (by rw [block_add]; exact hx)]; exact hc j hlt
                  have HXJ := Lib.hid (HXw.out j hlt)
                  have HNE : Hid ((len0 + 4 * j == X.length) = false) := Lib.hid (by simp; omega)
                  have zb := HY.out j hlt
                  clear hc
                  generalize nth z1 j = z at *
                  have HS0 := Lib.hid (HJ.out.1.rest ((Rest.refl wr).drew))
                  have B3 : Below w.heap.size w wr.drew := HJ.out.2.trans (((Rest.refl wr).drew).below _)
                  have c3 : wr.drew.cell? (x.add j) = some (.int .u32 z) := HC.out _ B3
                  have hjl : (j : Int) < (len1 : Int) := by omega
                  clear HJ
                  go_wp2_with fail
                  go_region_held3 (fun w' => Below w.heap.size w w' ∧ w'.cell? (x.add j) = some (.int .u32 z))
                    (first | exact ⟨by assumption, by assumption⟩ | go_keep)
                    ((first
                    | (go_at_call 18; refine (Stk.eof HS0.out (f := 3) (i := 2) (k := 1) (a := len0 + 4 * j) (by rfl) (by rfl) (x := (nm, X, true)) (by rfl)).mono ?_; rintro e v1 ⟨he, hs, hb⟩; have he : e = .returned (.bool (len0 + 4 * j == X.length)) := he; rw [HNE.out] at he; subst he; have HS1 := Lib.hid hs; have B4 : Below w.heap.size w v1 := B3.trans (hb.mono B3.size); have c4 := HC.out _ B4; clear hs hb HS0)
                    | (go_at_call 22; refine (Stk.rdword HS1.out (f := 3) (i := 2) (k := 1) (a := len0 + 4 * j) (by rfl) (by rfl) (x := (nm, X, true)) (by rfl) (by show len0 + 4 * j + 4 ≤ X.length; omega)).mono ?_; rintro e v2 ⟨he, hs, hb⟩; have he : e = .returned (.int .u32 (leb X (len0 + 4 * j) 4)) := he; rw [HXJ.out] at he; subst he; have HS2 : Hid (Stk v2 B p 20000 U [(nm, elder, true), (nm, X, true)] [(0, 1), (1, len0), (1, len0 + 4 * j + 4)] (dir2 nm) 2) := Lib.hid hs; have B5 : Below w.heap.size w v2 := B4.trans (hb.mono hBB); have c5 := HC.out _ B5; clear hs hb HS1)))
                  go_wp2_with fail
                  exact ⟨⟨j + 1, by omega, by simp, Lib.hid ⟨HS2.out, B5⟩⟩, by simp [intOf]; omega⟩
                · obtain rfl : len1 = j := by omega
                  have HT := Lib.hid HJ.out.1
                  have HB := Lib.hid HJ.out.2
                  have HNE : Hid ((len0 + 4 * len1 == X.length) = true) := Lib.hid (by simp; omega)
                  clear HJ hlt hj
                  go_wp2_with (first
                    | (go_at_call 18; refine (Stk.eof HT.out (f := 3) (i := 2) (k := 1) (a := len0 + 4 * len1) (by rfl) (by rfl) (x := (nm, X, true)) (by rfl)).mono ?_; rintro e v1 ⟨he, hs, hb⟩; have he : e = .returned (.bool (len0 + 4 * len1 == X.length)) := he; rw [HNE.out] at he; subst he; have HT1 := Lib.hid hs; have HB1 := Lib.hid (HB.out.trans (hb.mono HB.out.size)); clear hs hb HT HB)
                    | (go_at_call 20; refine (Stk.read_no HT1.out (f := 3) (i := 2) (k := 1) (a := len0 + 4 * len1) (by rfl) (by rfl) (x := (nm, X, true)) (by rfl) (by show _ = X.length; omega)).mono ?_; rintro e v2 ⟨rfl, hs, hb⟩; have HT2 := Lib.hid hs; have HB2 := Lib.hid (HB1.out.trans (hb.mono HB1.out.size)); clear hs hb HT1 HB1)
                    | (go_at_call 23; refine (Stk.at_ HT2.out (f := 3) (i := 2) (k := 1) (a := len0 + 4 * len1) (by rfl) (by rfl)).mono ?_; rintro e w' ⟨rfl, rfl⟩))
                  go_ret
                  exact ⟨rfl, HB2.out⟩
theorem own : ownKnob Try.prog.godebug = none := by kernel_rfl
theorem laidOut : laidOutB Try.prog = true := by kernel_rfl
set_option maxRecDepth 1000000 in
theorem contract (H : Type) (enc : TypeId × Value → H) (W : World) (base : Nat) (args : Array Value) (ds gs : List (DataW H)) (before : List MemPlace)
    (hval : ∀ (j : Nat) t v, Try.f3.params[j]? = some t → args[j]? = some v → Value.okWide Try.prog W .any base t v)
    (hW : DataW.Whole enc Try.prog Try.f3.params.toList Rows.storeBackSpec.vars false W args.toList ds gs before) :
    Calls Try.prog 3 args W fun e W' => ∃ v, e = .returned v ∧ Rows.storeBackSpec.post enc Try.prog Try.f3 false true false false W args v W' := by
  have hW' := hW
  obtain ⟨p, q, hA0, hV, rfl, hfz, hnd⟩ := hW
  have hA : DataW.TrodAll enc Try.prog W 0 (fun _ => true) true Try.f3.params.toList args.toList ds p := hA0
  rw [Try.params3] at hA hval
  obtain ⟨v0, vs0, d0, ds0, p0, q0, hargs, rfl, rfl, h0, r0⟩ := trodAll_cons hA
  obtain ⟨v1, vs1, d1, ds1, p1, q1, rfl, rfl, rfl, h1, r1⟩ := trodAll_cons r0
  obtain ⟨v2, vs2, d2, ds2, p2, q2, rfl, rfl, rfl, h2, r2⟩ := trodAll_cons r1
  obtain ⟨rfl, rfl, rfl⟩ := trodAll_nil r2
  obtain rfl : args = #[v0, v1, v2] := by cases args; simp_all
  obtain ⟨rfl, rfl⟩ := trodVars_none hV
  obtain ⟨a0, len0, cap0, rfl⟩ := okWide_slice Try.underlying22 (hval 0 22 v0 rfl rfl)
  have k0 := h0
  have lt0 : ∀ x ∈ p0, x.block < W.heap.size := by obtain ⟨m, hm⟩ := k0; exact DataW.trod_lt m _ _ _ hm
  obtain ⟨z0, w0⟩ := isRow_of Try.underlying22 Try.underlying5 (by kernel_rfl) h0
  obtain ⟨a1, len1, cap1, rfl⟩ := okWide_slice Try.underlying23 (hval 1 23 v1 rfl rfl)
  have k1 := h1
  have lt1 : ∀ x ∈ p1, x.block < W.heap.size := by obtain ⟨m, hm⟩ := k1; exact DataW.trod_lt m _ _ _ hm
  obtain ⟨z1, w1⟩ := isRow_of Try.underlying23 Try.underlying35 (by kernel_rfl) h1
  obtain ⟨a2, rfl, rfl, rfl, w2⟩ := open_string Try.underlying9 (hval 2 9 v2 rfl rfl) h2
  clear hA0
  refine (walk a0 len0 cap0 z0 a1 len1 cap1 z1 a2 W w0 w1 w2).mono fun e W' ⟨he, bel⟩ => ?_
  subst he
  exact ⟨_, rfl, _, _, _, [], _, [], hW', trodAll_mk1 (shut_bool Try.underlying4 _), (trodAll_cons_mk (Below.trod laidOut (by kernel_rfl) (of_decide_eq_true (by kernel_rfl)) k0 bel lt0) (trodAll_cons_mk (Below.trod laidOut (by kernel_rfl) (of_decide_eq_true (by kernel_rfl)) k1 bel lt1) (trodAll_cons_mk (shut_string Try.underlying9 w2) trodAll_mk0))), rfl, bel.frame _, fun h => by cases h⟩
set_option maxRecDepth 100000 in
theorem lifted (os : Os) (started : os.Started) (H : Type) (enc : TypeId × Value → H) :
    ReturnsInHanded {} Try.checked os 3 .any (Rows.storeBackSpec.pre6 enc Try.prog Try.f3 Rows.storeBackRow.domain false) (Rows.storeBackSpec.post enc Try.prog Try.f3 false true false false) := by
  refine returnsInHanded_of_change (C := Try.checked) own started (by kernel_rfl) Try.func3
    (ChangeSpec.witness6 (enc := enc) (C := Try.checked) false ⟨#[], #[.slice none 0 0, .slice none 0 0, .string .empty], []⟩ 8 (by kernel_rfl) (by kernel_rfl) (by kernel_rfl) (by kernel_rfl)) ?_
  intro W base args ds gs before hval hW hcnd _
  exact contract H enc W base args ds gs before hval hW
theorem said : Rows.StoreBackSaid :=
  OpenClaim.holds_of_wide 3 Try.f3 rfl rfl rfl rfl rfl rfl rfl ⟨rfl, rfl, rfl, rfl, rfl⟩ rfl rfl rfl rfl rfl (by kernel_rfl) Try.func3 (by kernel_rfl)
    (of_decide_eq_true (by kernel_rfl)) (by unfold Func.isWrapper; first | (rw [if_pos (by decide +kernel)]; kernel_rfl) | (rw [if_neg (by decide +kernel)]; exact ⟨rfl, rfl⟩))
    (fun os started H enc _ => lifted os started H enc)
theorem proved : Rows.StoreBackSaid := said
end Go.Proofs.Ytbpelchampegaaa.storeBack

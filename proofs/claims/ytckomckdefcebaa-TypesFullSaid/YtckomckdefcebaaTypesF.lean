/-
  More contracts of the makers of a table of types: Array when it is full; Open, Record, Pointer, and Import of a type without fields, with room and full.
-/
import Derived.Test.YtckomckdefcebaaTypesB
namespace Go.Proofs.Ytckomckdefcebaa
open Go.ChangeShapes Go.WideShapes Go.ChangeAt Go.RowKit
set_option linter.unusedVariables false
section
variable {w : World} {B p g cap n : Nat} {xs : List Value} {f : Int}
theorem array_full (h : TabAt w B p g cap n xs f) (hz : Sz xs 1 4) (hn : n = 201) (hB : B ≤ w.heap.size) :
    Calls Try.prog 15 #[.pointer (some ⟨p, 0, none⟩), .int .i64 1, .int .i64 1] w (Refused w B p g cap n xs f 64) := by
  have HI := Lib.hid (is_any h)
  have HS := Lib.hid (size_yes h 1 4 (by omega) (by omega) hz)
  have HA := Lib.hid (add_full h hn (.int .i64 1) (.int .i64 1) (.int .i64 1) (.int .i64 4) (.slice none 0 0) (.int .i64 0) (.int .i64 0) hB)
  clear h
  go_enter Try.func15, Try.ntmps15
  go_wp2_with (first | (go_at_call 39; refine HI.out.mono ?_; rintro e w' ⟨rfl, rfl⟩) | (go_at_call 21; refine HS.out.mono ?_; rintro e w' ⟨rfl, rfl⟩) | (go_at_call 40; refine (up_any 4 (by omega) (by omega) _).mono ?_; rintro e w' ⟨rfl, rfl⟩) | (go_at_call 41; refine HA.out.mono ?_; rintro e w' ⟨rfl, hb, ht⟩))
  go_ret2
  exact ⟨rfl, hb, ht⟩
theorem open_good (h : TabAt w B p g cap n xs f) (hn : n ≤ 200) (h2 : 2 ≤ n) (hB : B ≤ w.heap.size) :
    Calls Try.prog 16 #[.pointer (some ⟨p, 0, none⟩), .int .i64 1] w (Made w B p n xs f 8) := by
  have HI := Lib.hid (is_any h)
  have HH := Lib.hid (has_yes h 1 (by omega) (by omega))
  have HA := Lib.hid (add_room h hn (.int .i64 4) (.int .i64 1) (.int .i64 0) (.int .i64 8) (.slice none 0 0) (.int .i64 0) (.int .i64 0) (by simp [Value.oneCell']) hB)
  clear h
  go_enter Try.func16, Try.ntmps16
  go_wp2_with (first | (go_at_call 39; refine HI.out.mono ?_; rintro e w' ⟨rfl, rfl⟩) | (go_at_call 35; refine HH.out.mono ?_; rintro e w' ⟨rfl, rfl⟩) | (go_at_call 41; refine HA.out.mono ?_; rintro e w' ⟨rfl, hb, gg, cc, ht⟩))
  go_ret2
  exact ⟨rfl, hb, gg, cc, _, _, _, _, _, _, ht⟩
theorem open_full (h : TabAt w B p g cap n xs f) (hn : n = 201) (hB : B ≤ w.heap.size) :
    Calls Try.prog 16 #[.pointer (some ⟨p, 0, none⟩), .int .i64 1] w (Refused w B p g cap n xs f 64) := by
  have HI := Lib.hid (is_any h)
  have HH := Lib.hid (has_yes h 1 (by omega) (by omega))
  have HA := Lib.hid (add_full h hn (.int .i64 4) (.int .i64 1) (.int .i64 0) (.int .i64 8) (.slice none 0 0) (.int .i64 0) (.int .i64 0) hB)
  clear h
  go_enter Try.func16, Try.ntmps16
  go_wp2_with (first | (go_at_call 39; refine HI.out.mono ?_; rintro e w' ⟨rfl, rfl⟩) | (go_at_call 35; refine HH.out.mono ?_; rintro e w' ⟨rfl, rfl⟩) | (go_at_call 41; refine HA.out.mono ?_; rintro e w' ⟨rfl, hb, ht⟩))
  go_ret2
  exact ⟨rfl, hb, ht⟩
theorem record_good (h : TabAt w B p g cap n xs f) (hn : n ≤ 200) (hB : B ≤ w.heap.size) :
    Calls Try.prog 17 #[.pointer (some ⟨p, 0, none⟩)] w (Made w B p n xs f 0) := by
  have HA := Lib.hid (add_room h hn (.int .i64 2) (.int .i64 0) (.int .i64 0) (.int .i64 0) (.slice none 0 0) (.int .i64 0) (.int .i64 0) (by simp [Value.oneCell']) hB)
  clear h
  go_enter Try.func17, Try.ntmps17
  go_wp2_with (go_at_call 41; refine HA.out.mono ?_; rintro e w' ⟨rfl, hb, gg, cc, ht⟩)
  go_ret2
  exact ⟨rfl, hb, gg, cc, _, _, _, _, _, _, ht⟩
theorem record_full (h : TabAt w B p g cap n xs f) (hn : n = 201) (hB : B ≤ w.heap.size) :
    Calls Try.prog 17 #[.pointer (some ⟨p, 0, none⟩)] w (Refused w B p g cap n xs f 64) := by
  have HA := Lib.hid (add_full h hn (.int .i64 2) (.int .i64 0) (.int .i64 0) (.int .i64 0) (.slice none 0 0) (.int .i64 0) (.int .i64 0) hB)
  clear h
  go_enter Try.func17, Try.ntmps17
  go_wp2_with (go_at_call 41; refine HA.out.mono ?_; rintro e w' ⟨rfl, hb, ht⟩)
  go_ret2
  exact ⟨rfl, hb, ht⟩
theorem pointer_good (h : TabAt w B p g cap n xs f) (hn : n ≤ 200) (hB : B ≤ w.heap.size) :
    Calls Try.prog 18 #[.pointer (some ⟨p, 0, none⟩), .int .i64 0] w (Made w B p n xs f 4) := by
  have HI := Lib.hid (is_any h)
  have HA := Lib.hid (add_room h hn (.int .i64 3) (.int .i64 0) (.int .i64 0) (.int .i64 4) (.slice none 0 0) (.int .i64 0) (.int .i64 0) (by simp [Value.oneCell']) hB)
  clear h
  go_enter Try.func18, Try.ntmps18
  go_wp2_with (first | (go_at_call 39; refine HI.out.mono ?_; rintro e w' ⟨rfl, rfl⟩) | (go_at_call 41; refine HA.out.mono ?_; rintro e w' ⟨rfl, hb, gg, cc, ht⟩))
  go_ret2
  exact ⟨rfl, hb, gg, cc, _, _, _, _, _, _, ht⟩
theorem pointer_full (h : TabAt w B p g cap n xs f) (hn : n = 201) (hB : B ≤ w.heap.size) :
    Calls Try.prog 18 #[.pointer (some ⟨p, 0, none⟩), .int .i64 0] w (Refused w B p g cap n xs f 64) := by
  have HI := Lib.hid (is_any h)
  have HA := Lib.hid (add_full h hn (.int .i64 3) (.int .i64 0) (.int .i64 0) (.int .i64 4) (.slice none 0 0) (.int .i64 0) (.int .i64 0) hB)
  clear h
  go_enter Try.func18, Try.ntmps18
  go_wp2_with (first | (go_at_call 39; refine HI.out.mono ?_; rintro e w' ⟨rfl, rfl⟩) | (go_at_call 41; refine HA.out.mono ?_; rintro e w' ⟨rfl, hb, ht⟩))
  go_ret2
  exact ⟨rfl, hb, ht⟩
end
end Go.Proofs.Ytckomckdefcebaa

/-
  The contract of Import of a type without fields, with room and full.
-/
import Derived.Test.YtckomckdefcebaaTypesB
import Derived.Test.YtckomckdefcebaaTypesC
import Derived.Test.YtckomckdefcebaaTypesG
namespace Go.Proofs.Ytckomckdefcebaa
open Go.ChangeShapes Go.WideShapes Go.ChangeAt Go.RowKit
set_option linter.unusedVariables false
theorem clone_nil (w : World) : Calls Try.prog 43 #[.slice none 0 0] w fun e w' => e = .returned (.slice none 0 0) ∧ w = w' := by
  have eql : (binOp .eql 31 (.slice none 0 0) (.slice none 0 0)).run Try.prog w = .ok (.bool true) w := by
    obtain ⟨d, hd⟩ : ∃ d, Op.maxDepth = d + 1 := ⟨9999, rfl⟩
    rw [show binOp .eql 31 (.slice none 0 0) (.slice none 0 0) = (do pure (.bool (← Op.equal 31 (.slice none 0 0) (.slice none 0 0))) : Sem Value) from rfl, Op.equal, hd]
    simp [Op.equalIn, run_underlying Try.underlying31]
  go_enter Try.func43, Try.ntmps43
  go_wp2
  go_ret
  exact ⟨rfl, rfl⟩
theorem inside_any (n : Int) (h0 : 0 ≤ n) (h1 : n ≤ 262144) (w : World) : Calls Try.prog 42 #[.int .i64 n] w fun e w' => e = .returned (.bool true) ∧ w = w' := by
  go_enter Try.func42, Try.ntmps42
  go_wp2
  go_ret
  exact ⟨rfl, rfl⟩
section
variable {w : World} {B p g cap n : Nat} {xs : List Value} {f : Int}
theorem TabAt.counted (h : TabAt w B p g cap n xs f) (k : Int) : TabAt (w.setCell ⟨p, 1, none⟩ (.int .i64 k)) B p g cap n xs k := by
  have hne := h.ne
  have hl := h.own.lt g rfl
  exact ⟨by rw [World.cell?_setCell_other _ _ _ _ (by simp)]; exact h.c0, by rw [World.frozen?_setCell]; exact h.z0, World.cell?_setCell_same _ _ _ h.c1, by rw [World.frozen?_setCell]; exact h.z1,
    h.own.kept (row := some p) ⟨rfl, rfl, rfl, by simp [World.setCell], fun k _ hk => Below.heap_setCell _ _ _ _ (fun e => hk (by rw [e]))⟩ (.inr (by simp [Value.ownBlock]; omega)), h.bp, by simpa [World.setCell] using h.lp, h.ne, h.n1, h.n2⟩
set_option maxHeartbeats 2000000 in
theorem import_good (h : TabAt w B p g cap n xs f) (f0 : 0 ≤ f) (f1 : f ≤ 2000) (hn : n ≤ 200) (hB : B ≤ w.heap.size) :
    Calls Try.prog 19 #[.pointer (some ⟨p, 0, none⟩), .agg #[.int .i64 3, .int .i64 0, .int .i64 0, .int .i64 4, .slice none 0 0, .int .i64 0, .int .i64 0]] w (Made w B p n xs f 4) := by
  have hb := below1 w (.cells #[.int .i64 3, .int .i64 0, .int .i64 0, .int .i64 4, .slice none 0 0, .int .i64 0, .int .i64 0] 33)
  have hT := h.below hb
  have HL := Lib.hid hT
  have HB := Lib.hid hb
  have c1 := hT.c1
  have hw : IntKind.i64.wrap f = f := IntWalk.i64_in _ (by omega)
  have e1 : decide (2000 < f) = false := by simp; omega
  have hlp := h.lp
  have hlg := (h.own.lt g rfl).2
  clear h hb hT
  go_enter Try.func19, Try.ntmps19
  go_wp2_with (first | (go_at_call 39; refine (is_any HL.out).mono ?_; rintro e w' ⟨rfl, rfl⟩) | (go_at_call 42; refine (inside_any 4 (by omega) (by omega) _).mono ?_; rintro e w' ⟨rfl, rfl⟩))
  go_loop [22] (fun s => s = .int .i64 0) (fun _ => 0)
  case atStart => rfl
  case round =>
    obtain rfl := hrel
    have E : ∀ k x, [Value.int .i64 3, .int .i64 0, .int .i64 0, .int .i64 4, .slice none 0 0, .int .i64 0, .int .i64 0][k]? = some x → (w.alloc (.cells #[.int .i64 3, .int .i64 0, .int .i64 0, .int .i64 4, .slice none 0 0, .int .i64 0, .int .i64 0] 33)).cell? ⟨w.heap.size, k, none⟩ = some x := fun k x hx => by
      rw [World.cell?_alloc_new w _ _ _]; simpa using hx
    have Z4 : (w.alloc (.cells #[.int .i64 3, .int .i64 0, .int .i64 0, .int .i64 4, .slice none 0 0, .int .i64 0, .int .i64 0] 33)).frozen? ⟨w.heap.size, 4, none⟩ = false := World.frozen?_alloc_new w _ _ _
    have hsz : (w.alloc (.cells #[.int .i64 3, .int .i64 0, .int .i64 0, .int .i64 4, .slice none 0 0, .int .i64 0, .int .i64 0] 33)).heap.size = w.heap.size + 1 := by simp
    generalize hW : w.alloc (.cells #[.int .i64 3, .int .i64 0, .int .i64 0, .int .i64 4, .slice none 0 0, .int .i64 0, .int .i64 0] 33) = W at *
    have hTd := HL.out.drew
    have c1d := hTd.c1
    have E4 := E 4 _ rfl
    have E4d : W.drew.cell? ⟨w.heap.size, 4, none⟩ = some (.slice none 0 0) := E4
    go_wp2_with fail
    go_region_with fail
    all_goals
      have hbd : Below w.heap.size w W.drew := HB.out.drew
      have HTd := Lib.hid hTd
      have HBd := Lib.hid hbd
      have D0 : W.drew.cell? ⟨w.heap.size, 0, none⟩ = some (.int .i64 3) := E 0 _ rfl
      have D1 : W.drew.cell? ⟨w.heap.size, 1, none⟩ = some (.int .i64 0) := E 1 _ rfl
      have D2 : W.drew.cell? ⟨w.heap.size, 2, none⟩ = some (.int .i64 0) := E 2 _ rfl
      have D3 : W.drew.cell? ⟨w.heap.size, 3, none⟩ = some (.int .i64 4) := E 3 _ rfl
      have D5 : W.drew.cell? ⟨w.heap.size, 5, none⟩ = some (.int .i64 0) := E 5 _ rfl
      have D6 : W.drew.cell? ⟨w.heap.size, 6, none⟩ = some (.int .i64 0) := E 6 _ rfl
      have Z4d : W.drew.frozen? ⟨w.heap.size, 4, none⟩ = false := Z4
      have hT2 := hTd.far w.heap.size 4 (.slice none 0 0) (by omega) (by omega)
      have hB2 : Below w.heap.size w (W.drew.setCell ⟨w.heap.size, 4, none⟩ (.slice none 0 0)) := hbd.setCell (Nat.le_refl _) _
      have hs2 : (W.drew.setCell ⟨w.heap.size, 4, none⟩ (.slice none 0 0)).heap.size = w.heap.size + 1 := by show (Array.size _) = _; simp [World.setCell, hsz]
      have HA := Lib.hid (add_room2 hT2 hn (.int .i64 3) (.int .i64 0) (.int .i64 0) (.int .i64 4) (.slice none 0 0) (.int .i64 0) (.int .i64 0) (by simp [Value.oneCell']) (by omega))
      have HB2 := Lib.hid hB2
      have F4 : (W.drew.setCell ⟨w.heap.size, 4, none⟩ (.slice none 0 0)).cell? ⟨w.heap.size, 4, none⟩ = some (.slice none 0 0) := World.cell?_setCell_same _ _ _ E4d
      clear hTd hbd HL HB c1 E4 hW hT2 hB2
      generalize hV : W.drew = V at *
      go_wp2_with (first | (go_at_call 43; refine (clone_nil _).mono ?_; rintro e w' ⟨rfl, rfl⟩))
      go_at_call 41
      refine HA.out.mono ?_
      rintro e w' ⟨rfl, hb3, ⟨gg, cc, hT3⟩, hk⟩
      have c4 := (hk w.heap.size 4 (by omega) (by omega) (by omega)).trans F4
      have c13 := hT3.c1
      have z13 := hT3.z1
      have hB3 : Below B w w' := (HB2.out.mono hB).trans hb3
      have HT3 := Lib.hid hT3
      have HB3 := Lib.hid hB3
      clear hk hT3 hb3 hB3 HA HB2 F4 HTd HBd c1d E4d D0 D1 D2 D3 D5 D6 Z4d E Z4 hs2 hsz hV
      have c4d : w'.drew.cell? ⟨w.heap.size, 4, none⟩ = some (.slice none 0 0) := c4
      have c13d : w'.drew.cell? ⟨p, 1, none⟩ = some (.int .i64 f) := c13
      have z13d : w'.drew.frozen? ⟨p, 1, none⟩ = false := z13
      go_wp2_with fail
      go_region_with fail
      all_goals
        have hT4 := (HT3.out.counted f).drew
        have hB4 : Below B w (w'.setCell ⟨p, 1, none⟩ (.int .i64 f)).drew := (HB3.out.setCell HT3.out.bp _).drew
        clear HT3 HB3 c4 c13 z13 c4d c13d z13d
        generalize (w'.setCell ⟨p, 1, none⟩ (.int .i64 f)).drew = w4 at *
        go_wp2_with fail
        go_ret2
        exact ⟨rfl, hB4, gg, cc, _, _, _, _, _, _, hT4⟩
set_option maxHeartbeats 2000000 in
theorem import_full (h : TabAt w B p g cap n xs f) (f0 : 0 ≤ f) (f1 : f ≤ 2000) (hn : n = 201) (hB : B ≤ w.heap.size) :
    Calls Try.prog 19 #[.pointer (some ⟨p, 0, none⟩), .agg #[.int .i64 3, .int .i64 0, .int .i64 0, .int .i64 4, .slice none 0 0, .int .i64 0, .int .i64 0]] w (Refused w B p g cap n xs f 64) := by
  have hb := below1 w (.cells #[.int .i64 3, .int .i64 0, .int .i64 0, .int .i64 4, .slice none 0 0, .int .i64 0, .int .i64 0] 33)
  have hT := h.below hb
  have HL := Lib.hid hT
  have HB := Lib.hid hb
  have c1 := hT.c1
  have hw : IntKind.i64.wrap f = f := IntWalk.i64_in _ (by omega)
  have e1 : decide (2000 < f) = false := by simp; omega
  have hlp := h.lp
  have hlg := (h.own.lt g rfl).2
  clear h hb hT
  go_enter Try.func19, Try.ntmps19
  go_wp2_with (first | (go_at_call 39; refine (is_any HL.out).mono ?_; rintro e w' ⟨rfl, rfl⟩) | (go_at_call 42; refine (inside_any 4 (by omega) (by omega) _).mono ?_; rintro e w' ⟨rfl, rfl⟩))
  go_loop [22] (fun s => s = .int .i64 0) (fun _ => 0)
  case atStart => rfl
  case round =>
    obtain rfl := hrel
    have E : ∀ k x, [Value.int .i64 3, .int .i64 0, .int .i64 0, .int .i64 4, .slice none 0 0, .int .i64 0, .int .i64 0][k]? = some x → (w.alloc (.cells #[.int .i64 3, .int .i64 0, .int .i64 0, .int .i64 4, .slice none 0 0, .int .i64 0, .int .i64 0] 33)).cell? ⟨w.heap.size, k, none⟩ = some x := fun k x hx => by
      rw [World.cell?_alloc_new w _ _ _]; simpa using hx
    have Z4 : (w.alloc (.cells #[.int .i64 3, .int .i64 0, .int .i64 0, .int .i64 4, .slice none 0 0, .int .i64 0, .int .i64 0] 33)).frozen? ⟨w.heap.size, 4, none⟩ = false := World.frozen?_alloc_new w _ _ _
    have hsz : (w.alloc (.cells #[.int .i64 3, .int .i64 0, .int .i64 0, .int .i64 4, .slice none 0 0, .int .i64 0, .int .i64 0] 33)).heap.size = w.heap.size + 1 := by simp
    generalize hW : w.alloc (.cells #[.int .i64 3, .int .i64 0, .int .i64 0, .int .i64 4, .slice none 0 0, .int .i64 0, .int .i64 0] 33) = W at *
    have hTd := HL.out.drew
    have c1d := hTd.c1
    have E4 := E 4 _ rfl
    have E4d : W.drew.cell? ⟨w.heap.size, 4, none⟩ = some (.slice none 0 0) := E4
    go_wp2_with fail
    go_region_with fail
    all_goals
      have hbd : Below w.heap.size w W.drew := HB.out.drew
      have HTd := Lib.hid hTd
      have HBd := Lib.hid hbd
      have D0 : W.drew.cell? ⟨w.heap.size, 0, none⟩ = some (.int .i64 3) := E 0 _ rfl
      have D1 : W.drew.cell? ⟨w.heap.size, 1, none⟩ = some (.int .i64 0) := E 1 _ rfl
      have D2 : W.drew.cell? ⟨w.heap.size, 2, none⟩ = some (.int .i64 0) := E 2 _ rfl
      have D3 : W.drew.cell? ⟨w.heap.size, 3, none⟩ = some (.int .i64 4) := E 3 _ rfl
      have D5 : W.drew.cell? ⟨w.heap.size, 5, none⟩ = some (.int .i64 0) := E 5 _ rfl
      have D6 : W.drew.cell? ⟨w.heap.size, 6, none⟩ = some (.int .i64 0) := E 6 _ rfl
      have Z4d : W.drew.frozen? ⟨w.heap.size, 4, none⟩ = false := Z4
      have hT2 := hTd.far w.heap.size 4 (.slice none 0 0) (by omega) (by omega)
      have hB2 : Below w.heap.size w (W.drew.setCell ⟨w.heap.size, 4, none⟩ (.slice none 0 0)) := hbd.setCell (Nat.le_refl _) _
      have hs2 : (W.drew.setCell ⟨w.heap.size, 4, none⟩ (.slice none 0 0)).heap.size = w.heap.size + 1 := by show (Array.size _) = _; simp [World.setCell, hsz]
      have HA := Lib.hid (add_full hT2 hn (.int .i64 3) (.int .i64 0) (.int .i64 0) (.int .i64 4) (.slice none 0 0) (.int .i64 0) (.int .i64 0) (by omega))
      have HB2 := Lib.hid hB2
      have F4 : (W.drew.setCell ⟨w.heap.size, 4, none⟩ (.slice none 0 0)).cell? ⟨w.heap.size, 4, none⟩ = some (.slice none 0 0) := World.cell?_setCell_same _ _ _ E4d
      clear hTd hbd HL HB c1 E4 hW hT2 hB2
      generalize hV : W.drew = V at *
      go_wp2_with (first | (go_at_call 43; refine (clone_nil _).mono ?_; rintro e w' ⟨rfl, rfl⟩))
      go_at_call 41
      refine HA.out.mono ?_
      rintro e w' ⟨rfl, hb3, hT3⟩
      have hB3 : Below B w w' := (HB2.out.mono hB).trans hb3
      have HT3 := Lib.hid hT3
      have HB3 := Lib.hid hB3
      clear hT3 hb3 hB3 HA HB2 F4 HTd HBd c1d E4d D0 D1 D2 D3 D5 D6 Z4d E Z4 hs2 hsz hV
      go_wp2_with fail
      go_ret2
      exact ⟨rfl, HB3.out, HT3.out⟩
end
end Go.Proofs.Ytckomckdefcebaa

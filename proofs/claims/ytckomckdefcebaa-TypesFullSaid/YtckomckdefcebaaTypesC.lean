/-
  The contract of New of package types: a table of the basic types.
-/
import Derived.Test.YtckomckdefcebaaTypesA
import Derived.Deep.RegionWith
namespace Go.Proofs.Ytckomckdefcebaa
open Go.ChangeShapes Go.WideShapes Go.ChangeAt Go.RowKit
set_option linter.unusedVariables false
def bsI (k : Int) : Int := if k = 2 ∨ k = 3 ∨ k = 4 then 1 else 4
theorem basic_any (k : Int) (w : World) : Calls Try.prog 25 #[.int .i64 k] w fun e w' => e = .returned (.int .i64 (bsI k)) ∧ w = w' := by
  by_cases h2 : k = 2
  · subst h2
    go_enter Try.func25, Try.ntmps25
    go_wp2
    go_ret
    exact ⟨rfl, rfl⟩
  by_cases h3 : k = 3
  · subst h3
    go_enter Try.func25, Try.ntmps25
    go_wp2
    go_ret
    exact ⟨rfl, rfl⟩
  by_cases h4 : k = 4
  · subst h4
    go_enter Try.func25, Try.ntmps25
    go_wp2
    go_ret
    exact ⟨rfl, rfl⟩
  rw [show bsI k = 4 from if_neg (by omega)]
  go_enter Try.func25, Try.ntmps25
  go_wp2
  go_ret
  exact ⟨rfl, rfl⟩
def bsz (k : Nat) : Int := bsI k
/-- the row behind k rounds -/
def rowB : Nat → List Value
  | 0 => (List.replicate 7 [.int .i64 0, .int .i64 0, .int .i64 0, .int .i64 0, .slice none 0 0, .int .i64 0, .int .i64 0]).flatten
  | k + 1 => (rowB k).set ((k + 1) * 7 + 3) (.int .i64 (bsz (k + 1)))
theorem rowB_len (k : Nat) : (rowB k).length = 49 := by
  induction k with
  | zero => rfl
  | succ k ih => rw [rowB, List.length_set, ih]
theorem TabAt.sized {w : World} {B p g cap n : Nat} {xs : List Value} {f : Int} (h : TabAt w B p g cap n xs f) (j : Nat) (u : Value) :
    TabAt (w.setCell ⟨g, j, none⟩ u) B p g cap n (xs.set j u) f := by
  obtain ⟨o1, o2⟩ := h.own.stored j u
  have hne := h.ne
  exact ⟨by rw [World.cell?_setCell_other _ _ _ _ (fun e => hne (by cases e; rfl))]; exact h.c0, by rw [World.frozen?_setCell]; exact h.z0, by rw [World.cell?_setCell_other _ _ _ _ (fun e => hne (by cases e; rfl))]; exact h.c1, by rw [World.frozen?_setCell]; exact h.z1,
    o1, h.bp, by simpa [World.setCell] using h.lp, h.ne, h.n1, h.n2⟩
theorem TabAt.drew {w : World} {B p g cap n : Nat} {xs : List Value} {f : Int} (h : TabAt w B p g cap n xs f) : TabAt w.drew B p g cap n xs f := h.below (Below.refl _ _).drew
theorem madeRow (w : World) : (Instr.makeSlice 36 (.int .i64 7) (.int .i64 7)).run Try.prog w = .ok (.slice (some ⟨w.heap.size, 0, none⟩) 7 7) (w.alloc (.cells (rowB 0).toArray 33)) := by kernel_rfl
set_option maxHeartbeats 1000000 in
theorem new_any (w : World) : Calls Try.prog 8 #[] w fun e w' => ∃ p g cap xs, e = .returned (.pointer (some ⟨p, 0, none⟩)) ∧ Below w.heap.size w w' ∧ TabAt w' w.heap.size p g cap 7 xs 0 ∧ xs = rowB 6 := by
  have hmk := madeRow
  have hT0 : TabAt ((w.alloc (.cells (rowB 0).toArray 33)).alloc (.cells #[.slice (some ⟨w.heap.size, 0, none⟩) 7 7, .int .i64 0] 60)) w.heap.size (w.heap.size + 1) w.heap.size 7 7 (rowB 0) 0 := by
    have hown : (w.alloc (.cells (rowB 0).toArray 33)).ownsRow w.heap.size 33 7 (.slice (some ⟨w.heap.size, 0, none⟩) 7 7) 7 (rowB 0) := by
      have := World.ownsRow_lit (size := 7) (base := w.heap.size) (e := 33) w (rowB 0).toArray 7 (Nat.le_refl _) (by unfold maxLen; omega) (by simp [rowB_len])
      simpa using this
    have hsz : (w.alloc (.cells (rowB 0).toArray 33)).heap.size = w.heap.size + 1 := by simp
    generalize w.alloc (.cells (rowB 0).toArray 33) = W at *
    have hc : ∀ k, (W.alloc (.cells #[.slice (some ⟨w.heap.size, 0, none⟩) 7 7, .int .i64 0] 60)).cell? ⟨w.heap.size + 1, k, none⟩ = (#[Value.slice (some ⟨w.heap.size, 0, none⟩) 7 7, .int .i64 0] : Array Value)[k]? := fun k => by rw [← hsz]; exact World.cell?_alloc_new W _ _ _
    have hf : ∀ k, (W.alloc (.cells #[.slice (some ⟨w.heap.size, 0, none⟩) 7 7, .int .i64 0] 60)).frozen? ⟨w.heap.size + 1, k, none⟩ = false := fun k => by rw [← hsz]; exact World.frozen?_alloc_new W _ _ _
    exact ⟨hc 0, hf 0, hc 1, hf 1, hown.alloc _, by omega, by simp [hsz], by omega, by omega, by omega⟩
  have hB0 : Below w.heap.size w ((w.alloc (.cells (rowB 0).toArray 33)).alloc (.cells #[.slice (some ⟨w.heap.size, 0, none⟩) 7 7, .int .i64 0] 60)) := (below1 w _).alloc (by simp) _
  have HT := Lib.hid hT0
  have HB := Lib.hid hB0
  clear hT0 hB0
  go_enter Try.func8, Try.ntmps8
  go_wp2_with fail
  have hz : (w.alloc (.cells (rowB 0).toArray 33)).heap.size = w.heap.size + 1 := by simp
  generalize (w.alloc (.cells (rowB 0).toArray 33)).alloc (.cells #[.slice (some ⟨w.heap.size, 0, none⟩) 7 7, .int .i64 0] 60) = W0 at *
  go_loopw [2] (fun i wr => ∃ k : Nat, k ≤ 6 ∧ i = .int .i64 ((k : Int) + 1) ∧ TabAt wr w.heap.size (w.heap.size + 1) w.heap.size 7 7 (rowB k) 0 ∧ Below w.heap.size w wr) (fun i _ => 7 - (intOf i).toNat)
  case atStart => exact ⟨0, by omega, rfl, HT.out, HB.out⟩
  case round =>
    obtain ⟨k, hk, rfl, hT, hb⟩ := hrel
    by_cases h6 : k < 6
    · have hTd := hT.drew
      have hfz : wr.drew.frozen? ⟨w.heap.size, (k + 1) * 7 + 3, none⟩ = false := hTd.own.frozenAt _
      have hc0 := hTd.c0
      obtain ⟨u, hcu⟩ : ∃ u, wr.drew.cell? ⟨w.heap.size, (k + 1) * 7 + 3, none⟩ = some u := ⟨_, by rw [hTd.own.cellAt _ (by omega), List.getElem?_eq_getElem (by rw [rowB_len]; omega)]⟩
      have j0 : (0 : Int) ≤ (k : Int) + 1 := by omega
      have j1 : (k : Int) + 1 < 7 := by omega
      have j2 : ((k : Int) + 1).toNat = k + 1 := by omega
      go_wp2_with fail
      go_region_with (go_at_call 25; refine (basic_any _ _).mono ?_; rintro e w' ⟨rfl, rfl⟩)
      all_goals
        have hT1 := (hT.sized ((k + 1) * 7 + 3) (.int .i64 (bsI ((k : Int) + 1)))).drew
        have hB1 : Below w.heap.size w (wr.setCell ⟨w.heap.size, (k + 1) * 7 + 3, none⟩ (.int .i64 (bsI ((k : Int) + 1)))).drew := (hb.setCell (Nat.le_refl _) _).drew
        generalize (wr.setCell ⟨w.heap.size, (k + 1) * 7 + 3, none⟩ (.int .i64 (bsI ((k : Int) + 1)))).drew = w2 at *
        clear hT hb hTd hfz hc0 hcu
        go_wp2_with fail
        go_roundw
        case rel => exact ⟨k + 1, by omega, by simp, hT1, hB1⟩
        case measure => simp [intOf]; omega
    · obtain rfl : k = 6 := by omega
      go_wp2_with fail
      go_ret
      exact ⟨_, _, _, _, rfl, hb, hT, rfl⟩
end Go.Proofs.Ytckomckdefcebaa

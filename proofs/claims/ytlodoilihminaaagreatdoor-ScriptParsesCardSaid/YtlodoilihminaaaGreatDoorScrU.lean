/-
  strings.Cut at a blank; the closure of ActOf that takes the next word.
-/
import Derived.Test.YtlodoilihminaaaGreatDoorScrS
import Derived.Test.YtlodoilihminaaaGreatDoorScrT
namespace Go.Proofs.YtlodoilihminaaaGreatDoor
open Go.ChangeShapes Go.WideShapes Go.ChangeAt Go.RowKit
set_option linter.unusedVariables false
set_option linter.unusedSimpArgs false
def MxT (w : World) : Prop := ∃ m : Int, w.cell? ⟨1, 0, none⟩ = some (.int .i64 m)
theorem MxT.below {w w' : World} (h : MxT w) (hb : Below w.heap.size w w') : MxT w' := by
  obtain ⟨m, hm⟩ := h
  exact ⟨m, (hb.cell (World.block_lt_of_cell? _ _ hm)).trans hm⟩
theorem MxT.lt {w : World} (h : MxT w) : 1 < w.heap.size := by
  obtain ⟨m, hm⟩ := h
  exact World.block_lt_of_cell? _ _ hm
theorem cut_any (d : UInt8) (l : List UInt8) (hl : l.length ≤ 4200000) (w : World) (hM : MxT w) : Calls Tryz.prog 22 #[.string (S l), .string ⟨#[d]⟩] w fun e w' => e = .returned (.tuple #[.string (S (k1 d l)), .string (S (k2 d l)), .bool (decide (d ∈ l))]) ∧ ∃ n, w' = w.drewN n := by
  obtain ⟨m, hm⟩ := hM
  have h := Tryz.strings_Cut (S l) ⟨#[d]⟩ m w (by rw [S_size]; omega) hm
  rw [show (S l).data.toList = l from rfl, show (⟨#[d]⟩ : ByteArray).data.toList = [d] from rfl, cut_one] at h
  exact h
theorem box_cell {W : World} {q : Nat} {v : Value} {t : TypeId} (h : W.heap[q]? = some (.cells #[v] t (0, 0))) : W.cell? ⟨q, 0, none⟩ = some v := by rw [World.cell?, h]; rfl
theorem box_frz {W : World} {q : Nat} {v : Value} {t : TypeId} (h : W.heap[q]? = some (.cells #[v] t (0, 0))) : W.frozen? ⟨q, 0, none⟩ = false := by rw [World.frozen?, h]; simp
theorem drewN_heap (w : World) (n : Nat) : (w.drewN n).heap = w.heap := rfl
/-- the next word, up to a blank: what is left is behind it -/
theorem next_any {W : World} {q : Nat} (R : List UInt8) (h : W.heap[q]? = some (.cells #[.string (S R)] 9 (0, 0))) (hl : R.length ≤ 1000000) (hM : MxT W) :
    Calls Tryz.prog 24 #[.pointer (some ⟨q, 0, none⟩)] W fun e w' => e = .returned (.string (S (c1 R))) ∧ ∃ n, w' = (W.drewN n).setCell ⟨q, 0, none⟩ (.string (S (c2 R))) := by
  have k0 := box_cell h
  have HC := Lib.hid (cut_any 32 R (by omega) W hM)
  rw [k1_32, k2_32] at HC
  have HQ : Hid (∀ n, (W.drewN n).cell? ⟨q, 0, none⟩ = some (.string (S R)) ∧ (W.drewN n).frozen? ⟨q, 0, none⟩ = false) := Lib.hid fun n => ⟨box_cell (W := W.drewN n) h, box_frz (W := W.drewN n) h⟩
  clear h
  generalize S R = s at *
  generalize S (c1 R) = s1 at *
  generalize S (c2 R) = s2 at *
  generalize decide (32 ∈ R) = b at *
  go_enter Tryz.func24, Tryz.ntmps24
  go_wp2_with (go_at_call 22; (with_reducible refine HC.out.mono ?_); rintro e w' ⟨rfl, n, rfl⟩; obtain ⟨g0, g1⟩ := HQ.out n)
  go_ret
  exact ⟨rfl, n, rfl⟩
end Go.Proofs.YtlodoilihminaaaGreatDoor

/-
  The closed sentence on bytes, names, acts and texts at their bounds is true, whatever the world holds.
-/
import Derived.Test.YtlodoilihminaaaDoorScrZQ
import Derived.Test.YtlodoilihminaaaDoorCards
import Derived.Test.YtlodoilihminaaaDoorTie
import Derived.Deep.DeepHandedRow
import Derived.Great.BuildSlice
import Derived.Lib.LaidTab
import Derived.SevenTiedAt
import Derived.Stop.Joined
namespace Go.Proofs.YtlodoilihminaaaDoor.scriptBounds
open Go.ChangeShapes Go.WideShapes Go.ChangeAt Go.RowKit
open Go.ChangeMaps (open_string shut_string)
set_option linter.unusedVariables false
set_option linter.unusedSimpArgs false
theorem keep_alloc {W : World} {b : Nat} {c : Obj} (h : W.heap[b]? = some c) (o : Obj) : (W.alloc o).heap[b]? = some c := (Below.heap_alloc W o b (Array.getElem?_eq_some_iff.1 h).1).trans h
theorem keep_set {W : World} {b g i : Nat} {c : Obj} {v : Value} (h : W.heap[b]? = some c) (hne : b ≠ g) : (W.setCell ⟨g, i, none⟩ v).heap[b]? = some c := (setCell_kept _ _ _ _ _ hne).trans h
theorem put_at {V : World} {A : Option Addr} {n : Nat} (h : Rd V V.heap.size .u8 A n (zsR n)) (hn : n ≤ 100000) : ActAt V (putA n) A n n none 0 0 :=
  ⟨by show ([97] : List UInt8).length ≤ maxLen; unfold maxLen; decide, h, fun x hx => by have e := (List.mem_replicate.1 (show x ∈ List.replicate n (0 : Int) from hx)).2; omega, by unfold maxLen; omega, Nat.le_refl _, ⟨rfl, (fun x hx => by cases hx), fun h => absurd h (by omega)⟩, Nat.zero_le _, by show (-9223372036854775808 : Int) ≤ 0 ∧ (0 : Int) ≤ 9223372036854775807; omega, by show (-9223372036854775808 : Int) ≤ 0 ∧ (0 : Int) ≤ 9223372036854775807; omega⟩
theorem add_at {V : World} {A : Option Addr} {n c : Nat} {zs : List Int} (h : Rd V V.heap.size .u8 A n zs) (hz : ∀ x ∈ zs, 32 ≤ x ∧ x ≤ 126) (hc : n ≤ c) (hn : n ≤ 100000) : ActAt V (addA zs) A n c none 0 0 :=
  ⟨by show ([97] : List UInt8).length ≤ maxLen; unfold maxLen; decide, h, fun x hx => by have := hz x hx; omega, by unfold maxLen; omega, hc, ⟨rfl, (fun x hx => by cases hx), fun h => absurd h (by omega)⟩, Nat.zero_le _, by show (-9223372036854775808 : Int) ≤ 0 ∧ (0 : Int) ≤ 9223372036854775807; omega, by show (-9223372036854775808 : Int) ≤ 0 ∧ (0 : Int) ≤ 9223372036854775807; omega⟩
theorem own_at (V : World) : ActAt V ownA none 0 0 none 0 0 :=
  ⟨Nat.zero_le _, ⟨rfl, fun h => absurd h (by omega)⟩, (fun x hx => by cases hx), Nat.zero_le _, Nat.le_refl _, ⟨rfl, (fun x hx => by cases hx), fun h => absurd h (by omega)⟩, Nat.zero_le _, by show (-9223372036854775808 : Int) ≤ 0 ∧ (0 : Int) ≤ 9223372036854775807; omega, by show (-9223372036854775808 : Int) ≤ 0 ∧ (0 : Int) ≤ 9223372036854775807; omega⟩
set_option maxHeartbeats 4000000 in
set_option maxRecDepth 100000 in
theorem walk (w : World) (hT : Tb w) :
    Calls Tryd.prog 6 #[] w fun e w' => e = .returned (.bool true) ∧ Below w.heap.size w w' := by
  have HT := Lib.hid hT
  clear hT
  have hmk1 : ∀ W : World, (Instr.makeSlice 23 (.int .i64 65536) (.int .i64 65536)).run Tryd.prog W = .ok (.slice (some ⟨W.heap.size, 0, none⟩) 65536 65536) (W.alloc (.cells (rowZ 65536) 5)) := fun W => zmake_run 65536 (by omega) W
  have hmk2 : ∀ W : World, (Instr.makeSlice 23 (.int .i64 65537) (.int .i64 65537)).run Tryd.prog W = .ok (.slice (some ⟨W.heap.size, 0, none⟩) 65537 65537) (W.alloc (.cells (rowZ 65537) 5)) := fun W => zmake_run 65537 (by omega) W
  go_enter Tryd.func6, Tryd.ntmps6
  go_upto_region 2 with fail
  have hr1 := keep_alloc (heap_alloc_new w (.cells (rowZ 65536) 5)) (.cells #[.int .i64 1, .string ⟨#[97]⟩, .slice (some ⟨w.heap.size, 0, none⟩) 65536 65536, .slice none 0 0, .int .i64 0, .int .i64 0] 26)
  have hq1 := heap_alloc_new (w.alloc (.cells (rowZ 65536) 5)) (.cells #[.int .i64 1, .string ⟨#[97]⟩, .slice (some ⟨w.heap.size, 0, none⟩) 65536 65536, .slice none 0 0, .int .i64 0, .int .i64 0] 26)
  have hb1 := (sbelow1 w (.cells (rowZ 65536) 5)).alloc (by simp) (.cells #[.int .i64 1, .string ⟨#[97]⟩, .slice (some ⟨w.heap.size, 0, none⟩) 65536 65536, .slice none 0 0, .int .i64 0, .int .i64 0] 26)
  have hs1 : ((w.alloc (.cells (rowZ 65536) 5)).alloc (.cells #[.int .i64 1, .string ⟨#[97]⟩, .slice (some ⟨w.heap.size, 0, none⟩) 65536 65536, .slice none 0 0, .int .i64 0, .int .i64 0] 26)).heap.size = w.heap.size + 2 := by simp
  rw [show (w.alloc (.cells (rowZ 65536) 5)).heap.size = w.heap.size + 1 by simp] at hq1
  generalize (w.alloc (.cells (rowZ 65536) 5)).alloc (.cells #[.int .i64 1, .string ⟨#[97]⟩, .slice (some ⟨w.heap.size, 0, none⟩) 65536 65536, .slice none 0 0, .int .i64 0, .int .i64 0] 26) = W1 at hr1 hq1 hb1 hs1 ⊢
  have k0 : W1.cell? ⟨w.heap.size + 1, 0, none⟩ = some (.int .i64 1) := by rw [World.cell?, hq1]; rfl
  have k1 : W1.cell? ⟨w.heap.size + 1, 1, none⟩ = some (.string ⟨#[97]⟩) := by rw [World.cell?, hq1]; rfl
  have k2 : W1.cell? ⟨w.heap.size + 1, 2, none⟩ = some (.slice (some ⟨w.heap.size, 0, none⟩) 65536 65536) := by rw [World.cell?, hq1]; rfl
  have k3 : W1.cell? ⟨w.heap.size + 1, 3, none⟩ = some (.slice none 0 0) := by rw [World.cell?, hq1]; rfl
  have k4 : W1.cell? ⟨w.heap.size + 1, 4, none⟩ = some (.int .i64 0) := by rw [World.cell?, hq1]; rfl
  have k5 : W1.cell? ⟨w.heap.size + 1, 5, none⟩ = some (.int .i64 0) := by rw [World.cell?, hq1]; rfl
  go_upto_region 3 with fail
  have hq2 := heap_alloc_new W1 (.cells #[.int .i64 1, .string ⟨#[97]⟩, .slice (some ⟨w.heap.size, 0, none⟩) 65536 65536, .slice none 0 0, .int .i64 0, .int .i64 0] 26)
  replace hr1 := keep_alloc hr1 (.cells #[.int .i64 1, .string ⟨#[97]⟩, .slice (some ⟨w.heap.size, 0, none⟩) 65536 65536, .slice none 0 0, .int .i64 0, .int .i64 0] 26)
  replace hq1 := keep_alloc hq1 (.cells #[.int .i64 1, .string ⟨#[97]⟩, .slice (some ⟨w.heap.size, 0, none⟩) 65536 65536, .slice none 0 0, .int .i64 0, .int .i64 0] 26)
  replace hb1 := hb1.alloc hb1.size (.cells #[.int .i64 1, .string ⟨#[97]⟩, .slice (some ⟨w.heap.size, 0, none⟩) 65536 65536, .slice none 0 0, .int .i64 0, .int .i64 0] 26)
  have hs2 : (W1.alloc (.cells #[.int .i64 1, .string ⟨#[97]⟩, .slice (some ⟨w.heap.size, 0, none⟩) 65536 65536, .slice none 0 0, .int .i64 0, .int .i64 0] 26)).heap.size = w.heap.size + 3 := by simp [hs1]
  rw [hs1] at hq2
  generalize W1.alloc (.cells #[.int .i64 1, .string ⟨#[97]⟩, .slice (some ⟨w.heap.size, 0, none⟩) 65536 65536, .slice none 0 0, .int .i64 0, .int .i64 0] 26) = W2 at hr1 hq1 hq2 hb1 hs2 ⊢
  clear k0 k1 k2 k3 k4 k5 hs1 hmk1
  have f2 : ∀ V : World, V.heap[w.heap.size + 2]? = some (.cells #[.int .i64 1, .string ⟨#[97]⟩, .slice (some ⟨w.heap.size, 0, none⟩) 65536 65536, .slice none 0 0, .int .i64 0, .int .i64 0] 26 (0, 0)) → V.frozen? ⟨w.heap.size + 2, 2, none⟩ = false := fun V h => by rw [World.frozen?, h]; simp
  have HF2 := Lib.hid f2
  clear f2
  have hr2 := heap_alloc_new W2 (.cells (rowZ 65537) 5)
  have c22 : (W2.alloc (.cells (rowZ 65537) 5)).cell? ⟨w.heap.size + 2, 2, none⟩ = some (.slice (some ⟨w.heap.size, 0, none⟩) 65536 65536) := by rw [World.cell?, keep_alloc hq2 (.cells (rowZ 65537) 5)]; rfl
  have f22 := HF2.out _ (keep_alloc hq2 (.cells (rowZ 65537) 5))
  go_upto_region 4 with fail
  have hr2 : ((W2.setCell ⟨w.heap.size + 2, 2, none⟩ (.slice (some ⟨w.heap.size + 3, 0, none⟩) 65537 65537)).alloc (.cells (rowZ 65537) 5)).heap[w.heap.size + 3]? = some (.cells (rowZ 65537) 5) := by have h := heap_alloc_new (W2.setCell ⟨w.heap.size + 2, 2, none⟩ (.slice (some ⟨w.heap.size + 3, 0, none⟩) 65537 65537)) (.cells (rowZ 65537) 5); rw [show (W2.setCell ⟨w.heap.size + 2, 2, none⟩ (.slice (some ⟨w.heap.size + 3, 0, none⟩) 65537 65537)).heap.size = w.heap.size + 3 by simpa using hs2] at h; exact h
  replace hr1 := keep_alloc (keep_set (g := w.heap.size + 2) (i := 2) (v := .slice (some ⟨w.heap.size + 3, 0, none⟩) 65537 65537) hr1 (by omega)) (.cells (rowZ 65537) 5)
  replace hq1 := keep_alloc (keep_set (g := w.heap.size + 2) (i := 2) (v := .slice (some ⟨w.heap.size + 3, 0, none⟩) 65537 65537) hq1 (by omega)) (.cells (rowZ 65537) 5)
  replace hq2 : ((W2.setCell ⟨w.heap.size + 2, 2, none⟩ (.slice (some ⟨w.heap.size + 3, 0, none⟩) 65537 65537)).alloc (.cells (rowZ 65537) 5)).heap[w.heap.size + 2]? = some (.cells #[.int .i64 1, .string ⟨#[97]⟩, .slice (some ⟨w.heap.size + 3, 0, none⟩) 65537 65537, .slice none 0 0, .int .i64 0, .int .i64 0] 26) := keep_alloc ((heap_setCell_same W2 (w.heap.size + 2) 2 (.slice (some ⟨w.heap.size + 3, 0, none⟩) 65537 65537) hq2).trans rfl) (.cells (rowZ 65537) 5)
  replace hb1 := (hb1.setCell (p := ⟨w.heap.size + 2, 2, none⟩) (Nat.le_add_right _ _) (.slice (some ⟨w.heap.size + 3, 0, none⟩) 65537 65537)).alloc (by simp [hs2]) (.cells (rowZ 65537) 5)
  have hs3 : ((W2.setCell ⟨w.heap.size + 2, 2, none⟩ (.slice (some ⟨w.heap.size + 3, 0, none⟩) 65537 65537)).alloc (.cells (rowZ 65537) 5)).heap.size = w.heap.size + 4 := by simp [hs2]
  generalize (W2.setCell ⟨w.heap.size + 2, 2, none⟩ (.slice (some ⟨w.heap.size + 3, 0, none⟩) 65537 65537)).alloc (.cells (rowZ 65537) 5) = W3 at hr1 hr2 hq1 hq2 hb1 hs3 ⊢
  clear c22 f22 HF2 hs2 hmk2
  have kc := Lib.run_convert_bytes_const (P := Tryd.prog) W3 23 5 (addZ.map (Value.int .u8)).toArray 200 200 Tryd.underlying23 Tryd.underlying5
  rw [show (addZ.map (Value.int .u8)).toArray.size = 200 by simp [addZ_len]] at kc
  rw [hs3] at kc
  apply wp_region_lit
  refine wpList_buildFlat rfl 23 5 200 _ rfl .u8 addZ (by kernel_rfl) (by kernel_rfl) (by kernel_rfl) (by kernel_rfl) (by decide) (by decide) (by kernel_rfl) ?_
  go_upto_region 5 with fail
  have hr3 := keep_alloc (heap_alloc_new W3 (.cells (addZ.map (Value.int .u8)).toArray 5 (200, 200 + 1))) (.cells #[.int .i64 2, .string ⟨#[97]⟩, .slice (some ⟨w.heap.size + 4, 0, none⟩) 200 200, .slice none 0 0, .int .i64 0, .int .i64 0] 26)
  have hq3 := heap_alloc_new (W3.alloc (.cells (addZ.map (Value.int .u8)).toArray 5 (200, 200 + 1))) (.cells #[.int .i64 2, .string ⟨#[97]⟩, .slice (some ⟨w.heap.size + 4, 0, none⟩) 200 200, .slice none 0 0, .int .i64 0, .int .i64 0] 26)
  have hb4 := hb1.alloc hb1.size (.cells (addZ.map (Value.int .u8)).toArray 5 (200, 200 + 1))
  replace hb1 := hb4.alloc hb4.size (.cells #[.int .i64 2, .string ⟨#[97]⟩, .slice (some ⟨w.heap.size + 4, 0, none⟩) 200 200, .slice none 0 0, .int .i64 0, .int .i64 0] 26)
  clear hb4
  have hs4 : ((W3.alloc (.cells (addZ.map (Value.int .u8)).toArray 5 (200, 200 + 1))).alloc (.cells #[.int .i64 2, .string ⟨#[97]⟩, .slice (some ⟨w.heap.size + 4, 0, none⟩) 200 200, .slice none 0 0, .int .i64 0, .int .i64 0] 26)).heap.size = w.heap.size + 4 + 1 + 1 := by simp [hs3]
  replace hr1 := keep_alloc (keep_alloc hr1 (.cells (addZ.map (Value.int .u8)).toArray 5 (200, 200 + 1))) (.cells #[.int .i64 2, .string ⟨#[97]⟩, .slice (some ⟨w.heap.size + 4, 0, none⟩) 200 200, .slice none 0 0, .int .i64 0, .int .i64 0] 26)
  replace hr2 := keep_alloc (keep_alloc hr2 (.cells (addZ.map (Value.int .u8)).toArray 5 (200, 200 + 1))) (.cells #[.int .i64 2, .string ⟨#[97]⟩, .slice (some ⟨w.heap.size + 4, 0, none⟩) 200 200, .slice none 0 0, .int .i64 0, .int .i64 0] 26)
  replace hq1 := keep_alloc (keep_alloc hq1 (.cells (addZ.map (Value.int .u8)).toArray 5 (200, 200 + 1))) (.cells #[.int .i64 2, .string ⟨#[97]⟩, .slice (some ⟨w.heap.size + 4, 0, none⟩) 200 200, .slice none 0 0, .int .i64 0, .int .i64 0] 26)
  replace hq2 := keep_alloc (keep_alloc hq2 (.cells (addZ.map (Value.int .u8)).toArray 5 (200, 200 + 1))) (.cells #[.int .i64 2, .string ⟨#[97]⟩, .slice (some ⟨w.heap.size + 4, 0, none⟩) 200 200, .slice none 0 0, .int .i64 0, .int .i64 0] 26)
  rw [show (W3.alloc (.cells (addZ.map (Value.int .u8)).toArray 5 (200, 200 + 1))).heap.size = w.heap.size + 4 + 1 by simp [hs3]] at hq3
  rw [hs3] at hr3
  generalize (W3.alloc (.cells (addZ.map (Value.int .u8)).toArray 5 (200, 200 + 1))).alloc (.cells #[.int .i64 2, .string ⟨#[97]⟩, .slice (some ⟨w.heap.size + 4, 0, none⟩) 200 200, .slice none 0 0, .int .i64 0, .int .i64 0] 26) = W4 at hr1 hr2 hr3 hq1 hq2 hq3 hb1 hs4 ⊢
  clear hs3 kc
  have k0 : W4.cell? ⟨w.heap.size + 4 + 1, 0, none⟩ = some (.int .i64 2) := by rw [World.cell?, hq3]; rfl
  have k1 : W4.cell? ⟨w.heap.size + 4 + 1, 1, none⟩ = some (.string ⟨#[97]⟩) := by rw [World.cell?, hq3]; rfl
  have k2 : W4.cell? ⟨w.heap.size + 4 + 1, 2, none⟩ = some (.slice (some ⟨w.heap.size + 4, 0, none⟩) 200 200) := by rw [World.cell?, hq3]; rfl
  have k3 : W4.cell? ⟨w.heap.size + 4 + 1, 3, none⟩ = some (.slice none 0 0) := by rw [World.cell?, hq3]; rfl
  have k4 : W4.cell? ⟨w.heap.size + 4 + 1, 4, none⟩ = some (.int .i64 0) := by rw [World.cell?, hq3]; rfl
  have k5 : W4.cell? ⟨w.heap.size + 4 + 1, 5, none⟩ = some (.int .i64 0) := by rw [World.cell?, hq3]; rfl
  go_upto_region 6 with fail
  have hq4 := heap_alloc_new W4 (.cells #[.int .i64 2, .string ⟨#[97]⟩, .slice (some ⟨w.heap.size + 4, 0, none⟩) 200 200, .slice none 0 0, .int .i64 0, .int .i64 0] 26)
  replace hr1 := keep_alloc hr1 (.cells #[.int .i64 2, .string ⟨#[97]⟩, .slice (some ⟨w.heap.size + 4, 0, none⟩) 200 200, .slice none 0 0, .int .i64 0, .int .i64 0] 26)
  replace hr2 := keep_alloc hr2 (.cells #[.int .i64 2, .string ⟨#[97]⟩, .slice (some ⟨w.heap.size + 4, 0, none⟩) 200 200, .slice none 0 0, .int .i64 0, .int .i64 0] 26)
  replace hr3 := keep_alloc hr3 (.cells #[.int .i64 2, .string ⟨#[97]⟩, .slice (some ⟨w.heap.size + 4, 0, none⟩) 200 200, .slice none 0 0, .int .i64 0, .int .i64 0] 26)
  replace hq1 := keep_alloc hq1 (.cells #[.int .i64 2, .string ⟨#[97]⟩, .slice (some ⟨w.heap.size + 4, 0, none⟩) 200 200, .slice none 0 0, .int .i64 0, .int .i64 0] 26)
  replace hq2 := keep_alloc hq2 (.cells #[.int .i64 2, .string ⟨#[97]⟩, .slice (some ⟨w.heap.size + 4, 0, none⟩) 200 200, .slice none 0 0, .int .i64 0, .int .i64 0] 26)
  replace hq3 := keep_alloc hq3 (.cells #[.int .i64 2, .string ⟨#[97]⟩, .slice (some ⟨w.heap.size + 4, 0, none⟩) 200 200, .slice none 0 0, .int .i64 0, .int .i64 0] 26)
  replace hb1 := hb1.alloc hb1.size (.cells #[.int .i64 2, .string ⟨#[97]⟩, .slice (some ⟨w.heap.size + 4, 0, none⟩) 200 200, .slice none 0 0, .int .i64 0, .int .i64 0] 26)
  have hs5 : (W4.alloc (.cells #[.int .i64 2, .string ⟨#[97]⟩, .slice (some ⟨w.heap.size + 4, 0, none⟩) 200 200, .slice none 0 0, .int .i64 0, .int .i64 0] 26)).heap.size = w.heap.size + 4 + 1 + 1 + 1 := by simp [hs4]
  rw [hs4] at hq4
  generalize W4.alloc (.cells #[.int .i64 2, .string ⟨#[97]⟩, .slice (some ⟨w.heap.size + 4, 0, none⟩) 200 200, .slice none 0 0, .int .i64 0, .int .i64 0] 26) = W5 at hr1 hr2 hr3 hq1 hq2 hq3 hq4 hb1 hs5 ⊢
  clear k0 k1 k2 k3 k4 k5 hs4
  have k2 : W5.cell? ⟨w.heap.size + 4 + 1, 2, none⟩ = some (.slice (some ⟨w.heap.size + 4, 0, none⟩) 200 200) := by rw [World.cell?, hq3]; rfl
  obtain ⟨iu, hiu, hz0, hz1, hz2⟩ := inf_parts zu8_info
  have HR1 := Lib.hid hr1
  have HR2 := Lib.hid hr2
  have HR3 := Lib.hid hr3
  have HQ1 := Lib.hid hq1
  have HQ2 := Lib.hid hq2
  have HQ3 := Lib.hid hq3
  have HQ4 := Lib.hid hq4
  have HB1 := Lib.hid hb1
  have HS5 := Lib.hid hs5
  clear hr1 hr2 hr3 hq1 hq2 hq3 hq4 hb1 hs5
  have HRD := Lib.hid (list_rd addZ HR3.out)
  have HZ := Lib.hid addZ_len
  obtain ⟨zs, hzs⟩ : ∃ zs, zs = addZ := ⟨_, rfl⟩
  rw [← hzs] at HRD HZ
  have HZS := Lib.hid hzs
  clear hzs
  replace HRD := Lib.hid (show Rd W5 W5.heap.size .u8 (some ⟨w.heap.size + 4, 0, none⟩) 200 zs by have h := HRD.out; rw [HZ.out] at h; exact h)
  go_upto_region 7 with (at_builtin; refine wpList_append_rd rfl _ _ 23 rfl W5.heap.size 5 iu (.int .u8 0) 1 Tryd.underlying23 hiu hz0 hz1 hz2 rfl (.slice none 0 0) 0 [] rfl (World.ownsRow_nil _ _ _ _) _ .u8 (some ⟨w.heap.size + 4, 0, none⟩) 200 200 zs rfl HRD.out (by unfold maxLen; omega) (by omega) (Nat.le_refl _) ?_; intro v6 w6 ho hg; rw [List.nil_append, Nat.zero_add] at ho; obtain ⟨g6, c6, rfl, hg6, hgl6⟩ := ho.form (by omega); have hb6 : Below W5.heap.size W5 w6 := (Below.refl _ _).grown hg (Nat.le_refl _) (fun k e => by cases e); have HO6 := Lib.hid ho; have HB6 := Lib.hid hb6; have HG6 := Lib.hid (And.intro hg6 hgl6); have HQ46 := Lib.hid ((hb6.block _ (Array.getElem?_eq_some_iff.1 HQ4.out).1).trans HQ4.out); have m2 : w6.cell? ⟨w.heap.size + 4 + 1 + 1, 2, none⟩ = some (.slice (some ⟨w.heap.size + 4, 0, none⟩) 200 200) := (by rw [World.cell?, HQ46.out]; rfl); have z2 : w6.frozen? ⟨w.heap.size + 4 + 1 + 1, 2, none⟩ = false := (by rw [World.frozen?, HQ46.out]; simp); clear ho hg hb6 hg6 hgl6)
  have hlt4 : w.heap.size + 4 + 1 + 1 < W5.heap.size := by have := HS5.out; omega
  have HL4 := Lib.hid hlt4
  have hq47 : (w6.setCell ⟨w.heap.size + 4 + 1 + 1, 2, none⟩ (.slice (some ⟨g6, 0, none⟩) 200 c6)).heap[w.heap.size + 4 + 1 + 1]? = some (.cells #[.int .i64 2, .string ⟨#[97]⟩, .slice (some ⟨g6, 0, none⟩) 200 c6, .slice none 0 0, .int .i64 0, .int .i64 0] 26) := (heap_setCell_same w6 (w.heap.size + 4 + 1 + 1) 2 (.slice (some ⟨g6, 0, none⟩) 200 c6) HQ46.out).trans rfl
  have hk7 : ∀ b c, W5.heap[b]? = some c → b ≠ w.heap.size + 4 + 1 + 1 → (w6.setCell ⟨w.heap.size + 4 + 1 + 1, 2, none⟩ (.slice (some ⟨g6, 0, none⟩) 200 c6)).heap[b]? = some c := fun b c h hne => keep_set ((HB6.out.block _ (Array.getElem?_eq_some_iff.1 h).1).trans h) hne
  have ho7 := ownsRow_setCell_below (a := ⟨w.heap.size + 4 + 1 + 1, 2, none⟩) HO6.out hlt4 (.slice (some ⟨g6, 0, none⟩) 200 c6)
  have hg7 : g6 < (w6.setCell ⟨w.heap.size + 4 + 1 + 1, 2, none⟩ (.slice (some ⟨g6, 0, none⟩) 200 c6)).heap.size := by simpa using HG6.out.2
  have hs7 : W5.heap.size ≤ (w6.setCell ⟨w.heap.size + 4 + 1 + 1, 2, none⟩ (.slice (some ⟨g6, 0, none⟩) 200 c6)).heap.size := by simpa using HB6.out.size
  have hb7 : Below w.heap.size w (w6.setCell ⟨w.heap.size + 4 + 1 + 1, 2, none⟩ (.slice (some ⟨g6, 0, none⟩) 200 c6)) := ((HB1.out.trans (HB6.out.mono HB1.out.size)).setCell (p := ⟨w.heap.size + 4 + 1 + 1, 2, none⟩) (by show w.heap.size ≤ w.heap.size + 4 + 1 + 1; omega) (.slice (some ⟨g6, 0, none⟩) 200 c6))
  generalize w6.setCell ⟨w.heap.size + 4 + 1 + 1, 2, none⟩ (.slice (some ⟨g6, 0, none⟩) 200 c6) = W7 at hq47 hk7 ho7 hg7 hs7 hb7 ⊢
  have HQ47 := Lib.hid hq47
  have HK7 := Lib.hid hk7
  have HO7 := Lib.hid ho7
  have HG7 := Lib.hid hg7
  have HS7 := Lib.hid hs7
  have HB7 := Lib.hid hb7
  have k2 : W7.cell? ⟨w.heap.size + 4 + 1 + 1, 2, none⟩ = some (.slice (some ⟨g6, 0, none⟩) 200 c6) := by rw [World.cell?, hq47]; rfl
  clear hq47 hk7 ho7 hg7 hs7 hb7 m2 z2 HQ46 HB6 HO6
  go_upto_region 8 with (at_builtin; refine wpList_append_lies _ rfl _ _ 23 rfl W5.heap.size 5 iu (.int .u8 0) 1 1 Tryd.underlying23 hiu hz0 hz1 hz2 rfl (by decide) _ 200 _ rfl (HO7.out.alloc _) ⟨W7.heap.size, 0, none⟩ 1 1 [.int .u8 49] rfl rfl (World.news_of_block (cs := #[.int .u8 49]) (t := 5) (fr := (0, 0)) (heap_alloc_new W7 _)) (by intro u hu; simp at hu; subst hu; rfl) (by omega) (by unfold maxLen; omega) (by omega) (Nat.le_trans HS7.out (by simp)) _ rfl ?_; intro g8 c8 w8 ho hg hat hlt; have HO8 := Lib.hid ho; have HG8 := Lib.hid hg; have HT8 := Lib.hid (And.intro hat hlt); have hq : w8.heap[w.heap.size + 4 + 1 + 1]? = some (.cells #[.int .i64 2, .string ⟨#[97]⟩, .slice (some ⟨g6, 0, none⟩) 200 c6, .slice none 0 0, .int .i64 0, .int .i64 0] 26) := ((hg.block _ (Array.getElem?_eq_some_iff.1 (keep_alloc HQ47.out (.cells #[.int .u8 49] 5))).1 (fun e => by have := HG6.out.1; have := HL4.out; have h2 := Option.some.inj e; dsimp only at h2; omega)).trans (keep_alloc HQ47.out (.cells #[.int .u8 49] 5))); have HQ48 := Lib.hid hq; have m2 : w8.cell? ⟨w.heap.size + 4 + 1 + 1, 2, none⟩ = some (.slice (some ⟨g6, 0, none⟩) 200 c6) := (by rw [World.cell?, hq]; rfl); have z2 : w8.frozen? ⟨w.heap.size + 4 + 1 + 1, 2, none⟩ = false := (by rw [World.frozen?, hq]; simp); clear ho hg hat hlt hq)
  have hq48 : (w8.setCell ⟨w.heap.size + 4 + 1 + 1, 2, none⟩ (.slice (some ⟨g8, 0, none⟩) 201 c8)).heap[w.heap.size + 4 + 1 + 1]? = some (.cells #[.int .i64 2, .string ⟨#[97]⟩, .slice (some ⟨g8, 0, none⟩) 201 c8, .slice none 0 0, .int .i64 0, .int .i64 0] 26) := (heap_setCell_same w8 (w.heap.size + 4 + 1 + 1) 2 (.slice (some ⟨g8, 0, none⟩) 201 c8) HQ48.out).trans rfl
  have hk8 : ∀ b c, W5.heap[b]? = some c → b ≠ w.heap.size + 4 + 1 + 1 → (w8.setCell ⟨w.heap.size + 4 + 1 + 1, 2, none⟩ (.slice (some ⟨g8, 0, none⟩) 201 c8)).heap[b]? = some c := fun b c h hne => by
    have h1 := keep_alloc (HK7.out b c h hne) (.cells #[.int .u8 49] 5)
    have hlt := (Array.getElem?_eq_some_iff.1 h).1
    exact keep_set ((HG8.out.block _ (Array.getElem?_eq_some_iff.1 h1).1 (fun e => by have := HG6.out.1; have h2 := Option.some.inj e; dsimp only at h2; omega)).trans h1) hne
  have ho8 := ownsRow_setCell_below (a := ⟨w.heap.size + 4 + 1 + 1, 2, none⟩) HO8.out HL4.out (.slice (some ⟨g8, 0, none⟩) 201 c8)
  have hb8 : Below w.heap.size w (w8.setCell ⟨w.heap.size + 4 + 1 + 1, 2, none⟩ (.slice (some ⟨g8, 0, none⟩) 201 c8)) := (((HB7.out.alloc HB7.out.size (.cells #[.int .u8 49] 5)).grown HG8.out (Nat.le_trans HB7.out.size (by simp)) (fun k e => by have h1 := HG6.out.1; have h2 := HL4.out; cases e; show w.heap.size ≤ g6; omega)).setCell (p := ⟨w.heap.size + 4 + 1 + 1, 2, none⟩) (by show w.heap.size ≤ w.heap.size + 4 + 1 + 1; omega) (.slice (some ⟨g8, 0, none⟩) 201 c8))
  generalize w8.setCell ⟨w.heap.size + 4 + 1 + 1, 2, none⟩ (.slice (some ⟨g8, 0, none⟩) 201 c8) = W8 at hq48 hk8 ho8 hb8 ⊢
  have HQ4F := Lib.hid hq48
  have HK8 := Lib.hid hk8
  have HO8F := Lib.hid ho8
  have HB8 := Lib.hid hb8
  clear hq48 hk8 ho8 hb8 m2 z2 HQ48 HO8 k2 HK7 HO7 HG8 HQ47 HG6 HS7 HT8 HB7 HRD
  go_upto_region 9 with fail
  have hq5 := heap_alloc_new W8 (.cells #[.int .i64 7, .string ⟨#[]⟩, .slice none 0 0, .slice none 0 0, .int .i64 0, .int .i64 0] 26)
  have hk9 : ∀ b c, W5.heap[b]? = some c → b ≠ w.heap.size + 4 + 1 + 1 → (W8.alloc (.cells #[.int .i64 7, .string ⟨#[]⟩, .slice none 0 0, .slice none 0 0, .int .i64 0, .int .i64 0] 26)).heap[b]? = some c := fun b c h hne => keep_alloc (HK8.out b c h hne) (.cells #[.int .i64 7, .string ⟨#[]⟩, .slice none 0 0, .slice none 0 0, .int .i64 0, .int .i64 0] 26)
  have hq49 := keep_alloc HQ4F.out (.cells #[.int .i64 7, .string ⟨#[]⟩, .slice none 0 0, .slice none 0 0, .int .i64 0, .int .i64 0] 26)
  have ho9 := HO8F.out.alloc (.cells #[.int .i64 7, .string ⟨#[]⟩, .slice none 0 0, .slice none 0 0, .int .i64 0, .int .i64 0] 26)
  have hb9 := HB8.out.alloc HB8.out.size (.cells #[.int .i64 7, .string ⟨#[]⟩, .slice none 0 0, .slice none 0 0, .int .i64 0, .int .i64 0] 26)
  have hs9 : W8.heap.size < (W8.alloc (.cells #[.int .i64 7, .string ⟨#[]⟩, .slice none 0 0, .slice none 0 0, .int .i64 0, .int .i64 0] 26)).heap.size := by simp
  generalize W8.alloc (.cells #[.int .i64 7, .string ⟨#[]⟩, .slice none 0 0, .slice none 0 0, .int .i64 0, .int .i64 0] 26) = W9 at hq5 hk9 hq49 ho9 hb9 hs9 ⊢
  obtain ⟨b5, hb5⟩ : ∃ b5, b5 = W8.heap.size := ⟨_, rfl⟩
  rw [← hb5] at hq5 hs9 ⊢
  clear hb5
  have HC : Hid (∀ V : World, Below W9.heap.size W9 V → (V.cell? ⟨w.heap.size + 1, 0, none⟩ = some (.int .i64 1) ∧ V.cell? ⟨w.heap.size + 1, 1, none⟩ = some (.string ⟨#[97]⟩) ∧ V.cell? ⟨w.heap.size + 1, 2, none⟩ = some (.slice (some ⟨w.heap.size, 0, none⟩) 65536 65536) ∧ V.cell? ⟨w.heap.size + 1, 3, none⟩ = some (.slice none 0 0) ∧ V.cell? ⟨w.heap.size + 1, 4, none⟩ = some (.int .i64 0) ∧ V.cell? ⟨w.heap.size + 1, 5, none⟩ = some (.int .i64 0)) ∧ (V.cell? ⟨w.heap.size + 2, 0, none⟩ = some (.int .i64 1) ∧ V.cell? ⟨w.heap.size + 2, 1, none⟩ = some (.string ⟨#[97]⟩) ∧ V.cell? ⟨w.heap.size + 2, 2, none⟩ = some (.slice (some ⟨w.heap.size + 3, 0, none⟩) 65537 65537) ∧ V.cell? ⟨w.heap.size + 2, 3, none⟩ = some (.slice none 0 0) ∧ V.cell? ⟨w.heap.size + 2, 4, none⟩ = some (.int .i64 0) ∧ V.cell? ⟨w.heap.size + 2, 5, none⟩ = some (.int .i64 0)) ∧ (V.cell? ⟨w.heap.size + 4 + 1, 0, none⟩ = some (.int .i64 2) ∧ V.cell? ⟨w.heap.size + 4 + 1, 1, none⟩ = some (.string ⟨#[97]⟩) ∧ V.cell? ⟨w.heap.size + 4 + 1, 2, none⟩ = some (.slice (some ⟨w.heap.size + 4, 0, none⟩) 200 200) ∧ V.cell? ⟨w.heap.size + 4 + 1, 3, none⟩ = some (.slice none 0 0) ∧ V.cell? ⟨w.heap.size + 4 + 1, 4, none⟩ = some (.int .i64 0) ∧ V.cell? ⟨w.heap.size + 4 + 1, 5, none⟩ = some (.int .i64 0)) ∧ (V.cell? ⟨w.heap.size + 4 + 1 + 1, 0, none⟩ = some (.int .i64 2) ∧ V.cell? ⟨w.heap.size + 4 + 1 + 1, 1, none⟩ = some (.string ⟨#[97]⟩) ∧ V.cell? ⟨w.heap.size + 4 + 1 + 1, 2, none⟩ = some (.slice (some ⟨g8, 0, none⟩) 201 c8) ∧ V.cell? ⟨w.heap.size + 4 + 1 + 1, 3, none⟩ = some (.slice none 0 0) ∧ V.cell? ⟨w.heap.size + 4 + 1 + 1, 4, none⟩ = some (.int .i64 0) ∧ V.cell? ⟨w.heap.size + 4 + 1 + 1, 5, none⟩ = some (.int .i64 0)) ∧ (V.cell? ⟨b5, 0, none⟩ = some (.int .i64 7) ∧ V.cell? ⟨b5, 1, none⟩ = some (.string ⟨#[]⟩) ∧ V.cell? ⟨b5, 2, none⟩ = some (.slice none 0 0) ∧ V.cell? ⟨b5, 3, none⟩ = some (.slice none 0 0) ∧ V.cell? ⟨b5, 4, none⟩ = some (.int .i64 0) ∧ V.cell? ⟨b5, 5, none⟩ = some (.int .i64 0))) := Lib.hid fun V hV => by
    have e1 := (hV.block _ (Array.getElem?_eq_some_iff.1 (hk9 _ _ HQ1.out (by omega))).1).trans (hk9 _ _ HQ1.out (by omega))
    have e2 := (hV.block _ (Array.getElem?_eq_some_iff.1 (hk9 _ _ HQ2.out (by omega))).1).trans (hk9 _ _ HQ2.out (by omega))
    have e3 := (hV.block _ (Array.getElem?_eq_some_iff.1 (hk9 _ _ HQ3.out (by omega))).1).trans (hk9 _ _ HQ3.out (by omega))
    have e4 := (hV.block _ (Array.getElem?_eq_some_iff.1 hq49).1).trans hq49
    have e5 := (hV.block _ (Array.getElem?_eq_some_iff.1 hq5).1).trans hq5
    refine ⟨⟨?_, ?_, ?_, ?_, ?_, ?_⟩, ⟨?_, ?_, ?_, ?_, ?_, ?_⟩, ⟨?_, ?_, ?_, ?_, ?_, ?_⟩, ⟨?_, ?_, ?_, ?_, ?_, ?_⟩, ?_, ?_, ?_, ?_, ?_, ?_⟩ <;> (rw [World.cell?]; first | (rw [e1]; rfl) | (rw [e2]; rfl) | (rw [e3]; rfl) | (rw [e4]; rfl) | (rw [e5]; rfl))
  have HA1 : Hid (∀ V : World, Below W9.heap.size W9 V → ActAt V (putA 65536) (some ⟨w.heap.size, 0, none⟩) 65536 65536 none 0 0) := Lib.hid fun V hV => put_at (rowZ_rd ((hV.block _ (Array.getElem?_eq_some_iff.1 (hk9 _ _ HR1.out (by omega))).1).trans (hk9 _ _ HR1.out (by omega)))) (by omega)
  have HA2 : Hid (∀ V : World, Below W9.heap.size W9 V → ActAt V (putA 65537) (some ⟨w.heap.size + 3, 0, none⟩) 65537 65537 none 0 0) := Lib.hid fun V hV => put_at (rowZ_rd ((hV.block _ (Array.getElem?_eq_some_iff.1 (hk9 _ _ HR2.out (by omega))).1).trans (hk9 _ _ HR2.out (by omega)))) (by omega)
  have HA3 : Hid (∀ V : World, Below W9.heap.size W9 V → ActAt V (addA addZ) (some ⟨w.heap.size + 4, 0, none⟩) 200 200 none 0 0) := Lib.hid fun V hV => by
    have h := list_rd addZ ((hV.block _ (Array.getElem?_eq_some_iff.1 (hk9 _ _ HR3.out (by omega))).1).trans (hk9 _ _ HR3.out (by omega)))
    rw [addZ_len] at h
    exact add_at h addZ_ok (by omega) (by omega)
  have HA4 : Hid (∀ V : World, Below W9.heap.size W9 V → ActAt V (addA (addZ ++ [49])) (some ⟨g8, 0, none⟩) 201 c8 none 0 0) := Lib.hid fun V hV => by
    have h0 : W9.ownsRow W5.heap.size 5 1 (.slice (some ⟨g8, 0, none⟩) 201 c8) 201 (valsOf .u8 (addZ ++ [49])) := by have h := ho9; rw [HZS.out] at h; unfold valsOf at h ⊢; rw [List.map_append]; exact h
    obtain ⟨A, c, e, h1, h2⟩ := rd_own h0
    cases e
    refine add_at ((h2.below hV).more hV.size) (fun x hx => ?_) h1 (by omega)
    rw [List.mem_append, List.mem_singleton] at hx
    rcases hx with hx | rfl
    · exact addZ_ok x hx
    · omega
  have HW : Hid (∀ V : World, Below W9.heap.size W9 V → Below w.heap.size w V) := Lib.hid fun V hV => hb9.trans (hV.mono hb9.size)
  have HR9 := Lib.hid (Below.refl W9.heap.size W9)
  clear hq5 hk9 hq49 ho9 hb9 HR1 HR2 HR3 HQ1 HQ2 HQ3 HQ4 HB1 HS5 HZ HZS HL4 HQ4F HO8F HB8 HK8 hz0 hz1 hz2 hiu
  go_wp2_with fail
  obtain ⟨ia, hia, hy0, hy1, hy2⟩ := inf_parts act_info
  have HHL := Lib.hid (fun V (hV : Below W9.heap.size W9 V) => (HC.out V hV).2.2.2.2)
  go_loopw [6, 7] (fun v iv wr => ∃ (j : Nat), j ≤ 4096 ∧ iv = .int .i64 (j : Int) ∧ Hid (∃ xs, OA wr W9.heap.size v (List.replicate j ownA) xs) ∧ Hid (Below W9.heap.size W9 wr)) (fun _ iv _ => 4096 - (intOf iv).toNat)
  case atStart => exact ⟨0, by omega, rfl, Lib.hid ⟨[], OA.nil _ _⟩, HR9⟩
  case round =>
    obtain ⟨j, hj, rfl, HOX, HBQ⟩ := hrel
    by_cases hlt : j < 4096
    · obtain ⟨k0, k1, k2, k3, k4, k5⟩ := HHL.out wr HBQ.out
      obtain ⟨xs, hoa⟩ := HOX.out
      have HOA := Lib.hid hoa
      have hlj : (List.replicate j ownA).length = j := by simp
      have hown := hoa.own
      rw [hlj] at hown
      have HOW := Lib.hid hown
      have HLJ := Lib.hid hlj
      clear hoa hown hlj
      have d1 := HOW.out.alloc (.cells #[.int .i64 7, .string ⟨#[]⟩, .slice none 0 0, .slice none 0 0, .int .i64 0, .int .i64 0] 26)
      have d2 : ∀ u ∈ (#[.int .i64 7, .string ⟨#[]⟩, .slice none 0 0, .slice none 0 0, .int .i64 0, .int .i64 0] : Array Value).toList, u.oneCell' = true := ac1 ownA none 0 0 none 0 0
      have d3 := World.news_of_block (heap_alloc_new wr (.cells #[.int .i64 7, .string ⟨#[]⟩, .slice none 0 0, .slice none 0 0, .int .i64 0, .int .i64 0] 26))
      have d4 : W9.heap.size ≤ (wr.alloc (.cells #[.int .i64 7, .string ⟨#[]⟩, .slice none 0 0, .slice none 0 0, .int .i64 0, .int .i64 0] 26)).heap.size := Nat.le_trans HBQ.out.size (by simp)
      have D := Lib.hid (⟨d1, d2, d3, d4⟩ : _ ∧ _ ∧ _ ∧ _)
      clear d1 d2 d3 d4
      go_wp2_with (at_builtin; refine wpList_append_lies _ rfl _ _ 44 rfl W9.heap.size 26 ia _ 6 88 Tryd.underlying44 hia hy0 hy1 hy2 rfl (by omega) _ j xs rfl D.out.1 ⟨wr.heap.size, 0, none⟩ 1 1 _ rfl rfl D.out.2.2.1 D.out.2.1 (by omega) (by unfold maxLen; omega) (by omega) D.out.2.2.2 _ rfl ?_; intro g8 c8 w8 ho hg hat hlt8; have HO8 := Lib.hid ho; have HG8 := Lib.hid hg; have HT8 := Lib.hid hat; clear ho hg hat hlt8)
      have HB8 : Hid (Below W9.heap.size W9 w8) := Lib.hid ((HBQ.out.alloc HBQ.out.size _).grown HG8.out (Nat.le_trans HBQ.out.size (by simp)) (fun k e => (HOW.out.lt k e).1))
      have HOX8 : Hid (OA w8 W9.heap.size (.slice (some ⟨g8, 0, none⟩) (j + 1) c8) (List.replicate (j + 1) ownA) (xs ++ #[.int .i64 7, .string ⟨#[]⟩, .slice none 0 0, .slice none 0 0, .int .i64 0, .int .i64 0].toList)) := Lib.hid (by
        have h1 := (HOA.out.below (sbelow1 wr (.cells #[.int .i64 7, .string ⟨#[]⟩, .slice none 0 0, .slice none 0 0, .int .i64 0, .int .i64 0] 26))).snoc (a := ownA) (own_at _) (fun h => absurd h (by omega)) (fun h => absurd h (by omega)) (by decide) (X := w8) (g := g8) (cap := c8) (by rw [HLJ.out]; exact HO8.out) HG8.out HT8.out
        rw [HLJ.out] at h1
        rw [List.replicate_succ']
        exact h1)
      exact ⟨⟨j + 1, by omega, by go_num, Lib.hid ⟨_, HOX8.out⟩, HB8⟩, by simp [intOf]; omega⟩
    · have hj2 : j = 4096 := by omega
      subst hj2
      obtain ⟨xs, hoa⟩ := HOX.out
      obtain ⟨A0, c0, hve, hcc, hcm, hrow, hlo⟩ := hoa.row
      obtain ⟨x0, rfl, hx0⟩ := hlo (by simp)
      rw [List.length_replicate] at hve hcc hrow
      obtain ⟨gL, hgL⟩ : ∃ gL, x0 = ⟨gL, 0, none⟩ := by
        rcases hoa.own.2 with ⟨e, -⟩ | ⟨g, cap, cur, e, -⟩
        · rw [hve] at e; cases e
        · rw [hve] at e; cases e; exact ⟨g, rfl⟩
      subst hgL
      subst hve
      have HOL := Lib.hid (⟨hoa, hcc, hcm, hrow⟩ : _ ∧ _ ∧ _ ∧ _)
      clear hoa hcc hcm hrow hlt hj hx0 hlo HOX
      have HWQ := Lib.hid (HW.out _ HBQ.out)
      obtain ⟨tx, htx⟩ : ∃ tx, tx = scT 0 (List.replicate 4096 ownA) := ⟨_, rfl⟩
      have HTX : Hid (Calls Tryd.prog 19 #[.agg #[.int .i64 0, .slice (some ⟨gL, 0, none⟩) 4096 c0]] wr fun e v => e = .returned (.tuple #[.string (S tx), .int .i64 0]) ∧ Below wr.heap.size wr v) := Lib.hid (by
        have h := stext_any wr 0 (List.replicate 4096 ownA) (some ⟨gL, 0, none⟩) 4096 c0 ⟨by decide, HOL.out.2.2.2, HOL.out.2.1, HOL.out.2.2.1⟩ (HT.out.below HWQ.out)
        unfold scR at h
        rw [own_ok 4096 (Nat.le_refl _), if_pos rfl, ← htx] at h
        exact h)
      have HTXE := Lib.hid htx
      have htl : tx.length = 16395 := by rw [htx, scT_rep, own_len]
      clear htx
      go_upto_region 15 with (go_at_call 19; (with_reducible refine HTX.out.mono ?_); rintro e w11 ⟨rfl, hb⟩; have HB11 := Lib.hid (HBQ.out.trans (hb.mono HBQ.out.size)); have HO11 := Lib.hid (HOL.out.1.below hb); clear hb)
      have HOA11 := HO11
      have HAC : Hid (∀ u ∈ (#[.int .i64 7, .string ⟨#[]⟩, .slice none 0 0, .slice none 0 0, .int .i64 0, .int .i64 0] : Array Value).toList, u.oneCell' = true) := Lib.hid (ac1 ownA none 0 0 none 0 0)
      have HBW := HB11
      have HCUT : Hid (∀ W : World, (Instr.slice 44 (.slice (some ⟨gL, 0, none⟩) 4096 c0) none (some (.int .i64 4096)) (some (.int .i64 4096))).run Tryd.prog W = .ok (.slice (some ⟨gL, 0, none⟩) 4096 4096) W) := Lib.hid fun W => by
        have h1 := HOL.out.2.1
        have h8 : (4096 : Int) ≤ (c0 : Int) := by omega
        simp [Instr.slice, Instr.sliceBounds, Instr.sliceBound, asIntOf, run_underlying (Tryd.underlying44), go_sem, h1, h8, hia, sizeOf, typeInfo]
      refine wp_region_inv' 16 rfl (fun L a' w' => ∃ y0 y1 y2 y3 y4 y5 y6 y7 y8 y9 y10 y11 y12 y13 y14 y15 : Value, a' = { tmps := List.toArray ((.bool false) :: (.pointer (some ⟨w.heap.size + 1, 0, none⟩)) :: (.pointer (some ⟨w.heap.size + 2, 0, none⟩)) :: (.pointer (some ⟨w.heap.size + 4 + 1, 0, none⟩)) :: (.pointer (some ⟨w.heap.size + 4 + 1 + 1, 0, none⟩)) :: (.pointer (some ⟨b5, 0, none⟩)) :: (.slice (some ⟨gL, 0, none⟩) 4096 c0) :: (.int .i64 4096) :: (.string (S tx)) :: (.int .i64 0) :: y14 :: y15 :: undef :: undef :: undef :: undef :: undef :: undef :: undef :: undef :: (.slice (some ⟨w.heap.size, 0, none⟩) 65536 65536) :: (.agg #[.int .i64 1, .string ⟨#[97]⟩, .slice (some ⟨w.heap.size, 0, none⟩) 65536 65536, .slice none 0 0, .int .i64 0, .int .i64 0]) :: (.agg #[.int .i64 1, .string ⟨#[97]⟩, .slice (some ⟨w.heap.size, 0, none⟩) 65536 65536, .slice none 0 0, .int .i64 0, .int .i64 0]) :: (.slice (some ⟨w.heap.size + 3, 0, none⟩) 65537 65537) :: (.pointer (some ⟨w.heap.size + 2, 2, none⟩)) :: (.slice (some ⟨w.heap.size + 4, 0, none⟩) 200 200) :: (.slice (some ⟨w.heap.size + 4, 0, none⟩) 200 200) :: (.agg #[.int .i64 2, .string ⟨#[97]⟩, .slice (some ⟨w.heap.size + 4, 0, none⟩) 200 200, .slice none 0 0, .int .i64 0, .int .i64 0]) :: (.agg #[.int .i64 2, .string ⟨#[97]⟩, .slice (some ⟨w.heap.size + 4, 0, none⟩) 200 200, .slice none 0 0, .int .i64 0, .int .i64 0]) :: (.pointer (some ⟨w.heap.size + 4 + 1, 2, none⟩)) :: (.slice (some ⟨w.heap.size + 4, 0, none⟩) 200 200) :: (.slice (some ⟨g6, 0, none⟩) 200 c6) :: (.pointer (some ⟨w.heap.size + 4 + 1 + 1, 2, none⟩)) :: (.pointer (some ⟨w.heap.size + 4 + 1 + 1, 2, none⟩)) :: (.slice (some ⟨g6, 0, none⟩) 200 c6) :: (.slice (some ⟨W7.heap.size, 0, none⟩) 1 1) :: (.slice (some ⟨g8, 0, none⟩) 201 c8) :: (.pointer (some ⟨w.heap.size + 4 + 1 + 1, 2, none⟩)) :: (.agg #[.int .i64 7, .string ⟨#[]⟩, .slice none 0 0, .slice none 0 0, .int .i64 0, .int .i64 0]) :: (.int .i64 4096) :: (.bool false) :: u41 :: u42 :: u43 :: u44 :: u45 :: u46 :: (.tuple #[.string (S tx), .int .i64 0]) :: (.slice (some ⟨gL, 0, none⟩) 4096 c0) :: (.agg #[.int .i64 0, .slice (some ⟨gL, 0, none⟩) 4096 c0]) :: (.tuple #[.string (S tx), .int .i64 0]) :: (.string (S tx)) :: (.int .i64 0) :: y11 :: y0 :: y1 :: y2 :: y3 :: y4 :: y5 :: y6 :: y7 :: y8 :: y9 :: y10 :: y12 :: y13 :: undef :: undef :: undef :: undef :: undef :: undef :: undef :: undef :: undef :: undef :: undef :: undef :: undef :: undef :: undef :: undef :: undef :: undef :: undef :: undef :: undef :: undef :: undef :: undef :: undef :: undef :: undef :: undef :: undef :: undef :: undef :: undef :: undef :: undef :: undef :: undef :: undef :: undef :: undef :: undef :: undef :: undef :: undef :: undef :: undef :: undef :: undef :: undef :: undef :: undef :: undef :: undef :: undef :: undef :: undef :: undef :: undef :: undef :: undef :: undef :: undef :: undef :: undef :: undef :: undef :: undef :: undef :: undef :: undef :: undef :: undef :: undef :: undef :: undef :: undef :: undef :: undef :: undef :: undef :: undef :: undef :: undef :: undef :: undef :: undef :: undef :: undef :: undef :: undef :: undef :: undef :: undef :: undef :: undef :: undef :: undef :: undef :: undef :: undef :: undef :: undef :: undef :: undef :: []), defers := [] } ∧ (L 0 = true → y0 = .slice (some ⟨gL, 0, none⟩) 4096 c0) ∧ (L 1 = true → y1 = .slice (some ⟨gL, 0, none⟩) 4096 c0) ∧ (L 2 = true → y2 = .int .i64 4096) ∧ (L 3 = true → y3 = .slice (some ⟨gL, 0, none⟩) 4096 c0) ∧ (L 4 = true → y4 = .int .i64 4096) ∧ (L 5 = true → y5 = .slice (some ⟨gL, 0, none⟩) 4096 4096) ∧ (L 6 = true → y6 = .agg #[.int .i64 7, .string ⟨#[]⟩, .slice none 0 0, .slice none 0 0, .int .i64 0, .int .i64 0]) ∧ (L 7 = true → ∃ g, y7 = .slice (some ⟨g, 0, none⟩) 1 1) ∧ (L 8 = true → ∃ g cap, y8 = .slice (some ⟨g, 0, none⟩) 4097 cap) ∧ (L 9 = true → ∃ g cap, y8 = .slice (some ⟨g, 0, none⟩) 4097 cap ∧ y9 = .agg #[.int .i64 0, .slice (some ⟨g, 0, none⟩) 4097 cap]) ∧ (L 10 = true → y10 = .tuple #[.string ⟨#[]⟩, .int .i64 3]) ∧ (L 11 = true → y11 = .tuple #[.string ⟨#[]⟩, .int .i64 3]) ∧ (L 12 = true → y12 = .string ⟨#[]⟩) ∧ (L 13 = true → y13 = .int .i64 3) ∧ (L 14 = true → y14 = .string ⟨#[]⟩) ∧ (L 15 = true → y15 = .int .i64 3) ∧ (Below w11.heap.size w11 w') ∧ (L 7 = true → L 8 = false → ∀ g, y7 = .slice (some ⟨g, 0, none⟩) 1 1 → w'.heap[g]? = some (.cells #[.int .i64 7, .string ⟨#[]⟩, .slice none 0 0, .slice none 0 0, .int .i64 0, .int .i64 0] 26 (0, 0))) ∧ (L 8 = true → ∀ g cap, y8 = .slice (some ⟨g, 0, none⟩) 4097 cap → ScRow w' (List.replicate 4097 ownA) (some ⟨g, 0, none⟩) 4097 ∧ 4097 ≤ cap ∧ cap ≤ maxLen)) (by kernel_rfl) (by kernel_rfl) ?h0 ?step ?fin
      case h0 => exact ⟨undef, undef, undef, undef, undef, undef, undef, undef, undef, undef, undef, undef, undef, undef, undef, undef, rfl, (fun e => by simp at e), (fun e => by simp at e), (fun e => by simp at e), (fun e => by simp at e), (fun e => by simp at e), (fun e => by simp at e), (fun e => by simp at e), (fun e => by simp at e), (fun e => by simp at e), (fun e => by simp at e), (fun e => by simp at e), (fun e => by simp at e), (fun e => by simp at e), (fun e => by simp at e), (fun e => by simp at e), (fun e => by simp at e), (Below.refl _ _).drew, (fun e => by simp at e), (fun e => by simp at e)⟩
      case step =>
        rintro i hi L a' w' hLi hcl hdp ⟨y0, y1, y2, y3, y4, y5, y6, y7, y8, y9, y10, y11, y12, y13, y14, y15, rfl, e0, e1, e2, e3, e4, e5, e6, e7, e8, e9, e10, e11, e12, e13, e14, e15, hw0, hw1, hw2⟩
        have hi2 : i = 0 ∨ i = 1 ∨ i = 2 ∨ i = 3 ∨ i = 4 ∨ i = 5 ∨ i = 6 ∨ i = 7 ∨ i = 8 ∨ i = 9 ∨ i = 10 ∨ i = 11 ∨ i = 12 ∨ i = 13 ∨ i = 14 ∨ i = 15 := by omega
        rcases hi2 with rfl | rfl | rfl | rfl | rfl | rfl | rfl | rfl | rfl | rfl | rfl | rfl | rfl | rfl | rfl | rfl
        · have HF0 := Lib.hid hw0; have HF1 := Lib.hid hw1; have HF2 := Lib.hid hw2
          have E1 := Lib.hid e1; have E2 := Lib.hid e2; have E3 := Lib.hid e3; have E4 := Lib.hid e4; have E5 := Lib.hid e5; have E6 := Lib.hid e6; have E7 := Lib.hid e7; have E8 := Lib.hid e8; have E9 := Lib.hid e9; have E10 := Lib.hid e10; have E11 := Lib.hid e11; have E12 := Lib.hid e12; have E13 := Lib.hid e13; have E14 := Lib.hid e14; have E15 := Lib.hid e15
          clear e0 e1 e2 e3 e4 e5 e6 e7 e8 e9 e10 e11 e12 e13 e14 e15 hw0 hw1 hw2
          refine wpOp_step rfl (fun K hK => ?_)
          go_simp
          exact hK _ _ ⟨_, _, _, _, _, _, _, _, _, _, _, _, _, _, _, _, rfl, (fun _ => rfl), (fun h => E1.out (by simpa [upOn] using h)), (fun h => E2.out (by simpa [upOn] using h)), (fun h => E3.out (by simpa [upOn] using h)), (fun h => E4.out (by simpa [upOn] using h)), (fun h => E5.out (by simpa [upOn] using h)), (fun h => E6.out (by simpa [upOn] using h)), (fun h => E7.out (by simpa [upOn] using h)), (fun h => E8.out (by simpa [upOn] using h)), (fun h => E9.out (by simpa [upOn] using h)), (fun h => E10.out (by simpa [upOn] using h)), (fun h => E11.out (by simpa [upOn] using h)), (fun h => E12.out (by simpa [upOn] using h)), (fun h => E13.out (by simpa [upOn] using h)), (fun h => E14.out (by simpa [upOn] using h)), (fun h => E15.out (by simpa [upOn] using h)), HF0.out, (fun h0 h1 => HF1.out (by simpa [upOn] using h0) (by simpa [upOn] using h1)), (fun h0 => HF2.out (by simpa [upOn] using h0))⟩
        · have HF0 := Lib.hid hw0; have HF1 := Lib.hid hw1; have HF2 := Lib.hid hw2
          have E0 := Lib.hid e0; have E2 := Lib.hid e2; have E3 := Lib.hid e3; have E4 := Lib.hid e4; have E5 := Lib.hid e5; have E6 := Lib.hid e6; have E7 := Lib.hid e7; have E8 := Lib.hid e8; have E9 := Lib.hid e9; have E10 := Lib.hid e10; have E11 := Lib.hid e11; have E12 := Lib.hid e12; have E13 := Lib.hid e13; have E14 := Lib.hid e14; have E15 := Lib.hid e15
          clear e0 e1 e2 e3 e4 e5 e6 e7 e8 e9 e10 e11 e12 e13 e14 e15 hw0 hw1 hw2
          refine wpOp_step rfl (fun K hK => ?_)
          go_simp
          exact hK _ _ ⟨_, _, _, _, _, _, _, _, _, _, _, _, _, _, _, _, rfl, (fun h => E0.out (by simpa [upOn] using h)), (fun _ => rfl), (fun h => E2.out (by simpa [upOn] using h)), (fun h => E3.out (by simpa [upOn] using h)), (fun h => E4.out (by simpa [upOn] using h)), (fun h => E5.out (by simpa [upOn] using h)), (fun h => E6.out (by simpa [upOn] using h)), (fun h => E7.out (by simpa [upOn] using h)), (fun h => E8.out (by simpa [upOn] using h)), (fun h => E9.out (by simpa [upOn] using h)), (fun h => E10.out (by simpa [upOn] using h)), (fun h => E11.out (by simpa [upOn] using h)), (fun h => E12.out (by simpa [upOn] using h)), (fun h => E13.out (by simpa [upOn] using h)), (fun h => E14.out (by simpa [upOn] using h)), (fun h => E15.out (by simpa [upOn] using h)), HF0.out, (fun h0 h1 => HF1.out (by simpa [upOn] using h0) (by simpa [upOn] using h1)), (fun h0 => HF2.out (by simpa [upOn] using h0))⟩
        · have HF0 := Lib.hid hw0; have HF1 := Lib.hid hw1; have HF2 := Lib.hid hw2
          have l1 := (hdp 1 (by kernel_rfl))
          obtain rfl := e1 l1
          have E0 := Lib.hid e0; have E3 := Lib.hid e3; have E4 := Lib.hid e4; have E5 := Lib.hid e5; have E6 := Lib.hid e6; have E7 := Lib.hid e7; have E8 := Lib.hid e8; have E9 := Lib.hid e9; have E10 := Lib.hid e10; have E11 := Lib.hid e11; have E12 := Lib.hid e12; have E13 := Lib.hid e13; have E14 := Lib.hid e14; have E15 := Lib.hid e15
          clear e0 e1 e2 e3 e4 e5 e6 e7 e8 e9 e10 e11 e12 e13 e14 e15 hw0 hw1 hw2
          refine wpOp_step rfl (fun K hK => ?_)
          go_simp
          exact hK _ _ ⟨_, _, _, _, _, _, _, _, _, _, _, _, _, _, _, _, rfl, (fun h => E0.out (by simpa [upOn] using h)), (fun _ => rfl), (fun _ => rfl), (fun h => E3.out (by simpa [upOn] using h)), (fun h => E4.out (by simpa [upOn] using h)), (fun h => E5.out (by simpa [upOn] using h)), (fun h => E6.out (by simpa [upOn] using h)), (fun h => E7.out (by simpa [upOn] using h)), (fun h => E8.out (by simpa [upOn] using h)), (fun h => E9.out (by simpa [upOn] using h)), (fun h => E10.out (by simpa [upOn] using h)), (fun h => E11.out (by simpa [upOn] using h)), (fun h => E12.out (by simpa [upOn] using h)), (fun h => E13.out (by simpa [upOn] using h)), (fun h => E14.out (by simpa [upOn] using h)), (fun h => E15.out (by simpa [upOn] using h)), HF0.out, (fun h0 h1 => HF1.out (by simpa [upOn] using h0) (by simpa [upOn] using h1)), (fun h0 => HF2.out (by simpa [upOn] using h0))⟩
        · have HF0 := Lib.hid hw0; have HF1 := Lib.hid hw1; have HF2 := Lib.hid hw2
          have E0 := Lib.hid e0; have E1 := Lib.hid e1; have E2 := Lib.hid e2; have E4 := Lib.hid e4; have E5 := Lib.hid e5; have E6 := Lib.hid e6; have E7 := Lib.hid e7; have E8 := Lib.hid e8; have E9 := Lib.hid e9; have E10 := Lib.hid e10; have E11 := Lib.hid e11; have E12 := Lib.hid e12; have E13 := Lib.hid e13; have E14 := Lib.hid e14; have E15 := Lib.hid e15
          clear e0 e1 e2 e3 e4 e5 e6 e7 e8 e9 e10 e11 e12 e13 e14 e15 hw0 hw1 hw2
          refine wpOp_step rfl (fun K hK => ?_)
          go_simp
          exact hK _ _ ⟨_, _, _, _, _, _, _, _, _, _, _, _, _, _, _, _, rfl, (fun h => E0.out (by simpa [upOn] using h)), (fun h => E1.out (by simpa [upOn] using h)), (fun h => E2.out (by simpa [upOn] using h)), (fun _ => rfl), (fun h => E4.out (by simpa [upOn] using h)), (fun h => E5.out (by simpa [upOn] using h)), (fun h => E6.out (by simpa [upOn] using h)), (fun h => E7.out (by simpa [upOn] using h)), (fun h => E8.out (by simpa [upOn] using h)), (fun h => E9.out (by simpa [upOn] using h)), (fun h => E10.out (by simpa [upOn] using h)), (fun h => E11.out (by simpa [upOn] using h)), (fun h => E12.out (by simpa [upOn] using h)), (fun h => E13.out (by simpa [upOn] using h)), (fun h => E14.out (by simpa [upOn] using h)), (fun h => E15.out (by simpa [upOn] using h)), HF0.out, (fun h0 h1 => HF1.out (by simpa [upOn] using h0) (by simpa [upOn] using h1)), (fun h0 => HF2.out (by simpa [upOn] using h0))⟩
        · have HF0 := Lib.hid hw0; have HF1 := Lib.hid hw1; have HF2 := Lib.hid hw2
          have l3 := (hdp 3 (by kernel_rfl))
          obtain rfl := e3 l3
          have E0 := Lib.hid e0; have E1 := Lib.hid e1; have E2 := Lib.hid e2; have E5 := Lib.hid e5; have E6 := Lib.hid e6; have E7 := Lib.hid e7; have E8 := Lib.hid e8; have E9 := Lib.hid e9; have E10 := Lib.hid e10; have E11 := Lib.hid e11; have E12 := Lib.hid e12; have E13 := Lib.hid e13; have E14 := Lib.hid e14; have E15 := Lib.hid e15
          clear e0 e1 e2 e3 e4 e5 e6 e7 e8 e9 e10 e11 e12 e13 e14 e15 hw0 hw1 hw2
          refine wpOp_step rfl (fun K hK => ?_)
          go_simp
          exact hK _ _ ⟨_, _, _, _, _, _, _, _, _, _, _, _, _, _, _, _, rfl, (fun h => E0.out (by simpa [upOn] using h)), (fun h => E1.out (by simpa [upOn] using h)), (fun h => E2.out (by simpa [upOn] using h)), (fun _ => rfl), (fun _ => rfl), (fun h => E5.out (by simpa [upOn] using h)), (fun h => E6.out (by simpa [upOn] using h)), (fun h => E7.out (by simpa [upOn] using h)), (fun h => E8.out (by simpa [upOn] using h)), (fun h => E9.out (by simpa [upOn] using h)), (fun h => E10.out (by simpa [upOn] using h)), (fun h => E11.out (by simpa [upOn] using h)), (fun h => E12.out (by simpa [upOn] using h)), (fun h => E13.out (by simpa [upOn] using h)), (fun h => E14.out (by simpa [upOn] using h)), (fun h => E15.out (by simpa [upOn] using h)), HF0.out, (fun h0 h1 => HF1.out (by simpa [upOn] using h0) (by simpa [upOn] using h1)), (fun h0 => HF2.out (by simpa [upOn] using h0))⟩
        · have HF0 := Lib.hid hw0; have HF1 := Lib.hid hw1; have HF2 := Lib.hid hw2
          have l0 := (hdp 0 (by kernel_rfl))
          have l2 := (hdp 2 (by kernel_rfl))
          have l4 := (hdp 4 (by kernel_rfl))
          obtain rfl := e0 l0
          obtain rfl := e2 l2
          obtain rfl := e4 l4
          have E1 := Lib.hid e1; have E3 := Lib.hid e3; have E6 := Lib.hid e6; have E7 := Lib.hid e7; have E8 := Lib.hid e8; have E9 := Lib.hid e9; have E10 := Lib.hid e10; have E11 := Lib.hid e11; have E12 := Lib.hid e12; have E13 := Lib.hid e13; have E14 := Lib.hid e14; have E15 := Lib.hid e15
          clear e0 e1 e2 e3 e4 e5 e6 e7 e8 e9 e10 e11 e12 e13 e14 e15 hw0 hw1 hw2
          have hcut := HCUT.out
          refine wpOp_step rfl (fun K hK => ?_)
          go_simp
          exact hK _ _ ⟨_, _, _, _, _, _, _, _, _, _, _, _, _, _, _, _, rfl, (fun _ => rfl), (fun h => E1.out (by simpa [upOn] using h)), (fun _ => rfl), (fun h => E3.out (by simpa [upOn] using h)), (fun _ => rfl), (fun _ => rfl), (fun h => E6.out (by simpa [upOn] using h)), (fun h => E7.out (by simpa [upOn] using h)), (fun h => E8.out (by simpa [upOn] using h)), (fun h => E9.out (by simpa [upOn] using h)), (fun h => E10.out (by simpa [upOn] using h)), (fun h => E11.out (by simpa [upOn] using h)), (fun h => E12.out (by simpa [upOn] using h)), (fun h => E13.out (by simpa [upOn] using h)), (fun h => E14.out (by simpa [upOn] using h)), (fun h => E15.out (by simpa [upOn] using h)), HF0.out, (fun h0 h1 => HF1.out (by simpa [upOn] using h0) (by simpa [upOn] using h1)), (fun h0 => HF2.out (by simpa [upOn] using h0))⟩
        · have HF0 := Lib.hid hw0; have HF1 := Lib.hid hw1; have HF2 := Lib.hid hw2
          have E0 := Lib.hid e0; have E1 := Lib.hid e1; have E2 := Lib.hid e2; have E3 := Lib.hid e3; have E4 := Lib.hid e4; have E5 := Lib.hid e5; have E7 := Lib.hid e7; have E8 := Lib.hid e8; have E9 := Lib.hid e9; have E10 := Lib.hid e10; have E11 := Lib.hid e11; have E12 := Lib.hid e12; have E13 := Lib.hid e13; have E14 := Lib.hid e14; have E15 := Lib.hid e15
          clear e0 e1 e2 e3 e4 e5 e6 e7 e8 e9 e10 e11 e12 e13 e14 e15 hw0 hw1 hw2
          obtain ⟨k0, k1, k2, k3, k4, k5⟩ := HHL.out _ (HBW.out.trans (HF0.out.mono HBW.out.size))
          refine wpOp_step rfl (fun K hK => ?_)
          go_simp
          exact hK _ _ ⟨_, _, _, _, _, _, _, _, _, _, _, _, _, _, _, _, rfl, (fun h => E0.out (by simpa [upOn] using h)), (fun h => E1.out (by simpa [upOn] using h)), (fun h => E2.out (by simpa [upOn] using h)), (fun h => E3.out (by simpa [upOn] using h)), (fun h => E4.out (by simpa [upOn] using h)), (fun h => E5.out (by simpa [upOn] using h)), (fun _ => rfl), (fun h => E7.out (by simpa [upOn] using h)), (fun h => E8.out (by simpa [upOn] using h)), (fun h => E9.out (by simpa [upOn] using h)), (fun h => E10.out (by simpa [upOn] using h)), (fun h => E11.out (by simpa [upOn] using h)), (fun h => E12.out (by simpa [upOn] using h)), (fun h => E13.out (by simpa [upOn] using h)), (fun h => E14.out (by simpa [upOn] using h)), (fun h => E15.out (by simpa [upOn] using h)), HF0.out, (fun h0 h1 => HF1.out (by simpa [upOn] using h0) (by simpa [upOn] using h1)), (fun h0 => HF2.out (by simpa [upOn] using h0))⟩
        · have HF0 := Lib.hid hw0; have HF1 := Lib.hid hw1; have HF2 := Lib.hid hw2
          have l6 := (hdp 6 (by kernel_rfl))
          have l8 : L 8 = false := by
            cases h : L 8
            · rfl
            · exact absurd (hcl 8 7 h (by kernel_rfl)) (by rw [hLi]; decide)
          have l9 : L 9 = false := by
            cases h : L 9
            · rfl
            · exact absurd (hcl 8 7 (hcl 9 8 h (by kernel_rfl)) (by kernel_rfl)) (by rw [hLi]; decide)
          obtain rfl := e6 l6
          have E0 := Lib.hid e0; have E1 := Lib.hid e1; have E2 := Lib.hid e2; have E3 := Lib.hid e3; have E4 := Lib.hid e4; have E5 := Lib.hid e5; have E8 := Lib.hid e8; have E9 := Lib.hid e9; have E10 := Lib.hid e10; have E11 := Lib.hid e11; have E12 := Lib.hid e12; have E13 := Lib.hid e13; have E14 := Lib.hid e14; have E15 := Lib.hid e15
          clear e0 e1 e2 e3 e4 e5 e6 e7 e8 e9 e10 e11 e12 e13 e14 e15 hw0 hw1 hw2
          refine wpOp_step rfl (fun K hK => ?_)
          go_simp
          exact hK _ _ ⟨_, _, _, _, _, _, _, _, _, _, _, _, _, _, _, _, rfl, (fun h => E0.out (by simpa [upOn] using h)), (fun h => E1.out (by simpa [upOn] using h)), (fun h => E2.out (by simpa [upOn] using h)), (fun h => E3.out (by simpa [upOn] using h)), (fun h => E4.out (by simpa [upOn] using h)), (fun h => E5.out (by simpa [upOn] using h)), (fun _ => rfl), (fun _ => ⟨_, rfl⟩), (fun h => E8.out (by simpa [upOn] using h)), (fun h => by simp [upOn, l9] at h), (fun h => E10.out (by simpa [upOn] using h)), (fun h => E11.out (by simpa [upOn] using h)), (fun h => E12.out (by simpa [upOn] using h)), (fun h => E13.out (by simpa [upOn] using h)), (fun h => E14.out (by simpa [upOn] using h)), (fun h => E15.out (by simpa [upOn] using h)), (HF0.out.alloc HF0.out.size _), (fun _ _ g hg => by cases hg; exact heap_alloc_new w' (.cells #[.int .i64 7, .string ⟨#[]⟩, .slice none 0 0, .slice none 0 0, .int .i64 0, .int .i64 0] 26)), (fun h => by simp [upOn, l8] at h)⟩
        · have HF0 := Lib.hid hw0; have HF1 := Lib.hid hw1; have HF2 := Lib.hid hw2
          have l5 := (hdp 5 (by kernel_rfl))
          have l7 := (hdp 7 (by kernel_rfl))
          have l9 : L 9 = false := by
            cases h : L 9
            · rfl
            · exact absurd (hcl 9 8 h (by kernel_rfl)) (by rw [hLi]; decide)
          obtain rfl := e5 l5
          obtain ⟨g7, rfl⟩ := e7 l7
          have E0 := Lib.hid e0; have E1 := Lib.hid e1; have E2 := Lib.hid e2; have E3 := Lib.hid e3; have E4 := Lib.hid e4; have E6 := Lib.hid e6; have E9 := Lib.hid e9; have E10 := Lib.hid e10; have E11 := Lib.hid e11; have E12 := Lib.hid e12; have E13 := Lib.hid e13; have E14 := Lib.hid e14; have E15 := Lib.hid e15
          clear e0 e1 e2 e3 e4 e5 e6 e7 e8 e9 e10 e11 e12 e13 e14 e15 hw0 hw1 hw2
          have hb7 := HF0.out
          have HOW2 := Lib.hid (HOA11.out.below hb7)
          have hg6 := HF1.out l7 hLi g7 rfl
          have hsz7 : W9.heap.size ≤ w'.heap.size := Nat.le_trans HBW.out.size hb7.size
          refine wpOp_step rfl (fun K hK => ?_)
          refine wp_append_full _ _ 44 (by rfl) (M := W9.heap.size) (e := 26) Tryd.underlying44 hia hy0 hy1 hy2 rfl (n := 4096) (xs := xs) (by omega) HOW2.out.own hsz7 (by rfl) ⟨g7, 0, none⟩ 1 (#[.int .i64 7, .string ⟨#[]⟩, .slice none 0 0, .slice none 0 0, .int .i64 0, .int .i64 0] : Array Value).toList (by rfl) (by rfl) (World.news_of_block hg6) HAC.out ?_
          intro cap1 X1 hown1 hbx
          have hgrow : w'.grownBy X1 (some gL) := ⟨hbx.os, hbx.tape, hbx.output, hbx.size, fun k hk _ => hbx.block k hk⟩
          have hlr : (List.replicate 4096 ownA).length = 4096 := by simp
          have hX := HOW2.out.snoc (X := X1) (a := ownA) (own_at _) (fun h => absurd h (by omega)) (fun h => absurd h (by omega)) (by decide) (g := w'.heap.size) (cap := cap1) (by rw [hlr]; exact hown1) hgrow (.inr rfl)
          rw [hlr, ← List.replicate_succ'] at hX
          obtain ⟨A9, c9, he9, hc9, hm9, hr9, -⟩ := hX.row
          cases he9
          rw [List.length_replicate] at hc9 hr9
          have HX9 := Lib.hid (⟨hr9, hc9, hm9⟩ : _ ∧ _ ∧ _)
          clear hr9 hc9 hm9 hX hown1
          exact hK _ _ ⟨_, _, _, _, _, _, _, _, _, _, _, _, _, _, _, _, rfl, (fun h => E0.out (by simpa [upOn] using h)), (fun h => E1.out (by simpa [upOn] using h)), (fun h => E2.out (by simpa [upOn] using h)), (fun h => E3.out (by simpa [upOn] using h)), (fun h => E4.out (by simpa [upOn] using h)), (fun _ => rfl), (fun h => E6.out (by simpa [upOn] using h)), (fun _ => ⟨_, rfl⟩), (fun _ => ⟨_, _, rfl⟩), (fun h => by simp [upOn, l9] at h), (fun h => E10.out (by simpa [upOn] using h)), (fun h => E11.out (by simpa [upOn] using h)), (fun h => E12.out (by simpa [upOn] using h)), (fun h => E13.out (by simpa [upOn] using h)), (fun h => E14.out (by simpa [upOn] using h)), (fun h => E15.out (by simpa [upOn] using h)), (hb7.trans (hbx.mono hb7.size)), (fun h0 h1 => by simp [upOn] at h1), (fun _ g cap hg => by cases hg; exact HX9.out)⟩
        · have HF0 := Lib.hid hw0; have HF1 := Lib.hid hw1; have HF2 := Lib.hid hw2
          have l8 := (hdp 8 (by kernel_rfl))
          obtain ⟨g8a, cap8, rfl⟩ := e8 l8
          have E0 := Lib.hid e0; have E1 := Lib.hid e1; have E2 := Lib.hid e2; have E3 := Lib.hid e3; have E4 := Lib.hid e4; have E5 := Lib.hid e5; have E6 := Lib.hid e6; have E7 := Lib.hid e7; have E10 := Lib.hid e10; have E11 := Lib.hid e11; have E12 := Lib.hid e12; have E13 := Lib.hid e13; have E14 := Lib.hid e14; have E15 := Lib.hid e15
          clear e0 e1 e2 e3 e4 e5 e6 e7 e8 e9 e10 e11 e12 e13 e14 e15 hw0 hw1 hw2
          refine wpOp_step rfl (fun K hK => ?_)
          go_simp
          exact hK _ _ ⟨_, _, _, _, _, _, _, _, _, _, _, _, _, _, _, _, rfl, (fun h => E0.out (by simpa [upOn] using h)), (fun h => E1.out (by simpa [upOn] using h)), (fun h => E2.out (by simpa [upOn] using h)), (fun h => E3.out (by simpa [upOn] using h)), (fun h => E4.out (by simpa [upOn] using h)), (fun h => E5.out (by simpa [upOn] using h)), (fun h => E6.out (by simpa [upOn] using h)), (fun h => E7.out (by simpa [upOn] using h)), (fun _ => ⟨_, _, rfl⟩), (fun _ => ⟨_, _, rfl, rfl⟩), (fun h => E10.out (by simpa [upOn] using h)), (fun h => E11.out (by simpa [upOn] using h)), (fun h => E12.out (by simpa [upOn] using h)), (fun h => E13.out (by simpa [upOn] using h)), (fun h => E14.out (by simpa [upOn] using h)), (fun h => E15.out (by simpa [upOn] using h)), HF0.out, (fun h0 h1 => HF1.out (by simpa [upOn] using h0) (by simpa [upOn] using h1)), (fun h0 => HF2.out (by simpa [upOn] using h0))⟩
        · have HF0 := Lib.hid hw0; have HF1 := Lib.hid hw1; have HF2 := Lib.hid hw2
          have l9 := (hdp 9 (by kernel_rfl))
          obtain ⟨g9, cap9, hg9, rfl⟩ := e9 l9
          have E0 := Lib.hid e0; have E1 := Lib.hid e1; have E2 := Lib.hid e2; have E3 := Lib.hid e3; have E4 := Lib.hid e4; have E5 := Lib.hid e5; have E6 := Lib.hid e6; have E7 := Lib.hid e7; have E8 := Lib.hid e8; have E11 := Lib.hid e11; have E12 := Lib.hid e12; have E13 := Lib.hid e13; have E14 := Lib.hid e14; have E15 := Lib.hid e15
          clear e0 e1 e2 e3 e4 e5 e6 e7 e8 e9 e10 e11 e12 e13 e14 e15 hw0 hw1 hw2
          have l8 := hcl 9 8 l9 (by kernel_rfl)
          have hrw := HF2.out l8 g9 cap9 hg9
          have HG := Lib.hid hg9
          clear hg9
          have htb := HT.out.below (HW.out _ (HBW.out.trans (HF0.out.mono HBW.out.size)))
          refine wpOp_step rfl (fun K hK => ?_)
          go_simp
          have hct := stext_any w' 0 (List.replicate 4097 ownA) (some ⟨g9, 0, none⟩) 4097 cap9 ⟨by decide, hrw.1, hrw.2.1, hrw.2.2⟩ htb
          unfold scR at hct
          rw [own_long 4097 (by omega), if_neg (by omega)] at hct
          refine hct.mono ?_
          rintro e v1 ⟨rfl, hb⟩
          exact hK _ _ ⟨_, _, _, _, _, _, _, _, _, _, _, _, _, _, _, _, rfl, (fun h => E0.out (by simpa [upOn] using h)), (fun h => E1.out (by simpa [upOn] using h)), (fun h => E2.out (by simpa [upOn] using h)), (fun h => E3.out (by simpa [upOn] using h)), (fun h => E4.out (by simpa [upOn] using h)), (fun h => E5.out (by simpa [upOn] using h)), (fun h => E6.out (by simpa [upOn] using h)), (fun h => E7.out (by simpa [upOn] using h)), (fun h => E8.out (by simpa [upOn] using h)), (fun _ => ⟨_, _, HG.out, rfl⟩), (fun _ => rfl), (fun h => E11.out (by simpa [upOn] using h)), (fun h => E12.out (by simpa [upOn] using h)), (fun h => E13.out (by simpa [upOn] using h)), (fun h => E14.out (by simpa [upOn] using h)), (fun h => E15.out (by simpa [upOn] using h)), (HF0.out.trans (hb.mono HF0.out.size)), (fun _ h => by simp [upOn, l8] at h), (fun _ g cap hg => ⟨(HF2.out l8 g cap hg).1.below hb, (HF2.out l8 g cap hg).2⟩)⟩
        · have HF0 := Lib.hid hw0; have HF1 := Lib.hid hw1; have HF2 := Lib.hid hw2
          have l10 := (hdp 10 (by kernel_rfl))
          obtain rfl := e10 l10
          have E0 := Lib.hid e0; have E1 := Lib.hid e1; have E2 := Lib.hid e2; have E3 := Lib.hid e3; have E4 := Lib.hid e4; have E5 := Lib.hid e5; have E6 := Lib.hid e6; have E7 := Lib.hid e7; have E8 := Lib.hid e8; have E9 := Lib.hid e9; have E12 := Lib.hid e12; have E13 := Lib.hid e13; have E14 := Lib.hid e14; have E15 := Lib.hid e15
          clear e0 e1 e2 e3 e4 e5 e6 e7 e8 e9 e10 e11 e12 e13 e14 e15 hw0 hw1 hw2
          refine wpOp_step rfl (fun K hK => ?_)
          go_simp
          exact hK _ _ ⟨_, _, _, _, _, _, _, _, _, _, _, _, _, _, _, _, rfl, (fun h => E0.out (by simpa [upOn] using h)), (fun h => E1.out (by simpa [upOn] using h)), (fun h => E2.out (by simpa [upOn] using h)), (fun h => E3.out (by simpa [upOn] using h)), (fun h => E4.out (by simpa [upOn] using h)), (fun h => E5.out (by simpa [upOn] using h)), (fun h => E6.out (by simpa [upOn] using h)), (fun h => E7.out (by simpa [upOn] using h)), (fun h => E8.out (by simpa [upOn] using h)), (fun h => E9.out (by simpa [upOn] using h)), (fun _ => rfl), (fun _ => rfl), (fun h => E12.out (by simpa [upOn] using h)), (fun h => E13.out (by simpa [upOn] using h)), (fun h => E14.out (by simpa [upOn] using h)), (fun h => E15.out (by simpa [upOn] using h)), HF0.out, (fun h0 h1 => HF1.out (by simpa [upOn] using h0) (by simpa [upOn] using h1)), (fun h0 => HF2.out (by simpa [upOn] using h0))⟩
        · have HF0 := Lib.hid hw0; have HF1 := Lib.hid hw1; have HF2 := Lib.hid hw2
          have l11 := (hdp 11 (by kernel_rfl))
          obtain rfl := e11 l11
          have E0 := Lib.hid e0; have E1 := Lib.hid e1; have E2 := Lib.hid e2; have E3 := Lib.hid e3; have E4 := Lib.hid e4; have E5 := Lib.hid e5; have E6 := Lib.hid e6; have E7 := Lib.hid e7; have E8 := Lib.hid e8; have E9 := Lib.hid e9; have E10 := Lib.hid e10; have E13 := Lib.hid e13; have E14 := Lib.hid e14; have E15 := Lib.hid e15
          clear e0 e1 e2 e3 e4 e5 e6 e7 e8 e9 e10 e11 e12 e13 e14 e15 hw0 hw1 hw2
          refine wpOp_step rfl (fun K hK => ?_)
          go_simp
          exact hK _ _ ⟨_, _, _, _, _, _, _, _, _, _, _, _, _, _, _, _, rfl, (fun h => E0.out (by simpa [upOn] using h)), (fun h => E1.out (by simpa [upOn] using h)), (fun h => E2.out (by simpa [upOn] using h)), (fun h => E3.out (by simpa [upOn] using h)), (fun h => E4.out (by simpa [upOn] using h)), (fun h => E5.out (by simpa [upOn] using h)), (fun h => E6.out (by simpa [upOn] using h)), (fun h => E7.out (by simpa [upOn] using h)), (fun h => E8.out (by simpa [upOn] using h)), (fun h => E9.out (by simpa [upOn] using h)), (fun h => E10.out (by simpa [upOn] using h)), (fun _ => rfl), (fun _ => rfl), (fun h => E13.out (by simpa [upOn] using h)), (fun h => E14.out (by simpa [upOn] using h)), (fun h => E15.out (by simpa [upOn] using h)), HF0.out, (fun h0 h1 => HF1.out (by simpa [upOn] using h0) (by simpa [upOn] using h1)), (fun h0 => HF2.out (by simpa [upOn] using h0))⟩
        · have HF0 := Lib.hid hw0; have HF1 := Lib.hid hw1; have HF2 := Lib.hid hw2
          have l11 := (hdp 11 (by kernel_rfl))
          obtain rfl := e11 l11
          have E0 := Lib.hid e0; have E1 := Lib.hid e1; have E2 := Lib.hid e2; have E3 := Lib.hid e3; have E4 := Lib.hid e4; have E5 := Lib.hid e5; have E6 := Lib.hid e6; have E7 := Lib.hid e7; have E8 := Lib.hid e8; have E9 := Lib.hid e9; have E10 := Lib.hid e10; have E12 := Lib.hid e12; have E14 := Lib.hid e14; have E15 := Lib.hid e15
          clear e0 e1 e2 e3 e4 e5 e6 e7 e8 e9 e10 e11 e12 e13 e14 e15 hw0 hw1 hw2
          refine wpOp_step rfl (fun K hK => ?_)
          go_simp
          exact hK _ _ ⟨_, _, _, _, _, _, _, _, _, _, _, _, _, _, _, _, rfl, (fun h => E0.out (by simpa [upOn] using h)), (fun h => E1.out (by simpa [upOn] using h)), (fun h => E2.out (by simpa [upOn] using h)), (fun h => E3.out (by simpa [upOn] using h)), (fun h => E4.out (by simpa [upOn] using h)), (fun h => E5.out (by simpa [upOn] using h)), (fun h => E6.out (by simpa [upOn] using h)), (fun h => E7.out (by simpa [upOn] using h)), (fun h => E8.out (by simpa [upOn] using h)), (fun h => E9.out (by simpa [upOn] using h)), (fun h => E10.out (by simpa [upOn] using h)), (fun _ => rfl), (fun h => E12.out (by simpa [upOn] using h)), (fun _ => rfl), (fun h => E14.out (by simpa [upOn] using h)), (fun h => E15.out (by simpa [upOn] using h)), HF0.out, (fun h0 h1 => HF1.out (by simpa [upOn] using h0) (by simpa [upOn] using h1)), (fun h0 => HF2.out (by simpa [upOn] using h0))⟩
        · have HF0 := Lib.hid hw0; have HF1 := Lib.hid hw1; have HF2 := Lib.hid hw2
          have l12 := (hdp 12 (by kernel_rfl))
          obtain rfl := e12 l12
          have E0 := Lib.hid e0; have E1 := Lib.hid e1; have E2 := Lib.hid e2; have E3 := Lib.hid e3; have E4 := Lib.hid e4; have E5 := Lib.hid e5; have E6 := Lib.hid e6; have E7 := Lib.hid e7; have E8 := Lib.hid e8; have E9 := Lib.hid e9; have E10 := Lib.hid e10; have E11 := Lib.hid e11; have E13 := Lib.hid e13; have E15 := Lib.hid e15
          clear e0 e1 e2 e3 e4 e5 e6 e7 e8 e9 e10 e11 e12 e13 e14 e15 hw0 hw1 hw2
          refine wpOp_step rfl (fun K hK => ?_)
          go_simp
          exact hK _ _ ⟨_, _, _, _, _, _, _, _, _, _, _, _, _, _, _, _, rfl, (fun h => E0.out (by simpa [upOn] using h)), (fun h => E1.out (by simpa [upOn] using h)), (fun h => E2.out (by simpa [upOn] using h)), (fun h => E3.out (by simpa [upOn] using h)), (fun h => E4.out (by simpa [upOn] using h)), (fun h => E5.out (by simpa [upOn] using h)), (fun h => E6.out (by simpa [upOn] using h)), (fun h => E7.out (by simpa [upOn] using h)), (fun h => E8.out (by simpa [upOn] using h)), (fun h => E9.out (by simpa [upOn] using h)), (fun h => E10.out (by simpa [upOn] using h)), (fun h => E11.out (by simpa [upOn] using h)), (fun _ => rfl), (fun h => E13.out (by simpa [upOn] using h)), (fun _ => rfl), (fun h => E15.out (by simpa [upOn] using h)), HF0.out, (fun h0 h1 => HF1.out (by simpa [upOn] using h0) (by simpa [upOn] using h1)), (fun h0 => HF2.out (by simpa [upOn] using h0))⟩
        · have HF0 := Lib.hid hw0; have HF1 := Lib.hid hw1; have HF2 := Lib.hid hw2
          have l13 := (hdp 13 (by kernel_rfl))
          obtain rfl := e13 l13
          have E0 := Lib.hid e0; have E1 := Lib.hid e1; have E2 := Lib.hid e2; have E3 := Lib.hid e3; have E4 := Lib.hid e4; have E5 := Lib.hid e5; have E6 := Lib.hid e6; have E7 := Lib.hid e7; have E8 := Lib.hid e8; have E9 := Lib.hid e9; have E10 := Lib.hid e10; have E11 := Lib.hid e11; have E12 := Lib.hid e12; have E14 := Lib.hid e14
          clear e0 e1 e2 e3 e4 e5 e6 e7 e8 e9 e10 e11 e12 e13 e14 e15 hw0 hw1 hw2
          refine wpOp_step rfl (fun K hK => ?_)
          go_simp
          exact hK _ _ ⟨_, _, _, _, _, _, _, _, _, _, _, _, _, _, _, _, rfl, (fun h => E0.out (by simpa [upOn] using h)), (fun h => E1.out (by simpa [upOn] using h)), (fun h => E2.out (by simpa [upOn] using h)), (fun h => E3.out (by simpa [upOn] using h)), (fun h => E4.out (by simpa [upOn] using h)), (fun h => E5.out (by simpa [upOn] using h)), (fun h => E6.out (by simpa [upOn] using h)), (fun h => E7.out (by simpa [upOn] using h)), (fun h => E8.out (by simpa [upOn] using h)), (fun h => E9.out (by simpa [upOn] using h)), (fun h => E10.out (by simpa [upOn] using h)), (fun h => E11.out (by simpa [upOn] using h)), (fun h => E12.out (by simpa [upOn] using h)), (fun _ => rfl), (fun h => E14.out (by simpa [upOn] using h)), (fun _ => rfl), HF0.out, (fun h0 h1 => HF1.out (by simpa [upOn] using h0) (by simpa [upOn] using h1)), (fun h0 => HF2.out (by simpa [upOn] using h0))⟩
      case fin =>
        rintro L a' w' hall ⟨y0, y1, y2, y3, y4, y5, y6, y7, y8, y9, y10, y11, y12, y13, y14, y15, rfl, e0, e1, e2, e3, e4, e5, e6, e7, e8, e9, e10, e11, e12, e13, e14, e15, hw0, hw1, hw2⟩
        obtain rfl := e0 (hall 0 (by omega))
        obtain rfl := e1 (hall 1 (by omega))
        obtain rfl := e2 (hall 2 (by omega))
        obtain rfl := e3 (hall 3 (by omega))
        obtain rfl := e4 (hall 4 (by omega))
        obtain rfl := e5 (hall 5 (by omega))
        obtain rfl := e6 (hall 6 (by omega))
        obtain ⟨g7, rfl⟩ := e7 (hall 7 (by omega))
        obtain ⟨g8a, cap8, rfl⟩ := e8 (hall 8 (by omega))
        obtain ⟨g9, cap9, hg9, rfl⟩ := e9 (hall 9 (by omega))
        obtain rfl := e10 (hall 10 (by omega))
        obtain rfl := e11 (hall 11 (by omega))
        obtain rfl := e12 (hall 12 (by omega))
        obtain rfl := e13 (hall 13 (by omega))
        obtain rfl := e14 (hall 14 (by omega))
        obtain rfl := e15 (hall 15 (by omega))
        have HB16 := Lib.hid (HBW.out.trans (hw0.mono HBW.out.size))
        clear hw0 hw1 hw2 hall hg9 hlt4 HAC HCUT HOA11 HOL HTX HO11
        obtain ⟨tx2, htx2⟩ : ∃ tx2, tx2 = scT 0 (List.replicate 4097 ownA) := ⟨_, rfl⟩
        have hcat : S tx ++ (⟨#[111, 119, 110, 10]⟩ : ByteArray) = S tx2 := by rw [htx2, ← scT_more 4096, HTXE.out, S_app]; rfl
        have HP1 : Hid (∀ V : World, Below W9.heap.size W9 V → Calls Tryd.prog 21 #[.string (S tx)] V fun e v => ∃ A n cc, e = .returned (.tuple #[.agg #[.int .i64 0, .slice A n cc], .int .i64 0, .int .i64 0]) ∧ Below W9.heap.size W9 v) := Lib.hid fun V hV => by
          obtain ⟨r1, r2, r3, r4⟩ := scT_reads (own_ok 4096 (Nat.le_refl _)) (own_b 4096)
          rw [← HTXE.out] at r1 r2 r3 r4
          have h := sparse_any V tx (by omega) (HT.out.below (HW.out V hV))
          rw [r1, r2, r3, r4] at h
          refine h.mono ?_
          rintro e v ⟨A, n, cc, rfl, -, hb⟩
          exact ⟨A, n, cc, rfl, hV.trans (hb.mono hV.size)⟩
        have HP2 : Hid (∀ V : World, Below W9.heap.size W9 V → Calls Tryd.prog 21 #[.string (S tx2)] V fun e v => ∃ A n cc, e = .returned (.tuple #[.agg #[.int .i64 0, .slice A n cc], .int .i64 4097, .int .i64 4]) ∧ Below W9.heap.size W9 v) := Lib.hid fun V hV => by
          obtain ⟨r1, r2, r3, r4⟩ := own_more
          rw [← htx2] at r1 r2 r3 r4
          have hl : tx2.length = 16399 := by rw [htx2, scT_rep, own_len]
          have h := sparse_any V tx2 (by omega) (HT.out.below (HW.out V hV))
          rw [r1, r2, r3, r4] at h
          refine h.mono ?_
          rintro e v ⟨A, n, cc, rfl, -, hb⟩
          exact ⟨A, n, cc, rfl, hV.trans (hb.mono hV.size)⟩
        have hsx := S_size tx
        rw [htl] at hsx
        have ns : ¬ 9223372036854775807 < (S tx).size + 4 := by omega
        clear htx2 htl
        go_upto_region 17 with (go_at_call 21; (with_reducible refine (HP1.out _ HB16.out).mono ?_); rintro e w16 ⟨A6, n6, c6', rfl, hb⟩; have HB17 := Lib.hid (hb.alloc hb.size (.cells #[.int .i64 0, .slice A6 n6 c6'] 46)); clear hb)
        generalize w16.alloc (.cells #[.int .i64 0, .slice A6 n6 c6'] 46) = W17 at HB17 ⊢
        go_upto_region 18 with (go_at_call 21; (with_reducible refine (HP2.out _ HB17.out).mono ?_); rintro e w18 ⟨A7, n7, c7', rfl, hb⟩; have HB18 := Lib.hid (hb.alloc hb.size (.cells #[.int .i64 0, .slice A7 n7 c7'] 46)); clear hb)
        generalize w18.alloc (.cells #[.int .i64 0, .slice A7 n7 c7'] 46) = W18 at HB18 ⊢
        obtain ⟨⟨k0, k1, k2, k3, k4, k5⟩, -⟩ := HC.out _ HB18.out
        go_upto_region 19 with fail
        refine Go.wp_buildSlice 44 26 32 _ rfl (repC 32 (#[.int .i64 1, .string ⟨#[97]⟩, .slice (some ⟨w.heap.size, 0, none⟩) 65536 65536, .slice none 0 0, .int .i64 0, .int .i64 0] : Array Value).toList) ia _ Tryd.underlying44 hia hy0 (by rw [hy1]; decide) (by rw [hy1]; decide) (by rw [hy1]; kernel_rfl) ?_
        apply_assumption
        have HP3 : Hid (Calls Tryd.prog 19 #[.agg #[.int .i64 0, .slice (some ⟨W18.heap.size, 0, none⟩) 32 32]] (W18.alloc (.cells (repC 32 (#[.int .i64 1, .string ⟨#[97]⟩, .slice (some ⟨w.heap.size, 0, none⟩) 65536 65536, .slice none 0 0, .int .i64 0, .int .i64 0] : Array Value).toList) 26)) fun e v => e = .returned (.tuple #[.string ⟨#[]⟩, .int .i64 3]) ∧ Below W9.heap.size W9 v) := Lib.hid (by
          have hb19 := HB18.out.alloc HB18.out.size (.cells (repC 32 (#[.int .i64 1, .string ⟨#[97]⟩, .slice (some ⟨w.heap.size, 0, none⟩) 65536 65536, .slice none 0 0, .int .i64 0, .int .i64 0] : Array Value).toList) 26)
          have h := stext_any _ 0 (List.replicate 32 (putA 65536)) (some ⟨W18.heap.size, 0, none⟩) 32 32 ⟨by decide, repC_row (a := putA 65536) (heap_alloc_new W18 (.cells (repC 32 (#[.int .i64 1, .string ⟨#[97]⟩, .slice (some ⟨w.heap.size, 0, none⟩) 65536 65536, .slice none 0 0, .int .i64 0, .int .i64 0] : Array Value).toList) 26)) (HA1.out _ hb19) (by decide), Nat.le_refl _, by unfold maxLen; omega⟩ (HT.out.below (HW.out _ hb19))
          unfold scR at h
          rw [puts_long, if_neg (by omega)] at h
          exact h.mono fun e v ⟨h1, h2⟩ => ⟨h1, hb19.trans (h2.mono hb19.size)⟩)
        clear k0 k1 k2 k3 k4 k5
        go_upto_region 19 with (go_at_call 19; (with_reducible refine HP3.out.mono ?_); rintro e w19 ⟨rfl, hb⟩; have HB19 := Lib.hid hb; clear hb)
        have HM1 : Hid (∀ V : World, Below W9.heap.size W9 V → Calls Tryd.prog 10 #[.agg #[.int .i64 1, .string ⟨#[97]⟩, .slice (some ⟨w.heap.size, 0, none⟩) 65536 65536, .slice none 0 0, .int .i64 0, .int .i64 0]] V fun e v => e = .returned (.bool true) ∧ Below W9.heap.size W9 v) := Lib.hid fun V hV => by
          have h := mayact_any V (putA 65536) _ _ _ _ _ _ (HA1.out V hV) (by decide)
          rw [put_may, show decide (65536 ≤ 65536) = true by decide] at h
          exact h.mono fun e v ⟨h1, h2⟩ => ⟨h1, hV.trans (h2.mono hV.size)⟩
        have HM2 : Hid (∀ V : World, Below W9.heap.size W9 V → Calls Tryd.prog 10 #[.agg #[.int .i64 1, .string ⟨#[97]⟩, .slice (some ⟨w.heap.size + 3, 0, none⟩) 65537 65537, .slice none 0 0, .int .i64 0, .int .i64 0]] V fun e v => e = .returned (.bool false) ∧ Below W9.heap.size W9 v) := Lib.hid fun V hV => by
          have h := mayact_any V (putA 65537) _ _ _ _ _ _ (HA2.out V hV) (by decide)
          rw [put_may, show decide (65537 ≤ 65536) = false by decide] at h
          exact h.mono fun e v ⟨h1, h2⟩ => ⟨h1, hV.trans (h2.mono hV.size)⟩
        have HM3 : Hid (∀ V : World, Below W9.heap.size W9 V → Calls Tryd.prog 10 #[.agg #[.int .i64 2, .string ⟨#[97]⟩, .slice (some ⟨w.heap.size + 4, 0, none⟩) 200 200, .slice none 0 0, .int .i64 0, .int .i64 0]] V fun e v => e = .returned (.bool true) ∧ Below W9.heap.size W9 v) := Lib.hid fun V hV => by
          have h := mayact_any V (addA addZ) _ _ _ _ _ _ (HA3.out V hV) (by decide)
          rw [add_may _ addZ_ok, addZ_len, show decide (200 ≤ 200) = true by decide] at h
          exact h.mono fun e v ⟨h1, h2⟩ => ⟨h1, hV.trans (h2.mono hV.size)⟩
        have HM4 : Hid (∀ V : World, Below W9.heap.size W9 V → Calls Tryd.prog 10 #[.agg #[.int .i64 2, .string ⟨#[97]⟩, .slice (some ⟨g8, 0, none⟩) 201 c8, .slice none 0 0, .int .i64 0, .int .i64 0]] V fun e v => e = .returned (.bool false) ∧ Below W9.heap.size W9 v) := Lib.hid fun V hV => by
          have h := mayact_any V (addA (addZ ++ [49])) _ _ _ _ _ _ (HA4.out V hV) (by decide)
          have hz : ∀ x ∈ addZ ++ [49], 32 ≤ x ∧ x ≤ 126 := fun x hx => by
            rw [List.mem_append, List.mem_singleton] at hx
            rcases hx with hx | rfl
            · exact addZ_ok x hx
            · omega
          rw [add_may _ hz, List.length_append, addZ_len, show decide (200 + ([49] : List Int).length ≤ 200) = false by decide] at h
          exact h.mono fun e v ⟨h1, h2⟩ => ⟨h1, hV.trans (h2.mono hV.size)⟩
        have HKN : Hid (∀ V : World, Below W9.heap.size W9 V → Calls Tryd.prog 8 #[] V fun e v => e = .returned (.bool true) ∧ Below W9.heap.size W9 v) := Lib.hid fun V hV =>
          (known_any V (HT.out.below (HW.out V hV))).mono fun e v ⟨h1, h2⟩ => ⟨h1, hV.trans (h2.mono hV.size)⟩
        obtain ⟨⟨k0, k1, k2, k3, k4, k5⟩, -⟩ := HC.out _ HB19.out
        go_wp2_with (first
          | (go_at_call 10; (with_reducible refine (HM1.out _ HB19.out).mono ?_); rintro e w20 ⟨rfl, hb⟩; have HB20 := Lib.hid hb; obtain ⟨-, ⟨k0, k1, k2, k3, k4, k5⟩, -⟩ := HC.out _ hb; clear hb)
          | (go_at_call 10; (with_reducible refine (HM2.out _ HB20.out).mono ?_); rintro e w21 ⟨rfl, hb⟩; have HB21 := Lib.hid hb; obtain ⟨-, -, ⟨k0, k1, k2, k3, k4, k5⟩, -⟩ := HC.out _ hb; clear hb)
          | (go_at_call 10; (with_reducible refine (HM3.out _ HB21.out).mono ?_); rintro e w22 ⟨rfl, hb⟩; have HB22 := Lib.hid hb; obtain ⟨-, -, -, ⟨k0, k1, k2, k3, k4, k5⟩, -⟩ := HC.out _ hb; clear hb)
          | (go_at_call 10; (with_reducible refine (HM4.out _ HB22.out).mono ?_); rintro e w23 ⟨rfl, hb⟩; have HB23 := Lib.hid hb; clear hb)
          | (go_at_call 13; (with_reducible refine (num_any _ _).mono ?_); rintro e w' ⟨rfl, rfl⟩)
          | (go_at_call 8; (with_reducible refine (HKN.out _ HB23.out).mono ?_); rintro e w24 ⟨rfl, hb⟩; have HB24 := Lib.hid hb; clear hb))
        go_ret
        exact ⟨rfl, HW.out _ HB24.out⟩
theorem own : ownKnob Tryd.prog.godebug = none := by kernel_rfl
theorem laidOut : laidOutB Tryd.prog = true := by kernel_rfl
theorem gTab2 : Tryd.prog.globalNamed "internal/strconv.uint64pow10" = some 3 := by kernel_rfl
theorem gTab7 : Tryd.prog.globalNamed "strings.asciiSpace" = some 0 := by kernel_rfl
set_option maxRecDepth 1000000 in
theorem tables {W : World} (h0 : laidMetH Tryd.prog Rows.scriptBoundsRow.laid W) (hsh : W.ShapedOpen Tryd.prog) : Tb W := by
  rw [MakeChecks.laidMetH_plain _ _ _ (by kernel_rfl)] at h0
  have h : laidMet Tryd.prog Rows.scriptBoundsRow.laid W := h0
  exact ⟨Lib.tabIs_of_head (rest := _) gTab2 (by kernel_rfl) Tryd.underlying140 Tryd.underlying114 (by kernel_rfl) (by kernel_rfl) (laidMet.tail (laidMet.tail h)), Lib.tabIs_of_head (rest := _) gTab7 (by kernel_rfl) Tryd.underlying101 Tryd.underlying5 (by kernel_rfl) (by kernel_rfl) (laidMet.tail (laidMet.tail (laidMet.tail (laidMet.tail (laidMet.tail (laidMet.tail (laidMet.tail h))))))), mx_of hsh, ⟨errS_of (laidMet.tail (laidMet.tail (laidMet.tail (laidMet.tail (laidMet.tail h))))), errR_of (laidMet.tail (laidMet.tail (laidMet.tail (laidMet.tail h))))⟩⟩
set_option maxRecDepth 1000000 in
theorem contract (H : Type) (enc : TypeId × Value → H) (W : World) (base : Nat) (args : Array Value) (ds gs : List (DataW H)) (before : List MemPlace)
    (hval : ∀ (j : Nat) t v, Tryd.f6.params[j]? = some t → args[j]? = some v → Value.okWide Tryd.prog W .any base t v)
    (hW : DataW.Whole enc Tryd.prog Tryd.f6.params.toList Rows.scriptBoundsSpec.vars false W args.toList ds gs before) (hL : laidMetH Tryd.prog Rows.scriptBoundsRow.laid W) (hsh : W.ShapedOpen Tryd.prog) :
    Calls Tryd.prog 6 args W fun e W' => ∃ v, e = .returned v ∧ Rows.scriptBoundsSpec.post enc Tryd.prog Tryd.f6 false true false false W args v W' := by
  have hW' := hW
  obtain ⟨p, q, hA0, hV, rfl, hfz, hnd⟩ := hW
  have hA : DataW.TrodAll enc Tryd.prog W 0 (fun _ => true) true Tryd.f6.params.toList args.toList ds p := hA0
  rw [Tryd.params6] at hA hval
  obtain ⟨hargs, rfl, rfl⟩ := trodAll_nil hA
  obtain rfl : args = #[] := by cases args; simp_all
  obtain ⟨rfl, rfl⟩ := trodVars_none hV
  clear hA0
  have hT := tables hL hsh
  refine (walk  W  hT).mono fun e W' ⟨he, bel⟩ => ?_
  subst he
  exact ⟨_, rfl, _, _, _, [], _, [], hW', trodAll_mk1 (shut_bool Tryd.underlying4 _), trodAll_mk0, rfl, bel.frame _, fun h => by cases h⟩
theorem witness_shaped {H : Type} {enc : TypeId × Value → H} {C : Checked} {os : Os} {f : FuncId} {fn : Func} {s : OpenSpec} {conds : List PathCond} {apart : Bool} {laid : List (String × DataW Unit)} (modest : Bool) (w0 : World) (args : Array Value) (hos : w0.os = os)
    (hsh : (w0.forCall (fun _ _ => 0) ⟨#[], args, []⟩).Shaped C.prog) (hok : Input.okWideB C.prog (w0.forCall (fun _ _ => 0) ⟨#[], args, []⟩) f ⟨#[], args, []⟩ = true)
    (hrow : s.preRow enc C.prog fn conds apart laid (w0.forCall (fun _ _ => 0) ⟨#[], args, []⟩).memory args) :
    ∃ (w : World) (tape : Tape) (i : Input), w.os = os ∧ (w.forCall tape i).Shaped C.prog ∧ i.vars = [] ∧ Input.okWide C.prog (w.forCall tape i) .any w.heap.size f i ∧
      s.preRow enc C.prog fn conds apart laid (w.forCall tape i).memory i.args ∧ ({ modest := modest } : Assume).holds C.prog (lone (Frame.enter C.prog f i.args .normal) [] (w.forCall tape i)) :=
  ⟨w0, fun _ _ => 0, ⟨#[], args, []⟩, hos, hsh, (Input.okWide_of_okWideB (base := 0) hok).1, (Input.okWide_of_okWideB hok).2, hrow, by
    simp only [Assume.holds]
    exact ⟨by simp, by simp, fun _ => Modest.zero, by simp, by simp⟩⟩
set_option maxRecDepth 1000000 in
theorem laid_met (os : Os) : laidMetH Tryd.prog Rows.scriptBoundsRow.laid ((World.laidAll Tryd.prog os Rows.scriptBoundsRow.laid).forCall (fun _ _ => 0) ⟨#[], #[], []⟩).memory := by
  rw [MakeChecks.laidMetH_plain _ _ _ (by kernel_rfl)]
  exact laidMet_laidAll _ (by kernel_rfl) (by kernel_rfl)
set_option maxRecDepth 1000000 in
theorem reads (os : Os) {H : Type} (enc : TypeId × Value → H) : ∃ places, DataW.whole enc Tryd.prog ((World.laidAll Tryd.prog os Rows.scriptBoundsRow.laid).forCall (fun _ _ => 0) ⟨#[], #[], []⟩).memory Tryd.f6.params.toList Rows.scriptBoundsSpec.vars false (#[] : Array Value).toList 8 = some ([], [], places) := ⟨[], by kernel_rfl⟩
set_option maxRecDepth 1000000 in
theorem lifted (os : Os) (started : os.Started) (H : Type) (enc : TypeId × Value → H) (F : Stop.Interp) :
    ReturnsInHanded {} Tryd.checked os 6 .any ((OpenSpec.ofChange Rows.scriptBoundsSpec).preRow enc Tryd.prog Tryd.f6 Rows.scriptBoundsRow.domain false Rows.scriptBoundsRow.laid) (((OpenSpec.ofChange Rows.scriptBoundsSpec).at F).post enc Tryd.prog Tryd.f6 false true false false) := by
  obtain ⟨places, hx⟩ := reads os enc
  refine returnsInHanded_of_row (C := Tryd.checked) (s := OpenSpec.ofChange Rows.scriptBoundsSpec) own started (by kernel_rfl) Tryd.func6
    (witness_shaped (enc := enc) (C := Tryd.checked) false (World.laidAll Tryd.prog os Rows.scriptBoundsRow.laid) #[] (World.laidAll_os _ _ _) (World.shaped_of_ZipB (by kernel_rfl) (by kernel_rfl)) (by kernel_rfl)
      (OpenSpec.preRow_of_cond 8 hx (by kernel_rfl) (fun k hk => by cases hk) (by kernel_rfl) (laid_met os))) ?_
  intro W base args ds gs before hval hW _ _ _ hL hsh _
  exact contract H enc W base args ds gs before hval hW hL hsh
theorem said : Rows.ScriptBoundsSaid :=
  OpenClaim.holds_of_cond 6 Tryd.f6 rfl rfl rfl rfl rfl rfl rfl ⟨rfl, rfl, rfl, rfl, rfl⟩ rfl rfl rfl rfl rfl (by kernel_rfl) Tryd.func6 (by kernel_rfl)
    (of_decide_eq_true (by kernel_rfl)) (by unfold Func.isWrapper; first | (rw [if_pos (by decide +kernel)]; kernel_rfl) | (rw [if_neg (by decide +kernel)]; exact ⟨rfl, rfl⟩))
    (fun os started H enc _ F => by rw [OpenClaim.pre_eq_preRow]; exact lifted os started H enc F)
theorem plain (f : FuncId) (fn : Func) (hf : Tryd.pinned.checked.prog.funcNamed "selfsame/selfsamelaw25.ScriptBounds" = some f) (hfn : Tryd.pinned.checked.prog.funcs[f]? = some fn) :
    true = Tryd.pinned.checked.prog.looks [] ∧ ∀ (j : Nat) t, fn.params[j]? = some t → Tryd.pinned.checked.prog.wantsStandIn t = false := by
  obtain rfl : f = 6 := Option.some.inj ((show Tryd.prog.funcNamed "selfsame/selfsamelaw25.ScriptBounds" = some 6 by kernel_rfl).symm.trans hf) |>.symm
  obtain rfl : fn = Tryd.f6 := (Option.some.inj (Tryd.func6.symm.trans hfn)).symm
  refine ⟨by kernel_rfl, fun j t ht => ?_⟩
  rw [Tryd.params6] at ht
  simp at ht
theorem proved : Rows.ScriptBoundsCardSaid :=
  Claim7.holds_tied_plain_at .later [] _ _ _ _ said (fun _ h => by cases h) (by kernel_rfl) (fun _ h => by cases h) scriptBounds_row_tie rfl ⟨rfl, rfl⟩ (by kernel_rfl) rfl plain (by kernel_rfl)
end Go.Proofs.YtlodoilihminaaaDoor.scriptBounds

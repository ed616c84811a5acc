/-
  The scope's and the scanner's memory, written out; a new name more, thirteen times; the scope is as it was.
-/
import Derived.Test.YtpnohekidpphfaaGreatDoorScC
namespace Go.Proofs.YtpnohekidpphfaaGreatDoor
open Go.ChangeShapes Go.WideShapes Go.ChangeAt Go.RowKit
open Ev (WRow)
set_option linter.unusedVariables false
set_option linter.unusedSimpArgs false
namespace Ev
theorem R.sub2 {ρ : Val} {μ : Names} {B : Nat} {H G : Mem} {w : World} (h : R ρ μ B H w) (hs : ∀ i o v, G.at i o = some v → H.at i o = some v) (hc : ∀ i o, (G.at i (o + 1)).isSome = true → (G.at i o).isSome = true) : R ρ μ B G w := by
  have hi : ∀ i o, (G.at i o).isSome = true → (H.at i o).isSome = true := fun i o e => by
    obtain ⟨v, hv⟩ := Option.isSome_iff_exists.1 e
    rw [hs i o v hv]; rfl
  exact ⟨fun i o v hv => h.at' i o v (hs i o v hv), fun i o p e => h.place i o p (hi i o e), fun i o i' o' p p' e e' => h.inj i o i' o' p p' (hi i o e) (hi i' o' e'), h.lt, hc, fun i o v b f hv => h.clean i o v b f (hs i o v hv), h.keep⟩
theorem at_rows (H : Mem) (id i o : Nat) (cs : List AV) : (H.new id cs).at i o = if i = id then cs[o]? else H.at i o := Mem.at_new H id i o cs
theorem row_of {H : Mem} {id : Nat} {cs : List AV} (h : (List.range cs.length).map (H.atP id) = cs.map some) (o : Nat) (v : AV) (hv : cs[o]? = some v) : H.at id o = some v := by
  have hlt : o < cs.length := (List.getElem?_eq_some_iff.1 hv).1
  have := congrArg (·[o]?) h
  simp only [List.getElem?_map, List.getElem?_range hlt, Option.map_some, hv] at this
  rw [← Mem.atP_eq]; exact Option.some.inj this
theorem cont_row {cs : List AV} (o : Nat) (h : (cs[o + 1]?).isSome = true) : (cs[o]?).isSome = true := by
  obtain ⟨v, hv⟩ := Option.isSome_iff_exists.1 h
  have := (List.getElem?_eq_some_iff.1 hv).1
  rw [List.getElem?_eq_getElem (by omega)]; rfl
end Ev
noncomputable section
def g0 : List Ev.AV := [.mapO [.str [65, 82, 82, 65, 89], .str [66, 69, 71, 73, 78], .str [67, 79, 78, 83, 84], .str [68, 73, 86], .str [68, 79], .str [69, 76, 83, 69], .str [69, 76, 83, 73, 70], .str [69, 78, 68], .str [70, 65, 76, 83, 69], .str [73, 70], .str [73, 77, 80, 79, 82, 84], .str [73, 78], .str [77, 79, 68], .str [77, 79, 68, 85, 76, 69], .str [78, 73, 76], .str [79, 70], .str [79, 82], .str [80, 79, 73, 78, 84, 69, 82], .str [80, 82, 79, 67, 69, 68, 85, 82, 69], .str [82, 69, 67, 79, 82, 68], .str [82, 69, 80, 69, 65, 84], .str [82, 69, 84, 85, 82, 78], .str [84, 72, 69, 78], .str [84, 79], .str [84, 82, 85, 69], .str [84, 89, 80, 69], .str [85, 78, 84, 73, 76], .str [86, 65, 82], .str [87, 72, 73, 76, 69], .str [73, 78, 84, 69, 71, 69, 82], .str [66, 79, 79, 76, 69, 65, 78], .str [67, 72, 65, 82], .str [66, 89, 84, 69], .str [83, 69, 84], .str [65, 66, 83], .str [79, 68, 68], .str [79, 82, 68], .str [67, 72, 82], .str [76, 83, 76], .str [65, 83, 82], .str [76, 69, 78], .str [79, 76, 68], .str [70, 82, 69, 83, 72], .str [69, 79, 70], .str [76, 69, 78, 71, 84, 72], .str [73, 78, 67], .str [68, 69, 67], .str [78, 69, 87], .str [65, 83, 83, 69, 82, 84], .str [72, 65, 76, 84], .str [82, 69, 65, 68], .str [87, 82, 73, 84, 69], .str [82, 69, 65, 68, 87], .str [87, 82, 73, 84, 69, 87], .str [83, 69, 69, 75], .str [82, 69, 71, 73, 83, 84, 69, 82], .str [68, 69, 76, 69, 84, 69]] [.int .i64 (.lit 0), .int .i64 (.lit 1), .int .i64 (.lit 2), .int .i64 (.lit 3), .int .i64 (.lit 4), .int .i64 (.lit 5), .int .i64 (.lit 6), .int .i64 (.lit 7), .int .i64 (.lit 8), .int .i64 (.lit 9), .int .i64 (.lit 10), .int .i64 (.lit 11), .int .i64 (.lit 12), .int .i64 (.lit 13), .int .i64 (.lit 14), .int .i64 (.lit 15), .int .i64 (.lit 16), .int .i64 (.lit 17), .int .i64 (.lit 18), .int .i64 (.lit 19), .int .i64 (.lit 20), .int .i64 (.lit 21), .int .i64 (.lit 22), .int .i64 (.lit 23), .int .i64 (.lit 24), .int .i64 (.lit 25), .int .i64 (.lit 26), .int .i64 (.lit 27), .int .i64 (.lit 28), .int .i64 (.lit 29), .int .i64 (.lit 30), .int .i64 (.lit 31), .int .i64 (.lit 32), .int .i64 (.lit 33), .int .i64 (.lit 34), .int .i64 (.lit 35), .int .i64 (.lit 36), .int .i64 (.lit 37), .int .i64 (.lit 38), .int .i64 (.lit 39), .int .i64 (.lit 40), .int .i64 (.lit 41), .int .i64 (.lit 42), .int .i64 (.lit 43), .int .i64 (.lit 44), .int .i64 (.lit 45), .int .i64 (.lit 46), .int .i64 (.lit 47), .int .i64 (.lit 48), .int .i64 (.lit 49), .int .i64 (.lit 50), .int .i64 (.lit 51), .int .i64 (.lit 52), .int .i64 (.lit 53), .int .i64 (.lit 54), .int .i64 (.lit 55), .int .i64 (.lit 56)]]
def g2 : List Ev.AV := [.nilSlice, .int .i64 (.lit 0), .int .i64 (.lit 0), .int .i64 (.lit 0), .int .i32 (.lit 0), .int .i64 (.lit 0), .str [], .int .i64 (.lit 0), .int .i64 (.lit 0), .rowS 118 0 57 1, .mapP 0, .int .i64 (.lit 29), .mapP 1]
def g118 : List Ev.AV := [.str [65, 82, 82, 65, 89], .str [66, 69, 71, 73, 78], .str [67, 79, 78, 83, 84], .str [68, 73, 86], .str [68, 79], .str [69, 76, 83, 69], .str [69, 76, 83, 73, 70], .str [69, 78, 68], .str [70, 65, 76, 83, 69], .str [73, 70], .str [73, 77, 80, 79, 82, 84], .str [73, 78], .str [77, 79, 68], .str [77, 79, 68, 85, 76, 69], .str [78, 73, 76], .str [79, 70], .str [79, 82], .str [80, 79, 73, 78, 84, 69, 82], .str [80, 82, 79, 67, 69, 68, 85, 82, 69], .str [82, 69, 67, 79, 82, 68], .str [82, 69, 80, 69, 65, 84], .str [82, 69, 84, 85, 82, 78], .str [84, 72, 69, 78], .str [84, 79], .str [84, 82, 85, 69], .str [84, 89, 80, 69], .str [85, 78, 84, 73, 76], .str [86, 65, 82], .str [87, 72, 73, 76, 69], .str [73, 78, 84, 69, 71, 69, 82], .str [66, 79, 79, 76, 69, 65, 78], .str [67, 72, 65, 82], .str [66, 89, 84, 69], .str [83, 69, 84], .str [65, 66, 83], .str [79, 68, 68], .str [79, 82, 68], .str [67, 72, 82], .str [76, 83, 76], .str [65, 83, 82], .str [76, 69, 78], .str [79, 76, 68], .str [70, 82, 69, 83, 72], .str [69, 79, 70], .str [76, 69, 78, 71, 84, 72], .str [73, 78, 67], .str [68, 69, 67], .str [78, 69, 87], .str [65, 83, 83, 69, 82, 84], .str [72, 65, 76, 84], .str [82, 69, 65, 68], .str [87, 82, 73, 84, 69], .str [82, 69, 65, 68, 87], .str [87, 82, 73, 84, 69, 87], .str [83, 69, 69, 75], .str [82, 69, 71, 73, 83, 84, 69, 82], .str [68, 69, 76, 69, 84, 69]]
def g125 : List Ev.AV := [.ptr 2 0, .ptr 120 0, .rowS 267 0 29 9, .int .i64 (.lit 29), .slice 122 0 2 2, .slice 123 0 1 1, .mapP 124]
def g122 : List Ev.AV := [.rowS 265 0 28 1, .nilSlice]
def g265 : List Ev.AV := [.int .i64 (.lit 1), .int .i64 (.lit 2), .int .i64 (.lit 3), .int .i64 (.lit 4), .int .i64 (.lit 5), .int .i64 (.lit 6), .int .i64 (.lit 7), .int .i64 (.lit 8), .int .i64 (.lit 9), .int .i64 (.lit 10), .int .i64 (.lit 11), .int .i64 (.lit 12), .int .i64 (.lit 13), .int .i64 (.lit 14), .int .i64 (.lit 15), .int .i64 (.lit 16), .int .i64 (.lit 17), .int .i64 (.lit 18), .int .i64 (.lit 19), .int .i64 (.lit 20), .int .i64 (.lit 21), .int .i64 (.lit 22), .int .i64 (.lit 23), .int .i64 (.lit 24), .int .i64 (.lit 25), .int .i64 (.lit 26), .int .i64 (.lit 27), .int .i64 (.lit 28)]
def g267 : List Ev.AV := [.int .i64 (.lit 0), .int .i64 (.lit 0), .int .i64 (.lit 0), .int .i64 (.lit 0), .int .i32 (.lit 0), .int .i64 (.lit 0), .bool (.lit false), .bool (.lit false), .nilSlice, .int .i64 (.lit 2), .int .i64 (.lit 29), .int .i64 (.lit 1), .int .i64 (.lit 0), .int .i32 (.lit 0), .int .i64 (.lit 0), .bool (.lit false), .bool (.lit false), .nilSlice, .int .i64 (.lit 2), .int .i64 (.lit 30), .int .i64 (.lit 2), .int .i64 (.lit 0), .int .i32 (.lit 0), .int .i64 (.lit 0), .bool (.lit false), .bool (.lit false), .nilSlice, .int .i64 (.lit 2), .int .i64 (.lit 31), .int .i64 (.lit 3), .int .i64 (.lit 0), .int .i32 (.lit 0), .int .i64 (.lit 0), .bool (.lit false), .bool (.lit false), .nilSlice, .int .i64 (.lit 2), .int .i64 (.lit 32), .int .i64 (.lit 4), .int .i64 (.lit 0), .int .i32 (.lit 0), .int .i64 (.lit 0), .bool (.lit false), .bool (.lit false), .nilSlice, .int .i64 (.lit 2), .int .i64 (.lit 33), .int .i64 (.lit 5), .int .i64 (.lit 0), .int .i32 (.lit 0), .int .i64 (.lit 0), .bool (.lit false), .bool (.lit false), .nilSlice, .int .i64 (.lit 7), .int .i64 (.lit 34), .int .i64 (.lit 0), .int .i64 (.lit 0), .int .i32 (.lit 1), .int .i64 (.lit 0), .bool (.lit false), .bool (.lit false), .nilSlice, .int .i64 (.lit 7), .int .i64 (.lit 35), .int .i64 (.lit 0), .int .i64 (.lit 0), .int .i32 (.lit 2), .int .i64 (.lit 0), .bool (.lit false), .bool (.lit false), .nilSlice, .int .i64 (.lit 7), .int .i64 (.lit 36), .int .i64 (.lit 0), .int .i64 (.lit 0), .int .i32 (.lit 3), .int .i64 (.lit 0), .bool (.lit false), .bool (.lit false), .nilSlice, .int .i64 (.lit 7), .int .i64 (.lit 37), .int .i64 (.lit 0), .int .i64 (.lit 0), .int .i32 (.lit 4), .int .i64 (.lit 0), .bool (.lit false), .bool (.lit false), .nilSlice, .int .i64 (.lit 7), .int .i64 (.lit 38), .int .i64 (.lit 0), .int .i64 (.lit 0), .int .i32 (.lit 5), .int .i64 (.lit 0), .bool (.lit false), .bool (.lit false), .nilSlice, .int .i64 (.lit 7), .int .i64 (.lit 39), .int .i64 (.lit 0), .int .i64 (.lit 0), .int .i32 (.lit 6), .int .i64 (.lit 0), .bool (.lit false), .bool (.lit false), .nilSlice, .int .i64 (.lit 7), .int .i64 (.lit 40), .int .i64 (.lit 0), .int .i64 (.lit 0), .int .i32 (.lit 7), .int .i64 (.lit 0), .bool (.lit false), .bool (.lit false), .nilSlice, .int .i64 (.lit 7), .int .i64 (.lit 41), .int .i64 (.lit 0), .int .i64 (.lit 0), .int .i32 (.lit 8), .int .i64 (.lit 0), .bool (.lit false), .bool (.lit false), .nilSlice, .int .i64 (.lit 7), .int .i64 (.lit 42), .int .i64 (.lit 0), .int .i64 (.lit 0), .int .i32 (.lit 9), .int .i64 (.lit 0), .bool (.lit false), .bool (.lit false), .nilSlice, .int .i64 (.lit 7), .int .i64 (.lit 43), .int .i64 (.lit 0), .int .i64 (.lit 0), .int .i32 (.lit 10), .int .i64 (.lit 0), .bool (.lit false), .bool (.lit false), .nilSlice, .int .i64 (.lit 7), .int .i64 (.lit 44), .int .i64 (.lit 0), .int .i64 (.lit 0), .int .i32 (.lit 11), .int .i64 (.lit 0), .bool (.lit false), .bool (.lit false), .nilSlice, .int .i64 (.lit 7), .int .i64 (.lit 45), .int .i64 (.lit 0), .int .i64 (.lit 0), .int .i32 (.lit 12), .int .i64 (.lit 0), .bool (.lit false), .bool (.lit false), .nilSlice, .int .i64 (.lit 7), .int .i64 (.lit 46), .int .i64 (.lit 0), .int .i64 (.lit 0), .int .i32 (.lit 13), .int .i64 (.lit 0), .bool (.lit false), .bool (.lit false), .nilSlice, .int .i64 (.lit 7), .int .i64 (.lit 47), .int .i64 (.lit 0), .int .i64 (.lit 0), .int .i32 (.lit 14), .int .i64 (.lit 0), .bool (.lit false), .bool (.lit false), .nilSlice, .int .i64 (.lit 7), .int .i64 (.lit 48), .int .i64 (.lit 0), .int .i64 (.lit 0), .int .i32 (.lit 15), .int .i64 (.lit 0), .bool (.lit false), .bool (.lit false), .nilSlice, .int .i64 (.lit 7), .int .i64 (.lit 49), .int .i64 (.lit 0), .int .i64 (.lit 0), .int .i32 (.lit 16), .int .i64 (.lit 0), .bool (.lit false), .bool (.lit false), .nilSlice, .int .i64 (.lit 7), .int .i64 (.lit 50), .int .i64 (.lit 0), .int .i64 (.lit 0), .int .i32 (.lit 17), .int .i64 (.lit 0), .bool (.lit false), .bool (.lit false), .nilSlice, .int .i64 (.lit 7), .int .i64 (.lit 51), .int .i64 (.lit 0), .int .i64 (.lit 0), .int .i32 (.lit 18), .int .i64 (.lit 0), .bool (.lit false), .bool (.lit false), .nilSlice, .int .i64 (.lit 7), .int .i64 (.lit 52), .int .i64 (.lit 0), .int .i64 (.lit 0), .int .i32 (.lit 19), .int .i64 (.lit 0), .bool (.lit false), .bool (.lit false), .nilSlice, .int .i64 (.lit 7), .int .i64 (.lit 53), .int .i64 (.lit 0), .int .i64 (.lit 0), .int .i32 (.lit 20), .int .i64 (.lit 0), .bool (.lit false), .bool (.lit false), .nilSlice, .int .i64 (.lit 7), .int .i64 (.lit 54), .int .i64 (.lit 0), .int .i64 (.lit 0), .int .i32 (.lit 21), .int .i64 (.lit 0), .bool (.lit false), .bool (.lit false), .nilSlice, .int .i64 (.lit 7), .int .i64 (.lit 55), .int .i64 (.lit 0), .int .i64 (.lit 0), .int .i32 (.lit 22), .int .i64 (.lit 0), .bool (.lit false), .bool (.lit false), .nilSlice, .int .i64 (.lit 7), .int .i64 (.lit 56), .int .i64 (.lit 0), .int .i64 (.lit 0), .int .i32 (.lit 23), .int .i64 (.lit 0), .bool (.lit false), .bool (.lit false), .nilSlice]
def gMem : Ev.Mem := ((((((Ev.Mem.new .e 0 g0).new 2 g2).new 118 g118).new 125 g125).new 122 g122).new 265 g265).new 267 g267
def lookG (H : Ev.Mem) : List (Option Ev.AV) × List (Option Ev.AV) × List (Option Ev.AV) × List (Option Ev.AV) × List (Option Ev.AV) × List (Option Ev.AV) × List (Option Ev.AV) := ((List.range g0.length).map (H.atP 0), (List.range g2.length).map (H.atP 2), (List.range g118.length).map (H.atP 118), (List.range g125.length).map (H.atP 125), (List.range g122.length).map (H.atP 122), (List.range g265.length).map (H.atP 265), (List.range g267.length).map (H.atP 267))
set_option maxRecDepth 1000000 in
theorem run3b : Ev.outF lookG sr3 = some (.ptr 125 0, 268, (g0.map some, g2.map some, g118.map some, g125.map some, g122.map some, g265.map some, g267.map some)) := by kernel_rfl
theorem gMem_at (i o : Nat) (v : Ev.AV) (h : gMem.at i o = some v) : (i = 0 ∧ g0[o]? = some v) ∨ (i = 2 ∧ g2[o]? = some v) ∨ (i = 118 ∧ g118[o]? = some v) ∨ (i = 125 ∧ g125[o]? = some v) ∨ (i = 122 ∧ g122[o]? = some v) ∨ (i = 265 ∧ g265[o]? = some v) ∨ (i = 267 ∧ g267[o]? = some v) := by
  simp only [gMem, Ev.at_rows] at h
  repeat' split at h
  all_goals first
    | exact .inl ⟨‹_›, h⟩
    | exact .inr (.inl ⟨‹_›, h⟩)
    | exact .inr (.inr (.inl ⟨‹_›, h⟩))
    | exact .inr (.inr (.inr (.inl ⟨‹_›, h⟩)))
    | exact .inr (.inr (.inr (.inr (.inl ⟨‹_›, h⟩))))
    | exact .inr (.inr (.inr (.inr (.inr (.inl ⟨‹_›, h⟩)))))
    | exact .inr (.inr (.inr (.inr (.inr (.inr (⟨‹_›, h⟩))))))
    | (rw [Ev.Mem.at_e] at h; cases h)
theorem gMem_back : (∀ o, gMem.at 0 o = g0[o]?) ∧ (∀ o, gMem.at 2 o = g2[o]?) ∧ (∀ o, gMem.at 118 o = g118[o]?) ∧ (∀ o, gMem.at 125 o = g125[o]?) ∧ (∀ o, gMem.at 122 o = g122[o]?) ∧ (∀ o, gMem.at 265 o = g265[o]?) ∧ (∀ o, gMem.at 267 o = g267[o]?) := by
  refine ⟨?_, ?_, ?_, ?_, ?_, ?_, ?_⟩ <;> (intro o; simp [gMem, Ev.at_rows])
theorem gMem_cont (i o : Nat) (h : (gMem.at i (o + 1)).isSome = true) : (gMem.at i o).isSome = true := by
  obtain ⟨v, hv⟩ := Option.isSome_iff_exists.1 h
  obtain ⟨b0, b2, b118, b125, b122, b265, b267⟩ := gMem_back
  rcases gMem_at i (o + 1) v hv with ⟨rfl, h2⟩ | ⟨rfl, h2⟩ | ⟨rfl, h2⟩ | ⟨rfl, h2⟩ | ⟨rfl, h2⟩ | ⟨rfl, h2⟩ | ⟨rfl, h2⟩
  · rw [b0]; exact Ev.cont_row o (by rw [h2]; rfl)
  · rw [b2]; exact Ev.cont_row o (by rw [h2]; rfl)
  · rw [b118]; exact Ev.cont_row o (by rw [h2]; rfl)
  · rw [b125]; exact Ev.cont_row o (by rw [h2]; rfl)
  · rw [b122]; exact Ev.cont_row o (by rw [h2]; rfl)
  · rw [b265]; exact Ev.cont_row o (by rw [h2]; rfl)
  · rw [b267]; exact Ev.cont_row o (by rw [h2]; rfl)
def nm13 : List (List Nat) := [[77], [78], [65], [66], [67], [120], [121], [99], [84], [118], [80], [81], [110, 101, 120, 116]]
def nmK (k : Nat) : List Nat := nm13.getD k []
def sn0 : Ev.Run := (Ev.evO Tryz.prog scA Ev.noOrc 1000 30 (.fn 14) []).go gMem 268
def snM : Nat → Ev.Mem := Nat.rec (Ev.memOf sn0) (fun k M => Ev.memOf ((Ev.evO Tryz.prog scA Ev.noOrc 1000 30 (.fn 15) [.ptr 2 0, .str (nmK k)]).go M (269 + 2 * k)))
def snR (k : Nat) : Ev.Run := (Ev.evO Tryz.prog scA Ev.noOrc 1000 30 (.fn 15) [.ptr 2 0, .str (nmK k)]).go (snM k) (269 + 2 * k)
def lookN (H : Ev.Mem) : List (Option Ev.AV) := (List.range 13).map (H.atP 268)
set_option maxRecDepth 1000000 in
theorem runN : Ev.outF lookN sn0 = some (.slice 268 0 13 13, 269, nm13.map fun s => some (.str s)) := by kernel_rfl
def look5 (H : Ev.Mem) : ((Option Ev.AV × Option Ev.AV × Option Ev.AV × Option Ev.AV) × (Option Ev.AV × Option Ev.AV) × List (Option Ev.AV) × Bool) × List (Option Ev.AV) := (look3 H, (List.range 28).map fun j => H.atP 267 ((j + 1) * 9 + 1))
set_option maxRecDepth 1000000 in
theorem run5 : look5 (snM 13) = (seen3, (List.range 28).map fun j => some (.int .i64 (.lit ((29 + j : Nat) : Int)))) := by kernel_rfl
set_option maxHeartbeats 1000000 in
/-- a scope in memory: as data -/
theorem scat_of {ρ : Ev.Val} {μ1 : Ev.Names} {B n p o : Nat} {H : Ev.Mem} {w' : World} (hρ : ρ = tabVal0) (h3 : Ev.St ρ μ1 B H n w') (hp : μ1 125 = some (p, o)) (hl5 : look5 H = (seen3, (List.range 28).map fun j => some (.int .i64 (.lit ((29 + j : Nat) : Int))))) :
    ∃ tv lv xs v0, ScAt w' B p o tv lv 29 xs [(v0, List.range' 1 28), (.slice none 0 0, [])] ∧ ∀ j ∈ List.range' 1 28, Nm xs j (28 + (j : Int)) := by
  subst hρ
  have hl : look3 H = seen3 := congrArg (·.1) hl5
  have hnm : (List.range 28).map (fun j => H.atP 267 ((j + 1) * 9 + 1)) = (List.range 28).map fun j => some (Ev.AV.int .i64 (.lit ((29 + j : Nat) : Int))) := congrArg (·.2) hl5
  have k1 : H.at 125 1 = some (.ptr 120 0) := by rw [← Ev.Mem.atP_eq]; exact congrArg (·.1.1) hl
  have k2 : H.at 125 2 = some (.rowS 267 0 29 9) := by rw [← Ev.Mem.atP_eq]; exact congrArg (·.1.2.1) hl
  have k3 : H.at 125 3 = some (.int .i64 (.lit 29)) := by rw [← Ev.Mem.atP_eq]; exact congrArg (·.1.2.2.1) hl
  have k4 : H.at 125 4 = some (.slice 122 0 2 2) := by rw [← Ev.Mem.atP_eq]; exact congrArg (·.1.2.2.2) hl
  have k5 : H.at 122 0 = some (.rowS 265 0 28 1) := by rw [← Ev.Mem.atP_eq]; exact congrArg (·.2.1.1) hl
  have k6 : H.at 122 1 = some .nilSlice := by rw [← Ev.Mem.atP_eq]; exact congrArg (·.2.1.2) hl
  have k7 : (List.range 28).map (fun j => H.atP 265 j) = (List.range 28).map (fun j => some (Ev.AV.int .i64 (.lit ((j + 1 : Nat) : Int)))) := congrArg (·.2.2.1) hl
  have k8 : ((List.range 261).all fun j => (H.atP 267 j).isSome) = true := congrArg (·.2.2.2) hl
  have k9 : ∀ j, j < 261 → (H.at 267 j).isSome = true := fun j hj => by rw [← Ev.Mem.atP_eq]; exact List.all_eq_true.1 k8 j (List.mem_range.2 hj)
  have k10 : ∀ j, j < 28 → H.at 265 j = some (.int .i64 (.lit ((j + 1 : Nat) : Int))) := fun j hj => by
    have := congrArg (·[j]?) k7
    simp only [List.getElem?_map, List.getElem?_range hj, Option.map_some] at this
    rw [← Ev.Mem.atP_eq]; exact Option.some.inj this
  obtain ⟨x1, hBp, c1, ⟨ta, tf0, _, e1⟩, _⟩ := h3.cell k1 hp
  obtain ⟨tv, _, c2, r2, z2⟩ := h3.cell k2 hp
  obtain ⟨x3, _, c3, r3, _⟩ := h3.cell k3 hp
  obtain ⟨lv, _, c4, r4, z4⟩ := h3.cell k4 hp
  have r3' : x3 = .int .i64 29 := r3
  subst r3' e1
  obtain ⟨xs, tb, tf, tc, rfl, hm267, hT, hTr⟩ := h3.wrowS r2 (us := (List.range 261).map fun j => (H.at 267 j).getD .any) (fun j u hu => by
    rw [List.getElem?_map] at hu
    obtain ⟨y, hy, rfl⟩ := Option.map_eq_some_iff.1 hu
    obtain ⟨hlt, rfl⟩ := List.getElem?_eq_some_iff.1 hy
    simp only [List.length_range] at hlt
    rw [List.getElem_range]
    have := k9 j hlt
    cases hh : H.at 267 j with
    | none => rw [hh] at this; cases this
    | some u => rfl) (by simp) (by simp)
  obtain ⟨ls, lb, lf, rfl, hm122, hL, hLr⟩ := h3.wslice r4 (us := [.rowS 265 0 28 1, .nilSlice]) (size := 1) (fun j u hu => by
    match j, hu with
    | 0, hu => obtain rfl := Option.some.inj hu; exact k5
    | 1, hu => obtain rfl := Option.some.inj hu; exact k6) rfl (by decide) (by decide)
  obtain ⟨y0, ls1, rfl, hr0, hls1⟩ : ∃ y0 ls1, ls = y0 :: ls1 ∧ Ev.rel tabVal0 μ1 (.rowS 265 0 28 1) y0 ∧ Ev.relL tabVal0 μ1 [.nilSlice] ls1 := by
    cases ls with
    | nil => exact hLr.elim
    | cons y ls1 => exact ⟨y, ls1, rfl, hLr.1, hLr.2⟩
  obtain rfl : ls1 = [.slice none 0 0] := by
    cases ls1 with
    | nil => exact hls1.elim
    | cons y l2 =>
      obtain ⟨e, h⟩ := hls1
      cases l2 with
      | nil => have e' : y = .slice none 0 0 := e; rw [e']
      | cons _ _ => exact h.elim
  obtain ⟨ys, vb, vf, vc, rfl, hm265, hV, hVr⟩ := h3.wrowS hr0 (us := (List.range' 1 28).map fun j : Nat => .int .i64 (.lit (j : Int))) (fun j u hu => by
    rw [List.getElem?_map] at hu
    obtain ⟨y, hy, rfl⟩ := Option.map_eq_some_iff.1 hu
    obtain ⟨hlt, rfl⟩ := List.getElem?_eq_some_iff.1 hy
    simp only [List.length_range'] at hlt
    rw [List.getElem_range', k10 j hlt]
    congr 3
    omega) (by simp) (by simp)
  obtain rfl := Ev.relL_nums _ _ hVr
  have n1 := h3.nb k2 (k10 0 (by omega)) hp hm265 (by omega)
  have n2 := h3.nb k2 k5 hp hm122 (by omega)
  obtain ⟨u0, hu0⟩ := Option.isSome_iff_exists.1 (k9 0 (by omega))
  have n3 := h3.nb k2 hu0 hp hm267 (by omega)
  have n4 := h3.nb hu0 (k10 0 (by omega)) hm267 hm265 (by omega)
  have n5 := h3.nb k5 (k10 0 (by omega)) hm122 hm265 (by omega)
  have n6 := h3.nb hu0 k5 hm267 hm122 (by omega)
  have hnames : ∀ j ∈ List.range' 1 28, Nm xs j (28 + (j : Int)) := fun j hj => by
    have hj2 := List.mem_range'_1.1 hj
    have e1 := congrArg (·[j - 1]?) hnm
    simp only [List.getElem?_map, List.getElem?_range (show j - 1 < 28 by omega), Option.map_some, Option.some.injEq] at e1
    rw [show (j - 1 + 1) * 9 + 1 = j * 9 + 1 by omega, Ev.Mem.atP_eq, show (29 + (j - 1) : Nat) = 28 + j by omega] at e1
    obtain ⟨y, hy, hr⟩ := hTr.get (j * 9 + 1) ((H.at 267 (j * 9 + 1)).getD .any) (by
      rw [List.getElem?_map, List.getElem?_range (by omega)]; rfl)
    rw [e1] at hr
    unfold Nm
    rw [hy]
    have hr2 : y = .int .i64 ((28 + j : Nat) : Int) := hr
    rw [hr2]
    congr 2
  refine ⟨_, _, xs, _, ⟨⟨_, c1⟩, c2, z2, c3, c4, z4, hT, hL, fun i v ns hi => ?_, fun i j v ns v' ns' hij hi hj => ?_, fun e => n3 (Option.some.inj e).symm, fun e => n2 (Option.some.inj e).symm, fun e => n6 (Option.some.inj e), hBp, h3.blt hp, by omega, by omega, by simp, by simp⟩, hnames⟩
  · match i, hi with
    | 0, hi =>
      cases hi
      exact ⟨hV, fun e => n1 (Option.some.inj e).symm, .inr (fun e => n4 (Option.some.inj e).symm), .inr (fun e => n5 (Option.some.inj e).symm)⟩
    | 1, hi =>
      cases hi
      exact ⟨⟨rfl, .inl ⟨rfl, rfl⟩⟩, by simp [Value.ownBlock], .inl rfl, .inl rfl⟩
  · match i, j, hi, hj with
    | 0, 0, _, _ => exact absurd rfl hij
    | 1, _, hi, _ => cases hi; exact .inl rfl
    | 0, 1, hi, hj => cases hi; cases hj; right; simp [Value.ownBlock]
theorem St_g {ρ : Ev.Val} {μ : Ev.Names} {B n : Nat} {w : World} (h : Ev.St ρ μ B (Ev.memOf sr3) n w) : Ev.St ρ μ B gMem n w := by
  refine ⟨Ev.R.sub2 h.r (fun i o v hv => ?_) gMem_cont, h.no, h.le⟩
  have hb := run3b
  have hl : lookG (Ev.memOf sr3) = (g0.map some, g2.map some, g118.map some, g125.map some, g122.map some, g265.map some, g267.map some) := by
    generalize sr3 = r at hb
    cases r with
    | none => cases hb
    | some r => obtain ⟨a, b, c⟩ := r; exact congrArg (·.2.2) (Option.some.inj hb)
  generalize Ev.memOf sr3 = H at hl
  simp only [lookG, Prod.mk.injEq] at hl
  obtain ⟨q0, q2, q118, q125, q122, q265, q267⟩ := hl
  rcases gMem_at i o v hv with ⟨rfl, h2⟩ | ⟨rfl, h2⟩ | ⟨rfl, h2⟩ | ⟨rfl, h2⟩ | ⟨rfl, h2⟩ | ⟨rfl, h2⟩ | ⟨rfl, h2⟩
  · exact Ev.row_of q0 o v h2
  · exact Ev.row_of q2 o v h2
  · exact Ev.row_of q118 o v h2
  · exact Ev.row_of q125 o v h2
  · exact Ev.row_of q122 o v h2
  · exact Ev.row_of q265 o v h2
  · exact Ev.row_of q267 o v h2
theorem scope_new2 {μ : Ev.Names} {B b f b2 f2 : Nat} {w : World} (hS : Ev.St tabVal0 μ B (Ev.memOf sr2) 121 w) (hm : μ 2 = some (b, f)) (hm2 : μ 120 = some (b2, f2)) :
    Calls Tryz.prog 7 #[.pointer (some ⟨b, f, none⟩), .pointer (some ⟨b2, f2, none⟩)] w fun e w' => ∃ μ1 p o, e = .returned (.pointer (some ⟨p, o, none⟩)) ∧ Below B w w' ∧ Ev.St tabVal0 μ1 B gMem 268 w' ∧ μ1 125 = some (p, o) ∧ μ1 2 = some (b, f) :=
  (Ev.calls_memF (Ev.noOrc_ok _ _) 1000 30 run3 hS scHas [.pointer (some ⟨b, f, none⟩), .pointer (some ⟨b2, f2, none⟩)] ⟨⟨b, f, hm, rfl⟩, ⟨b2, f2, hm2, rfl⟩, trivial⟩).mono fun e w' he => by
    obtain ⟨x, μ1, rfl, ⟨p, o, hp, rfl⟩, hle, h3, _, hb⟩ := he
    exact ⟨μ1, p, o, rfl, hb, St_g h3, hp, Ev.Names.le.at hle hm⟩
theorem names_new {μ : Ev.Names} {B : Nat} {w : World} (hS : Ev.St tabVal0 μ B gMem 268 w) : Calls Tryz.prog 14 #[] w fun e w' => ∃ μ1 nb nf, e = .returned (.slice (some ⟨nb, nf, none⟩) 13 13) ∧ Below B w w' ∧ μ.le μ1 ∧ Ev.St tabVal0 μ1 B (snM 0) 269 w' ∧ μ1 268 = some (nb, nf) :=
  (Ev.calls_memF (Ev.noOrc_ok _ _) 1000 30 runN hS scHas [] trivial).mono fun e w' he => by
    obtain ⟨x, μ1, rfl, ⟨nb, nf, hm, rfl⟩, hle, h3, _, hb⟩ := he
    exact ⟨μ1, nb, nf, rfl, hb, hle, h3, hm⟩
set_option maxRecDepth 1000000 in
theorem runI : ∀ k, k < 13 → ∃ x, Ev.outF lookN (snR k) = some (.int .i64 (.lit x), 269 + 2 * (k + 1), nm13.map fun s => some (.str s))
  | 0, _ => ⟨57, by kernel_rfl⟩
  | 1, _ => ⟨58, by kernel_rfl⟩
  | 2, _ => ⟨59, by kernel_rfl⟩
  | 3, _ => ⟨60, by kernel_rfl⟩
  | 4, _ => ⟨61, by kernel_rfl⟩
  | 5, _ => ⟨62, by kernel_rfl⟩
  | 6, _ => ⟨63, by kernel_rfl⟩
  | 7, _ => ⟨64, by kernel_rfl⟩
  | 8, _ => ⟨65, by kernel_rfl⟩
  | 9, _ => ⟨66, by kernel_rfl⟩
  | 10, _ => ⟨67, by kernel_rfl⟩
  | 11, _ => ⟨68, by kernel_rfl⟩
  | 12, _ => ⟨69, by kernel_rfl⟩
  | k + 13, h => absurd h (by omega)
theorem lookS : ∀ k, k ≤ 13 → lookN (snM k) = nm13.map fun s => some (.str s)
  | 0, _ => by
    have hb := runN
    show lookN (Ev.memOf sn0) = _
    generalize sn0 = r at hb
    cases r with
    | none => cases hb
    | some r => obtain ⟨a, b, c⟩ := r; exact congrArg (·.2.2) (Option.some.inj hb)
  | k + 1, h => by
    obtain ⟨x, hb⟩ := runI k (by omega)
    show lookN (Ev.memOf (snR k)) = _
    generalize snR k = r at hb
    cases r with
    | none => cases hb
    | some r => obtain ⟨a, b, c⟩ := r; exact congrArg (·.2.2) (Option.some.inj hb)
set_option maxRecDepth 100000 in
/-- a name more -/
theorem intern_k {μ : Ev.Names} {B b f k : Nat} {w : World} (hk : k < 13) (hS : Ev.St tabVal0 μ B (snM k) (269 + 2 * k) w) (hm : μ 2 = some (b, f)) (s : ByteArray) (hs : s = Ev.bytesOf (nmK k)) :
    Calls Tryz.prog 15 #[.pointer (some ⟨b, f, none⟩), .string s] w fun e w' => ∃ x μ1, e = .returned (.int .i64 x) ∧ Below B w w' ∧ μ.le μ1 ∧ Ev.St tabVal0 μ1 B (snM (k + 1)) (269 + 2 * (k + 1)) w' := by
  obtain ⟨y, hr⟩ := runI k hk
  have hsm : ∀ c ∈ nmK k, c < 256 := by
    have : ∀ k, k < 13 → ∀ c ∈ nmK k, c < 256 := by decide
    exact this k hk
  refine (Ev.calls_memF (Ev.noOrc_ok _ _) 1000 30 hr hS scHas [.pointer (some ⟨b, f, none⟩), .string s] ⟨⟨b, f, hm, rfl⟩, ⟨hsm, by rw [hs]⟩, trivial⟩).mono fun e w' he => ?_
  obtain ⟨x, μ1, rfl, hx, hle, h3, _, hb⟩ := he
  have hx2 : x = .int .i64 y := hx
  exact ⟨y, μ1, by rw [hx2], hb, hle, h3⟩
set_option maxRecDepth 100000 in
/-- the names themselves -/
theorem name_at {μ : Ev.Names} {B nb nf k n : Nat} {w : World} (hk : k < 13) (hS : Ev.St tabVal0 μ B (snM k) n w) (hm : μ 268 = some (nb, nf)) : w.cell? ⟨nb, nf + k, none⟩ = some (.string (Ev.bytesOf (nmK k))) := by
  have h1 := congrArg (·[k]?) (lookS k (by omega))
  have h2 : (snM k).at 268 k = some (.str (nmK k)) := by
    rw [← Ev.Mem.atP_eq]
    unfold lookN at h1
    simp only [List.getElem?_map, List.getElem?_range hk, Option.map_some] at h1
    have h3 : nm13[k]? = some (nmK k) := by
      have : ∀ k, k < 13 → nm13[k]? = some (nmK k) := by decide
      exact this k hk
    rw [h3] at h1
    exact Option.some.inj h1
  obtain ⟨x, _, hc, hr, _⟩ := hS.cell h2 hm
  rw [hc]
  exact congrArg some hr.2
end
end Go.Proofs.YtpnohekidpphfaaGreatDoor

/-
  The sources of the compiler in its own language: their names, and how each begins.
-/
import Derived.Test.YtkeehdaeanmiiaaSlfA
import Derived.Lib.ConvBytes
namespace Go.Proofs.Ytkeehdaeanmiiaa
open Go.ChangeShapes Go.WideShapes Go.ChangeAt Go.RowKit
open Ev (WRow)
set_option linter.unusedVariables false
set_option linter.unusedSimpArgs false
def nmScan : List UInt8 := [83, 99, 97, 110]
def nmTypes : List UInt8 := [84, 121, 112, 101, 115]
def nmScope : List UInt8 := [83, 99, 111, 112, 101]
def nmGen : List UInt8 := [71, 101, 110]
def nmMain : List UInt8 := [77, 97, 105, 110]
def mdL : List (List UInt8) := [nmScan, nmTypes, nmScope, nmGen, nmMain]
theorem mdL_ok : ∀ nm ∈ mdL, NmOk nm := by
  unfold NmOk
  decide
theorem mdL_nodup : mdL.Nodup := by decide
/-- a text that begins as a module of that name does -/
def Good (nm : List UInt8) (t : ByteArray) : Prop := 10 ≤ t.size ∧ t.size ≤ 65535 ∧ ∃ rest : List UInt8, t.data.toList = [77, 79, 68, 85, 76, 69, 32] ++ (nm ++ (59 :: rest))
theorem good_of {nm : List UInt8} {l : List UInt8} {n : Nat} (h1 : Ev.lenL l = n) (h2 : 10 ≤ n) (h3 : n ≤ 65535) (h4 : l.take (8 + nm.length) = [77, 79, 68, 85, 76, 69, 32] ++ (nm ++ [59])) : Good nm ⟨l.toArray⟩ := by
  rw [Ev.lenL_eq] at h1
  have hs : (⟨l.toArray⟩ : ByteArray).size = n := by show l.toArray.size = n; simpa using h1
  refine ⟨by rw [hs]; exact h2, by rw [hs]; exact h3, l.drop (8 + nm.length), ?_⟩
  show l.toArray.toList = _
  conv => lhs; rw [List.toList_toArray, ← List.take_append_drop (8 + nm.length) l, h4]
  simp
theorem modules_any (w : World) : Calls Try.prog 5 #[] w fun e w' => e = .returned (.slice (some ⟨w.heap.size, 0, none⟩) 5 5) ∧ w' = w.alloc (.cells (mdL.map fun k => Value.string (bs k)).toArray 9) := by
  go_enter Try.func5, Try.ntmps5
  go_wp2
  go_ret
  exact ⟨rfl, rfl⟩
theorem known21 (w : World) : Calls Try.prog 4 #[] w fun e w' => e = .returned (.bool true) ∧ Below w.heap.size w w' := by
  have HM := Lib.hid (modules_any w)
  have hc4 : (w.alloc (.cells (mdL.map fun k => Value.string (bs k)).toArray 9)).cell? ⟨w.heap.size, 4, none⟩ = some (.string { data := #[77, 97, 105, 110] }) := by
    rw [World.cell?, heap_alloc_new]; rfl
  go_enter Try.func4, Try.ntmps4
  go_wp2_with (go_at_call 5; (refine HM.out.mono ?_); rintro e w' ⟨rfl, rfl⟩)
  go_ret
  exact ⟨rfl, (Below.refl _ _).alloc (Nat.le_refl _) _⟩
/-- what is told of a name -/
def Told21 (nm : ByteArray) (e : Ending) : Prop := (∃ l ∈ mdL, nm = bs l ∧ ∃ t, e = .returned (.tuple #[.string t, .bool true]) ∧ Good l t) ∨ ((∀ l ∈ mdL, nm ≠ bs l) ∧ e = .returned (.tuple #[.string ⟨#[]⟩, .bool false]))
set_option maxRecDepth 1000000 in
set_option maxHeartbeats 4000000 in
theorem source_any (nm : ByteArray) (w : World) : Calls Try.prog 6 #[.string nm] w fun e w' => Told21 nm e ∧ w = w' := by
  by_cases h0 : nm = { data := #[83, 99, 97, 110] }
  · subst h0
    go_enter Try.func6, Try.ntmps6
    go_wp2
    go_ret2
    refine ⟨.inl ⟨nmScan, by decide, rfl, _, rfl, good_of (n := 6978) ?a0 ?b0 ?c0 ?d0⟩, rfl⟩
    case a0 => kernel_rfl
    case b0 => decide
    case c0 => decide
    case d0 => kernel_rfl
  have g0 : (nm.toList == ByteArray.toList { data := #[83, 99, 97, 110] }) = false := by
    have := qbs_eq nm.data.toList nmScan
    rw [bs_data] at this
    refine this.trans (decide_eq_false fun e => h0 ?_)
    rw [← bs_data nm, e]; rfl
  have f0 : (nm.toList == [83, 99, 97, 110]) = false := by
    have := g0
    rwa [show ByteArray.toList { data := #[83, 99, 97, 110] } = [83, 99, 97, 110] from by rw [ByteArray.toList_eq]] at this
  by_cases h1 : nm = { data := #[84, 121, 112, 101, 115] }
  · subst h1
    go_enter Try.func6, Try.ntmps6
    go_wp2
    go_ret2
    refine ⟨.inl ⟨nmTypes, by decide, rfl, _, rfl, good_of (n := 3861) ?a1 ?b1 ?c1 ?d1⟩, rfl⟩
    case a1 => kernel_rfl
    case b1 => decide
    case c1 => decide
    case d1 => kernel_rfl
  have g1 : (nm.toList == ByteArray.toList { data := #[84, 121, 112, 101, 115] }) = false := by
    have := qbs_eq nm.data.toList nmTypes
    rw [bs_data] at this
    refine this.trans (decide_eq_false fun e => h1 ?_)
    rw [← bs_data nm, e]; rfl
  have f1 : (nm.toList == [84, 121, 112, 101, 115]) = false := by
    have := g1
    rwa [show ByteArray.toList { data := #[84, 121, 112, 101, 115] } = [84, 121, 112, 101, 115] from by rw [ByteArray.toList_eq]] at this
  by_cases h2 : nm = { data := #[83, 99, 111, 112, 101] }
  · subst h2
    go_enter Try.func6, Try.ntmps6
    go_wp2
    go_ret2
    refine ⟨.inl ⟨nmScope, by decide, rfl, _, rfl, good_of (n := 17829) ?a2 ?b2 ?c2 ?d2⟩, rfl⟩
    case a2 => kernel_rfl
    case b2 => decide
    case c2 => decide
    case d2 => kernel_rfl
  have g2 : (nm.toList == ByteArray.toList { data := #[83, 99, 111, 112, 101] }) = false := by
    have := qbs_eq nm.data.toList nmScope
    rw [bs_data] at this
    refine this.trans (decide_eq_false fun e => h2 ?_)
    rw [← bs_data nm, e]; rfl
  have f2 : (nm.toList == [83, 99, 111, 112, 101]) = false := by
    have := g2
    rwa [show ByteArray.toList { data := #[83, 99, 111, 112, 101] } = [83, 99, 111, 112, 101] from by rw [ByteArray.toList_eq]] at this
  by_cases h3 : nm = { data := #[71, 101, 110] }
  · subst h3
    go_enter Try.func6, Try.ntmps6
    go_wp2
    go_ret2
    refine ⟨.inl ⟨nmGen, by decide, rfl, _, rfl, good_of (n := 13118) ?a3 ?b3 ?c3 ?d3⟩, rfl⟩
    case a3 => kernel_rfl
    case b3 => decide
    case c3 => decide
    case d3 => kernel_rfl
  have g3 : (nm.toList == ByteArray.toList { data := #[71, 101, 110] }) = false := by
    have := qbs_eq nm.data.toList nmGen
    rw [bs_data] at this
    refine this.trans (decide_eq_false fun e => h3 ?_)
    rw [← bs_data nm, e]; rfl
  have f3 : (nm.toList == [71, 101, 110]) = false := by
    have := g3
    rwa [show ByteArray.toList { data := #[71, 101, 110] } = [71, 101, 110] from by rw [ByteArray.toList_eq]] at this
  by_cases h4 : nm = { data := #[77, 97, 105, 110] }
  · subst h4
    go_enter Try.func6, Try.ntmps6
    go_wp2
    go_ret2
    refine ⟨.inl ⟨nmMain, by decide, rfl, _, rfl, good_of (n := 31978) ?a4 ?b4 ?c4 ?d4⟩, rfl⟩
    case a4 => kernel_rfl
    case b4 => decide
    case c4 => decide
    case d4 => kernel_rfl
  have g4 : (nm.toList == ByteArray.toList { data := #[77, 97, 105, 110] }) = false := by
    have := qbs_eq nm.data.toList nmMain
    rw [bs_data] at this
    refine this.trans (decide_eq_false fun e => h4 ?_)
    rw [← bs_data nm, e]; rfl
  have f4 : (nm.toList == [77, 97, 105, 110]) = false := by
    have := g4
    rwa [show ByteArray.toList { data := #[77, 97, 105, 110] } = [77, 97, 105, 110] from by rw [ByteArray.toList_eq]] at this
  go_enter Try.func6, Try.ntmps6
  go_wp2
  go_ret2
  refine ⟨.inr ⟨?_, rfl⟩, rfl⟩
  intro l hl e
  unfold mdL at hl
  simp only [List.mem_cons, List.not_mem_nil, or_false] at hl
  rcases hl with rfl | rfl | rfl | rfl | rfl
  · exact h0 e
  · exact h1 e
  · exact h2 e
  · exact h3 e
  · exact h4 e
end Go.Proofs.Ytkeehdaeanmiiaa

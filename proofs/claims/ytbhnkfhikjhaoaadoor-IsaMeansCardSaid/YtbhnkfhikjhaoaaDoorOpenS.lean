/-
  Processors and instructions, as they come in by value: their cells.
-/
import Derived.Test.YtbhnkfhikjhaoaaDoorMeansN
namespace Go.Proofs.YtbhnkfhikjhaoaaDoor
open Go.ChangeShapes Go.WideShapes Go.ChangeAt Go.RowKit
set_option linter.unusedVariables false

section
variable {w : World} {r : Reach} {base : Nat}
theorem cell_int {u : TypeId} {k : IntKind} {v : Value} (hu : Tryd.prog.underlying u = some (.int k)) (h : Cell.okWide Tryd.prog w r base u v) : ∃ n, v = .int k n ∧ k.min ≤ n ∧ n ≤ k.max := by
  simp only [Cell.okWide, hu, Cell.ok] at h
  cases v <;> simp_all
  exact ⟨h.2.1, h.2.2⟩
theorem cell_bool {u : TypeId} {v : Value} (hu : Tryd.prog.underlying u = some .bool) (h : Cell.okWide Tryd.prog w r base u v) : ∃ b, v = .bool b := by
  simp only [Cell.okWide, hu, Cell.ok] at h
  cases v <;> simp_all
theorem row_cells {t : TypeId} {fs : Array Field} {v : Value} {ts : List TypeId} (hs : Tryd.prog.underlying t = some (.struct fs)) (hts : Tryd.prog.cellTypes Tryd.prog.depth t = some ts) (hn : Tryd.prog.cellsOf t = ts.length) (h : Value.okWide Tryd.prog w r base t v) :
    ∃ cs : Array Value, v = .agg cs ∧ cs.size = ts.length ∧ ∀ i (hi : i < ts.length), ∃ x, cs[i]? = some x ∧ Cell.okWide Tryd.prog w r base ts[i] x := by
  simp only [Value.okWide, hs] at h
  obtain ⟨cs, rfl, hsz, ts', hts', _, hc⟩ := h
  rw [hts] at hts'
  injection hts' with e
  subst e
  rw [hn] at hsz
  refine ⟨cs, rfl, hsz, fun i hi => ?_⟩
  have hi' : i < cs.size := by omega
  obtain ⟨u, hu, hok⟩ := hc i cs[i] (Array.getElem?_eq_getElem hi')
  rw [Nat.mod_eq_of_lt hi, List.getElem?_eq_getElem hi] at hu
  injection hu with hu
  subst hu
  exact ⟨cs[i], Array.getElem?_eq_getElem hi', hok⟩
end
structure InsWf (i : Ins) : Prop where
  form : -9223372036854775808 ≤ i.form ∧ i.form ≤ 9223372036854775807
  a : -9223372036854775808 ≤ i.a ∧ i.a ≤ 9223372036854775807
  b : -9223372036854775808 ≤ i.b ∧ i.b ≤ 9223372036854775807
  c : -9223372036854775808 ≤ i.c ∧ i.c ≤ 9223372036854775807
  op : -9223372036854775808 ≤ i.op ∧ i.op ≤ 9223372036854775807
  im : -9223372036854775808 ≤ i.im ∧ i.im ≤ 9223372036854775807
  off : -9223372036854775808 ≤ i.off ∧ i.off ≤ 9223372036854775807
  cond : -9223372036854775808 ≤ i.cond ∧ i.cond ≤ 9223372036854775807
  n : -9223372036854775808 ≤ i.n ∧ i.n ≤ 9223372036854775807
theorem open_ins {w : World} {r : Reach} {base : Nat} {v : Value} (h : Value.okWide Tryd.prog w r base 24 v) : ∃ i, v = .agg (insCells i) ∧ InsWf i := by
  obtain ⟨cs, rfl, hsz, hc⟩ := row_cells (ts := [22, 4, 4, 3, 3, 3, 3, 3, 3, 3, 3]) Tryd.underlying24 (by kernel_rfl) (by kernel_rfl) h
  have num : ∀ (x : Value) (u : TypeId), Tryd.prog.underlying u = some (.int .i64) → Cell.okWide Tryd.prog w r base u x → ∃ n : Int, x = .int .i64 n ∧ -9223372036854775808 ≤ n ∧ n ≤ 9223372036854775807 := by
    intro x u hu hok
    obtain ⟨n, rfl, h0, h1⟩ := cell_int hu hok
    exact ⟨n, rfl, by simpa [IntKind.min, IntKind.signed, IntKind.bits] using h0, by simpa [IntKind.max, IntKind.signed, IntKind.bits] using h1⟩
  obtain ⟨x0, h0, k0⟩ := hc 0 (by simp)
  obtain ⟨x1, h1, k1⟩ := hc 1 (by simp)
  obtain ⟨x2, h2, k2⟩ := hc 2 (by simp)
  obtain ⟨x3, h3, k3⟩ := hc 3 (by simp)
  obtain ⟨x4, h4, k4⟩ := hc 4 (by simp)
  obtain ⟨x5, h5, k5⟩ := hc 5 (by simp)
  obtain ⟨x6, h6, k6⟩ := hc 6 (by simp)
  obtain ⟨x7, h7, k7⟩ := hc 7 (by simp)
  obtain ⟨x8, h8, k8⟩ := hc 8 (by simp)
  obtain ⟨x9, h9, k9⟩ := hc 9 (by simp)
  obtain ⟨x10, h10, k10⟩ := hc 10 (by simp)
  obtain ⟨n0, rfl, w0⟩ := num x0 _ Tryd.underlying22 k0
  obtain ⟨b1, rfl⟩ := cell_bool Tryd.underlying4 k1
  obtain ⟨b2, rfl⟩ := cell_bool Tryd.underlying4 k2
  obtain ⟨n3, rfl, w3⟩ := num x3 _ Tryd.underlying3 k3
  obtain ⟨n4, rfl, w4⟩ := num x4 _ Tryd.underlying3 k4
  obtain ⟨n5, rfl, w5⟩ := num x5 _ Tryd.underlying3 k5
  obtain ⟨n6, rfl, w6⟩ := num x6 _ Tryd.underlying3 k6
  obtain ⟨n7, rfl, w7⟩ := num x7 _ Tryd.underlying3 k7
  obtain ⟨n8, rfl, w8⟩ := num x8 _ Tryd.underlying3 k8
  obtain ⟨n9, rfl, w9⟩ := num x9 _ Tryd.underlying3 k9
  obtain ⟨n10, rfl, w10⟩ := num x10 _ Tryd.underlying3 k10
  refine ⟨⟨n0, b1, b2, n3, n4, n5, n6, n7, n8, n9, n10⟩, ?_, ⟨w0, w3, w4, w5, w6, w7, w8, w9, w10⟩⟩
  congr 1
  apply Array.ext_getElem?
  intro i
  by_cases hi : i < 11
  · have : i = 0 ∨ i = 1 ∨ i = 2 ∨ i = 3 ∨ i = 4 ∨ i = 5 ∨ i = 6 ∨ i = 7 ∨ i = 8 ∨ i = 9 ∨ i = 10 := by omega
    rcases this with rfl | rfl | rfl | rfl | rfl | rfl | rfl | rfl | rfl | rfl | rfl <;> assumption
  · rw [Array.getElem?_eq_none (by simp at hsz; omega), Array.getElem?_eq_none (by show 11 ≤ i; omega)]
end Go.Proofs.YtbhnkfhikjhaoaaDoor

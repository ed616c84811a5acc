/-
  Processors and instructions, as they come in by value: their cells.
-/
import Derived.Test.YtgjecfchnokcfaaRiscN
import Derived.Test.YtgjecfchnokcfaaRiscB
namespace Go.Proofs.Ytgjecfchnokcfaa
open Go.ChangeShapes Go.WideShapes Go.ChangeAt Go.RowKit
set_option linter.unusedVariables false

section
variable {w : World} {r : Reach} {base : Nat}
theorem cell_int {u : TypeId} {k : IntKind} {v : Value} (hu : Try.prog.underlying u = some (.int k)) (h : Cell.okWide Try.prog w r base u v) : ∃ n, v = .int k n ∧ k.min ≤ n ∧ n ≤ k.max := by
  simp only [Cell.okWide, hu, Cell.ok] at h
  cases v <;> simp_all
  exact ⟨h.2.1, h.2.2⟩
theorem cell_bool {u : TypeId} {v : Value} (hu : Try.prog.underlying u = some .bool) (h : Cell.okWide Try.prog w r base u v) : ∃ b, v = .bool b := by
  simp only [Cell.okWide, hu, Cell.ok] at h
  cases v <;> simp_all
theorem row_cells {t : TypeId} {fs : Array Field} {v : Value} {ts : List TypeId} (hs : Try.prog.underlying t = some (.struct fs)) (hts : Try.prog.cellTypes Try.prog.depth t = some ts) (hn : Try.prog.cellsOf t = ts.length) (h : Value.okWide Try.prog w r base t v) :
    ∃ cs : Array Value, v = .agg cs ∧ cs.size = ts.length ∧ ∀ i (hi : i < ts.length), ∃ x, cs[i]? = some x ∧ Cell.okWide Try.prog w r base ts[i] x := by
  simp only [Value.okWide, hs] at h
  obtain ⟨cs, rfl, hsz, ts', hts', _, hc⟩ := h
  rw [hts] at hts'
  injection hts' with e
  subst e
  rw [hn] at hsz
  refine ⟨cs, rfl, hsz, fun i hi => ?_⟩
  have hi' : i < cs.size := by omega
  obtain ⟨u, hu, hok⟩ := hc i cs[i] (Array.getElem?_eq_getElem hi')
  rw [Nat.mod_eq_of_lt hi, List.getElem?_eq_getElem hi] at hu
  injection hu with hu
  subst hu
  exact ⟨cs[i], Array.getElem?_eq_getElem hi', hok⟩
end
structure CpuWf (c : Cpu) : Prop where
  r : ∀ k, 0 ≤ c.r k ∧ c.r k ≤ 4294967295
  h : 0 ≤ c.h ∧ c.h ≤ 4294967295
  pc : 0 ≤ c.pc ∧ c.pc ≤ 4294967295
theorem open_cpu {w : World} {r : Reach} {base : Nat} {v : Value} (h : Value.okWide Try.prog w r base 25 v) : ∃ c, v = .agg (cpuCells c) ∧ CpuWf c := by
  obtain ⟨cs, rfl, hsz, hc⟩ := row_cells (ts := [22, 22, 22, 22, 22, 22, 22, 22, 22, 22, 22, 22, 22, 22, 22, 22, 22, 4, 4, 4, 4, 22]) Try.underlying25 (by kernel_rfl) (by kernel_rfl) h
  have num : ∀ i, i < 17 ∨ i = 21 → ∃ n : Int, cs[i]? = some (.int .u32 n) ∧ 0 ≤ n ∧ n ≤ 4294967295 := by
    intro i hi
    obtain ⟨x, hx, hok⟩ := hc i (by simp; omega)
    have hu : Try.prog.underlying ([22, 22, 22, 22, 22, 22, 22, 22, 22, 22, 22, 22, 22, 22, 22, 22, 22, 4, 4, 4, 4, 22][i]'(by simp; omega)) = some (.int .u32) := by
      have : i = 0 ∨ i = 1 ∨ i = 2 ∨ i = 3 ∨ i = 4 ∨ i = 5 ∨ i = 6 ∨ i = 7 ∨ i = 8 ∨ i = 9 ∨ i = 10 ∨ i = 11 ∨ i = 12 ∨ i = 13 ∨ i = 14 ∨ i = 15 ∨ i = 16 ∨ i = 21 := by omega
      rcases this with rfl | rfl | rfl | rfl | rfl | rfl | rfl | rfl | rfl | rfl | rfl | rfl | rfl | rfl | rfl | rfl | rfl | rfl <;> exact Try.underlying22
    obtain ⟨n, rfl, h0, h1⟩ := cell_int hu hok
    exact ⟨n, hx, by simpa [IntKind.min, IntKind.signed] using h0, by simpa [IntKind.max, IntKind.signed, IntKind.bits] using h1⟩
  have flag : ∀ i, 17 ≤ i → i ≤ 20 → ∃ b : Bool, cs[i]? = some (.bool b) := by
    intro i h0 h1
    obtain ⟨x, hx, hok⟩ := hc i (by simp; omega)
    have hu : Try.prog.underlying ([22, 22, 22, 22, 22, 22, 22, 22, 22, 22, 22, 22, 22, 22, 22, 22, 22, 4, 4, 4, 4, 22][i]'(by simp; omega)) = some .bool := by
      have : i = 17 ∨ i = 18 ∨ i = 19 ∨ i = 20 := by omega
      rcases this with rfl | rfl | rfl | rfl <;> exact Try.underlying4
    obtain ⟨b, rfl⟩ := cell_bool hu hok
    exact ⟨b, hx⟩
  have reg : ∃ f : Nat → Int, ∀ i, i < 16 → cs[i]? = some (.int .u32 (f i)) ∧ 0 ≤ f i ∧ f i ≤ 4294967295 := by
    refine ⟨fun i => if hi : i < 16 then Classical.choose (num i (by omega)) else 0, fun i hi => ?_⟩
    dsimp only
    rw [dif_pos hi]
    exact Classical.choose_spec (num i (by omega))
  obtain ⟨f, hf⟩ := reg
  obtain ⟨h, hh, h0, h1⟩ := num 16 (by omega)
  obtain ⟨pc, hp, p0, p1⟩ := num 21 (by omega)
  obtain ⟨n, hn⟩ := flag 17 (by omega) (by omega)
  obtain ⟨z, hz⟩ := flag 18 (by omega) (by omega)
  obtain ⟨c, hcc⟩ := flag 19 (by omega) (by omega)
  obtain ⟨v, hv⟩ := flag 20 (by omega) (by omega)
  refine ⟨⟨fun i => if i < 16 then f i else 0, h, n, z, c, v, pc⟩, ?_, ⟨fun k => ?_, ⟨h0, h1⟩, ⟨p0, p1⟩⟩⟩
  · congr 1
    apply Array.ext_getElem?
    intro i
    by_cases hi : i < 22
    · have : i = 0 ∨ i = 1 ∨ i = 2 ∨ i = 3 ∨ i = 4 ∨ i = 5 ∨ i = 6 ∨ i = 7 ∨ i = 8 ∨ i = 9 ∨ i = 10 ∨ i = 11 ∨ i = 12 ∨ i = 13 ∨ i = 14 ∨ i = 15 ∨ i = 16 ∨ i = 17 ∨ i = 18 ∨ i = 19 ∨ i = 20 ∨ i = 21 := by omega
      rcases this with rfl | rfl | rfl | rfl | rfl | rfl | rfl | rfl | rfl | rfl | rfl | rfl | rfl | rfl | rfl | rfl | rfl | rfl | rfl | rfl | rfl | rfl
      all_goals first
        | exact (hf _ (by omega)).1
        | exact hh
        | exact hn
        | exact hz
        | exact hcc
        | exact hv
        | exact hp
    · rw [Array.getElem?_eq_none (by simp at hsz; omega), Array.getElem?_eq_none (by show 22 ≤ i; omega)]
  · dsimp only
    split
    · rename_i hk; exact (hf k hk).2
    · omega
structure InsWf (i : Ins) : Prop where
  form : -9223372036854775808 ≤ i.form ∧ i.form ≤ 9223372036854775807
  a : -9223372036854775808 ≤ i.a ∧ i.a ≤ 9223372036854775807
  b : -9223372036854775808 ≤ i.b ∧ i.b ≤ 9223372036854775807
  c : -9223372036854775808 ≤ i.c ∧ i.c ≤ 9223372036854775807
  op : -9223372036854775808 ≤ i.op ∧ i.op ≤ 9223372036854775807
  im : -9223372036854775808 ≤ i.im ∧ i.im ≤ 9223372036854775807
  off : -9223372036854775808 ≤ i.off ∧ i.off ≤ 9223372036854775807
  cond : -9223372036854775808 ≤ i.cond ∧ i.cond ≤ 9223372036854775807
  n : -9223372036854775808 ≤ i.n ∧ i.n ≤ 9223372036854775807
theorem open_ins {w : World} {r : Reach} {base : Nat} {v : Value} (h : Value.okWide Try.prog w r base 44 v) : ∃ i, v = .agg (insCells i) ∧ InsWf i := by
  obtain ⟨cs, rfl, hsz, hc⟩ := row_cells (ts := [42, 4, 4, 3, 3, 3, 3, 3, 3, 3, 3]) Try.underlying44 (by kernel_rfl) (by kernel_rfl) h
  have num : ∀ (x : Value) (u : TypeId), Try.prog.underlying u = some (.int .i64) → Cell.okWide Try.prog w r base u x → ∃ n : Int, x = .int .i64 n ∧ -9223372036854775808 ≤ n ∧ n ≤ 9223372036854775807 := by
    intro x u hu hok
    obtain ⟨n, rfl, h0, h1⟩ := cell_int hu hok
    exact ⟨n, rfl, by simpa [IntKind.min, IntKind.signed, IntKind.bits] using h0, by simpa [IntKind.max, IntKind.signed, IntKind.bits] using h1⟩
  obtain ⟨x0, h0, k0⟩ := hc 0 (by simp)
  obtain ⟨x1, h1, k1⟩ := hc 1 (by simp)
  obtain ⟨x2, h2, k2⟩ := hc 2 (by simp)
  obtain ⟨x3, h3, k3⟩ := hc 3 (by simp)
  obtain ⟨x4, h4, k4⟩ := hc 4 (by simp)
  obtain ⟨x5, h5, k5⟩ := hc 5 (by simp)
  obtain ⟨x6, h6, k6⟩ := hc 6 (by simp)
  obtain ⟨x7, h7, k7⟩ := hc 7 (by simp)
  obtain ⟨x8, h8, k8⟩ := hc 8 (by simp)
  obtain ⟨x9, h9, k9⟩ := hc 9 (by simp)
  obtain ⟨x10, h10, k10⟩ := hc 10 (by simp)
  obtain ⟨n0, rfl, w0⟩ := num x0 _ Try.underlying42 k0
  obtain ⟨b1, rfl⟩ := cell_bool Try.underlying4 k1
  obtain ⟨b2, rfl⟩ := cell_bool Try.underlying4 k2
  obtain ⟨n3, rfl, w3⟩ := num x3 _ Try.underlying3 k3
  obtain ⟨n4, rfl, w4⟩ := num x4 _ Try.underlying3 k4
  obtain ⟨n5, rfl, w5⟩ := num x5 _ Try.underlying3 k5
  obtain ⟨n6, rfl, w6⟩ := num x6 _ Try.underlying3 k6
  obtain ⟨n7, rfl, w7⟩ := num x7 _ Try.underlying3 k7
  obtain ⟨n8, rfl, w8⟩ := num x8 _ Try.underlying3 k8
  obtain ⟨n9, rfl, w9⟩ := num x9 _ Try.underlying3 k9
  obtain ⟨n10, rfl, w10⟩ := num x10 _ Try.underlying3 k10
  refine ⟨⟨n0, b1, b2, n3, n4, n5, n6, n7, n8, n9, n10⟩, ?_, ⟨w0, w3, w4, w5, w6, w7, w8, w9, w10⟩⟩
  congr 1
  apply Array.ext_getElem?
  intro i
  by_cases hi : i < 11
  · have : i = 0 ∨ i = 1 ∨ i = 2 ∨ i = 3 ∨ i = 4 ∨ i = 5 ∨ i = 6 ∨ i = 7 ∨ i = 8 ∨ i = 9 ∨ i = 10 := by omega
    rcases this with rfl | rfl | rfl | rfl | rfl | rfl | rfl | rfl | rfl | rfl | rfl <;> assumption
  · rw [Array.getElem?_eq_none (by simp at hsz; omega), Array.getElem?_eq_none (by show 11 ≤ i; omega)]
end Go.Proofs.Ytgjecfchnokcfaa

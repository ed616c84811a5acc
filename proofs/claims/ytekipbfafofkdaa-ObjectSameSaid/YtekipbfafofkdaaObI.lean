/-
  An object that came in, read as data.
-/
import Derived.Test.YtekipbfafofkdaaObP
import Derived.ChangeArms
import Derived.OpenShut
namespace Go.Proofs.Ytekipbfafofkdaa
open Go.ChangeShapes Go.WideShapes Go.ChangeAt Go.RowKit
set_option linter.unusedVariables false
theorem below1 (w : World) (a : Obj) : Below w.heap.size w (w.alloc a) := (Below.refl _ _).alloc (Nat.le_refl _) _
/-- an import, there -/
structure ImpAt (w : World) (y : Addr) (n : ByteArray) (k : Int) : Prop where
  c0 : w.cell? y = some (.string n)
  c1 : w.cell? ⟨y.block, y.off + 1, none⟩ = some (.int .u32 k)
/-- a fixup, there -/
structure FixAt (w : World) (y : Addr) (p q r : Int) : Prop where
  c0 : w.cell? y = some (.int .i64 p)
  c1 : w.cell? ⟨y.block, y.off + 1, none⟩ = some (.int .i64 q)
  c2 : w.cell? ⟨y.block, y.off + 2, none⟩ = some (.int .i64 r)
theorem ImpAt.below {w W : World} {y : Addr} {n : ByteArray} {k : Int} (h : ImpAt w y n k) (hb : y.block < w.heap.size) (hw : Below w.heap.size w W) : ImpAt W y n k :=
  ⟨by rw [hw.cell hb]; exact h.c0, by rw [hw.cell (p := ⟨y.block, y.off + 1, none⟩) hb]; exact h.c1⟩
theorem FixAt.below {w W : World} {y : Addr} {p q r : Int} (h : FixAt w y p q r) (hb : y.block < w.heap.size) (hw : Below w.heap.size w W) : FixAt W y p q r :=
  ⟨by rw [hw.cell hb]; exact h.c0, by rw [hw.cell (p := ⟨y.block, y.off + 1, none⟩) hb]; exact h.c1, by rw [hw.cell (p := ⟨y.block, y.off + 2, none⟩) hb]; exact h.c2⟩
def ImpsIs (w : World) (l : List (ByteArray × Int)) (a : Option Addr) (len cap : Nat) : Prop :=
  l.length = len ∧ len ≤ cap ∧ cap ≤ maxLen ∧ (∀ p ∈ l, p.1.size ≤ maxLen ∧ (Lit.int .u32 p.2).wf = true) ∧ (0 < len → ∃ x, a = some x ∧ x.block < w.heap.size ∧ ∀ (j : Nat) (p : ByteArray × Int), l[j]? = some p → ImpAt w (x.add (j * 2)) p.1 p.2)
def FixsIs (w : World) (l : List (Int × Int × Int)) (a : Option Addr) (len cap : Nat) : Prop :=
  l.length = len ∧ len ≤ cap ∧ cap ≤ maxLen ∧ (∀ p ∈ l, (Lit.int .i64 p.1).wf = true ∧ (Lit.int .i64 p.2.1).wf = true ∧ (Lit.int .i64 p.2.2).wf = true) ∧ (0 < len → ∃ x, a = some x ∧ x.block < w.heap.size ∧ ∀ (j : Nat) (p : Int × Int × Int), l[j]? = some p → FixAt w (x.add (j * 3)) p.1 p.2.1 p.2.2)
/-- an object's own cells -/
def ob (n : ByteArray) (key : Int) (ai : Option Addr) (li ci : Nat) (vars : Int) (at_ : Option Addr) (lt ct : Nat) (ac : Option Addr) (lc cc : Nat) (ae : Option Addr) (le ce : Nat) (af : Option Addr) (lf cf : Nat) : Value :=
  .agg #[.string n, .int .u32 key, .slice ai li ci, .int .i64 vars, .slice at_ lt ct, .slice ac lc cc, .slice ae le ce, .slice af lf cf]
structure ObRows (w : World) (o : Ob) (ai : Option Addr) (li ci : Nat) (at_ : Option Addr) (lt ct : Nat) (ac : Option Addr) (lc cc : Nat) (ae : Option Addr) (le ce : Nat) (af : Option Addr) (lf cf : Nat) : Prop where
  hn : o.name.size ≤ maxLen
  hk : (Lit.int .u32 o.key).wf = true
  hv : (Lit.int .i64 o.vars).wf = true
  imps : ImpsIs w o.imps ai li ci
  text : IsRow .u8 w at_ lt ct o.text
  code : IsRow .u32 w ac lc cc o.code
  ents : IsRow .i64 w ae le ce o.ents
  fixs : FixsIs w o.fixs af lf cf
def ObIs (w : World) (o : Ob) (v : Value) : Prop := ∃ ai li ci at_ lt ct ac lc cc ae le ce af lf cf, v = ob o.name o.key ai li ci o.vars at_ lt ct ac lc cc ae le ce af lf cf ∧ ObRows w o ai li ci at_ lt ct ac lc cc ae le ce af lf cf
theorem cellsO : Try.prog.cellsOf 29 = 8 ∧ Try.prog.cellsOf 45 = 2 ∧ Try.prog.cellsOf 51 = 3 := by
  refine ⟨?_, ?_, ?_⟩ <;> kernel_rfl
theorem cells1 : Try.prog.cellsOf 3 = 1 ∧ Try.prog.cellsOf 9 = 1 ∧ Try.prog.cellsOf 22 = 1 ∧ Try.prog.cellsOf 5 = 1 ∧ Try.prog.cellsOf 23 = 1 ∧ Try.prog.cellsOf 27 = 1 ∧ Try.prog.cellsOf 24 = 1 ∧ Try.prog.cellsOf 25 = 1 ∧ Try.prog.cellsOf 26 = 1 := by
  refine ⟨?_, ?_, ?_, ?_, ?_, ?_, ?_, ?_, ?_⟩ <;> kernel_rfl
section
variable {H : Type} {enc : TypeId × Value → H} {W : World} {held : Bool}
theorem imp_of {fuel : Nat} {cs : List Value} {x : DataW H × List MemPlace} (h : DataW.trod enc Try.prog W 0 (fun _ => true) held fuel 45 cs = some x) : ∃ n k, cs = [.string n, .int .u32 k] ∧ n.size ≤ maxLen ∧ (Lit.int .u32 k).wf = true := by
  obtain ⟨xs, n, rfl, -, hcl, hxl, hf⟩ := DataW.trod_struct Try.underlying45 h
  rw [cellsO.2.1] at hcl
  obtain ⟨c0, c1, rfl⟩ : ∃ a b, cs = [a, b] := by
    match cs, hcl with
    | [a, b], _ => exact ⟨a, b, rfl⟩
  have hx2 : xs.length = 2 := hxl
  have f0 := hf 0 _ rfl
  change DataW.trod enc Try.prog W 0 (fun _ => true) held n 9 ((List.drop 0 [c0, c1]).take (Try.prog.cellsOf 9)) = _ at f0
  rw [cells1.2.1, List.getElem?_eq_getElem (by omega)] at f0
  change DataW.trod enc Try.prog W 0 (fun _ => true) held n 9 [c0] = _ at f0
  have f1 := hf 1 _ rfl
  change DataW.trod enc Try.prog W 0 (fun _ => true) held n 22 ((List.drop 1 [c0, c1]).take (Try.prog.cellsOf 22)) = _ at f1
  rw [cells1.2.2.1, List.getElem?_eq_getElem (by omega)] at f1
  change DataW.trod enc Try.prog W 0 (fun _ => true) held n 22 [c1] = _ at f1
  obtain ⟨s, e0, -, w0⟩ := DataW.trod_string Try.underlying9 f0
  obtain ⟨k, e1, -, w1⟩ := DataW.trod_int Try.underlying22 f1
  cases e0; cases e1
  exact ⟨s, k, rfl, w0, w1⟩
theorem fix_of {fuel : Nat} {cs : List Value} {x : DataW H × List MemPlace} (h : DataW.trod enc Try.prog W 0 (fun _ => true) held fuel 51 cs = some x) : ∃ p q r, cs = [.int .i64 p, .int .i64 q, .int .i64 r] ∧ (Lit.int .i64 p).wf = true ∧ (Lit.int .i64 q).wf = true ∧ (Lit.int .i64 r).wf = true := by
  obtain ⟨xs, n, rfl, -, hcl, hxl, hf⟩ := DataW.trod_struct Try.underlying51 h
  rw [cellsO.2.2] at hcl
  obtain ⟨c0, c1, c2, rfl⟩ : ∃ a b c, cs = [a, b, c] := by
    match cs, hcl with
    | [a, b, c], _ => exact ⟨a, b, c, rfl⟩
  have hx3 : xs.length = 3 := hxl
  have f0 := hf 0 _ rfl
  change DataW.trod enc Try.prog W 0 (fun _ => true) held n 3 ((List.drop 0 [c0, c1, c2]).take (Try.prog.cellsOf 3)) = _ at f0
  rw [cells1.1, List.getElem?_eq_getElem (by omega)] at f0
  change DataW.trod enc Try.prog W 0 (fun _ => true) held n 3 [c0] = _ at f0
  have f1 := hf 1 _ rfl
  change DataW.trod enc Try.prog W 0 (fun _ => true) held n 3 ((List.drop 1 [c0, c1, c2]).take (Try.prog.cellsOf 3)) = _ at f1
  rw [cells1.1, List.getElem?_eq_getElem (by omega)] at f1
  change DataW.trod enc Try.prog W 0 (fun _ => true) held n 3 [c1] = _ at f1
  have f2 := hf 2 _ rfl
  change DataW.trod enc Try.prog W 0 (fun _ => true) held n 3 ((List.drop 2 [c0, c1, c2]).take (Try.prog.cellsOf 3)) = _ at f2
  rw [cells1.1, List.getElem?_eq_getElem (by omega)] at f2
  change DataW.trod enc Try.prog W 0 (fun _ => true) held n 3 [c2] = _ at f2
  obtain ⟨p, e0, -, w0⟩ := DataW.trod_int Try.underlying3 f0
  obtain ⟨q, e1, -, w1⟩ := DataW.trod_int Try.underlying3 f1
  obtain ⟨r, e2, -, w2⟩ := DataW.trod_int Try.underlying3 f2
  cases e0; cases e1; cases e2
  exact ⟨p, q, r, rfl, w0, w1, w2⟩
theorem add_sz (a : Addr) (j sz : Nat) : (a.add (j * sz)).block = a.block := by unfold Addr.add; split <;> rfl
theorem imps_of {fuel : Nat} {c : Value} {x : DataW H × List MemPlace} (h : DataW.trod enc Try.prog W 0 (fun _ => true) held fuel 23 [c] = some x) : ∃ l a len cap, c = .slice a len cap ∧ ImpsIs W l a len cap := by
  rcases DataW.trod_slice Try.underlying23 h with ⟨e4, -⟩ | ⟨a, len, cap, elems, rest, n', rfl, e4, -, -, hl, hc, hel, hE, -, -⟩
  · cases e4
    exact ⟨[], none, 0, 0, rfl, rfl, Nat.le_refl _, Nat.zero_le _, by simp, fun h => absurd h (by omega)⟩
  · cases e4
    have hj : ∀ j, ∃ p : ByteArray × Int, j < len → ImpAt W (a.add (j * 2)) p.1 p.2 ∧ p.1.size ≤ maxLen ∧ (Lit.int .u32 p.2).wf = true := fun j => by
      by_cases hj : j < len
      · have h1 := hE j hj
        rw [List.getElem?_eq_getElem (by omega), Option.bind_eq_some_iff, cellsO.2.1] at h1
        obtain ⟨cs', hcs, hy⟩ := h1
        obtain ⟨-, hlen, hcell⟩ := World.cells?_some hcs
        obtain ⟨nn, kk, rfl, h2, h3⟩ := imp_of hy
        exact ⟨(nn, kk), fun _ => ⟨⟨hcell 0 (by omega), hcell 1 (by omega)⟩, h2, h3⟩⟩
      · exact ⟨(.empty, 0), fun h => absurd h hj⟩
    obtain ⟨f, hf⟩ := Classical.axiomOfChoice hj
    refine ⟨(List.range len).map f, some a, len, cap, rfl, by simp, hl, hc, fun p hp => ?_, fun h0 => ⟨a, rfl, ?_, fun j p hp => ?_⟩⟩
    · obtain ⟨j, hj1, rfl⟩ := List.mem_map.1 hp
      exact (hf j (by simpa using hj1)).2
    · have := World.block_lt_of_cell? _ _ (hf 0 h0).1.c0
      rw [add_sz] at this
      exact this
    · have hj1 : j < len := by have := (List.getElem?_eq_some_iff.1 hp).1; simpa using this
      have : p = f j := by
        rw [List.getElem?_map, List.getElem?_range hj1] at hp
        simpa using hp.symm
      subst this
      exact (hf j hj1).1
theorem fixs_of {fuel : Nat} {c : Value} {x : DataW H × List MemPlace} (h : DataW.trod enc Try.prog W 0 (fun _ => true) held fuel 27 [c] = some x) : ∃ l a len cap, c = .slice a len cap ∧ FixsIs W l a len cap := by
  rcases DataW.trod_slice Try.underlying27 h with ⟨e4, -⟩ | ⟨a, len, cap, elems, rest, n', rfl, e4, -, -, hl, hc, hel, hE, -, -⟩
  · cases e4
    exact ⟨[], none, 0, 0, rfl, rfl, Nat.le_refl _, Nat.zero_le _, by simp, fun h => absurd h (by omega)⟩
  · cases e4
    have hj : ∀ j, ∃ p : Int × Int × Int, j < len → FixAt W (a.add (j * 3)) p.1 p.2.1 p.2.2 ∧ (Lit.int .i64 p.1).wf = true ∧ (Lit.int .i64 p.2.1).wf = true ∧ (Lit.int .i64 p.2.2).wf = true := fun j => by
      by_cases hj : j < len
      · have h1 := hE j hj
        rw [List.getElem?_eq_getElem (by omega), Option.bind_eq_some_iff, cellsO.2.2] at h1
        obtain ⟨cs', hcs, hy⟩ := h1
        obtain ⟨-, hlen, hcell⟩ := World.cells?_some hcs
        obtain ⟨p, q, r, rfl, h2, h3, h4⟩ := fix_of hy
        exact ⟨(p, q, r), fun _ => ⟨⟨hcell 0 (by omega), hcell 1 (by omega), hcell 2 (by omega)⟩, h2, h3, h4⟩⟩
      · exact ⟨(0, 0, 0), fun h => absurd h hj⟩
    obtain ⟨f, hf⟩ := Classical.axiomOfChoice hj
    refine ⟨(List.range len).map f, some a, len, cap, rfl, by simp, hl, hc, fun p hp => ?_, fun h0 => ⟨a, rfl, ?_, fun j p hp => ?_⟩⟩
    · obtain ⟨j, hj1, rfl⟩ := List.mem_map.1 hp
      exact (hf j (by simpa using hj1)).2
    · have := World.block_lt_of_cell? _ _ (hf 0 h0).1.c0
      rw [add_sz] at this
      exact this
    · have hj1 : j < len := by have := (List.getElem?_eq_some_iff.1 hp).1; simpa using this
      have : p = f j := by
        rw [List.getElem?_map, List.getElem?_range hj1] at hp
        simpa using hp.symm
      subst this
      exact (hf j hj1).1
theorem slice_val {fuel : Nat} {t e : TypeId} {c : Value} {x : DataW H × List MemPlace} (ht : Try.prog.underlying t = some (.slice e)) (h : DataW.trod enc Try.prog W 0 (fun _ => true) held fuel t [c] = some x) : ∃ a len cap, c = .slice a len cap := by
  rcases DataW.trod_slice ht h with ⟨e4, -⟩ | ⟨a, len, cap, elems, rest, n', rfl, e4, -⟩
  · cases e4; exact ⟨none, 0, 0, rfl⟩
  · cases e4; exact ⟨_, _, _, rfl⟩
theorem obj_of {v : Value} {r : Reach} {base : Nat} {d : DataW H} {p : List MemPlace} (hv : Value.okWide Try.prog W r base 29 v ∨ ∃ cs, v = .agg cs) (h : DataW.Trod enc Try.prog W 0 (fun _ => true) held 29 v d p) : ∃ o, ObIs W o v := by
  have : ∃ cs, v = .agg cs := by
    rcases hv with h | h
    · obtain ⟨cs, rfl, -⟩ := okWide_struct Try.underlying29 h
      exact ⟨cs, rfl⟩
    · exact h
  obtain ⟨⟨cs⟩, rfl⟩ := this
  obtain ⟨fuel, hf0⟩ := h
  obtain ⟨xs, n, -, -, hcl, hxl, hf⟩ := DataW.trod_struct Try.underlying29 hf0
  rw [cellsO.1] at hcl
  simp only [Value.cells] at hcl hf
  obtain ⟨c0, c1, c2, c3, c4, c5, c6, c7, rfl⟩ : ∃ a b c d e f g h, cs = [a, b, c, d, e, f, g, h] := by
    match cs, hcl with
    | [a, b, c, d, e, f, g, h], _ => exact ⟨a, b, c, d, e, f, g, h, rfl⟩
  have hx8 : xs.length = 8 := hxl
  obtain ⟨z1, z2, z3, z4, z5, z6, z7, z8, z9⟩ := cells1
  have f0 := hf 0 _ rfl
  change DataW.trod enc Try.prog W 0 (fun _ => true) held n 9 ((List.drop 0 [c0, c1, c2, c3, c4, c5, c6, c7]).take (Try.prog.cellsOf 9)) = _ at f0
  rw [z2, List.getElem?_eq_getElem (by omega)] at f0
  change DataW.trod enc Try.prog W 0 (fun _ => true) held n 9 [c0] = _ at f0
  have f1 := hf 1 _ rfl
  change DataW.trod enc Try.prog W 0 (fun _ => true) held n 22 ((List.drop 1 [c0, c1, c2, c3, c4, c5, c6, c7]).take (Try.prog.cellsOf 22)) = _ at f1
  rw [z3, List.getElem?_eq_getElem (by omega)] at f1
  change DataW.trod enc Try.prog W 0 (fun _ => true) held n 22 [c1] = _ at f1
  have f2 := hf 2 _ rfl
  change DataW.trod enc Try.prog W 0 (fun _ => true) held n 23 ((List.drop 2 [c0, c1, c2, c3, c4, c5, c6, c7]).take (Try.prog.cellsOf 23)) = _ at f2
  rw [z5, List.getElem?_eq_getElem (by omega)] at f2
  change DataW.trod enc Try.prog W 0 (fun _ => true) held n 23 [c2] = _ at f2
  have f3 := hf 3 _ rfl
  change DataW.trod enc Try.prog W 0 (fun _ => true) held n 3 ((List.drop 3 [c0, c1, c2, c3, c4, c5, c6, c7]).take (Try.prog.cellsOf 3)) = _ at f3
  rw [z1, List.getElem?_eq_getElem (by omega)] at f3
  change DataW.trod enc Try.prog W 0 (fun _ => true) held n 3 [c3] = _ at f3
  have f4 := hf 4 _ rfl
  change DataW.trod enc Try.prog W 0 (fun _ => true) held n 24 ((List.drop 4 [c0, c1, c2, c3, c4, c5, c6, c7]).take (Try.prog.cellsOf 24)) = _ at f4
  rw [z7, List.getElem?_eq_getElem (by omega)] at f4
  change DataW.trod enc Try.prog W 0 (fun _ => true) held n 24 [c4] = _ at f4
  have f5 := hf 5 _ rfl
  change DataW.trod enc Try.prog W 0 (fun _ => true) held n 25 ((List.drop 5 [c0, c1, c2, c3, c4, c5, c6, c7]).take (Try.prog.cellsOf 25)) = _ at f5
  rw [z8, List.getElem?_eq_getElem (by omega)] at f5
  change DataW.trod enc Try.prog W 0 (fun _ => true) held n 25 [c5] = _ at f5
  have f6 := hf 6 _ rfl
  change DataW.trod enc Try.prog W 0 (fun _ => true) held n 26 ((List.drop 6 [c0, c1, c2, c3, c4, c5, c6, c7]).take (Try.prog.cellsOf 26)) = _ at f6
  rw [z9, List.getElem?_eq_getElem (by omega)] at f6
  change DataW.trod enc Try.prog W 0 (fun _ => true) held n 26 [c6] = _ at f6
  have f7 := hf 7 _ rfl
  change DataW.trod enc Try.prog W 0 (fun _ => true) held n 27 ((List.drop 7 [c0, c1, c2, c3, c4, c5, c6, c7]).take (Try.prog.cellsOf 27)) = _ at f7
  rw [z6, List.getElem?_eq_getElem (by omega)] at f7
  change DataW.trod enc Try.prog W 0 (fun _ => true) held n 27 [c7] = _ at f7
  obtain ⟨s, e0, -, w0⟩ := DataW.trod_string Try.underlying9 f0
  obtain ⟨k, e1, -, w1⟩ := DataW.trod_int Try.underlying22 f1
  obtain ⟨v, e3, -, w3⟩ := DataW.trod_int Try.underlying3 f3
  obtain ⟨li, ai, leni, capi, rfl, hI⟩ := imps_of f2
  obtain ⟨lf, af, lenf, capf, rfl, hF⟩ := fixs_of f7
  obtain ⟨at_, lt, ct, rfl⟩ := slice_val Try.underlying24 f4
  obtain ⟨ac, lc, cc, rfl⟩ := slice_val Try.underlying25 f5
  obtain ⟨ae, le, ce, rfl⟩ := slice_val Try.underlying26 f6
  cases e0; cases e1; cases e3
  obtain ⟨zt, ht⟩ := isRow_of (d := xs[4].1) (p := xs[4].2) Try.underlying24 Try.underlying5 z4 ⟨n, by simpa [Value.cells] using f4⟩
  obtain ⟨zc, hc⟩ := isRow_of (d := xs[5].1) (p := xs[5].2) Try.underlying25 Try.underlying22 z3 ⟨n, by simpa [Value.cells] using f5⟩
  obtain ⟨ze, he⟩ := isRow_of (d := xs[6].1) (p := xs[6].2) Try.underlying26 Try.underlying3 z1 ⟨n, by simpa [Value.cells] using f6⟩
  exact ⟨⟨s, k, li, v, zt, zc, ze, lf⟩, _, _, _, _, _, _, _, _, _, _, _, _, _, _, _, rfl, w0, w1, w3, hI, ht, hc, he, hF⟩
end
end Go.Proofs.Ytekipbfafofkdaa

/-
  Ends, acts, scripts that came in, read as data; the library's tables.
-/
import Derived.Test.YtlodoilihminaaaGreatDoorScrW
import Derived.ChangeArms
import Derived.OpenShut
import Derived.LaidMore
import Derived.Lay
import Derived.Stop.LaidErr
namespace Go.Proofs.YtlodoilihminaaaGreatDoor
open Go.ChangeShapes Go.WideShapes Go.ChangeAt Go.RowKit
set_option linter.unusedVariables false
set_option maxRecDepth 100000
theorem star : "*errors.errorString" = "*" ++ "errors.errorString" := by decide
theorem err_one (u : TypeId) (h : Tryz.prog.typeName? 3 u = some "*errors.errorString") : u = 161 :=
  typeName_ptr_named (nm := "errors.errorString") (by rw [← star]; kernel_rfl) (by kernel_rfl) (by decide) u (by rw [← star]; exact h)
theorem errS_of {W : World} {text : List UInt8} {r : List (String × DataW Unit)} (h : laidMet Tryz.prog (("strconv.ErrSyntax", .iface "*errors.errorString" (.ptr (.agg [.lit (.string text)]))) :: r) W) : ∃ tp p, W.var? Tryz.prog "strconv.ErrSyntax" = some #[.iface tp p] := by
  obtain ⟨a, s, h1, -⟩ := laid_sentinel h gErrS (by kernel_rfl) Tryz.underlying81 err_one Tryz.underlying161 Tryz.underlying163 rfl rfl Tryz.underlying9 (by kernel_rfl) (by kernel_rfl)
  exact ⟨_, _, h1⟩
theorem errR_of {W : World} {text : List UInt8} {r : List (String × DataW Unit)} (h : laidMet Tryz.prog (("strconv.ErrRange", .iface "*errors.errorString" (.ptr (.agg [.lit (.string text)]))) :: r) W) : ∃ tp p, W.var? Tryz.prog "strconv.ErrRange" = some #[.iface tp p] := by
  obtain ⟨a, s, h1, -⟩ := laid_sentinel h gErrR (by kernel_rfl) Tryz.underlying81 err_one Tryz.underlying161 Tryz.underlying163 rfl rfl Tryz.underlying9 (by kernel_rfl) (by kernel_rfl)
  exact ⟨_, _, h1⟩
theorem mx_of {W : World} (h : W.ShapedOpen Tryz.prog) : MxT W := Tryz.laysM145.s1_3 W h
theorem cz0 : Tryz.prog.cellsOf 56 = 2 := by kernel_rfl
theorem cz1 : Tryz.prog.cellsOf 53 = 1 := by kernel_rfl
theorem cz2 : Tryz.prog.cellsOf 54 = 1 := by kernel_rfl
theorem cz3 : Tryz.prog.cellsOf 58 = 4 := by kernel_rfl
theorem cz4 : Tryz.prog.cellsOf 3 = 1 := by kernel_rfl
theorem cz5 : Tryz.prog.cellsOf 4 = 1 := by kernel_rfl
theorem cz6 : Tryz.prog.cellsOf 27 = 6 := by kernel_rfl
theorem cz7 : Tryz.prog.cellsOf 23 = 1 := by kernel_rfl
theorem cz8 : Tryz.prog.cellsOf 9 = 1 := by kernel_rfl
theorem cz9 : Tryz.prog.cellsOf 24 = 1 := by kernel_rfl
theorem cz10 : Tryz.prog.cellsOf 25 = 1 := by kernel_rfl
theorem cz11 : Tryz.prog.cellsOf 5 = 1 := by kernel_rfl
section
variable {H : Type} {enc : TypeId × Value → H} {W : World} {held : Bool}
theorem stop_of {fuel : Nat} {cs : List Value} {x : DataW H × List MemPlace} (h : DataW.trod enc Tryz.prog W 0 (fun _ => true) held fuel 56 cs = some x) : ∃ k c, cs = [.int .i64 k, .int .u32 c] ∧ (Lit.int .u32 c).wf = true := by
  obtain ⟨xs, n, rfl, -, hcl, hxl, hf⟩ := DataW.trod_struct Tryz.underlying56 h
  rw [cz0] at hcl
  obtain ⟨c0, c1, rfl⟩ : ∃ a b, cs = [a, b] := by
    match cs, hcl with
    | [a, b], _ => exact ⟨a, b, rfl⟩
  have hxn : xs.length = 2 := hxl
  have f0 := hf 0 _ rfl
  change DataW.trod enc Tryz.prog W 0 (fun _ => true) held n 53 ((List.drop 0 [c0, c1]).take (Tryz.prog.cellsOf 53)) = _ at f0
  rw [cz1, List.getElem?_eq_getElem (by omega)] at f0
  change DataW.trod enc Tryz.prog W 0 (fun _ => true) held n 53 [c0] = _ at f0
  have f1 := hf 1 _ rfl
  change DataW.trod enc Tryz.prog W 0 (fun _ => true) held n 54 ((List.drop 1 [c0, c1]).take (Tryz.prog.cellsOf 54)) = _ at f1
  rw [cz2, List.getElem?_eq_getElem (by omega)] at f1
  change DataW.trod enc Tryz.prog W 0 (fun _ => true) held n 54 [c1] = _ at f1
  obtain ⟨k, e0, -, w0⟩ := DataW.trod_int Tryz.underlying53 f0
  obtain ⟨c, e1, -, w1⟩ := DataW.trod_int Tryz.underlying54 f1
  cases e0; cases e1
  exact ⟨k, c, rfl, w1⟩
theorem end_of {v : Value} {r : Reach} {base : Nat} {d : DataW H} {p : List MemPlace} (hv : Value.okWide Tryz.prog W r base 58 v ∨ ∃ cs, v = .agg cs) (h : DataW.Trod enc Tryz.prog W 0 (fun _ => true) held 58 v d p) : ∃ k c st b, v = .agg #[.int .i64 k, .int .u32 c, .int .i64 st, .bool b] ∧ (Lit.int .u32 c).wf = true ∧ (Lit.int .i64 st).wf = true := by
  have : ∃ cs, v = .agg cs := by
    rcases hv with h | h
    · obtain ⟨cs, rfl, -⟩ := okWide_struct Tryz.underlying58 h
      exact ⟨cs, rfl⟩
    · exact h
  obtain ⟨⟨cs⟩, rfl⟩ := this
  obtain ⟨fuel, hf0⟩ := h
  simp only [Value.cells] at hf0
  have h := hf0
  obtain ⟨xs, n, rfl, -, hcl, hxl, hf⟩ := DataW.trod_struct Tryz.underlying58 h
  rw [cz3] at hcl
  obtain ⟨c0, c1, c2, c3, rfl⟩ : ∃ a b c d, cs = [a, b, c, d] := by
    match cs, hcl with
    | [a, b, c, d], _ => exact ⟨a, b, c, d, rfl⟩
  have hxn : xs.length = 3 := hxl
  have f0 := hf 0 _ rfl
  change DataW.trod enc Tryz.prog W 0 (fun _ => true) held n 56 ((List.drop 0 [c0, c1, c2, c3]).take (Tryz.prog.cellsOf 56)) = _ at f0
  rw [cz0, List.getElem?_eq_getElem (by omega)] at f0
  change DataW.trod enc Tryz.prog W 0 (fun _ => true) held n 56 [c0, c1] = _ at f0
  have f1 := hf 1 _ rfl
  change DataW.trod enc Tryz.prog W 0 (fun _ => true) held n 3 ((List.drop 2 [c0, c1, c2, c3]).take (Tryz.prog.cellsOf 3)) = _ at f1
  rw [cz4, List.getElem?_eq_getElem (by omega)] at f1
  change DataW.trod enc Tryz.prog W 0 (fun _ => true) held n 3 [c2] = _ at f1
  have f2 := hf 2 _ rfl
  change DataW.trod enc Tryz.prog W 0 (fun _ => true) held n 4 ((List.drop 3 [c0, c1, c2, c3]).take (Tryz.prog.cellsOf 4)) = _ at f2
  rw [cz5, List.getElem?_eq_getElem (by omega)] at f2
  change DataW.trod enc Tryz.prog W 0 (fun _ => true) held n 4 [c3] = _ at f2
  obtain ⟨k, c, e0, w0⟩ := stop_of f0
  obtain ⟨st, e1, -, w1⟩ := DataW.trod_int Tryz.underlying3 f1
  obtain ⟨b, e2, -⟩ := DataW.trod_bool Tryz.underlying4 f2
  cases e0; cases e1; cases e2
  exact ⟨k, c, st, b, rfl, w0, w1⟩
theorem names_of {a : Option Addr} {len cap : Nat} {fuel : Nat} {x : DataW H × List MemPlace} (h : DataW.trod enc Tryz.prog W 0 (fun _ => true) held fuel 25 [.slice a len cap] = some x) : ∃ ls, NmRow W W.heap.size a len ls ∧ len ≤ maxLen := by
  rcases DataW.trod_slice Tryz.underlying25 h with ⟨hcs, _⟩ | ⟨a', len', cap', elems, rest, n, _, hcs, _, hb, hl, hm, hlen, hel, hsp, hns⟩
  · simp at hcs
    obtain ⟨rfl, rfl, rfl⟩ := hcs
    exact ⟨[], ⟨rfl, by simp, fun h => absurd h (by omega)⟩, Nat.zero_le _⟩
  · simp at hcs
    obtain ⟨rfl, rfl, rfl⟩ := hcs
    have hj : ∀ j, ∃ l : List UInt8, j < len → W.cell? (a'.add j) = some (.string (S l)) ∧ l.length ≤ maxLen := fun j => by
      by_cases hj : j < len
      · have hk2 := hel j hj
        rw [List.getElem?_eq_getElem (by omega), cz8, Nat.mul_one, Option.bind_eq_some_iff] at hk2
        obtain ⟨cs', hcs', hy⟩ := hk2
        obtain ⟨s, rfl, _, hs⟩ := DataW.trod_string Tryz.underlying9 hy
        exact ⟨s.data.toList, fun _ => ⟨by rw [show S s.data.toList = s from rfl]; exact cell_of_cells?_one hcs', by simpa using hs⟩⟩
      · exact ⟨[], fun h => absurd h hj⟩
    obtain ⟨f, hf⟩ := Classical.axiomOfChoice hj
    refine ⟨(List.range len).map f, ⟨by simp, fun l hl2 => ?_, fun h0 => ⟨a', rfl, ?_, fun j l hl2 => ?_⟩⟩, Nat.le_trans hl hm⟩
    · obtain ⟨j, hj1, rfl⟩ := List.mem_map.1 hl2
      exact (hf j (by simpa using hj1)).2
    · have := World.block_lt_of_cell? _ _ (hf 0 h0).1
      rw [block_add] at this
      exact this
    · have hj1 : j < len := by have := (List.getElem?_eq_some_iff.1 hl2).1; simpa using this
      have : l = f j := by
        rw [List.getElem?_map, List.getElem?_range hj1] at hl2
        simpa using hl2.symm
      subst this
      exact (hf j hj1).1
theorem sl_val {fuel : Nat} {t e : TypeId} {c : Value} {x : DataW H × List MemPlace} (ht : Tryz.prog.underlying t = some (.slice e)) (h : DataW.trod enc Tryz.prog W 0 (fun _ => true) held fuel t [c] = some x) : ∃ a len cap, c = .slice a len cap := by
  rcases DataW.trod_slice ht h with ⟨e4, -⟩ | ⟨a, len, cap, elems, rest, n', rfl, e4, -⟩
  · cases e4; exact ⟨none, 0, 0, rfl⟩
  · cases e4; exact ⟨_, _, _, rfl⟩
theorem actcs_of {fuel : Nat} {cs : List Value} {x : DataW H × List MemPlace} (h : DataW.trod enc Tryz.prog W 0 (fun _ => true) held fuel 27 cs = some x) : ∃ a bA bn bc nA nn nc, cs = (actC a.kind a.name bA bn bc nA nn nc a.mem a.fuel).toList ∧ ActAt W a bA bn bc nA nn nc ∧ (Lit.int .i64 a.kind).wf = true := by
  obtain ⟨xs, n, rfl, -, hcl, hxl, hf⟩ := DataW.trod_struct Tryz.underlying27 h
  rw [cz6] at hcl
  obtain ⟨c0, c1, c2, c3, c4, c5, rfl⟩ : ∃ a b c d e f, cs = [a, b, c, d, e, f] := by
    match cs, hcl with
    | [a, b, c, d, e, f], _ => exact ⟨a, b, c, d, e, f, rfl⟩
  have hxn : xs.length = 6 := hxl
  have f0 := hf 0 _ rfl
  change DataW.trod enc Tryz.prog W 0 (fun _ => true) held n 23 ((List.drop 0 [c0, c1, c2, c3, c4, c5]).take (Tryz.prog.cellsOf 23)) = _ at f0
  rw [cz7, List.getElem?_eq_getElem (by omega)] at f0
  change DataW.trod enc Tryz.prog W 0 (fun _ => true) held n 23 [c0] = _ at f0
  have f1 := hf 1 _ rfl
  change DataW.trod enc Tryz.prog W 0 (fun _ => true) held n 9 ((List.drop 1 [c0, c1, c2, c3, c4, c5]).take (Tryz.prog.cellsOf 9)) = _ at f1
  rw [cz8, List.getElem?_eq_getElem (by omega)] at f1
  change DataW.trod enc Tryz.prog W 0 (fun _ => true) held n 9 [c1] = _ at f1
  have f2 := hf 2 _ rfl
  change DataW.trod enc Tryz.prog W 0 (fun _ => true) held n 24 ((List.drop 2 [c0, c1, c2, c3, c4, c5]).take (Tryz.prog.cellsOf 24)) = _ at f2
  rw [cz9, List.getElem?_eq_getElem (by omega)] at f2
  change DataW.trod enc Tryz.prog W 0 (fun _ => true) held n 24 [c2] = _ at f2
  have f3 := hf 3 _ rfl
  change DataW.trod enc Tryz.prog W 0 (fun _ => true) held n 25 ((List.drop 3 [c0, c1, c2, c3, c4, c5]).take (Tryz.prog.cellsOf 25)) = _ at f3
  rw [cz10, List.getElem?_eq_getElem (by omega)] at f3
  change DataW.trod enc Tryz.prog W 0 (fun _ => true) held n 25 [c3] = _ at f3
  have f4 := hf 4 _ rfl
  change DataW.trod enc Tryz.prog W 0 (fun _ => true) held n 3 ((List.drop 4 [c0, c1, c2, c3, c4, c5]).take (Tryz.prog.cellsOf 3)) = _ at f4
  rw [cz4, List.getElem?_eq_getElem (by omega)] at f4
  change DataW.trod enc Tryz.prog W 0 (fun _ => true) held n 3 [c4] = _ at f4
  have f5 := hf 5 _ rfl
  change DataW.trod enc Tryz.prog W 0 (fun _ => true) held n 3 ((List.drop 5 [c0, c1, c2, c3, c4, c5]).take (Tryz.prog.cellsOf 3)) = _ at f5
  rw [cz4, List.getElem?_eq_getElem (by omega)] at f5
  change DataW.trod enc Tryz.prog W 0 (fun _ => true) held n 3 [c5] = _ at f5
  obtain ⟨k, e0, -, w0⟩ := DataW.trod_int Tryz.underlying23 f0
  obtain ⟨s, e1, -, w1⟩ := DataW.trod_string Tryz.underlying9 f1
  obtain ⟨bA, bn, bc, rfl⟩ := sl_val Tryz.underlying24 f2
  obtain ⟨nA, nn, nc, rfl⟩ := sl_val Tryz.underlying25 f3
  obtain ⟨m, e4, -, w4⟩ := DataW.trod_int Tryz.underlying3 f4
  obtain ⟨f, e5, -, w5⟩ := DataW.trod_int Tryz.underlying3 f5
  cases e0; cases e1; cases e4; cases e5
  obtain ⟨zb, hb1, hb2, hb3, hb4, hb5⟩ := isRow_of (d := xs[2].1) (p := xs[2].2) Tryz.underlying24 Tryz.underlying5 cz11 ⟨n, by simpa [Value.cells] using f2⟩
  obtain ⟨ls, hn1, hn2⟩ := names_of f3
  refine ⟨⟨k, s.data.toList, zb, ls, m, f⟩, bA, bn, bc, nA, nn, nc, rfl, ⟨by simpa using w1, hb5, fun x hx => by have := bd_u8 (hb4 x hx); omega, by omega, hb2, hn1, hn2, bd_i64 w4, bd_i64 w5⟩, w0⟩
theorem act_of {v : Value} {r : Reach} {base : Nat} {d : DataW H} {p : List MemPlace} (hv : Value.okWide Tryz.prog W r base 27 v ∨ ∃ cs, v = .agg cs) (h : DataW.Trod enc Tryz.prog W 0 (fun _ => true) held 27 v d p) : ∃ a bA bn bc nA nn nc, v = .agg (actC a.kind a.name bA bn bc nA nn nc a.mem a.fuel) ∧ ActAt W a bA bn bc nA nn nc ∧ (Lit.int .i64 a.kind).wf = true := by
  have : ∃ cs, v = .agg cs := by
    rcases hv with h | h
    · obtain ⟨cs, rfl, -⟩ := okWide_struct Tryz.underlying27 h
      exact ⟨cs, rfl⟩
    · exact h
  obtain ⟨⟨cs⟩, rfl⟩ := this
  obtain ⟨fuel, hf0⟩ := h
  simp only [Value.cells] at hf0
  obtain ⟨a, bA, bn, bc, nA, nn, nc, rfl, h1, h2⟩ := actcs_of hf0
  exact ⟨a, bA, bn, bc, nA, nn, nc, rfl, h1, h2⟩
end
end Go.Proofs.YtlodoilihminaaaGreatDoor

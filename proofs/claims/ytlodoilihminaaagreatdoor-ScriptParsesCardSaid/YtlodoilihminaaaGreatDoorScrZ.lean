/-
  Scripts: as data, as they lie, as they came in; their texts.
-/
import Derived.Test.YtlodoilihminaaaGreatDoorScrY
namespace Go.Proofs.YtlodoilihminaaaGreatDoor
open Go.ChangeShapes Go.WideShapes Go.ChangeAt Go.RowKit
set_option linter.unusedVariables false
set_option linter.unusedSimpArgs false
set_option maxRecDepth 100000
/-! ### texts -/
def wCap : List UInt8 := [99, 97, 112, 97, 99, 105, 116, 121]
/-- a script's lines, behind the first one -/
def linesT (l : List Ac) : List UInt8 := l.flatMap fun a => a.txt ++ [10]
def capT (c : Int) : List UInt8 := wCap ++ (32 :: Lib.itoa c) ++ [10]
def scT (c : Int) (l : List Ac) : List UInt8 := capT c ++ linesT l
def capB (c : Int) : Bool := decide (0 ≤ c ∧ c ≤ 67108864)
/-- the error of a script's text -/
def scE (c : Int) (l : List Ac) : Int := if capB c && l.all Ac.may then (if l.length ≤ 4096 ∧ (scT c l).length ≤ 4194304 then 0 else 3) else 2
def scR (c : Int) (l : List Ac) : List UInt8 := if scE c l = 0 then scT c l else []
theorem linesT_nil : linesT [] = [] := rfl
theorem linesT_app (l m : List Ac) : linesT (l ++ m) = linesT l ++ linesT m := by unfold linesT; rw [List.flatMap_append]
theorem linesT_snoc (l : List Ac) (k : Nat) (a : Ac) (h : l[k]? = some a) : linesT (l.take (k + 1)) = linesT (l.take k) ++ a.txt ++ [10] := by
  rw [List.take_add_one, h, linesT_app]
  simp [linesT]
theorem txt_len {a : Ac} (hm : a.may = true) (h1 : -9223372036854775808 ≤ a.mem ∧ a.mem ≤ 9223372036854775807) (h2 : -9223372036854775808 ≤ a.fuel ∧ a.fuel ≤ 9223372036854775807) : a.txt.length ≤ 140000 := by
  obtain ⟨g1, g2, g3, g4⟩ := may_len hm
  have x1 := hxT_len a.bytes
  have x2 : (chs a.bytes).length = a.bytes.length := by simp [chs]
  have x3 := Lib.itoa_length_le a.mem h1.1 h1.2
  have x4 := Lib.itoa_length_le a.fuel h2.1 h2.2
  have x5 := bls_len a.names g4
  unfold Ac.txt
  repeat' split
  all_goals simp only [List.length_append, List.length_cons, wPut, wAdd, wDrop, wBuild, wRun, wMean, wOwn, List.length_nil]
  all_goals omega
/-! ### as they lie -/
structure ActCells (w : World) (y : Addr) (a : Ac) (bA : Option Addr) (bn bc : Nat) (nA : Option Addr) (nn nc : Nat) : Prop where
  c0 : w.cell? y = some (.int .i64 a.kind)
  c1 : w.cell? ⟨y.block, y.off + 1, none⟩ = some (.string (S a.name))
  c2 : w.cell? ⟨y.block, y.off + 2, none⟩ = some (.slice bA bn bc)
  c3 : w.cell? ⟨y.block, y.off + 3, none⟩ = some (.slice nA nn nc)
  c4 : w.cell? ⟨y.block, y.off + 4, none⟩ = some (.int .i64 a.mem)
  c5 : w.cell? ⟨y.block, y.off + 5, none⟩ = some (.int .i64 a.fuel)
theorem ActCells.below {w W : World} {y : Addr} {a : Ac} {bA : Option Addr} {bn bc : Nat} {nA : Option Addr} {nn nc : Nat} {B : Nat} (h : ActCells w y a bA bn bc nA nn nc) (hy : y.block < B) (hb : Below B w W) : ActCells W y a bA bn bc nA nn nc :=
  ⟨(hb.cell hy).trans h.c0, (hb.cell (p := ⟨y.block, y.off + 1, none⟩) hy).trans h.c1, (hb.cell (p := ⟨y.block, y.off + 2, none⟩) hy).trans h.c2, (hb.cell (p := ⟨y.block, y.off + 3, none⟩) hy).trans h.c3, (hb.cell (p := ⟨y.block, y.off + 4, none⟩) hy).trans h.c4, (hb.cell (p := ⟨y.block, y.off + 5, none⟩) hy).trans h.c5⟩
def ScRow (w : World) (l : List Ac) (A : Option Addr) (n : Nat) : Prop :=
  l.length = n ∧ (0 < n → ∃ x, A = some x ∧ x.block < w.heap.size ∧ ∀ i a, l[i]? = some a → ∃ bA bn bc nA nn nc, ActCells w (x.add (i * 6)) a bA bn bc nA nn nc ∧ ActAt w a bA bn bc nA nn nc ∧ (Lit.int .i64 a.kind).wf = true)
theorem ScRow.below {w W : World} {l : List Ac} {A : Option Addr} {n : Nat} (h : ScRow w l A n) (hb : Below w.heap.size w W) : ScRow W l A n :=
  ⟨h.1, fun h0 => by
    obtain ⟨x, e, hx, hc⟩ := h.2 h0
    refine ⟨x, e, Nat.lt_of_lt_of_le hx hb.size, fun i a ha => ?_⟩
    obtain ⟨bA, bn, bc, nA, nn, nc, h1, h2, h3⟩ := hc i a ha
    exact ⟨bA, bn, bc, nA, nn, nc, h1.below (by rw [block_add]; exact hx) hb, h2.below hb, h3⟩⟩
theorem ScRow.at {w : World} {l : List Ac} {A : Option Addr} {n : Nat} (h : ScRow w l A n) {k : Nat} (hk : k < n) : ∃ x a bA bn bc nA nn nc, A = some x ∧ x.block < w.heap.size ∧ l[k]? = some a ∧ ActCells w (x.add (k * 6)) a bA bn bc nA nn nc ∧ ActAt w a bA bn bc nA nn nc ∧ (Lit.int .i64 a.kind).wf = true := by
  obtain ⟨x, e, hx, hc⟩ := h.2 (by omega)
  have hl : k < l.length := by rw [h.1]; exact hk
  obtain ⟨bA, bn, bc, nA, nn, nc, h1, h2, h3⟩ := hc k _ (List.getElem?_eq_getElem hl)
  exact ⟨x, l[k], bA, bn, bc, nA, nn, nc, e, hx, List.getElem?_eq_getElem hl, h1, h2, h3⟩
theorem ScRow.front {w : World} {l : List Ac} {A : Option Addr} {n : Nat} (h : ScRow w l A n) {k : Nat} (hk : k ≤ n) : ScRow w (l.take k) A k :=
  ⟨by rw [List.length_take, h.1]; omega, fun h0 => by
    obtain ⟨x, e, hx, hc⟩ := h.2 (by omega)
    refine ⟨x, e, hx, fun i a ha => ?_⟩
    rw [List.getElem?_take] at ha
    split at ha
    · exact hc i a ha
    · cases ha⟩
def scC (c : Int) (A : Option Addr) (n cc : Nat) : Array Value := #[.int .i64 c, .slice A n cc]
/-- a script as it lies -/
structure ScAt (w : World) (c : Int) (l : List Ac) (A : Option Addr) (n cc : Nat) : Prop where
  hc : (Lit.int .i64 c).wf = true
  row : ScRow w l A n
  hn : n ≤ cc
  hm : cc ≤ maxLen
theorem ScAt.below {w W : World} {c : Int} {l : List Ac} {A : Option Addr} {n cc : Nat} (h : ScAt w c l A n cc) (hb : Below w.heap.size w W) : ScAt W c l A n cc := ⟨h.hc, h.row.below hb, h.hn, h.hm⟩
theorem dz0 : Tryz.prog.cellsOf 38 = 2 := by kernel_rfl
theorem dz1 : Tryz.prog.cellsOf 3 = 1 := by kernel_rfl
theorem dz2 : Tryz.prog.cellsOf 36 = 1 := by kernel_rfl
theorem dz3 : Tryz.prog.cellsOf 27 = 6 := by kernel_rfl
section
variable {H : Type} {enc : TypeId × Value → H} {W : World} {held : Bool}
theorem acts_of {a : Option Addr} {len cap : Nat} {fuel : Nat} {x : DataW H × List MemPlace} (h : DataW.trod enc Tryz.prog W 0 (fun _ => true) held fuel 36 [.slice a len cap] = some x) : ∃ l, ScRow W l a len ∧ len ≤ cap ∧ cap ≤ maxLen := by
  rcases DataW.trod_slice Tryz.underlying36 h with ⟨hcs, _⟩ | ⟨a', len', cap', elems, rest, n, _, hcs, _, hb, hl, hm, hlen, hel, hsp, hns⟩
  · simp at hcs
    obtain ⟨rfl, rfl, rfl⟩ := hcs
    exact ⟨[], ⟨rfl, fun h => absurd h (by omega)⟩, Nat.le_refl _, Nat.zero_le _⟩
  · simp at hcs
    obtain ⟨rfl, rfl, rfl⟩ := hcs
    have hj : ∀ j, ∃ o : Ac, j < len → ∃ bA bn bc nA nn nc, ActCells W (a'.add (j * 6)) o bA bn bc nA nn nc ∧ ActAt W o bA bn bc nA nn nc ∧ (Lit.int .i64 o.kind).wf = true := fun j => by
      by_cases hj : j < len
      · have hk2 := hel j hj
        rw [List.getElem?_eq_getElem (by omega), Option.bind_eq_some_iff, dz3] at hk2
        obtain ⟨cs', hcs, hy⟩ := hk2
        obtain ⟨-, hlen, hcell⟩ := World.cells?_some hcs
        obtain ⟨o, bA, bn, bc, nA, nn, nc, rfl, h2, h3⟩ := actcs_of hy
        exact ⟨o, fun _ => ⟨bA, bn, bc, nA, nn, nc, ⟨hcell 0 (by omega), hcell 1 (by omega), hcell 2 (by omega), hcell 3 (by omega), hcell 4 (by omega), hcell 5 (by omega)⟩, h2, h3⟩⟩
      · exact ⟨Ac.none, fun h => absurd h hj⟩
    obtain ⟨f, hf⟩ := Classical.axiomOfChoice hj
    refine ⟨(List.range len).map f, ⟨by simp, fun h0 => ⟨a', rfl, ?_, fun j o ho => ?_⟩⟩, hl, hm⟩
    · obtain ⟨_, _, _, _, _, _, h1, -⟩ := hf 0 h0
      have := World.block_lt_of_cell? _ _ h1.c0
      rw [block_add] at this
      exact this
    · have hj1 : j < len := by have := (List.getElem?_eq_some_iff.1 ho).1; simpa using this
      have : o = f j := by
        rw [List.getElem?_map, List.getElem?_range hj1] at ho
        simpa using ho.symm
      subst this
      exact hf j hj1
theorem script_of {v : Value} {r : Reach} {base : Nat} {d : DataW H} {p : List MemPlace} (hv : Value.okWide Tryz.prog W r base 38 v ∨ ∃ cs, v = .agg cs) (h : DataW.Trod enc Tryz.prog W 0 (fun _ => true) held 38 v d p) : ∃ c l A n cc, v = .agg (scC c A n cc) ∧ ScAt W c l A n cc ∧ True := by
  have : ∃ cs, v = .agg cs := by
    rcases hv with h | h
    · obtain ⟨cs, rfl, -⟩ := okWide_struct Tryz.underlying38 h
      exact ⟨cs, rfl⟩
    · exact h
  obtain ⟨⟨cs⟩, rfl⟩ := this
  obtain ⟨fuel, hf0⟩ := h
  simp only [Value.cells] at hf0
  have h := hf0
  obtain ⟨xs, n, rfl, -, hcl, hxl, hf⟩ := DataW.trod_struct Tryz.underlying38 h
  rw [dz0] at hcl
  obtain ⟨c0, c1, rfl⟩ : ∃ a b, cs = [a, b] := by
    match cs, hcl with
    | [a, b], _ => exact ⟨a, b, rfl⟩
  have hxn : xs.length = 2 := hxl
  have f0 := hf 0 _ rfl
  change DataW.trod enc Tryz.prog W 0 (fun _ => true) held n 3 ((List.drop 0 [c0, c1]).take (Tryz.prog.cellsOf 3)) = _ at f0
  rw [dz1, List.getElem?_eq_getElem (by omega)] at f0
  change DataW.trod enc Tryz.prog W 0 (fun _ => true) held n 3 [c0] = _ at f0
  have f1 := hf 1 _ rfl
  change DataW.trod enc Tryz.prog W 0 (fun _ => true) held n 36 ((List.drop 1 [c0, c1]).take (Tryz.prog.cellsOf 36)) = _ at f1
  rw [dz2, List.getElem?_eq_getElem (by omega)] at f1
  change DataW.trod enc Tryz.prog W 0 (fun _ => true) held n 36 [c1] = _ at f1
  obtain ⟨c, e0, -, w0⟩ := DataW.trod_int Tryz.underlying3 f0
  obtain ⟨A, len, cap, rfl⟩ := sl_val Tryz.underlying36 f1
  cases e0
  obtain ⟨l, h1, h2, h3⟩ := acts_of f1
  exact ⟨c, l, A, len, cap, rfl, ⟨w0, h1, h2, h3⟩, trivial⟩
end
end Go.Proofs.YtlodoilihminaaaGreatDoor

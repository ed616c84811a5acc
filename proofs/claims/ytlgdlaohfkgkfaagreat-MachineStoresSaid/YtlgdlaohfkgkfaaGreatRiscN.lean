/-
  Processors: plain numbers, and blocks of memory that hold one. Nothing of the program.
-/
import Derived.Test.YtlgdlaohfkgkfaaGreatIsaN
namespace Go.Proofs.YtlgdlaohfkgkfaaGreat
open Go.ChangeShapes Go.WideShapes Go.ChangeAt Go.RowKit
set_option linter.unusedVariables false

/-- a processor -/
structure Cpu where
  r : Nat → Int
  h : Int
  n : Bool
  z : Bool
  c : Bool
  v : Bool
  pc : Int
def cpuCells (c : Cpu) : Array Value := #[.int .u32 (c.r 0), .int .u32 (c.r 1), .int .u32 (c.r 2), .int .u32 (c.r 3), .int .u32 (c.r 4), .int .u32 (c.r 5), .int .u32 (c.r 6), .int .u32 (c.r 7), .int .u32 (c.r 8), .int .u32 (c.r 9), .int .u32 (c.r 10), .int .u32 (c.r 11), .int .u32 (c.r 12), .int .u32 (c.r 13), .int .u32 (c.r 14), .int .u32 (c.r 15), .int .u32 c.h, .bool c.n, .bool c.z, .bool c.c, .bool c.v, .int .u32 c.pc]
def upd (r : Nat → Int) (a : Nat) (x : Int) (i : Nat) : Int := if i = a then x else r i
theorem upd_same (r : Nat → Int) (a : Nat) (x : Int) : upd r a x a = x := if_pos rfl
theorem upd_other (r : Nat → Int) (a i : Nat) (x : Int) (h : i ≠ a) : upd r a x i = r i := if_neg h
/-- a register's number comes in: N and Z tell of it -/
def ldC (c : Cpu) (a : Nat) (x : Int) : Cpu := { c with r := upd c.r a x, n := decide (2147483648 ≤ x), z := decide (x = 0) }
theorem reg_cell (c : Cpu) (a : Nat) (h : a < 16) : (cpuCells c)[a]? = some (.int .u32 (c.r a)) := by
  have : a = 0 ∨ a = 1 ∨ a = 2 ∨ a = 3 ∨ a = 4 ∨ a = 5 ∨ a = 6 ∨ a = 7 ∨ a = 8 ∨ a = 9 ∨ a = 10 ∨ a = 11 ∨ a = 12 ∨ a = 13 ∨ a = 14 ∨ a = 15 := by omega
  rcases this with rfl | rfl | rfl | rfl | rfl | rfl | rfl | rfl | rfl | rfl | rfl | rfl | rfl | rfl | rfl | rfl <;> rfl
theorem reg_set (c : Cpu) (a : Nat) (h : a < 16) (x : Int) : (cpuCells c).setIfInBounds a (.int .u32 x) = cpuCells { c with r := upd c.r a x } := by
  have : a = 0 ∨ a = 1 ∨ a = 2 ∨ a = 3 ∨ a = 4 ∨ a = 5 ∨ a = 6 ∨ a = 7 ∨ a = 8 ∨ a = 9 ∨ a = 10 ∨ a = 11 ∨ a = 12 ∨ a = 13 ∨ a = 14 ∨ a = 15 := by omega
  rcases this with rfl | rfl | rfl | rfl | rfl | rfl | rfl | rfl | rfl | rfl | rfl | rfl | rfl | rfl | rfl | rfl <;> simp [cpuCells, upd]

theorem set_pc (c : Cpu) (x : Int) : (cpuCells c).setIfInBounds 21 (.int .u32 x) = cpuCells { c with pc := x } := by simp [cpuCells]
theorem set_h (c : Cpu) (x : Int) : (cpuCells c).setIfInBounds 16 (.int .u32 x) = cpuCells { c with h := x } := by simp [cpuCells]
theorem set_n (c : Cpu) (x : Bool) : (cpuCells c).setIfInBounds 17 (.bool x) = cpuCells { c with n := x } := by simp [cpuCells]
theorem set_z (c : Cpu) (x : Bool) : (cpuCells c).setIfInBounds 18 (.bool x) = cpuCells { c with z := x } := by simp [cpuCells]
theorem set_c (c : Cpu) (x : Bool) : (cpuCells c).setIfInBounds 19 (.bool x) = cpuCells { c with c := x } := by simp [cpuCells]
theorem set_v (c : Cpu) (x : Bool) : (cpuCells c).setIfInBounds 20 (.bool x) = cpuCells { c with v := x } := by simp [cpuCells]
/-- does a condition hold? the first eight; the others are not they -/
def hold8 (c : Cpu) (k : Nat) : Bool := if k = 0 then c.n else if k = 1 then c.z else if k = 2 then c.c else if k = 3 then c.v else if k = 4 then (c.z || c.c) else if k = 5 then (c.n != c.v) else if k = 6 then (c.z || (c.n != c.v)) else true
def holdB (c : Cpu) (k : Nat) : Bool := if k < 8 then hold8 c k else !hold8 c (k - 8)
/-- block p is o now; all else that was there is as it was -/
structure Turn (p : Nat) (o : Obj) (w w' : World) : Prop where
  os : w'.os = w.os
  tape : w'.tape = w.tape
  output : w'.output = w.output
  size : w.heap.size ≤ w'.heap.size
  at_ : w'.heap[p]? = some o
  block : ∀ k, k < w.heap.size → k ≠ p → w'.heap[k]? = w.heap[k]?
section
variable {p : Nat} {o o' : Obj} {w w' w'' : World}
theorem Turn.refl (h : w.heap[p]? = some o) : Turn p o w w := ⟨rfl, rfl, rfl, Nat.le_refl _, h, fun _ _ _ => rfl⟩
theorem Turn.below (h : Turn p o w w') {B : Nat} (hB : B ≤ p) (hw : B ≤ w.heap.size) : Below B w w' := ⟨h.os, h.tape, h.output, h.size, fun k hk => h.block k (by omega) (by omega)⟩
theorem Turn.lt (h : w.heap[p]? = some o) : p < w.heap.size := by
  rcases Nat.lt_or_ge p w.heap.size with h' | h'
  · exact h'
  · simp [Array.getElem?_eq_none h'] at h
theorem Turn.trans (h : Turn p o w w') (k : Turn p o' w' w'') : Turn p o' w w'' :=
  ⟨k.os.trans h.os, k.tape.trans h.tape, k.output.trans h.output, Nat.le_trans h.size k.size, k.at_, fun i hi hn => (k.block i (Nat.lt_of_lt_of_le hi h.size) hn).trans (h.block i hi hn)⟩
theorem Turn.behind (h : Turn p o w w') (k : Below w'.heap.size w' w'') : Turn p o w w'' :=
  ⟨k.os.trans h.os, k.tape.trans h.tape, k.output.trans h.output, Nat.le_trans h.size k.size, (k.block p (Turn.lt h.at_)).trans h.at_, fun i hi hn => (k.block i (Nat.lt_of_lt_of_le hi h.size)).trans (h.block i hi hn)⟩
theorem Turn.drewN (h : Turn p o w w') (n : Nat) : Turn p o w (w'.drewN n) := ⟨h.os, h.tape, h.output, h.size, h.at_, h.block⟩
theorem Turn.drew (h : Turn p o w w') : Turn p o w w'.drew := ⟨h.os, h.tape, h.output, h.size, h.at_, h.block⟩
theorem Turn.setCell {cs : Array Value} {t : TypeId} (h : Turn p (.cells cs t (0, 0)) w w') (off : Nat) (v : Value) : Turn p (.cells (cs.setIfInBounds off v) t (0, 0)) w (w'.setCell ⟨p, off, none⟩ v) := by
  have hlt := Turn.lt h.at_
  have h' : w'.heap[p] = .cells cs t (0, 0) := by simpa [Array.getElem?_eq_getElem hlt] using h.at_
  refine ⟨h.os, h.tape, h.output, by simpa [World.setCell] using h.size, ?_, fun k hk hn => ?_⟩
  · show (w'.heap.modify p _)[p]? = _
    rw [Array.getElem?_eq_getElem (by simpa using hlt), Array.getElem_modify_self, h']
    rfl
  · rw [Below.heap_setCell _ _ _ _ hn]
    exact h.block k hk hn
theorem Turn.to {cs cs' : Array Value} {t : TypeId} (h : Turn p (.cells cs t (0, 0)) w w') (e : cs = cs') : Turn p (.cells cs' t (0, 0)) w w' := e ▸ h
theorem Turn.cell (h : Turn p o w w') (b off : Nat) (hb : b < w.heap.size) (hn : b ≠ p) : w'.cell? ⟨b, off, none⟩ = w.cell? ⟨b, off, none⟩ := World.cell?_of_block (w := w) (h.block b hb hn)
theorem Turn.frozen (h : Turn p o w w') (b off : Nat) (hb : b < w.heap.size) (hn : b ≠ p) : w'.frozen? ⟨b, off, none⟩ = w.frozen? ⟨b, off, none⟩ := World.frozen?_of_block (w := w) (h.block b hb hn)
theorem cell_at {cs : Array Value} {t : TypeId} (h : w.heap[p]? = some (.cells cs t (0, 0))) (off : Nat) : w.cell? ⟨p, off, none⟩ = cs[off]? := by simp [World.cell?, h]
theorem free_at {cs : Array Value} {t : TypeId} (h : w.heap[p]? = some (.cells cs t (0, 0))) (off : Nat) : w.frozen? ⟨p, off, none⟩ = false := by simp [World.frozen?, h]
end
end Go.Proofs.YtlgdlaohfkgkfaaGreat

/-
  The contract of Step of package risc.
-/
import Derived.Test.YtlgdlaohfkgkfaaGreatRiscC
import Derived.Test.YtlgdlaohfkgkfaaGreatIsaB
import Derived.Laws.Tables
import Derived.Deep.WholeRow
namespace Go.Proofs.YtlgdlaohfkgkfaaGreat
open Go.ChangeShapes Go.WideShapes Go.ChangeAt Go.RowKit
set_option linter.unusedVariables false

/-- a word, read: the instruction, and whether it is odd -/
def dec (x : Int) : Ins × Bool :=
  if tk x 2 = 0 then (of0 x, odd0 x) else if tk x 2 = 1 then (of1 x, odd1 x) else if tk x 2 = 2 then (of2 x, false)
  else if tk (rst x 2) 1 = 1 then (of4 x, false) else if tk (rst (rst x 2) 1) 1 = 1 ∧ x % 16 = 12 then (of6 x, odd6 x) else (of5 x, odd5 x)
theorem of_any (x : Int) (x0 : 0 ≤ x) (x1 : x ≤ 4294967295) (w : World) : Calls Tryz.prog 90 #[.int .u32 x] w (OfIs (dec x).1 (dec x).2 w) := by
  have h4 := tk_bd x 2 (by omega) x0 x1
  by_cases h0 : tk x 2 = 0
  · simpa only [dec, if_pos h0] using of_0 x x0 x1 h0 w
  · by_cases h1 : tk x 2 = 1
    · simpa only [dec, if_neg h0, if_pos h1] using of_1 x x0 x1 h1 w
    · by_cases h2 : tk x 2 = 2
      · simpa only [dec, if_neg h0, if_neg h1, if_pos h2] using of_2 x x0 x1 h2 w
      · have h3 : tk x 2 = 3 := by omega
        by_cases h5 : tk (rst x 2) 1 = 1
        · simpa only [dec, if_neg h0, if_neg h1, if_neg h2, if_pos h5] using of_4 x x0 x1 h3 h5 w
        · by_cases h6 : tk (rst (rst x 2) 1) 1 = 1 ∧ x % 16 = 12
          · simpa only [dec, if_neg h0, if_neg h1, if_neg h2, if_neg h5, if_pos h6] using of_6 x x0 x1 h3 h5 h6.1 h6.2 w
          · simpa only [dec, if_neg h0, if_neg h1, if_neg h2, if_neg h5, if_neg h6] using of_5 x x0 x1 h3 h5 (by omega) w
theorem of_fine (x : Int) (i : Ins) (x0 : 0 ≤ x) (x1 : x ≤ 4294967295) (h : dec x = (i, false)) (w : World) : Calls Tryz.prog 90 #[.int .u32 x] w fun e w' => e = .returned (.tuple #[insV i, .int .i64 0]) ∧ Below w.heap.size w w' := by
  have := of_any x x0 x1 w
  rw [h] at this
  exact this
theorem of_odd (x : Int) (x0 : 0 ≤ x) (x1 : x ≤ 4294967295) (h : (dec x).2 = true) (w : World) : Calls Tryz.prog 90 #[.int .u32 x] w fun e w' => e = .returned (.tuple #[insV ins0, .int .i64 4]) ∧ Below w.heap.size w w' := by
  have := of_any x x0 x1 w
  rw [h] at this
  exact this
def evCells (k pl : Int) (by_ : Bool) (reg val n : Int) : Array Value := #[.int .i64 k, .int .u32 pl, .bool by_, .int .i64 reg, .int .u32 val, .int .i64 n]
def cpu0 : Cpu := ⟨fun _ => 0, 0, false, false, false, false, 0⟩
theorem setRow_alloc_old (w : World) (o : Obj) (g : Nat) (cs : Array Value) (h : g < w.heap.size) : (w.alloc o).setRow g cs = (w.setRow g cs).alloc o := by
  simp only [World.setRow, World.alloc]
  congr 1
  apply Array.ext_getElem?
  intro i
  simp only [Array.getElem?_modify, Array.getElem?_push, Array.size_modify]
  by_cases h1 : g = i
  · subst h1
    have : ¬ g = w.heap.size := by omega
    simp [this]
  · simp [h1]
theorem heap3_0 (w : World) (a b c : Obj) : (((w.alloc a).alloc b).alloc c).heap[w.heap.size]? = some a := by
  rw [Below.heap_alloc ((w.alloc a).alloc b) c w.heap.size (by simp; omega), Below.heap_alloc (w.alloc a) b w.heap.size (by simp)]
  exact heap_alloc_new _ _
theorem heap3_1 (w : World) (a b c : Obj) : (((w.alloc a).alloc b).alloc c).heap[w.heap.size + 1]? = some b := by
  rw [Below.heap_alloc ((w.alloc a).alloc b) c (w.heap.size + 1) (by simp)]
  exact heap_alloc2_new _ _ _
theorem heap3_2 (w : World) (a b c : Obj) : (((w.alloc a).alloc b).alloc c).heap[w.heap.size + 1 + 1]? = some c := by
  have := heap_alloc2_new (w.alloc a) b c
  simpa using this
theorem set3_1 (w : World) (a c : Obj) (old cs : Array Value) (t : TypeId) : (((w.alloc a).alloc (.cells old t)).alloc c).setRow (w.heap.size + 1) cs = ((w.alloc a).alloc (.cells cs t)).alloc c := by
  rw [setRow_alloc_old _ _ _ _ (by simp)]
  congr 1
  have := World.setRow_alloc_new (w.alloc a) old cs t
  simpa using this
theorem results_two {P : Program} {fn : Func} {p q : Tmp} {ty uy : TypeId} (h : fn.results = #[.cell p ty, .cell q uy]) (tmps : Array Value) (w : World) (g k : Nat) (t u : TypeId) (cs ds : Array Value) (fr gr : Nat × Nat) (d e : TypeDesc)
    (hp : tmps.getD p undef = .pointer (some ⟨g, 0, none⟩)) (hq : tmps.getD q undef = .pointer (some ⟨k, 0, none⟩)) (hg : w.heap[g]? = some (.cells cs t fr)) (hk : w.heap[k]? = some (.cells ds u gr))
    (hu : P.underlying ty = some d) (hd : (match d with | .struct _ | .array _ _ => true | _ => false) = true) (hi : (P.info? ty).map (·.size) = some cs.size)
    (hv : P.underlying uy = some e) (he : (match e with | .struct _ | .array _ _ => true | _ => false) = true) (hj : (P.info? uy).map (·.size) = some ds.size) :
    (results fn tmps).run P w = .ok (.tuple #[.agg cs, .agg ds]) w := by
  have hp' : tmps[p]?.getD undef = .pointer (some ⟨g, 0, none⟩) := by simpa using hp
  have hq' : tmps[q]?.getD undef = .pointer (some ⟨k, 0, none⟩) := by simpa using hq
  simp [results, h, hp', hq', asAddr, run_loadVar_row w g t ty cs fr d hg hu hd hi, run_loadVar_row w k u uy ds gr e hk hv he hj]
/-- what Step tells -/
def StepIs (c : Cpu) (k pl : Int) (by_ : Bool) (reg val n : Int) (w : World) (e : Ending) (w' : World) : Prop := e = .returned (.tuple #[.agg (cpuCells c), .agg (evCells k pl by_ reg val n)]) ∧ Below w.heap.size w w'
theorem step_end {c : Cpu} {k pl : Int} {by_ : Bool} {reg val n : Int} {w W : World} {a : Act}
    (hg : W.heap[w.heap.size + 1]? = some (.cells (cpuCells c) 53 (0, 0))) (hk : W.heap[w.heap.size + 1 + 1]? = some (.cells (evCells k pl by_ reg val n) 119 (0, 0))) (hB : Below w.heap.size w W)
    (h4 : a.tmps.getD 4 undef = .pointer (some ⟨w.heap.size + 1, 0, none⟩)) (h5 : a.tmps.getD 5 undef = .pointer (some ⟨w.heap.size + 1 + 1, 0, none⟩)) (hd : a.defers = []) :
    bodyPost Tryz.prog Tryz.f68 (StepIs c k pl by_ reg val n w) Exit.ret a W :=
  bodyPost_ret (results_two rfl a.tmps W _ _ _ _ _ _ (0, 0) (0, 0) _ _ h4 h5 hg hk Tryz.underlying53 rfl (by kernel_rfl) Tryz.underlying119 rfl (by kernel_rfl)) hd ⟨rfl, hB⟩
/-- block p is o', and q is o: what is behind a turn of q -/
theorem Turn.other {p q : Nat} {o o' : Obj} {w w' : World} (h : Turn p o w w') (hq : w.heap[q]? = some o') (hn : q ≠ p) : w'.heap[q]? = some o' := (h.block q (Turn.lt hq) hn).trans hq
theorem cpu_size (c : Cpu) : (Tryz.prog.info? 53).map (·.size) = some (cpuCells c).size := by kernel_rfl
theorem cpu_one (c : Cpu) : (cpuCells c).all (·.oneCell') = true := by simp [cpuCells, Value.oneCell']
theorem cpu_pc (c : Cpu) : (cpuCells c)[21]? = some (.int .u32 c.pc) := rfl

set_option maxHeartbeats 4000000 in
theorem step_odd (c : Cpu) (x : Int) (x0 : 0 ≤ x) (x1 : x ≤ 4294967295) (hd : (dec x).2 = true) (w : World) :
    Calls Tryz.prog 68 #[.agg (cpuCells c), .int .u32 x] w (StepIs { c with pc := w32 (c.pc + 1) } 5 0 false 0 0 0 w) := by
  have HD := Lib.hid hd
  clear hd
  have HS := Lib.hid (cpu_size c)
  have H3 := Lib.hid (cpu_one c)
  have hpc := cpu_pc c
  go_enter Tryz.func68, Tryz.ntmps68
  go_wp2_with (first | (with_reducible refine wpList_load_row rfl 53 _ rfl w.heap.size rfl 53 (cpuCells c) (0, 0) _ (heap3_0 _ _ _ _) Tryz.underlying53 rfl HS.out ?_) | (with_reducible refine wpList_store_row rfl 53 _ _ rfl (w.heap.size + 1) (cpuCells c) rfl rfl 53 _ (heap3_1 _ _ _ _) HS.out rfl H3.out ?_; rw [set3_1]))
  rw [set_pc]
  refine (of_odd x x0 x1 HD.out _).mono ?_
  rintro e w2 ⟨rfl, b2⟩
  have s2 : w.heap.size + 3 ≤ w2.heap.size := by have := b2.size; simp at this; omega
  have s3 : w.heap.size + 1 + 1 < w2.heap.size := by omega
  have B2 : Below w.heap.size w w2 := (below3 _ _ _ _).trans (b2.mono (by simp; omega))
  have g1 := (b2.block (w.heap.size + 1) (by simp)).trans (heap3_1 _ _ _ _)
  have g2 := (b2.block (w.heap.size + 1 + 1) (by simp)).trans (heap3_2 _ _ _ _)
  have v0 : w2.cell? ⟨w.heap.size + 1 + 1, 0, none⟩ = some (.int .i64 0) := cell_at g2 0
  have v1 : w2.cell? ⟨w.heap.size + 1 + 1, 1, none⟩ = some (.int .u32 0) := cell_at g2 1
  have v2 : w2.cell? ⟨w.heap.size + 1 + 1, 2, none⟩ = some (.bool false) := cell_at g2 2
  have v3 : w2.cell? ⟨w.heap.size + 1 + 1, 3, none⟩ = some (.int .i64 0) := cell_at g2 3
  have v4 : w2.cell? ⟨w.heap.size + 1 + 1, 4, none⟩ = some (.int .u32 0) := cell_at g2 4
  have v5 : w2.cell? ⟨w.heap.size + 1 + 1, 5, none⟩ = some (.int .i64 0) := cell_at g2 5
  have vf : ∀ o, w2.frozen? ⟨w.heap.size + 1 + 1, o, none⟩ = false := free_at g2
  have G1 := Lib.hid g1
  have G2 := Lib.hid g2
  clear b2 g1 g2 hpc
  unfold insV ins0
  dsimp only
  go_wp2
  have T := ((Turn.refl G2.out).setCell 0 (.int .i64 5)).behind (below1 _ (Obj.cells #[.int .i64 0, .bool false, .bool false, .int .i64 0, .int .i64 0, .int .i64 0, .int .i64 0, .int .i64 0, .int .i64 0, .int .i64 0, .int .i64 0] 64))
  exact step_end (T.other G1.out (by omega)) T.at_ (B2.trans (T.below (by omega) (by omega))) rfl rfl rfl

theorem holds_cond (p : Nat) (c : Cpu) (k : Nat) (z : Int) (hz : z = k) (hk : k < 16) (w : World) (hb : w.heap[p]? = some (.cells (cpuCells c) 53 (0, 0))) :
    Calls Tryz.prog 94 #[.pointer (some ⟨p, 0, none⟩), .int .i64 z] w fun e w' => e = .returned (.bool (holdB c k)) ∧ Below w.heap.size w w' := by
  rw [hz]
  exact holds_any p c k hk w hb
def stV (v : Bool) (x : Int) : Int := if v then x % 256 else x
def nextC (c : Cpu) : Cpu := { c with pc := w32 (c.pc + 1) }
/-- an operation's end -/
def OpIs (c : Cpu) (o : Option Cpu) (w : World) (e : Ending) (w' : World) : Prop :=
  match o with
  | some c' => StepIs c' 0 0 false 0 0 0 w e w'
  | none => StepIs c 5 0 false 0 0 0 w e w'

theorem below1' {B : Nat} (w : World) (a : Obj) (h : B ≤ w.heap.size) : Below B w (w.alloc a) := (Below.refl _ _).alloc h _
theorem srcI_bd (c : Cpu) (u : Bool) (op : Int) (C : Nat) (hr : ∀ k, 0 ≤ c.r k ∧ c.r k ≤ 4294967295) (hh : 0 ≤ c.h ∧ c.h ≤ 4294967295) : 0 ≤ srcI c u op C ∧ srcI c u op C ≤ 4294967295 := by
  unfold srcI
  split
  · exact hr C
  · split
    · exact hh
    · exact flagsI_bd _ _ _ _

set_option maxHeartbeats 4000000 in
theorem step_reg (c : Cpu) (x : Int) (i : Ins) (x0 : 0 ≤ x) (x1 : x ≤ 4294967295) (hd : dec x = (i, false)) (hr : ∀ k, 0 ≤ c.r k ∧ c.r k ≤ 4294967295) (hh : 0 ≤ c.h ∧ c.h ≤ 4294967295) (A B C : Nat) (hA : A < 16) (hB : B < 16) (hC : C < 16) (ia : i.a = A) (ib : i.b = B) (ic : i.c = C) (o0 : 0 ≤ i.op) (o1 : i.op ≤ 11) (hf : i.form = 0) (w : World) :
    Calls Tryz.prog 68 #[.agg (cpuCells c), .int .u32 x] w (OpIs (nextC c) (oprC (nextC c) i.op i.u A B (srcI (nextC c) i.u i.op C)) w) := by
  have HD := Lib.hid hd
  clear hd
  have f0 : (i.form == 0) = true := by simp [hf]
  have hn := srcI_bd (nextC c) i.u i.op C hr hh
  have IC := Lib.hid ic
  have IA := Lib.hid ia
  have IB := Lib.hid ib
  clear ia ib ic hf
  have HS := Lib.hid (cpu_size c)
  have H3 := Lib.hid (cpu_one c)
  have hpc := cpu_pc c
  go_enter Tryz.func68, Tryz.ntmps68
  go_wp2_with (first | (with_reducible refine wpList_load_row rfl 53 _ rfl w.heap.size rfl 53 (cpuCells c) (0, 0) _ (heap3_0 _ _ _ _) Tryz.underlying53 rfl HS.out ?_) | (with_reducible refine wpList_store_row rfl 53 _ _ rfl (w.heap.size + 1) (cpuCells c) rfl rfl 53 _ (heap3_1 _ _ _ _) HS.out rfl H3.out ?_; rw [set3_1]))
  rw [set_pc]
  refine (of_fine x i x0 x1 HD.out _).mono ?_
  rintro e w2 ⟨rfl, b2⟩
  have s2 : w.heap.size + 3 ≤ w2.heap.size := by have := b2.size; simp at this; omega
  have s3 : w.heap.size + 1 + 1 < w2.heap.size := by omega
  have B2 : Below w.heap.size w w2 := (below3 _ _ _ _).trans (b2.mono (by simp; omega))
  have g1 := (b2.block (w.heap.size + 1) (by simp)).trans (heap3_1 _ _ _ _)
  have g2 := (b2.block (w.heap.size + 1 + 1) (by simp)).trans (heap3_2 _ _ _ _)
  have v0 : w2.cell? ⟨w.heap.size + 1 + 1, 0, none⟩ = some (.int .i64 0) := cell_at g2 0
  have v1 : w2.cell? ⟨w.heap.size + 1 + 1, 1, none⟩ = some (.int .u32 0) := cell_at g2 1
  have v2 : w2.cell? ⟨w.heap.size + 1 + 1, 2, none⟩ = some (.bool false) := cell_at g2 2
  have v3 : w2.cell? ⟨w.heap.size + 1 + 1, 3, none⟩ = some (.int .i64 0) := cell_at g2 3
  have v4 : w2.cell? ⟨w.heap.size + 1 + 1, 4, none⟩ = some (.int .u32 0) := cell_at g2 4
  have v5 : w2.cell? ⟨w.heap.size + 1 + 1, 5, none⟩ = some (.int .i64 0) := cell_at g2 5
  have vf : ∀ o, w2.frozen? ⟨w.heap.size + 1 + 1, o, none⟩ = false := free_at g2
  have G1 := Lib.hid g1
  have G2 := Lib.hid g2
  clear b2 g1 g2 hpc
  have s1 : w.heap.size + 1 < w2.heap.size := by omega
  unfold insV
  dsimp only
  go_wp2_with fail
  have G1a := (Below.heap_alloc w2 (Obj.cells #[.int .i64 i.form, .bool i.u, .bool i.v, .int .i64 i.a, .int .i64 i.b, .int .i64 i.c, .int .i64 i.op, .int .i64 i.im, .int .i64 i.off, .int .i64 i.cond, .int .i64 i.n] 64) (w.heap.size + 1) (by omega)).trans G1.out
  have G2a := (Below.heap_alloc w2 (Obj.cells #[.int .i64 i.form, .bool i.u, .bool i.v, .int .i64 i.a, .int .i64 i.b, .int .i64 i.c, .int .i64 i.op, .int .i64 i.im, .int .i64 i.off, .int .i64 i.cond, .int .i64 i.n] 64) (w.heap.size + 1 + 1) (by omega)).trans G2.out
  have GIa : (w2.alloc (Obj.cells #[.int .i64 i.form, .bool i.u, .bool i.v, .int .i64 i.a, .int .i64 i.b, .int .i64 i.c, .int .i64 i.op, .int .i64 i.im, .int .i64 i.off, .int .i64 i.cond, .int .i64 i.n] 64)).heap[w2.heap.size]? = some (.cells (insCells i) 64 (0, 0)) := heap_alloc_new _ _
  refine (source_any (w.heap.size + 1) w2.heap.size (nextC c) i C hC IC.out _ G1a (insAt GIa)).mono ?_
  rintro e w3 ⟨rfl, b3⟩
  have G1b := (b3.block _ (Turn.lt G1a)).trans G1a
  have G2b := (b3.block _ (Turn.lt G2a)).trans G2a
  have GIb := (b3.block _ (Turn.lt GIa)).trans GIa
  have z3 := b3.size
  have B3 : Below w.heap.size w w3 := (B2.trans (below1' _ _ (by omega))).trans (b3.mono (by simp; omega))
  have K1 := Lib.hid G1b
  have K2 := Lib.hid G2b
  have KI := Lib.hid GIb
  clear G1a G2a GIa G1b G2b GIb
  go_wp2_with fail
  refine (operate_any (w.heap.size + 1) w2.heap.size (nextC c) i A B hA hB IA.out IB.out o0 o1 _ hn.1 hn.2 (hr _).1 (hr _).2 _ K1.out (insAt KI.out)).mono ?_
  cases hop : oprC (nextC c) i.op i.u A B (srcI (nextC c) i.u i.op C) with
  | some c' =>
    rintro e w4 ⟨rfl, tw⟩
    have K2c := tw.other K2.out (by omega)
    have v0' : w4.cell? ⟨w.heap.size + 1 + 1, 0, none⟩ = some (.int .i64 0) := cell_at K2c 0
    have vf' : ∀ o, w4.frozen? ⟨w.heap.size + 1 + 1, o, none⟩ = false := free_at K2c
    have HT := Lib.hid tw
    have KC := Lib.hid K2c
    clear tw K2c
    go_wp2
    have T := (Turn.refl KC.out).setCell 0 (.int .i64 0)
    rw [hop]
    unfold OpIs
    exact step_end (T.other HT.out.at_ (by omega)) T.at_ ((B3.trans (HT.out.below (by omega) (by simp at z3; omega))).trans (T.below (by omega) (by have := HT.out.size; simp at z3; omega))) rfl rfl rfl
  | none =>
    rintro e w4 ⟨rfl, tw⟩
    have K2c := tw.other K2.out (by omega)
    have v0' : w4.cell? ⟨w.heap.size + 1 + 1, 0, none⟩ = some (.int .i64 0) := cell_at K2c 0
    have vf' : ∀ o, w4.frozen? ⟨w.heap.size + 1 + 1, o, none⟩ = false := free_at K2c
    have HT := Lib.hid tw
    have KC := Lib.hid K2c
    clear tw K2c
    go_wp2
    have T := (Turn.refl KC.out).setCell 0 (.int .i64 5)
    rw [hop]
    unfold OpIs
    exact step_end (T.other HT.out.at_ (by omega)) T.at_ ((B3.trans (HT.out.below (by omega) (by simp at z3; omega))).trans (T.below (by omega) (by have := HT.out.size; simp at z3; omega))) rfl rfl rfl

set_option maxHeartbeats 4000000 in
theorem step_im (c : Cpu) (x : Int) (i : Ins) (x0 : 0 ≤ x) (x1 : x ≤ 4294967295) (hd : dec x = (i, false)) (hr : ∀ k, 0 ≤ c.r k ∧ c.r k ≤ 4294967295) (A B : Nat) (hA : A < 16) (hB : B < 16) (ia : i.a = A) (ib : i.b = B) (m0 : 0 ≤ i.im) (m1 : i.im ≤ 65535) (o0 : 0 ≤ i.op) (o1 : i.op ≤ 11) (hf : i.form = 1) (w : World) :
    Calls Tryz.prog 68 #[.agg (cpuCells c), .int .u32 x] w (OpIs (nextC c) (oprC (nextC c) i.op i.u A B (valI i.u i.v i.op i.im)) w) := by
  have HD := Lib.hid hd
  clear hd
  have f0 : (i.form == 0) = false := by simp [hf]
  have f1 : (i.form == 1) = true := by simp [hf]
  have hn := valI_bd i.u i.v i.op i.im m0 m1
  have IA := Lib.hid ia
  have IB := Lib.hid ib
  have HF := Lib.hid hf
  clear ia ib hf
  have HS := Lib.hid (cpu_size c)
  have H3 := Lib.hid (cpu_one c)
  have hpc := cpu_pc c
  go_enter Tryz.func68, Tryz.ntmps68
  go_wp2_with (first | (with_reducible refine wpList_load_row rfl 53 _ rfl w.heap.size rfl 53 (cpuCells c) (0, 0) _ (heap3_0 _ _ _ _) Tryz.underlying53 rfl HS.out ?_) | (with_reducible refine wpList_store_row rfl 53 _ _ rfl (w.heap.size + 1) (cpuCells c) rfl rfl 53 _ (heap3_1 _ _ _ _) HS.out rfl H3.out ?_; rw [set3_1]))
  rw [set_pc]
  refine (of_fine x i x0 x1 HD.out _).mono ?_
  rintro e w2 ⟨rfl, b2⟩
  have s2 : w.heap.size + 3 ≤ w2.heap.size := by have := b2.size; simp at this; omega
  have s3 : w.heap.size + 1 + 1 < w2.heap.size := by omega
  have B2 : Below w.heap.size w w2 := (below3 _ _ _ _).trans (b2.mono (by simp; omega))
  have g1 := (b2.block (w.heap.size + 1) (by simp)).trans (heap3_1 _ _ _ _)
  have g2 := (b2.block (w.heap.size + 1 + 1) (by simp)).trans (heap3_2 _ _ _ _)
  have v0 : w2.cell? ⟨w.heap.size + 1 + 1, 0, none⟩ = some (.int .i64 0) := cell_at g2 0
  have v1 : w2.cell? ⟨w.heap.size + 1 + 1, 1, none⟩ = some (.int .u32 0) := cell_at g2 1
  have v2 : w2.cell? ⟨w.heap.size + 1 + 1, 2, none⟩ = some (.bool false) := cell_at g2 2
  have v3 : w2.cell? ⟨w.heap.size + 1 + 1, 3, none⟩ = some (.int .i64 0) := cell_at g2 3
  have v4 : w2.cell? ⟨w.heap.size + 1 + 1, 4, none⟩ = some (.int .u32 0) := cell_at g2 4
  have v5 : w2.cell? ⟨w.heap.size + 1 + 1, 5, none⟩ = some (.int .i64 0) := cell_at g2 5
  have vf : ∀ o, w2.frozen? ⟨w.heap.size + 1 + 1, o, none⟩ = false := free_at g2
  have G1 := Lib.hid g1
  have G2 := Lib.hid g2
  clear b2 g1 g2 hpc
  have s1 : w.heap.size + 1 < w2.heap.size := by omega
  unfold insV
  dsimp only
  go_wp2_with fail
  have G1a := (Below.heap_alloc w2 (Obj.cells #[.int .i64 i.form, .bool i.u, .bool i.v, .int .i64 i.a, .int .i64 i.b, .int .i64 i.c, .int .i64 i.op, .int .i64 i.im, .int .i64 i.off, .int .i64 i.cond, .int .i64 i.n] 64) (w.heap.size + 1) (by omega)).trans G1.out
  have G2a := (Below.heap_alloc w2 (Obj.cells #[.int .i64 i.form, .bool i.u, .bool i.v, .int .i64 i.a, .int .i64 i.b, .int .i64 i.c, .int .i64 i.op, .int .i64 i.im, .int .i64 i.off, .int .i64 i.cond, .int .i64 i.n] 64) (w.heap.size + 1 + 1) (by omega)).trans G2.out
  have GIa : (w2.alloc (Obj.cells #[.int .i64 i.form, .bool i.u, .bool i.v, .int .i64 i.a, .int .i64 i.b, .int .i64 i.c, .int .i64 i.op, .int .i64 i.im, .int .i64 i.off, .int .i64 i.cond, .int .i64 i.n] 64)).heap[w2.heap.size]? = some (.cells (insCells i) 64 (0, 0)) := heap_alloc_new _ _
  refine (value_f _ HF.out _ _ _ _ _ _ _ _ _ _ m0 m1 _).mono ?_
  rintro e w3 ⟨rfl, b3⟩
  have G1b := (b3.block _ (Turn.lt G1a)).trans G1a
  have G2b := (b3.block _ (Turn.lt G2a)).trans G2a
  have GIb := (b3.block _ (Turn.lt GIa)).trans GIa
  have z3 := b3.size
  have B3 : Below w.heap.size w w3 := (B2.trans (below1' _ _ (by omega))).trans (b3.mono (by simp; omega))
  have K1 := Lib.hid G1b
  have K2 := Lib.hid G2b
  have KI := Lib.hid GIb
  clear G1a G2a GIa G1b G2b GIb
  go_wp2_with fail
  refine (operate_any (w.heap.size + 1) w2.heap.size (nextC c) i A B hA hB IA.out IB.out o0 o1 _ hn.1 hn.2 (hr _).1 (hr _).2 _ K1.out (insAt KI.out)).mono ?_
  cases hop : oprC (nextC c) i.op i.u A B (valI i.u i.v i.op i.im) with
  | some c' =>
    rintro e w4 ⟨rfl, tw⟩
    have K2c := tw.other K2.out (by omega)
    have v0' : w4.cell? ⟨w.heap.size + 1 + 1, 0, none⟩ = some (.int .i64 0) := cell_at K2c 0
    have vf' : ∀ o, w4.frozen? ⟨w.heap.size + 1 + 1, o, none⟩ = false := free_at K2c
    have HT := Lib.hid tw
    have KC := Lib.hid K2c
    clear tw K2c
    go_wp2
    have T := (Turn.refl KC.out).setCell 0 (.int .i64 0)
    rw [hop]
    unfold OpIs
    exact step_end (T.other HT.out.at_ (by omega)) T.at_ ((B3.trans (HT.out.below (by omega) (by simp at z3; omega))).trans (T.below (by omega) (by have := HT.out.size; simp at z3; omega))) rfl rfl rfl
  | none =>
    rintro e w4 ⟨rfl, tw⟩
    have K2c := tw.other K2.out (by omega)
    have v0' : w4.cell? ⟨w.heap.size + 1 + 1, 0, none⟩ = some (.int .i64 0) := cell_at K2c 0
    have vf' : ∀ o, w4.frozen? ⟨w.heap.size + 1 + 1, o, none⟩ = false := free_at K2c
    have HT := Lib.hid tw
    have KC := Lib.hid K2c
    clear tw K2c
    go_wp2
    have T := (Turn.refl KC.out).setCell 0 (.int .i64 5)
    rw [hop]
    unfold OpIs
    exact step_end (T.other HT.out.at_ (by omega)) T.at_ ((B3.trans (HT.out.below (by omega) (by simp at z3; omega))).trans (T.below (by omega) (by have := HT.out.size; simp at z3; omega))) rfl rfl rfl

set_option maxHeartbeats 4000000 in
theorem step_load (c : Cpu) (x : Int) (u v : Bool) (a b ci op im off cond n : Int) (x0 : 0 ≤ x) (x1 : x ≤ 4294967295) (hd : dec x = (⟨2, u, v, a, b, ci, op, im, off, cond, n⟩, false)) (hr : ∀ k, 0 ≤ c.r k ∧ c.r k ≤ 4294967295) (B : Nat) (hB : B < 16) (ib : b = B) (o0 : -524288 ≤ off) (o1 : off ≤ 524287) (w : World) :
    Calls Tryz.prog 68 #[.agg (cpuCells c), .int .u32 x] w (StepIs (nextC c) 1 (w32 (c.r B + off)) v a 0 0 w) := by
  subst ib
  have HD := Lib.hid hd
  clear hd
  have HS := Lib.hid (cpu_size c)
  have H3 := Lib.hid (cpu_one c)
  have hpc := cpu_pc c
  go_enter Tryz.func68, Tryz.ntmps68
  go_wp2_with (first | (with_reducible refine wpList_load_row rfl 53 _ rfl w.heap.size rfl 53 (cpuCells c) (0, 0) _ (heap3_0 _ _ _ _) Tryz.underlying53 rfl HS.out ?_) | (with_reducible refine wpList_store_row rfl 53 _ _ rfl (w.heap.size + 1) (cpuCells c) rfl rfl 53 _ (heap3_1 _ _ _ _) HS.out rfl H3.out ?_; rw [set3_1]))
  rw [set_pc]
  refine (of_fine x _ x0 x1 HD.out _).mono ?_
  rintro e w2 ⟨rfl, b2⟩
  have s2 : w.heap.size + 3 ≤ w2.heap.size := by have := b2.size; simp at this; omega
  have s3 : w.heap.size + 1 + 1 < w2.heap.size := by omega
  have B2 : Below w.heap.size w w2 := (below3 _ _ _ _).trans (b2.mono (by simp; omega))
  have g1 := (b2.block (w.heap.size + 1) (by simp)).trans (heap3_1 _ _ _ _)
  have g2 := (b2.block (w.heap.size + 1 + 1) (by simp)).trans (heap3_2 _ _ _ _)
  have v0 : w2.cell? ⟨w.heap.size + 1 + 1, 0, none⟩ = some (.int .i64 0) := cell_at g2 0
  have v1 : w2.cell? ⟨w.heap.size + 1 + 1, 1, none⟩ = some (.int .u32 0) := cell_at g2 1
  have v2 : w2.cell? ⟨w.heap.size + 1 + 1, 2, none⟩ = some (.bool false) := cell_at g2 2
  have v3 : w2.cell? ⟨w.heap.size + 1 + 1, 3, none⟩ = some (.int .i64 0) := cell_at g2 3
  have v4 : w2.cell? ⟨w.heap.size + 1 + 1, 4, none⟩ = some (.int .u32 0) := cell_at g2 4
  have v5 : w2.cell? ⟨w.heap.size + 1 + 1, 5, none⟩ = some (.int .i64 0) := cell_at g2 5
  have vf : ∀ o, w2.frozen? ⟨w.heap.size + 1 + 1, o, none⟩ = false := free_at g2
  have G1 := Lib.hid g1
  have G2 := Lib.hid g2
  clear b2 g1 g2 hpc
  have s1 : w.heap.size + 1 < w2.heap.size := by omega
  unfold insV
  dsimp only
  go_wp2_with fail
  have G1a := (Below.heap_alloc w2 (Obj.cells #[.int .i64 2, .bool u, .bool v, .int .i64 a, .int .i64 B, .int .i64 ci, .int .i64 op, .int .i64 im, .int .i64 off, .int .i64 cond, .int .i64 n] 64) (w.heap.size + 1) (by omega)).trans G1.out
  have G2a := (Below.heap_alloc w2 (Obj.cells #[.int .i64 2, .bool u, .bool v, .int .i64 a, .int .i64 B, .int .i64 ci, .int .i64 op, .int .i64 im, .int .i64 off, .int .i64 cond, .int .i64 n] 64) (w.heap.size + 1 + 1) (by omega)).trans G2.out
  have GIa : (w2.alloc (Obj.cells #[.int .i64 2, .bool u, .bool v, .int .i64 a, .int .i64 B, .int .i64 ci, .int .i64 op, .int .i64 im, .int .i64 off, .int .i64 cond, .int .i64 n] 64)).heap[w2.heap.size]? = some ((Obj.cells #[.int .i64 2, .bool u, .bool v, .int .i64 a, .int .i64 B, .int .i64 ci, .int .i64 op, .int .i64 im, .int .i64 off, .int .i64 cond, .int .i64 n] 64)) := heap_alloc_new _ _
  have BW := B2.trans (below1' w2 (Obj.cells #[.int .i64 2, .bool u, .bool v, .int .i64 a, .int .i64 B, .int .i64 ci, .int .i64 op, .int .i64 im, .int .i64 off, .int .i64 cond, .int .i64 n] 64) (by omega))
  have sW : w.heap.size + 1 + 1 < (w2.alloc (Obj.cells #[.int .i64 2, .bool u, .bool v, .int .i64 a, .int .i64 B, .int .i64 ci, .int .i64 op, .int .i64 im, .int .i64 off, .int .i64 cond, .int .i64 n] 64)).heap.size := by simp; omega
  generalize w2.alloc (Obj.cells #[.int .i64 2, .bool u, .bool v, .int .i64 a, .int .i64 B, .int .i64 ci, .int .i64 op, .int .i64 im, .int .i64 off, .int .i64 cond, .int .i64 n] 64) = W at *
  have i0 : W.cell? ⟨w2.heap.size, 0, none⟩ = some (.int .i64 2) := cell_at GIa 0
  have i2 : W.cell? ⟨w2.heap.size, 2, none⟩ = some (.bool v) := cell_at GIa 2
  have i3 : W.cell? ⟨w2.heap.size, 3, none⟩ = some (.int .i64 a) := cell_at GIa 3
  have i4 : W.cell? ⟨w2.heap.size, 4, none⟩ = some (.int .i64 B) := cell_at GIa 4
  have i8 : W.cell? ⟨w2.heap.size, 8, none⟩ = some (.int .i64 off) := cell_at GIa 8
  have i10 : W.cell? ⟨w2.heap.size, 10, none⟩ = some (.int .i64 n) := cell_at GIa 10
  have u0 : W.cell? ⟨w.heap.size + 1 + 1, 0, none⟩ = some (.int .i64 0) := cell_at G2a 0
  have u1 : W.cell? ⟨w.heap.size + 1 + 1, 1, none⟩ = some (.int .u32 0) := cell_at G2a 1
  have u2 : W.cell? ⟨w.heap.size + 1 + 1, 2, none⟩ = some (.bool false) := cell_at G2a 2
  have u3 : W.cell? ⟨w.heap.size + 1 + 1, 3, none⟩ = some (.int .i64 0) := cell_at G2a 3
  have u4 : W.cell? ⟨w.heap.size + 1 + 1, 4, none⟩ = some (.int .u32 0) := cell_at G2a 4
  have u5 : W.cell? ⟨w.heap.size + 1 + 1, 5, none⟩ = some (.int .i64 0) := cell_at G2a 5
  have uf : ∀ o, W.frozen? ⟨w.heap.size + 1 + 1, o, none⟩ = false := free_at G2a
  have hrb : W.cell? ⟨w.heap.size + 1, B, none⟩ = some (.int .u32 (c.r B)) := (cell_at G1a B).trans (reg_cell _ B hB)
  have hB1 : (B : Int) < 16 := by omega
  obtain ⟨rb, hRB⟩ : ∃ rb, c.r B = rb := ⟨_, rfl⟩
  have hr1 := hr B
  rw [hRB] at hrb hr1
  have RB := Lib.hid hRB
  clear hRB
  have hne : ¬ w2.heap.size = w.heap.size + 1 + 1 := by omega
  have hne1 : ¬ w2.heap.size = w.heap.size + 1 := by omega
  have K1 := Lib.hid G1a
  have K2 := Lib.hid G2a
  clear G1a G2a GIa v0 v1 v2 v3 v4 v5 vf
  go_region
  all_goals go_wp2
  have T := (((((Turn.refl K2.out).setCell 0 (.int .i64 1)).setCell 1 (.int .u32 ((rb + off) % 4294967296))).setCell 2 (.bool v)).setCell 3 (.int .i64 a)).to (show _ = evCells 1 (w32 (c.r B + off)) v a 0 0 by rw [RB.out]; simp [evCells, w32])
  exact step_end (T.drew.other K1.out (by omega)) T.drew.at_ (BW.trans (T.drew.below (by omega) (by omega))) rfl rfl rfl

end Go.Proofs.YtlgdlaohfkgkfaaGreat

/-
  The contract of Step of package risc: jumps, calls of the system.
-/
import Derived.Test.YtlgdlaohfkgkfaaGreatRiscD
namespace Go.Proofs.YtlgdlaohfkgkfaaGreat
open Go.ChangeShapes Go.WideShapes Go.ChangeAt Go.RowKit
set_option linter.unusedVariables false

def jmpC (c : Cpu) (i : Ins) (C K : Nat) : Cpu := if holdB c K then jumpC c i.form i.v i.off C else c

set_option maxHeartbeats 4000000 in
theorem step_jump4 (c : Cpu) (x : Int) (i : Ins) (x0 : 0 ≤ x) (x1 : x ≤ 4294967295) (hd : dec x = (i, false)) (hr : ∀ k, 0 ≤ c.r k ∧ c.r k ≤ 4294967295) (C K : Nat) (hC : C < 16) (hK : K < 16) (ic : i.c = C) (ik : i.cond = K) (o0 : -8388608 ≤ i.off) (o1 : i.off ≤ 8388607) (hf : i.form = 4) (w : World) :
    Calls Tryz.prog 68 #[.agg (cpuCells c), .int .u32 x] w (StepIs (jmpC (nextC c) i C K) 0 0 false 0 0 0 w) := by
  have HD := Lib.hid hd
  clear hd
  have f0 : (i.form == 0) = false := by simp [hf]
  have f1 : (i.form == 1) = false := by simp [hf]
  have f2 : (i.form == 2) = false := by simp [hf]
  have f3 : (i.form == 3) = false := by simp [hf]
  have f4 : (i.form == 4) = true := by simp [hf]
  have IC := Lib.hid ic
  have HF := Lib.hid hf
  have HK := Lib.hid ik
  clear ic hf ik
  have HS := Lib.hid (cpu_size c)
  have H3 := Lib.hid (cpu_one c)
  have hpc := cpu_pc c
  go_enter Tryz.func68, Tryz.ntmps68
  go_wp2_with (first | (with_reducible refine wpList_load_row rfl 53 _ rfl w.heap.size rfl 53 (cpuCells c) (0, 0) _ (heap3_0 _ _ _ _) Tryz.underlying53 rfl HS.out ?_) | (with_reducible refine wpList_store_row rfl 53 _ _ rfl (w.heap.size + 1) (cpuCells c) rfl rfl 53 _ (heap3_1 _ _ _ _) HS.out rfl H3.out ?_; rw [set3_1]))
  rw [set_pc]
  refine (of_fine x i x0 x1 HD.out _).mono ?_
  rintro e w2 ⟨rfl, b2⟩
  have s2 : w.heap.size + 3 ≤ w2.heap.size := by have := b2.size; simp at this; omega
  have s3 : w.heap.size + 1 + 1 < w2.heap.size := by omega
  have B2 : Below w.heap.size w w2 := (below3 _ _ _ _).trans (b2.mono (by simp; omega))
  have g1 := (b2.block (w.heap.size + 1) (by simp)).trans (heap3_1 _ _ _ _)
  have g2 := (b2.block (w.heap.size + 1 + 1) (by simp)).trans (heap3_2 _ _ _ _)
  have v0 : w2.cell? ⟨w.heap.size + 1 + 1, 0, none⟩ = some (.int .i64 0) := cell_at g2 0
  have v1 : w2.cell? ⟨w.heap.size + 1 + 1, 1, none⟩ = some (.int .u32 0) := cell_at g2 1
  have v2 : w2.cell? ⟨w.heap.size + 1 + 1, 2, none⟩ = some (.bool false) := cell_at g2 2
  have v3 : w2.cell? ⟨w.heap.size + 1 + 1, 3, none⟩ = some (.int .i64 0) := cell_at g2 3
  have v4 : w2.cell? ⟨w.heap.size + 1 + 1, 4, none⟩ = some (.int .u32 0) := cell_at g2 4
  have v5 : w2.cell? ⟨w.heap.size + 1 + 1, 5, none⟩ = some (.int .i64 0) := cell_at g2 5
  have vf : ∀ o, w2.frozen? ⟨w.heap.size + 1 + 1, o, none⟩ = false := free_at g2
  have G1 := Lib.hid g1
  have G2 := Lib.hid g2
  clear b2 g1 g2 hpc
  have s1 : w.heap.size + 1 < w2.heap.size := by omega
  unfold insV
  dsimp only
  go_wp2_with fail
  have G1a := (Below.heap_alloc w2 (Obj.cells #[.int .i64 i.form, .bool i.u, .bool i.v, .int .i64 i.a, .int .i64 i.b, .int .i64 i.c, .int .i64 i.op, .int .i64 i.im, .int .i64 i.off, .int .i64 i.cond, .int .i64 i.n] 64) (w.heap.size + 1) (by omega)).trans G1.out
  have G2a := (Below.heap_alloc w2 (Obj.cells #[.int .i64 i.form, .bool i.u, .bool i.v, .int .i64 i.a, .int .i64 i.b, .int .i64 i.c, .int .i64 i.op, .int .i64 i.im, .int .i64 i.off, .int .i64 i.cond, .int .i64 i.n] 64) (w.heap.size + 1 + 1) (by omega)).trans G2.out
  have GIa : (w2.alloc (Obj.cells #[.int .i64 i.form, .bool i.u, .bool i.v, .int .i64 i.a, .int .i64 i.b, .int .i64 i.c, .int .i64 i.op, .int .i64 i.im, .int .i64 i.off, .int .i64 i.cond, .int .i64 i.n] 64)).heap[w2.heap.size]? = some (.cells (insCells i) 64 (0, 0)) := heap_alloc_new _ _
  refine (holds_cond (w.heap.size + 1) (nextC c) K _ HK.out hK _ G1a).mono ?_
  rintro e w3 ⟨rfl, b3⟩
  have G1b := (b3.block _ (Turn.lt G1a)).trans G1a
  have G2b := (b3.block _ (Turn.lt G2a)).trans G2a
  have GIb := (b3.block _ (Turn.lt GIa)).trans GIa
  have z3 := b3.size
  have B3 : Below w.heap.size w w3 := (B2.trans (below1' _ _ (by omega))).trans (b3.mono (by simp; omega))
  have K1 := Lib.hid G1b
  have K2 := Lib.hid G2b
  have KI := Lib.hid GIb
  clear G1a G2a GIa G1b G2b GIb
  cases hh : holdB (nextC c) K
  · have e := Lib.hid (show jmpC (nextC c) i C K = nextC c by unfold jmpC; rw [hh]; rfl)
    clear hh
    go_wp2
    rw [e.out]
    exact step_end K1.out K2.out B3 rfl rfl rfl
  · have e := Lib.hid (show jmpC (nextC c) i C K = jumpC (nextC c) i.form i.v i.off C by unfold jmpC; rw [hh]; rfl)
    clear hh
    go_wp2_with fail
    refine (jump_any (w.heap.size + 1) w2.heap.size (nextC c) i C hC IC.out _ K1.out (insAt KI.out) (hr _).1 (hr _).2 (by omega) (by omega) (by have := HF.out; omega)).mono ?_
    rintro e2 w4 ⟨rfl, tw⟩
    have HT := Lib.hid tw
    clear tw
    go_wp2
    rw [e.out]
    exact step_end HT.out.at_ (HT.out.other K2.out (by omega)) (B3.trans (HT.out.below (by omega) (by simp at z3; omega))) rfl rfl rfl

set_option maxHeartbeats 4000000 in
theorem step_jump5 (c : Cpu) (x : Int) (i : Ins) (x0 : 0 ≤ x) (x1 : x ≤ 4294967295) (hd : dec x = (i, false)) (hr : ∀ k, 0 ≤ c.r k ∧ c.r k ≤ 4294967295) (C K : Nat) (hC : C < 16) (hK : K < 16) (ic : i.c = C) (ik : i.cond = K) (o0 : -8388608 ≤ i.off) (o1 : i.off ≤ 8388607) (hf : i.form = 5) (w : World) :
    Calls Tryz.prog 68 #[.agg (cpuCells c), .int .u32 x] w (StepIs (jmpC (nextC c) i C K) 0 0 false 0 0 0 w) := by
  have HD := Lib.hid hd
  clear hd
  have f0 : (i.form == 0) = false := by simp [hf]
  have f1 : (i.form == 1) = false := by simp [hf]
  have f2 : (i.form == 2) = false := by simp [hf]
  have f3 : (i.form == 3) = false := by simp [hf]
  have f4 : (i.form == 4) = false := by simp [hf]
  have f5 : (i.form == 5) = true := by simp [hf]
  have IC := Lib.hid ic
  have HF := Lib.hid hf
  have HK := Lib.hid ik
  clear ic hf ik
  have HS := Lib.hid (cpu_size c)
  have H3 := Lib.hid (cpu_one c)
  have hpc := cpu_pc c
  go_enter Tryz.func68, Tryz.ntmps68
  go_wp2_with (first | (with_reducible refine wpList_load_row rfl 53 _ rfl w.heap.size rfl 53 (cpuCells c) (0, 0) _ (heap3_0 _ _ _ _) Tryz.underlying53 rfl HS.out ?_) | (with_reducible refine wpList_store_row rfl 53 _ _ rfl (w.heap.size + 1) (cpuCells c) rfl rfl 53 _ (heap3_1 _ _ _ _) HS.out rfl H3.out ?_; rw [set3_1]))
  rw [set_pc]
  refine (of_fine x i x0 x1 HD.out _).mono ?_
  rintro e w2 ⟨rfl, b2⟩
  have s2 : w.heap.size + 3 ≤ w2.heap.size := by have := b2.size; simp at this; omega
  have s3 : w.heap.size + 1 + 1 < w2.heap.size := by omega
  have B2 : Below w.heap.size w w2 := (below3 _ _ _ _).trans (b2.mono (by simp; omega))
  have g1 := (b2.block (w.heap.size + 1) (by simp)).trans (heap3_1 _ _ _ _)
  have g2 := (b2.block (w.heap.size + 1 + 1) (by simp)).trans (heap3_2 _ _ _ _)
  have v0 : w2.cell? ⟨w.heap.size + 1 + 1, 0, none⟩ = some (.int .i64 0) := cell_at g2 0
  have v1 : w2.cell? ⟨w.heap.size + 1 + 1, 1, none⟩ = some (.int .u32 0) := cell_at g2 1
  have v2 : w2.cell? ⟨w.heap.size + 1 + 1, 2, none⟩ = some (.bool false) := cell_at g2 2
  have v3 : w2.cell? ⟨w.heap.size + 1 + 1, 3, none⟩ = some (.int .i64 0) := cell_at g2 3
  have v4 : w2.cell? ⟨w.heap.size + 1 + 1, 4, none⟩ = some (.int .u32 0) := cell_at g2 4
  have v5 : w2.cell? ⟨w.heap.size + 1 + 1, 5, none⟩ = some (.int .i64 0) := cell_at g2 5
  have vf : ∀ o, w2.frozen? ⟨w.heap.size + 1 + 1, o, none⟩ = false := free_at g2
  have G1 := Lib.hid g1
  have G2 := Lib.hid g2
  clear b2 g1 g2 hpc
  have s1 : w.heap.size + 1 < w2.heap.size := by omega
  unfold insV
  dsimp only
  go_wp2_with fail
  have G1a := (Below.heap_alloc w2 (Obj.cells #[.int .i64 i.form, .bool i.u, .bool i.v, .int .i64 i.a, .int .i64 i.b, .int .i64 i.c, .int .i64 i.op, .int .i64 i.im, .int .i64 i.off, .int .i64 i.cond, .int .i64 i.n] 64) (w.heap.size + 1) (by omega)).trans G1.out
  have G2a := (Below.heap_alloc w2 (Obj.cells #[.int .i64 i.form, .bool i.u, .bool i.v, .int .i64 i.a, .int .i64 i.b, .int .i64 i.c, .int .i64 i.op, .int .i64 i.im, .int .i64 i.off, .int .i64 i.cond, .int .i64 i.n] 64) (w.heap.size + 1 + 1) (by omega)).trans G2.out
  have GIa : (w2.alloc (Obj.cells #[.int .i64 i.form, .bool i.u, .bool i.v, .int .i64 i.a, .int .i64 i.b, .int .i64 i.c, .int .i64 i.op, .int .i64 i.im, .int .i64 i.off, .int .i64 i.cond, .int .i64 i.n] 64)).heap[w2.heap.size]? = some (.cells (insCells i) 64 (0, 0)) := heap_alloc_new _ _
  refine (holds_cond (w.heap.size + 1) (nextC c) K _ HK.out hK _ G1a).mono ?_
  rintro e w3 ⟨rfl, b3⟩
  have G1b := (b3.block _ (Turn.lt G1a)).trans G1a
  have G2b := (b3.block _ (Turn.lt G2a)).trans G2a
  have GIb := (b3.block _ (Turn.lt GIa)).trans GIa
  have z3 := b3.size
  have B3 : Below w.heap.size w w3 := (B2.trans (below1' _ _ (by omega))).trans (b3.mono (by simp; omega))
  have K1 := Lib.hid G1b
  have K2 := Lib.hid G2b
  have KI := Lib.hid GIb
  clear G1a G2a GIa G1b G2b GIb
  cases hh : holdB (nextC c) K
  · have e := Lib.hid (show jmpC (nextC c) i C K = nextC c by unfold jmpC; rw [hh]; rfl)
    clear hh
    go_wp2
    rw [e.out]
    exact step_end K1.out K2.out B3 rfl rfl rfl
  · have e := Lib.hid (show jmpC (nextC c) i C K = jumpC (nextC c) i.form i.v i.off C by unfold jmpC; rw [hh]; rfl)
    clear hh
    go_wp2_with fail
    refine (jump_any (w.heap.size + 1) w2.heap.size (nextC c) i C hC IC.out _ K1.out (insAt KI.out) (hr _).1 (hr _).2 (by omega) (by omega) (by have := HF.out; omega)).mono ?_
    rintro e2 w4 ⟨rfl, tw⟩
    have HT := Lib.hid tw
    clear tw
    go_wp2
    rw [e.out]
    exact step_end HT.out.at_ (HT.out.other K2.out (by omega)) (B3.trans (HT.out.below (by omega) (by simp at z3; omega))) rfl rfl rfl

def sysE (b : Bool) (n : Int) : Int := if b then (if 16 ≤ n then 4 else 3) else 0
def sysN (b : Bool) (n : Int) : Int := if b then n else 0

set_option maxHeartbeats 4000000 in
set_option maxRecDepth 100000 in
theorem step_sys (c : Cpu) (x : Int) (i : Ins) (x0 : 0 ≤ x) (x1 : x ≤ 4294967295) (hd : dec x = (i, false)) (K : Nat) (hK : K < 16) (ik : i.cond = K) (hf : i.form = 6) (w : World) :
    Calls Tryz.prog 68 #[.agg (cpuCells c), .int .u32 x] w (StepIs (nextC c) (sysE (holdB (nextC c) K) i.n) 0 false 0 0 (sysN (holdB (nextC c) K) i.n) w) := by
  have HD := Lib.hid hd
  clear hd
  have f0 : (i.form == 0) = false := by simp [hf]
  have f1 : (i.form == 1) = false := by simp [hf]
  have f2 : (i.form == 2) = false := by simp [hf]
  have f3 : (i.form == 3) = false := by simp [hf]
  have f4 : (i.form == 4) = false := by simp [hf]
  have f5 : (i.form == 5) = false := by simp [hf]
  have f6 : (i.form == 6) = true := by simp [hf]
  have HK := Lib.hid ik
  clear hf ik
  have HS := Lib.hid (cpu_size c)
  have H3 := Lib.hid (cpu_one c)
  have hpc := cpu_pc c
  go_enter Tryz.func68, Tryz.ntmps68
  go_wp2_with (first | (with_reducible refine wpList_load_row rfl 53 _ rfl w.heap.size rfl 53 (cpuCells c) (0, 0) _ (heap3_0 _ _ _ _) Tryz.underlying53 rfl HS.out ?_) | (with_reducible refine wpList_store_row rfl 53 _ _ rfl (w.heap.size + 1) (cpuCells c) rfl rfl 53 _ (heap3_1 _ _ _ _) HS.out rfl H3.out ?_; rw [set3_1]))
  rw [set_pc]
  refine (of_fine x i x0 x1 HD.out _).mono ?_
  rintro e w2 ⟨rfl, b2⟩
  have s2 : w.heap.size + 3 ≤ w2.heap.size := by have := b2.size; simp at this; omega
  have s3 : w.heap.size + 1 + 1 < w2.heap.size := by omega
  have B2 : Below w.heap.size w w2 := (below3 _ _ _ _).trans (b2.mono (by simp; omega))
  have g1 := (b2.block (w.heap.size + 1) (by simp)).trans (heap3_1 _ _ _ _)
  have g2 := (b2.block (w.heap.size + 1 + 1) (by simp)).trans (heap3_2 _ _ _ _)
  have v0 : w2.cell? ⟨w.heap.size + 1 + 1, 0, none⟩ = some (.int .i64 0) := cell_at g2 0
  have v1 : w2.cell? ⟨w.heap.size + 1 + 1, 1, none⟩ = some (.int .u32 0) := cell_at g2 1
  have v2 : w2.cell? ⟨w.heap.size + 1 + 1, 2, none⟩ = some (.bool false) := cell_at g2 2
  have v3 : w2.cell? ⟨w.heap.size + 1 + 1, 3, none⟩ = some (.int .i64 0) := cell_at g2 3
  have v4 : w2.cell? ⟨w.heap.size + 1 + 1, 4, none⟩ = some (.int .u32 0) := cell_at g2 4
  have v5 : w2.cell? ⟨w.heap.size + 1 + 1, 5, none⟩ = some (.int .i64 0) := cell_at g2 5
  have vf : ∀ o, w2.frozen? ⟨w.heap.size + 1 + 1, o, none⟩ = false := free_at g2
  have G1 := Lib.hid g1
  have G2 := Lib.hid g2
  clear b2 g1 g2 hpc
  have s1 : w.heap.size + 1 < w2.heap.size := by omega
  unfold insV
  dsimp only
  go_wp2_with fail
  have G1a := (Below.heap_alloc w2 (Obj.cells #[.int .i64 i.form, .bool i.u, .bool i.v, .int .i64 i.a, .int .i64 i.b, .int .i64 i.c, .int .i64 i.op, .int .i64 i.im, .int .i64 i.off, .int .i64 i.cond, .int .i64 i.n] 64) (w.heap.size + 1) (by omega)).trans G1.out
  have G2a := (Below.heap_alloc w2 (Obj.cells #[.int .i64 i.form, .bool i.u, .bool i.v, .int .i64 i.a, .int .i64 i.b, .int .i64 i.c, .int .i64 i.op, .int .i64 i.im, .int .i64 i.off, .int .i64 i.cond, .int .i64 i.n] 64) (w.heap.size + 1 + 1) (by omega)).trans G2.out
  have GIa : (w2.alloc (Obj.cells #[.int .i64 i.form, .bool i.u, .bool i.v, .int .i64 i.a, .int .i64 i.b, .int .i64 i.c, .int .i64 i.op, .int .i64 i.im, .int .i64 i.off, .int .i64 i.cond, .int .i64 i.n] 64)).heap[w2.heap.size]? = some (.cells (insCells i) 64 (0, 0)) := heap_alloc_new _ _
  refine (holds_cond (w.heap.size + 1) (nextC c) K _ HK.out hK _ G1a).mono ?_
  rintro e w3 ⟨rfl, b3⟩
  have G1b := (b3.block _ (Turn.lt G1a)).trans G1a
  have G2b := (b3.block _ (Turn.lt G2a)).trans G2a
  have GIb := (b3.block _ (Turn.lt GIa)).trans GIa
  have z3 := b3.size
  have B3 : Below w.heap.size w w3 := (B2.trans (below1' _ _ (by omega))).trans (b3.mono (by simp; omega))
  have K1 := Lib.hid G1b
  have K2 := Lib.hid G2b
  have KI := Lib.hid GIb
  have i10 : w3.cell? ⟨w2.heap.size, 10, none⟩ = some (.int .i64 i.n) := cell_at GIb 10
  have u0 : w3.cell? ⟨w.heap.size + 1 + 1, 0, none⟩ = some (.int .i64 0) := cell_at G2b 0
  have u5 : w3.cell? ⟨w.heap.size + 1 + 1, 5, none⟩ = some (.int .i64 0) := cell_at G2b 5
  have uf : ∀ o, w3.frozen? ⟨w.heap.size + 1 + 1, o, none⟩ = false := free_at G2b
  have hne : ¬ w2.heap.size = w.heap.size + 1 + 1 := by omega
  clear G1a G2a GIa G1b G2b GIb v0 v1 v2 v3 v4 v5 vf
  cases hh : holdB (nextC c) K
  · have e1 := Lib.hid (show sysE (holdB (nextC c) K) i.n = 0 by rw [hh]; rfl)
    have e2 := Lib.hid (show sysN (holdB (nextC c) K) i.n = 0 by rw [hh]; rfl)
    clear hh
    go_wp2
    rw [e1.out, e2.out]
    exact step_end K1.out K2.out B3 rfl rfl rfl
  · by_cases hn : 16 ≤ i.n
    · have e1 := Lib.hid (show sysE (holdB (nextC c) K) i.n = 4 by rw [hh]; unfold sysE; rw [if_pos rfl, if_pos hn])
      have e2 := Lib.hid (show sysN (holdB (nextC c) K) i.n = i.n by rw [hh]; rfl)
      clear hh
      go_wp2
      go_region
      all_goals go_wp2
      have T := ((((Turn.refl K2.out).setCell 0 (.int .i64 3)).setCell 5 (.int .i64 i.n)).setCell 0 (.int .i64 4)).drew.to (show _ = evCells 4 0 false 0 0 i.n by simp [evCells])
      rw [e1.out, e2.out]
      exact step_end (T.other K1.out (by omega)) T.at_ (B3.trans (T.below (by omega) (by simp at z3; omega))) rfl rfl rfl
    · have e1 := Lib.hid (show sysE (holdB (nextC c) K) i.n = 3 by rw [hh]; unfold sysE; rw [if_pos rfl, if_neg hn])
      have e2 := Lib.hid (show sysN (holdB (nextC c) K) i.n = i.n by rw [hh]; rfl)
      clear hh
      go_wp2
      go_region
      all_goals go_wp2
      have T := (((Turn.refl K2.out).setCell 0 (.int .i64 3)).setCell 5 (.int .i64 i.n)).drew.to (show _ = evCells 3 0 false 0 0 i.n by simp [evCells])
      rw [e1.out, e2.out]
      exact step_end (T.other K1.out (by omega)) T.at_ (B3.trans (T.below (by omega) (by simp at z3; omega))) rfl rfl rfl

end Go.Proofs.YtlgdlaohfkgkfaaGreat

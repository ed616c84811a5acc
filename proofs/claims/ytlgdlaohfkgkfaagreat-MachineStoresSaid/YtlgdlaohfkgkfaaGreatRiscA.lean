/-
  The contracts of package risc.
-/
import Derived.Test.YtlgdlaohfkgkfaaGreatRiscN
import Derived.Test.YtlgdlaohfkgkfaaGreatIsaA
import Derived.RegionTactic
import Derived.ChangeAlike
import Derived.Outline
import Derived.Deep.RegionWith
import Derived.Deep.RegionHeld3
namespace Go.Proofs.YtlgdlaohfkgkfaaGreat
open Go.ChangeShapes Go.WideShapes Go.ChangeAt Go.RowKit
set_option linter.unusedVariables false

theorem load_any (p : Nat) (c : Cpu) (a : Nat) (x : Int) (ha : a < 16) (x0 : 0 ≤ x) (x1 : x ≤ 4294967295) (w : World) (hb : w.heap[p]? = some (.cells (cpuCells c) 53 (0, 0))) :
    Calls Tryz.prog 113 #[.pointer (some ⟨p, 0, none⟩), .int .i64 a, .int .u32 x] w fun e w' => e = .returned (.tuple #[]) ∧ Turn p (.cells (cpuCells (ldC c a x)) 53 (0, 0)) w w' := by
  have hca : w.cell? ⟨p, a, none⟩ = some (.int .u32 (c.r a)) := (cell_at hb a).trans (reg_cell c a ha)
  have hcn : w.cell? ⟨p, 17, none⟩ = some (.bool c.n) := cell_at hb 17
  have hcz : w.cell? ⟨p, 18, none⟩ = some (.bool c.z) := cell_at hb 18
  have hfr : ∀ o, w.frozen? ⟨p, o, none⟩ = false := free_at hb
  have h17 : ¬ a = 17 := by omega
  have h18 : ¬ a = 18 := by omega
  have HB := Lib.hid hb
  clear hb
  go_enter Tryz.func113, Tryz.ntmps113
  go_wp2
  go_end0
  refine ⟨rfl, ?_⟩
  have t1 := ((Turn.refl HB.out).setCell a (.int .u32 x)).setCell 17 (.bool (x / 2147483648 == 1))
  have t2 := t1.setCell 18 (.bool (x == 0))
  rw [reg_set c a ha] at t2
  have e1 : (x / 2147483648 == 1) = decide (2147483648 ≤ x) := by rw [Bool.eq_iff_iff]; simp; omega
  have e2 : (x == 0) = decide (x = 0) := by rw [Bool.eq_iff_iff]; simp
  rw [e1, e2] at t2 ⊢
  exact t2
def SomeOf (l : List Bool) : Bool := l.any id
theorem two_cells (w : World) (a b : Bool) (t : TypeId) : (w.alloc (.cells #[.bool a, .bool b] t)).drew.cell? ⟨w.heap.size, 0, none⟩ = some (.bool a) ∧ (w.alloc (.cells #[.bool a, .bool b] t)).drew.cell? ⟨w.heap.size, 1, none⟩ = some (.bool b) := by
  constructor <;> go_simp
/-- the first two are told -/
theorem some_two (a b : Bool) (q : Nat) (w : World) (h0 : w.cell? ⟨q, 0, none⟩ = some (.bool a)) (h1 : w.cell? ⟨q, 1, none⟩ = some (.bool b)) :
    Calls Tryz.prog 115 #[.slice (some ⟨q, 0, none⟩) 2 2] w fun e w' => e = .returned (.bool (a || b)) ∧ w = w' := by
  cases a <;> cases b
  all_goals
    go_enter Tryz.func115, Tryz.ntmps115
    go_wp2
    refine wp_loop_rounds 3 ?_
    iterate 3 (try (rw [rounds_succ]; go_wp2))
    go_ret
    exact ⟨rfl, rfl⟩

set_option maxHeartbeats 4000000 in
theorem holds_any (p : Nat) (c : Cpu) (k : Nat) (hk : k < 16) (w : World) (hb : w.heap[p]? = some (.cells (cpuCells c) 53 (0, 0))) :
    Calls Tryz.prog 94 #[.pointer (some ⟨p, 0, none⟩), .int .i64 k] w fun e w' => e = .returned (.bool (holdB c k)) ∧ Below w.heap.size w w' := by
  have hcn : w.cell? ⟨p, 17, none⟩ = some (.bool c.n) := cell_at hb 17
  have hcz : w.cell? ⟨p, 18, none⟩ = some (.bool c.z) := cell_at hb 18
  have hcc : w.cell? ⟨p, 19, none⟩ = some (.bool c.c) := cell_at hb 19
  have hcv : w.cell? ⟨p, 20, none⟩ = some (.bool c.v) := cell_at hb 20
  have hlt := Turn.lt hb
  clear hb
  have : k = 0 ∨ k = 1 ∨ k = 2 ∨ k = 3 ∨ k = 4 ∨ k = 5 ∨ k = 6 ∨ k = 7 ∨ k = 8 ∨ k = 9 ∨ k = 10 ∨ k = 11 ∨ k = 12 ∨ k = 13 ∨ k = 14 ∨ k = 15 := by omega
  clear hk
  rcases this with rfl | rfl | rfl | rfl | rfl | rfl | rfl | rfl | rfl | rfl | rfl | rfl | rfl | rfl | rfl | rfl
  · have e7 : bits BinOp.and IntKind.i64 0 7 = 0 := by decide +kernel
    have e8 : bits BinOp.and IntKind.i64 0 8 = 0 := by decide +kernel
    go_enter Tryz.func94, Tryz.ntmps94
    go_wp2_with (go_at_call 115; (with_reducible refine (some_two _ _ _ _ (by go_simp; rfl) (by go_simp; rfl)).mono ?_); rintro e w' ⟨rfl, rfl⟩)
    go_ret
    exact ⟨ret_bool (by simp [holdB, hold8]), by first | exact Below.refl _ _ | exact below1 _ _⟩
  · have e7 : bits BinOp.and IntKind.i64 1 7 = 1 := by decide +kernel
    have e8 : bits BinOp.and IntKind.i64 1 8 = 0 := by decide +kernel
    go_enter Tryz.func94, Tryz.ntmps94
    go_wp2_with (go_at_call 115; (with_reducible refine (some_two _ _ _ _ (by go_simp; rfl) (by go_simp; rfl)).mono ?_); rintro e w' ⟨rfl, rfl⟩)
    go_ret
    exact ⟨ret_bool (by simp [holdB, hold8]), by first | exact Below.refl _ _ | exact below1 _ _⟩
  · have e7 : bits BinOp.and IntKind.i64 2 7 = 2 := by decide +kernel
    have e8 : bits BinOp.and IntKind.i64 2 8 = 0 := by decide +kernel
    go_enter Tryz.func94, Tryz.ntmps94
    go_wp2_with (go_at_call 115; (with_reducible refine (some_two _ _ _ _ (by go_simp; rfl) (by go_simp; rfl)).mono ?_); rintro e w' ⟨rfl, rfl⟩)
    go_ret
    exact ⟨ret_bool (by simp [holdB, hold8]), by first | exact Below.refl _ _ | exact below1 _ _⟩
  · have e7 : bits BinOp.and IntKind.i64 3 7 = 3 := by decide +kernel
    have e8 : bits BinOp.and IntKind.i64 3 8 = 0 := by decide +kernel
    go_enter Tryz.func94, Tryz.ntmps94
    go_wp2_with (go_at_call 115; (with_reducible refine (some_two _ _ _ _ (by go_simp; rfl) (by go_simp; rfl)).mono ?_); rintro e w' ⟨rfl, rfl⟩)
    go_ret
    exact ⟨ret_bool (by simp [holdB, hold8]), by first | exact Below.refl _ _ | exact below1 _ _⟩
  · have e7 : bits BinOp.and IntKind.i64 4 7 = 4 := by decide +kernel
    have e8 : bits BinOp.and IntKind.i64 4 8 = 0 := by decide +kernel
    go_enter Tryz.func94, Tryz.ntmps94
    go_wp2_with (go_at_call 115; (with_reducible refine (some_two _ _ _ _ (by go_simp; rfl) (by go_simp; rfl)).mono ?_); rintro e w' ⟨rfl, rfl⟩)
    go_ret
    exact ⟨ret_bool (by simp [holdB, hold8]), by first | exact Below.refl _ _ | exact below1 _ _⟩
  · have e7 : bits BinOp.and IntKind.i64 5 7 = 5 := by decide +kernel
    have e8 : bits BinOp.and IntKind.i64 5 8 = 0 := by decide +kernel
    go_enter Tryz.func94, Tryz.ntmps94
    go_wp2
    go_region_with (go_at_call 115; (with_reducible refine (some_two false (!c.n == c.v) _ _ (two_cells _ _ _ _).1 (two_cells _ _ _ _).2).mono ?_); rintro e w' ⟨rfl, rfl⟩)
    all_goals go_wp2
    all_goals go_ret
    all_goals exact ⟨ret_bool (by simp only [holdB, hold8]; cases c.n <;> cases c.v <;> cases c.z <;> simp), (below1 _ _).drew⟩
  · have e7 : bits BinOp.and IntKind.i64 6 7 = 6 := by decide +kernel
    have e8 : bits BinOp.and IntKind.i64 6 8 = 0 := by decide +kernel
    go_enter Tryz.func94, Tryz.ntmps94
    go_wp2
    go_region_with (go_at_call 115; (with_reducible refine (some_two c.z (!c.n == c.v) _ _ (two_cells _ _ _ _).1 (two_cells _ _ _ _).2).mono ?_); rintro e w' ⟨rfl, rfl⟩)
    all_goals go_wp2
    all_goals go_ret
    all_goals exact ⟨ret_bool (by simp only [holdB, hold8]; cases c.n <;> cases c.v <;> cases c.z <;> simp), (below1 _ _).drew⟩
  · have e7 : bits BinOp.and IntKind.i64 7 7 = 7 := by decide +kernel
    have e8 : bits BinOp.and IntKind.i64 7 8 = 0 := by decide +kernel
    go_enter Tryz.func94, Tryz.ntmps94
    go_wp2_with (go_at_call 115; (with_reducible refine (some_two _ _ _ _ (by go_simp; rfl) (by go_simp; rfl)).mono ?_); rintro e w' ⟨rfl, rfl⟩)
    go_ret
    exact ⟨ret_bool (by simp [holdB, hold8]), by first | exact Below.refl _ _ | exact below1 _ _⟩
  · have e7 : bits BinOp.and IntKind.i64 8 7 = 0 := by decide +kernel
    have e8 : bits BinOp.and IntKind.i64 8 8 = 8 := by decide +kernel
    go_enter Tryz.func94, Tryz.ntmps94
    go_wp2_with (go_at_call 115; (with_reducible refine (some_two _ _ _ _ (by go_simp; rfl) (by go_simp; rfl)).mono ?_); rintro e w' ⟨rfl, rfl⟩)
    go_ret
    exact ⟨ret_bool (by simp [holdB, hold8]), by first | exact Below.refl _ _ | exact below1 _ _⟩
  · have e7 : bits BinOp.and IntKind.i64 9 7 = 1 := by decide +kernel
    have e8 : bits BinOp.and IntKind.i64 9 8 = 8 := by decide +kernel
    go_enter Tryz.func94, Tryz.ntmps94
    go_wp2_with (go_at_call 115; (with_reducible refine (some_two _ _ _ _ (by go_simp; rfl) (by go_simp; rfl)).mono ?_); rintro e w' ⟨rfl, rfl⟩)
    go_ret
    exact ⟨ret_bool (by simp [holdB, hold8]), by first | exact Below.refl _ _ | exact below1 _ _⟩
  · have e7 : bits BinOp.and IntKind.i64 10 7 = 2 := by decide +kernel
    have e8 : bits BinOp.and IntKind.i64 10 8 = 8 := by decide +kernel
    go_enter Tryz.func94, Tryz.ntmps94
    go_wp2_with (go_at_call 115; (with_reducible refine (some_two _ _ _ _ (by go_simp; rfl) (by go_simp; rfl)).mono ?_); rintro e w' ⟨rfl, rfl⟩)
    go_ret
    exact ⟨ret_bool (by simp [holdB, hold8]), by first | exact Below.refl _ _ | exact below1 _ _⟩
  · have e7 : bits BinOp.and IntKind.i64 11 7 = 3 := by decide +kernel
    have e8 : bits BinOp.and IntKind.i64 11 8 = 8 := by decide +kernel
    go_enter Tryz.func94, Tryz.ntmps94
    go_wp2_with (go_at_call 115; (with_reducible refine (some_two _ _ _ _ (by go_simp; rfl) (by go_simp; rfl)).mono ?_); rintro e w' ⟨rfl, rfl⟩)
    go_ret
    exact ⟨ret_bool (by simp [holdB, hold8]), by first | exact Below.refl _ _ | exact below1 _ _⟩
  · have e7 : bits BinOp.and IntKind.i64 12 7 = 4 := by decide +kernel
    have e8 : bits BinOp.and IntKind.i64 12 8 = 8 := by decide +kernel
    go_enter Tryz.func94, Tryz.ntmps94
    go_wp2_with (go_at_call 115; (with_reducible refine (some_two _ _ _ _ (by go_simp; rfl) (by go_simp; rfl)).mono ?_); rintro e w' ⟨rfl, rfl⟩)
    go_ret
    exact ⟨ret_bool (by simp [holdB, hold8]), by first | exact Below.refl _ _ | exact below1 _ _⟩
  · have e7 : bits BinOp.and IntKind.i64 13 7 = 5 := by decide +kernel
    have e8 : bits BinOp.and IntKind.i64 13 8 = 8 := by decide +kernel
    go_enter Tryz.func94, Tryz.ntmps94
    go_wp2
    go_region_with (go_at_call 115; (with_reducible refine (some_two false (!c.n == c.v) _ _ (two_cells _ _ _ _).1 (two_cells _ _ _ _).2).mono ?_); rintro e w' ⟨rfl, rfl⟩)
    all_goals go_wp2
    all_goals go_ret
    all_goals exact ⟨ret_bool (by simp only [holdB, hold8]; cases c.n <;> cases c.v <;> cases c.z <;> simp), (below1 _ _).drew⟩
  · have e7 : bits BinOp.and IntKind.i64 14 7 = 6 := by decide +kernel
    have e8 : bits BinOp.and IntKind.i64 14 8 = 8 := by decide +kernel
    go_enter Tryz.func94, Tryz.ntmps94
    go_wp2
    go_region_with (go_at_call 115; (with_reducible refine (some_two c.z (!c.n == c.v) _ _ (two_cells _ _ _ _).1 (two_cells _ _ _ _).2).mono ?_); rintro e w' ⟨rfl, rfl⟩)
    all_goals go_wp2
    all_goals go_ret
    all_goals exact ⟨ret_bool (by simp only [holdB, hold8]; cases c.n <;> cases c.v <;> cases c.z <;> simp), (below1 _ _).drew⟩
  · have e7 : bits BinOp.and IntKind.i64 15 7 = 7 := by decide +kernel
    have e8 : bits BinOp.and IntKind.i64 15 8 = 8 := by decide +kernel
    go_enter Tryz.func94, Tryz.ntmps94
    go_wp2_with (go_at_call 115; (with_reducible refine (some_two _ _ _ _ (by go_simp; rfl) (by go_simp; rfl)).mono ?_); rintro e w' ⟨rfl, rfl⟩)
    go_ret
    exact ⟨ret_bool (by simp [holdB, hold8]), by first | exact Below.refl _ _ | exact below1 _ _⟩
end Go.Proofs.YtlgdlaohfkgkfaaGreat

/-
  RiscReturns: for every processor whose PC is below 2^30 - 1, and every way from -2^23 to 2^23 - 1: what jumps to the register of a call's link goes on behind the call. No condition.
-/
import Derived.Test.YtgjecfchnokcfaaRiscK
import Derived.Test.YtgjecfchnokcfaaWordR
import Derived.Test.YtgjecfchnokcfaaOpenS
import Derived.Deep.DeepHandedRow
import Derived.Carry
namespace Go.Proofs.Ytgjecfchnokcfaa.riscReturns
open Go.ChangeShapes Go.WideShapes Go.ChangeAt Go.RowKit
open Go.ChangeMaps (open_string shut_string)
set_option linter.unusedVariables false
theorem c1_of (c : Cpu) (a1 : Int) (h0 : 0 ≤ c.pc) (h1 : c.pc < 1073741823) : jmpC (nextC c) ⟨4, false, true, 0, 0, 0, 0, 0, a1, 7, 0⟩ 0 7 = { c with r := upd c.r 15 (4 * (c.pc + 1)), pc := w32 (c.pc + 1 + a1) } := by
  unfold jmpC
  rw [if_pos (by rfl)]
  unfold jumpC jumpTo nextC
  dsimp only
  rw [w32_in (c.pc + 1) (by omega) (by omega), w32_in (4 * (c.pc + 1)) (by omega) (by omega)]
  rfl
theorem c2_of (c : Cpu) (p z : Int) : (jmpC (nextC { c with r := upd c.r 15 (4 * p), pc := z }) ⟨5, false, false, 0, 0, 15, 0, 0, 0, 7, 0⟩ 15 7).pc = p := by
  unfold jmpC
  rw [if_pos (by rfl)]
  show jumpTo _ 5 0 15 = p
  unfold jumpTo
  rw [if_pos rfl]
  show upd c.r 15 (4 * p) 15 / 4 = p
  rw [upd_same]
  omega
set_option maxHeartbeats 4000000 in
theorem walk (c : Cpu) (a1 : Int) (w : World) (wf : CpuWf c) (w1 : (Lit.int .i64 a1).wf = true) :
    Calls Try.prog 7 #[.agg (cpuCells c), .int .i64 a1] w fun e w' => e = .returned (.bool true) ∧ Below w.heap.size w w' := by
  have hr := wf.r
  obtain ⟨p0, p1⟩ := wf.pc
  clear wf w1
  by_cases h1 : c.pc < 1073741823 ∧ -8388608 ≤ a1 ∧ a1 < 8388608
  · obtain ⟨h1, h2, h3⟩ := h1
    have hpc := cpu_pc c
    have d1 : decide (1073741823 ≤ c.pc) = false := by simp; omega
    have d2 : decide (a1 < -8388608) = false := by simp; omega
    have d3 : decide (8388608 ≤ a1) = false := by simp; omega
    obtain ⟨c1, hc1⟩ : ∃ c1, ({ c with r := upd c.r 15 (4 * (c.pc + 1)), pc := w32 (c.pc + 1 + a1) } : Cpu) = c1 := ⟨_, rfl⟩
    obtain ⟨c2, hc2⟩ : ∃ c2, jmpC (nextC c1) ⟨5, false, false, 0, 0, 15, 0, 0, 0, 7, 0⟩ 15 7 = c2 := ⟨_, rfl⟩
    have e1 : c1.pc = w32 (c.pc + 1 + a1) := by rw [← hc1]
    have e2 : c2.pc = c.pc + 1 := by rw [← hc2, ← hc1]; exact c2_of c _ _
    have hr1 : ∀ k, 0 ≤ c1.r k ∧ c1.r k ≤ 4294967295 := by rw [← hc1]; exact upd_bd c.r 15 _ hr (by omega) (by omega)
    have SP := Lib.hid (fun W => step_jump4 c (wd4 true 7 a1) ⟨4, false, true, 0, 0, 0, 0, 0, a1, 7, 0⟩ (w32_bd _).1 (w32_bd _).2 (dec_wd4 true 7 a1 (by omega) (by omega) (by omega) (by omega)) hr 0 7 (by omega) (by omega) rfl rfl (by dsimp only; omega) (by dsimp only; omega) rfl W)
    rw [c1_of c a1 p0 h1, hc1] at SP
    have SQ := Lib.hid (fun W => step_jump5 c1 (wd5 false 7 15) ⟨5, false, false, 0, 0, 15, 0, 0, 0, 7, 0⟩ (w32_bd _).1 (w32_bd _).2 (dec_wd5 false 7 15 (by omega) (by omega) (by omega) (by omega) (by decide)) hr1 15 7 (by omega) (by omega) rfl rfl (by dsimp only; omega) (by dsimp only; omega) rfl W)
    rw [hc2] at SQ
    have E1 := Lib.hid e1
    have E2 := Lib.hid e2
    clear e1 e2 hc1 hc2 hr hr1
    go_enter Try.func7, Try.ntmps7
    go_wp2_with fail
    have HC := Lib.hid (show (w.alloc (.cells (cpuCells c) 25)).heap[w.heap.size]? = some (.cells (cpuCells c) 25 (0, 0)) from heap_alloc_new _ _)
    have BW := below1 w (.cells (cpuCells c) 25)
    generalize w.alloc (.cells (cpuCells c) 25) = W0 at HC BW ⊢
    refine wp_region_inv' 12 rfl (fun (L : Nat → Bool) (a : Act) (Wz : World) => ∃ x22 x23 x24 x25 x26 x21 x27 x28 x5 x6 : Value, a = { tmps := #[Value.agg (cpuCells c), Value.int IntKind.i64 a1, Value.pointer (some { block := w.heap.size, off := 0 }), undef, Value.bool false, x5, x6, undef, undef, Value.pointer (some { block := w.heap.size, off := 21 }), Value.int IntKind.u32 c.pc, Value.bool false, Value.bool false, Value.int IntKind.i64 a1, Value.bool false, Value.bool false, Value.bool false, Value.int IntKind.i64 a1, Value.bool false, Value.bool false, undef, x21, x22, x23, x24, x25, x26, x27, x28, undef, undef, undef, undef, undef, undef, undef, undef, undef, undef, undef, undef, undef, undef, undef, undef, undef, undef, undef, undef, undef, undef, undef, undef, undef, undef, undef, undef], defers := [] } ∧ Below W0.heap.size W0 Wz ∧ Up (L 0) x22 (.agg (cpuCells c)) ∧ Up (L 1) x23 (.int .i64 a1) ∧ Up (L 2) x24 (.agg #[.int .i64 4, .bool false, .bool true, .int .i64 0, .int .i64 0, .int .i64 0, .int .i64 0, .int .i64 0, .int .i64 a1, .int .i64 7, .int .i64 0]) ∧ Up (L 3) x25 (.int .u32 (wd4 true 7 a1)) ∧ Up (L 4) x26 (.tuple #[.agg (cpuCells c1), .agg (evCells 0 0 false 0 0 0)]) ∧ Up (L 5) x21 (.tuple #[.agg (cpuCells c1), .agg (evCells 0 0 false 0 0 0)]) ∧ Up (L 6) x27 (.agg (cpuCells c1)) ∧ Up (L 7) x28 (.agg (evCells 0 0 false 0 0 0)) ∧ NewAt (L 8) (L 10) x5 W0.heap.size 25 (cpuCells cpu0) (cpuCells c1) Wz ∧ NewAt (L 9) (L 11) x6 W0.heap.size 28 (evCells 0 0 false 0 0 0) (evCells 0 0 false 0 0 0) Wz) (by kernel_rfl) (by kernel_rfl) ?_ ?_ ?_
    · exact ⟨undef, undef, undef, undef, undef, undef, undef, undef, undef, undef, rfl, (Below.refl _ _).drew, Up.no (by decide), Up.no (by decide), Up.no (by decide), Up.no (by decide), Up.no (by decide), Up.no (by decide), Up.no (by decide), Up.no (by decide), NewAt.no (by decide), NewAt.no (by decide)⟩
    · intro i hi L a Wz hL hc hd hI
      obtain ⟨x22, x23, x24, x25, x26, x21, x27, x28, x5, x6, rfl, hB, f0, f1, f2, f3, f4, f5, f6, f7, f8, f9⟩ := hI
      have : i = 0 ∨ i = 1 ∨ i = 2 ∨ i = 3 ∨ i = 4 ∨ i = 5 ∨ i = 6 ∨ i = 7 ∨ i = 8 ∨ i = 9 ∨ i = 10 ∨ i = 11 := by omega
      rcases this with rfl | rfl | rfl | rfl | rfl | rfl | rfl | rfl | rfl | rfl | rfl | rfl
      · refine wpOp_step rfl (fun K hK => ?_)
        rw [if_pos (by rfl)]
        refine wp_load_row 25 _ rfl _ rfl 25 (cpuCells c) (0, 0) _ ((hB.block _ (lt_heap HC.out)).trans HC.out) Try.underlying25 rfl (cpu_size _) ?_
        refine hK _ _ ⟨_, _, _, _, _, _, _, _, _, _, rfl, hB, fun _ => rfl, f1, f2, f3, f4, f5, f6, f7, f8, f9⟩
      · refine wpOp_step rfl (fun K hK => ?_)
        go_simp
        refine hK _ _ ⟨_, _, _, _, _, _, _, _, _, _, rfl, hB, f0, fun _ => rfl, f2, f3, f4, f5, f6, f7, f8, f9⟩
      · obtain rfl : x23 = .int .i64 a1 := f1 (hd 1 (by kernel_rfl))
        refine wpOp_step rfl (fun K hK => ?_)
        go_simp
        refine hK _ _ ⟨_, _, _, _, _, _, _, _, _, _, rfl, hB, f0, fun _ => rfl, fun _ => rfl, f3, f4, f5, f6, f7, f8, f9⟩
      · obtain rfl : x24 = .agg #[.int .i64 4, .bool false, .bool true, .int .i64 0, .int .i64 0, .int .i64 0, .int .i64 0, .int .i64 0, .int .i64 a1, .int .i64 7, .int .i64 0] := f2 (hd 2 (by kernel_rfl))
        refine wpOp_step rfl (fun K hK => ?_)
        go_simp
        refine (rw4 false true 0 0 0 0 0 a1 7 0 _).mono ?_
        rintro e Wy ⟨rfl, bb⟩
        refine hK _ _ ⟨_, _, _, _, _, _, _, _, _, _, rfl, (hB.trans (bb.mono hB.size)), f0, f1, fun _ => rfl, fun _ => rfl, f4, f5, f6, f7, f8.below bb, f9.below bb⟩
      · obtain rfl : x22 = .agg (cpuCells c) := f0 (hd 0 (by kernel_rfl))
        obtain rfl : x25 = .int .u32 (wd4 true 7 a1) := f3 (hd 3 (by kernel_rfl))
        refine wpOp_step rfl (fun K hK => ?_)
        go_simp
        refine (SP.out _).mono ?_
        rintro e Wy ⟨rfl, bb⟩
        refine hK _ _ ⟨_, _, _, _, _, _, _, _, _, _, rfl, (hB.trans (bb.mono hB.size)), fun _ => rfl, f1, f2, fun _ => rfl, fun _ => rfl, f5, f6, f7, f8.below bb, f9.below bb⟩
      · obtain rfl : x26 = .tuple #[.agg (cpuCells c1), .agg (evCells 0 0 false 0 0 0)] := f4 (hd 4 (by kernel_rfl))
        refine wpOp_step rfl (fun K hK => ?_)
        go_simp
        refine hK _ _ ⟨_, _, _, _, _, _, _, _, _, _, rfl, hB, f0, f1, f2, f3, fun _ => rfl, fun _ => rfl, f6, f7, f8, f9⟩
      · obtain rfl : x21 = .tuple #[.agg (cpuCells c1), .agg (evCells 0 0 false 0 0 0)] := f5 (hd 5 (by kernel_rfl))
        refine wpOp_step rfl (fun K hK => ?_)
        go_simp
        refine hK _ _ ⟨_, _, _, _, _, _, _, _, _, _, rfl, hB, f0, f1, f2, f3, f4, fun _ => rfl, fun _ => rfl, f7, f8, f9⟩
      · obtain rfl : x21 = .tuple #[.agg (cpuCells c1), .agg (evCells 0 0 false 0 0 0)] := f5 (hd 5 (by kernel_rfl))
        refine wpOp_step rfl (fun K hK => ?_)
        go_simp
        refine hK _ _ ⟨_, _, _, _, _, _, _, _, _, _, rfl, hB, f0, f1, f2, f3, f4, fun _ => rfl, f6, fun _ => rfl, f8, f9⟩
      · refine wpOp_step rfl (fun K hK => ?_)
        go_simp
        have hs : L 10 = false := by
          cases h : L 10
          · rfl
          · exact absurd (hc 10 8 h (by kernel_rfl)) (by rw [hL]; decide)
        refine hK _ _ ⟨_, _, _, _, _, _, _, _, _, _, rfl, (hB.alloc hB.size _), f0, f1, f2, f3, f4, f5, f6, f7, NewAt.made _ hB.size hs, f9.below (below1 _ _)⟩
      · refine wpOp_step rfl (fun K hK => ?_)
        go_simp
        have hs : L 11 = false := by
          cases h : L 11
          · rfl
          · exact absurd (hc 11 9 h (by kernel_rfl)) (by rw [hL]; decide)
        refine hK _ _ ⟨_, _, _, _, _, _, _, _, _, _, rfl, (hB.alloc hB.size _), f0, f1, f2, f3, f4, f5, f6, f7, f8.below (below1 _ _), NewAt.made _ hB.size hs⟩
      · obtain rfl : x27 = .agg (cpuCells c1) := f6 (hd 6 (by kernel_rfl))
        obtain ⟨b8, rfl, g8, h8⟩ := f8 (hd 8 (by kernel_rfl))
        rw [hL] at h8
        refine wpOp_step rfl (fun K hK => ?_)
        rw [if_pos (by rfl)]
        refine wp_store_row 25 _ _ rfl b8 (cpuCells c1) rfl rfl 25 (cpuCells cpu0) h8 (cpu_size _) (by first | rfl | simp) (cpu_one _) ?_
        refine hK _ _ ⟨_, _, _, _, _, _, _, _, _, _, rfl, (below_setRow' hB g8 _), f0, f1, f2, f3, f4, f5, fun _ => rfl, f7, NewAt.stored _ g8 h8, f9.other h8 (by decide)⟩
      · obtain rfl : x28 = .agg (evCells 0 0 false 0 0 0) := f7 (hd 7 (by kernel_rfl))
        obtain ⟨b9, rfl, g9, h9⟩ := f9 (hd 9 (by kernel_rfl))
        rw [hL] at h9
        refine wpOp_step rfl (fun K hK => ?_)
        rw [if_pos (by rfl)]
        refine wp_store_row 28 _ _ rfl b9 (evCells 0 0 false 0 0 0) rfl rfl 28 (evCells 0 0 false 0 0 0) h9 (ev_size _ _ _ _ _ _) (by first | rfl | simp) (ev_one _ _ _ _ _ _) ?_
        refine hK _ _ ⟨_, _, _, _, _, _, _, _, _, _, rfl, (below_setRow' hB g9 _), f0, f1, f2, f3, f4, f5, f6, fun _ => rfl, f8.other h9 (by decide), NewAt.stored _ g9 h9⟩
    · intro L a W hup hI
      obtain ⟨x22, x23, x24, x25, x26, x21, x27, x28, x5, x6, rfl, hB, f0, f1, f2, f3, f4, f5, f6, f7, f8, f9⟩ := hI
      obtain rfl : x22 = .agg (cpuCells c) := f0 (hup 0 (by omega))
      obtain rfl : x23 = .int .i64 a1 := f1 (hup 1 (by omega))
      obtain rfl : x24 = .agg #[.int .i64 4, .bool false, .bool true, .int .i64 0, .int .i64 0, .int .i64 0, .int .i64 0, .int .i64 0, .int .i64 a1, .int .i64 7, .int .i64 0] := f2 (hup 2 (by omega))
      obtain rfl : x25 = .int .u32 (wd4 true 7 a1) := f3 (hup 3 (by omega))
      obtain rfl : x26 = .tuple #[.agg (cpuCells c1), .agg (evCells 0 0 false 0 0 0)] := f4 (hup 4 (by omega))
      obtain rfl : x21 = .tuple #[.agg (cpuCells c1), .agg (evCells 0 0 false 0 0 0)] := f5 (hup 5 (by omega))
      obtain rfl : x27 = .agg (cpuCells c1) := f6 (hup 6 (by omega))
      obtain rfl : x28 = .agg (evCells 0 0 false 0 0 0) := f7 (hup 7 (by omega))
      obtain ⟨b5, rfl, g5, h5⟩ := f8 (hup 8 (by omega))
      rw [hup 10 (by omega)] at h5
      have H5 := Lib.hid (show W.heap[b5]? = some (.cells (cpuCells c1) 25 (0, 0)) from h5)
      clear h5
      obtain ⟨b6, rfl, g6, h6⟩ := f9 (hup 9 (by omega))
      rw [hup 11 (by omega)] at h6
      have H6 := Lib.hid (show W.heap[b6]? = some (.cells (evCells 0 0 false 0 0 0) 28 (0, 0)) from h6)
      clear h6
      have B1 := hB
      clear hB hup L f0 f1 f2 f3 f4 f5 f6 f7 f8 f9
      go_wp2_with fail
      refine wp_region_inv' 11 rfl (fun (L : Nat → Bool) (a : Act) (Wz : World) => ∃ x30 x31 x32 x33 x29 x34 x35 x7 x8 : Value, a = { tmps := #[Value.agg (cpuCells c), Value.int IntKind.i64 a1, Value.pointer (some { block := w.heap.size, off := 0 }), undef, Value.bool false, Value.pointer (some { block := b5, off := 0 }), Value.pointer (some { block := b6, off := 0 }), x7, x8, Value.pointer (some { block := w.heap.size, off := 21 }), Value.int IntKind.u32 c.pc, Value.bool false, Value.bool false, Value.int IntKind.i64 a1, Value.bool false, Value.bool false, Value.bool false, Value.int IntKind.i64 a1, Value.bool false, Value.bool false, undef, Value.tuple #[Value.agg (cpuCells c1), Value.agg (evCells 0 0 false 0 0 0)], Value.agg (cpuCells c), Value.int IntKind.i64 a1, Value.agg #[Value.int IntKind.i64 4, Value.bool false, Value.bool true, Value.int IntKind.i64 0, Value.int IntKind.i64 0, Value.int IntKind.i64 0, Value.int IntKind.i64 0, Value.int IntKind.i64 0, Value.int IntKind.i64 a1, Value.int IntKind.i64 7, Value.int IntKind.i64 0], Value.int IntKind.u32 (wd4 true 7 a1), Value.tuple #[Value.agg (cpuCells c1), Value.agg (evCells 0 0 false 0 0 0)], Value.agg (cpuCells c1), Value.agg (evCells 0 0 false 0 0 0), x29, x30, x31, x32, x33, x34, x35, undef, undef, undef, undef, undef, undef, undef, undef, undef, undef, undef, undef, undef, undef, undef, undef, undef, undef, undef, undef, undef], defers := [] } ∧ Below W.heap.size W Wz ∧ Up (L 0) x30 (.agg (cpuCells c1)) ∧ Up (L 1) x31 (.agg #[.int .i64 5, .bool false, .bool false, .int .i64 0, .int .i64 0, .int .i64 15, .int .i64 0, .int .i64 0, .int .i64 0, .int .i64 7, .int .i64 0]) ∧ Up (L 2) x32 (.int .u32 (wd5 false 7 15)) ∧ Up (L 3) x33 (.tuple #[.agg (cpuCells c2), .agg (evCells 0 0 false 0 0 0)]) ∧ Up (L 4) x29 (.tuple #[.agg (cpuCells c2), .agg (evCells 0 0 false 0 0 0)]) ∧ Up (L 5) x34 (.agg (cpuCells c2)) ∧ Up (L 6) x35 (.agg (evCells 0 0 false 0 0 0)) ∧ NewAt (L 7) (L 9) x7 W.heap.size 25 (cpuCells cpu0) (cpuCells c2) Wz ∧ NewAt (L 8) (L 10) x8 W.heap.size 28 (evCells 0 0 false 0 0 0) (evCells 0 0 false 0 0 0) Wz) (by kernel_rfl) (by kernel_rfl) ?_ ?_ ?_
      · exact ⟨undef, undef, undef, undef, undef, undef, undef, undef, undef, rfl, (Below.refl _ _).drew, Up.no (by decide), Up.no (by decide), Up.no (by decide), Up.no (by decide), Up.no (by decide), Up.no (by decide), Up.no (by decide), NewAt.no (by decide), NewAt.no (by decide)⟩
      · intro i hi L a Wz hL hc hd hI
        obtain ⟨x30, x31, x32, x33, x29, x34, x35, x7, x8, rfl, hB, f0, f1, f2, f3, f4, f5, f6, f7, f8⟩ := hI
        have : i = 0 ∨ i = 1 ∨ i = 2 ∨ i = 3 ∨ i = 4 ∨ i = 5 ∨ i = 6 ∨ i = 7 ∨ i = 8 ∨ i = 9 ∨ i = 10 := by omega
        rcases this with rfl | rfl | rfl | rfl | rfl | rfl | rfl | rfl | rfl | rfl | rfl
        · refine wpOp_step rfl (fun K hK => ?_)
          rw [if_pos (by rfl)]
          refine wp_load_row 25 _ rfl _ rfl 25 (cpuCells c1) (0, 0) _ ((hB.block _ (lt_heap H5.out)).trans H5.out) Try.underlying25 rfl (cpu_size _) ?_
          refine hK _ _ ⟨_, _, _, _, _, _, _, _, _, rfl, hB, fun _ => rfl, f1, f2, f3, f4, f5, f6, f7, f8⟩
        · refine wpOp_step rfl (fun K hK => ?_)
          go_simp
          refine hK _ _ ⟨_, _, _, _, _, _, _, _, _, rfl, hB, f0, fun _ => rfl, f2, f3, f4, f5, f6, f7, f8⟩
        · obtain rfl : x31 = .agg #[.int .i64 5, .bool false, .bool false, .int .i64 0, .int .i64 0, .int .i64 15, .int .i64 0, .int .i64 0, .int .i64 0, .int .i64 7, .int .i64 0] := f1 (hd 1 (by kernel_rfl))
          refine wpOp_step rfl (fun K hK => ?_)
          go_simp
          refine (rw5 false false 0 0 15 0 0 0 7 0 _).mono ?_
          rintro e Wy ⟨rfl, bb⟩
          refine hK _ _ ⟨_, _, _, _, _, _, _, _, _, rfl, (hB.trans (bb.mono hB.size)), f0, fun _ => rfl, fun _ => rfl, f3, f4, f5, f6, f7.below bb, f8.below bb⟩
        · obtain rfl : x30 = .agg (cpuCells c1) := f0 (hd 0 (by kernel_rfl))
          obtain rfl : x32 = .int .u32 (wd5 false 7 15) := f2 (hd 2 (by kernel_rfl))
          refine wpOp_step rfl (fun K hK => ?_)
          go_simp
          refine (SQ.out _).mono ?_
          rintro e Wy ⟨rfl, bb⟩
          refine hK _ _ ⟨_, _, _, _, _, _, _, _, _, rfl, (hB.trans (bb.mono hB.size)), fun _ => rfl, f1, fun _ => rfl, fun _ => rfl, f4, f5, f6, f7.below bb, f8.below bb⟩
        · obtain rfl : x33 = .tuple #[.agg (cpuCells c2), .agg (evCells 0 0 false 0 0 0)] := f3 (hd 3 (by kernel_rfl))
          refine wpOp_step rfl (fun K hK => ?_)
          go_simp
          refine hK _ _ ⟨_, _, _, _, _, _, _, _, _, rfl, hB, f0, f1, f2, fun _ => rfl, fun _ => rfl, f5, f6, f7, f8⟩
        · obtain rfl : x29 = .tuple #[.agg (cpuCells c2), .agg (evCells 0 0 false 0 0 0)] := f4 (hd 4 (by kernel_rfl))
          refine wpOp_step rfl (fun K hK => ?_)
          go_simp
          refine hK _ _ ⟨_, _, _, _, _, _, _, _, _, rfl, hB, f0, f1, f2, f3, fun _ => rfl, fun _ => rfl, f6, f7, f8⟩
        · obtain rfl : x29 = .tuple #[.agg (cpuCells c2), .agg (evCells 0 0 false 0 0 0)] := f4 (hd 4 (by kernel_rfl))
          refine wpOp_step rfl (fun K hK => ?_)
          go_simp
          refine hK _ _ ⟨_, _, _, _, _, _, _, _, _, rfl, hB, f0, f1, f2, f3, fun _ => rfl, f5, fun _ => rfl, f7, f8⟩
        · refine wpOp_step rfl (fun K hK => ?_)
          go_simp
          have hs : L 9 = false := by
            cases h : L 9
            · rfl
            · exact absurd (hc 9 7 h (by kernel_rfl)) (by rw [hL]; decide)
          refine hK _ _ ⟨_, _, _, _, _, _, _, _, _, rfl, (hB.alloc hB.size _), f0, f1, f2, f3, f4, f5, f6, NewAt.made _ hB.size hs, f8.below (below1 _ _)⟩
        · refine wpOp_step rfl (fun K hK => ?_)
          go_simp
          have hs : L 10 = false := by
            cases h : L 10
            · rfl
            · exact absurd (hc 10 8 h (by kernel_rfl)) (by rw [hL]; decide)
          refine hK _ _ ⟨_, _, _, _, _, _, _, _, _, rfl, (hB.alloc hB.size _), f0, f1, f2, f3, f4, f5, f6, f7.below (below1 _ _), NewAt.made _ hB.size hs⟩
        · obtain rfl : x34 = .agg (cpuCells c2) := f5 (hd 5 (by kernel_rfl))
          obtain ⟨b7, rfl, g7, h7⟩ := f7 (hd 7 (by kernel_rfl))
          rw [hL] at h7
          refine wpOp_step rfl (fun K hK => ?_)
          rw [if_pos (by rfl)]
          refine wp_store_row 25 _ _ rfl b7 (cpuCells c2) rfl rfl 25 (cpuCells cpu0) h7 (cpu_size _) (by first | rfl | simp) (cpu_one _) ?_
          refine hK _ _ ⟨_, _, _, _, _, _, _, _, _, rfl, (below_setRow' hB g7 _), f0, f1, f2, f3, f4, fun _ => rfl, f6, NewAt.stored _ g7 h7, f8.other h7 (by decide)⟩
        · obtain rfl : x35 = .agg (evCells 0 0 false 0 0 0) := f6 (hd 6 (by kernel_rfl))
          obtain ⟨b8, rfl, g8, h8⟩ := f8 (hd 8 (by kernel_rfl))
          rw [hL] at h8
          refine wpOp_step rfl (fun K hK => ?_)
          rw [if_pos (by rfl)]
          refine wp_store_row 28 _ _ rfl b8 (evCells 0 0 false 0 0 0) rfl rfl 28 (evCells 0 0 false 0 0 0) h8 (ev_size _ _ _ _ _ _) (by first | rfl | simp) (ev_one _ _ _ _ _ _) ?_
          refine hK _ _ ⟨_, _, _, _, _, _, _, _, _, rfl, (below_setRow' hB g8 _), f0, f1, f2, f3, f4, f5, fun _ => rfl, f7.other h8 (by decide), NewAt.stored _ g8 h8⟩
      · intro L a W2 hup hI
        obtain ⟨x30, x31, x32, x33, x29, x34, x35, x7, x8, rfl, hB, f0, f1, f2, f3, f4, f5, f6, f7, f8⟩ := hI
        obtain rfl : x30 = .agg (cpuCells c1) := f0 (hup 0 (by omega))
        obtain rfl : x31 = .agg #[.int .i64 5, .bool false, .bool false, .int .i64 0, .int .i64 0, .int .i64 15, .int .i64 0, .int .i64 0, .int .i64 0, .int .i64 7, .int .i64 0] := f1 (hup 1 (by omega))
        obtain rfl : x32 = .int .u32 (wd5 false 7 15) := f2 (hup 2 (by omega))
        obtain rfl : x33 = .tuple #[.agg (cpuCells c2), .agg (evCells 0 0 false 0 0 0)] := f3 (hup 3 (by omega))
        obtain rfl : x29 = .tuple #[.agg (cpuCells c2), .agg (evCells 0 0 false 0 0 0)] := f4 (hup 4 (by omega))
        obtain rfl : x34 = .agg (cpuCells c2) := f5 (hup 5 (by omega))
        obtain rfl : x35 = .agg (evCells 0 0 false 0 0 0) := f6 (hup 6 (by omega))
        obtain ⟨b7, rfl, g7, h7⟩ := f7 (hup 7 (by omega))
        rw [hup 9 (by omega)] at h7
        have H7 := Lib.hid (show W2.heap[b7]? = some (.cells (cpuCells c2) 25 (0, 0)) from h7)
        clear h7
        obtain ⟨b8, rfl, g8, h8⟩ := f8 (hup 8 (by omega))
        rw [hup 10 (by omega)] at h8
        have H8 := Lib.hid (show W2.heap[b8]? = some (.cells (evCells 0 0 false 0 0 0) 28 (0, 0)) from h8)
        clear h8
        have B2 := hB
        clear hB hup L f0 f1 f2 f3 f4 f5 f6 f7 f8
        go_wp2_with fail
        have K5 := (B2.block _ (lt_heap H5.out)).trans H5.out
        have KC := (B2.block _ (Nat.lt_of_lt_of_le (lt_heap HC.out) B1.size)).trans ((B1.block _ (lt_heap HC.out)).trans HC.out)
        have k7 : W2.cell? ⟨b7, 21, none⟩ = some (.int .u32 (c.pc + 1)) := by rw [← E2.out]; exact cell_at H7.out 21
        have k5 : W2.cell? ⟨b5, 21, none⟩ = some (.int .u32 (w32 (c.pc + 1 + a1))) := by rw [← E1.out]; exact cell_at K5 21
        have kc : W2.cell? ⟨w.heap.size, 21, none⟩ = some (.int .u32 c.pc) := cell_at KC 21
        have l7 : b7 < W2.heap.size := lt_heap H7.out
        have l5 : b5 < W2.heap.size := lt_heap K5
        have lc : w.heap.size < W2.heap.size := lt_heap KC
        have BB : Below w.heap.size w W2 := BW.trans ((B1.mono BW.size).trans (B2.mono (Nat.le_trans BW.size B1.size)))
        clear K5 KC hpc d1 d2 d3 B1 B2 g5 g6 g7 g8 H5 H6 H7 H8 HC BW
        refine wp_region_inv' 22 rfl (fun (L : Nat → Bool) (a : Act) (Wz : World) => ∃ x36 x37 x38 x39 x40 x41 x42 x43 x44 x45 x46 x47 x48 x49 x50 x51 x52 x53 x54 x55 x56 x4 : Value, a = { tmps := #[Value.agg (cpuCells c), Value.int IntKind.i64 a1, Value.pointer (some { block := w.heap.size, off := 0 }), undef, x4, Value.pointer (some { block := b5, off := 0 }), Value.pointer (some { block := b6, off := 0 }), Value.pointer (some { block := b7, off := 0 }), Value.pointer (some { block := b8, off := 0 }), Value.pointer (some { block := w.heap.size, off := 21 }), Value.int IntKind.u32 c.pc, Value.bool false, Value.bool false, Value.int IntKind.i64 a1, Value.bool false, Value.bool false, Value.bool false, Value.int IntKind.i64 a1, Value.bool false, Value.bool false, undef, Value.tuple #[Value.agg (cpuCells c1), Value.agg (evCells 0 0 false 0 0 0)], Value.agg (cpuCells c), Value.int IntKind.i64 a1, Value.agg #[Value.int IntKind.i64 4, Value.bool false, Value.bool true, Value.int IntKind.i64 0, Value.int IntKind.i64 0, Value.int IntKind.i64 0, Value.int IntKind.i64 0, Value.int IntKind.i64 0, Value.int IntKind.i64 a1, Value.int IntKind.i64 7, Value.int IntKind.i64 0], Value.int IntKind.u32 (wd4 true 7 a1), Value.tuple #[Value.agg (cpuCells c1), Value.agg (evCells 0 0 false 0 0 0)], Value.agg (cpuCells c1), Value.agg (evCells 0 0 false 0 0 0), Value.tuple #[Value.agg (cpuCells c2), Value.agg (evCells 0 0 false 0 0 0)], Value.agg (cpuCells c1), Value.agg #[Value.int IntKind.i64 5, Value.bool false, Value.bool false, Value.int IntKind.i64 0, Value.int IntKind.i64 0, Value.int IntKind.i64 15, Value.int IntKind.i64 0, Value.int IntKind.i64 0, Value.int IntKind.i64 0, Value.int IntKind.i64 7, Value.int IntKind.i64 0], Value.int IntKind.u32 (wd5 false 7 15), Value.tuple #[Value.agg (cpuCells c2), Value.agg (evCells 0 0 false 0 0 0)], Value.agg (cpuCells c2), Value.agg (evCells 0 0 false 0 0 0), x36, x37, x38, x39, x40, x41, x42, x43, x44, x45, x46, x47, x48, x49, x50, x51, x52, x53, x54, x55, x56], defers := [] } ∧ Below W2.heap.size W2 Wz ∧ Up (L 0) x36 (.pointer (some ⟨b7, 21, none⟩)) ∧ Up (L 1) x37 (.int .u32 (c.pc + 1)) ∧ Up (L 2) x38 (.pointer (some ⟨w.heap.size, 21, none⟩)) ∧ Up (L 3) x39 (.int .u32 c.pc) ∧ Up (L 4) x40 (.int .u32 (c.pc + 1)) ∧ Up (L 5) x41 (.bool true) ∧ Up (L 6) x42 (.bool true) ∧ Up (L 7) x43 (.pointer (some ⟨b5, 21, none⟩)) ∧ Up (L 8) x44 (.int .u32 (w32 (c.pc + 1 + a1))) ∧ Up (L 9) x45 (.pointer (some ⟨w.heap.size, 21, none⟩)) ∧ Up (L 10) x46 (.int .u32 c.pc) ∧ Up (L 11) x47 (.int .i64 c.pc) ∧ Up (L 12) x48 (.int .i64 (c.pc + 1)) ∧ Up (L 13) x49 (.int .i64 a1) ∧ Up (L 14) x50 (.int .i64 (c.pc + 1 + a1)) ∧ Up (L 15) x51 (.int .u32 (w32 (c.pc + 1 + a1))) ∧ Up (L 16) x52 (.bool true) ∧ Up (L 17) x53 (.bool true) ∧ Up (L 18) x54 (.bool true) ∧ Up (L 19) x55 (.bool true) ∧ Up (L 20) x56 (.bool true) ∧ Up (L 21) x4 (.bool true)) (by kernel_rfl) (by kernel_rfl) ?_ ?_ ?_
        · exact ⟨undef, undef, undef, undef, undef, undef, undef, undef, undef, undef, undef, undef, undef, undef, undef, undef, undef, undef, undef, undef, undef, Value.bool false, rfl, (Below.refl _ _).drew, Up.no (by decide), Up.no (by decide), Up.no (by decide), Up.no (by decide), Up.no (by decide), Up.no (by decide), Up.no (by decide), Up.no (by decide), Up.no (by decide), Up.no (by decide), Up.no (by decide), Up.no (by decide), Up.no (by decide), Up.no (by decide), Up.no (by decide), Up.no (by decide), Up.no (by decide), Up.no (by decide), Up.no (by decide), Up.no (by decide), Up.no (by decide), Up.no (by decide)⟩
        · intro i hi L a Wz hL hc hd hI
          obtain ⟨x36, x37, x38, x39, x40, x41, x42, x43, x44, x45, x46, x47, x48, x49, x50, x51, x52, x53, x54, x55, x56, x4, rfl, hB, f0, f1, f2, f3, f4, f5, f6, f7, f8, f9, f10, f11, f12, f13, f14, f15, f16, f17, f18, f19, f20, f21⟩ := hI
          have : i = 0 ∨ i = 1 ∨ i = 2 ∨ i = 3 ∨ i = 4 ∨ i = 5 ∨ i = 6 ∨ i = 7 ∨ i = 8 ∨ i = 9 ∨ i = 10 ∨ i = 11 ∨ i = 12 ∨ i = 13 ∨ i = 14 ∨ i = 15 ∨ i = 16 ∨ i = 17 ∨ i = 18 ∨ i = 19 ∨ i = 20 ∨ i = 21 := by omega
          rcases this with rfl | rfl | rfl | rfl | rfl | rfl | rfl | rfl | rfl | rfl | rfl | rfl | rfl | rfl | rfl | rfl | rfl | rfl | rfl | rfl | rfl | rfl
          · refine wpOp_step rfl (fun K hK => ?_)
            go_simp
            refine hK _ _ ⟨_, _, _, _, _, _, _, _, _, _, _, _, _, _, _, _, _, _, _, _, _, _, rfl, hB, fun _ => rfl, f1, f2, f3, f4, f5, f6, f7, f8, f9, f10, f11, f12, f13, f14, f15, f16, f17, f18, f19, f20, f21⟩
          · obtain rfl : x36 = .pointer (some ⟨b7, 21, none⟩) := f0 (hd 0 (by kernel_rfl))
            have hcell := (hB.cell (p := ⟨b7, 21, none⟩) l7).trans k7
            refine wpOp_step rfl (fun K hK => ?_)
            go_simp
            refine hK _ _ ⟨_, _, _, _, _, _, _, _, _, _, _, _, _, _, _, _, _, _, _, _, _, _, rfl, hB, fun _ => rfl, fun _ => rfl, f2, f3, f4, f5, f6, f7, f8, f9, f10, f11, f12, f13, f14, f15, f16, f17, f18, f19, f20, f21⟩
          · refine wpOp_step rfl (fun K hK => ?_)
            go_simp
            refine hK _ _ ⟨_, _, _, _, _, _, _, _, _, _, _, _, _, _, _, _, _, _, _, _, _, _, rfl, hB, f0, f1, fun _ => rfl, f3, f4, f5, f6, f7, f8, f9, f10, f11, f12, f13, f14, f15, f16, f17, f18, f19, f20, f21⟩
          · obtain rfl : x38 = .pointer (some ⟨w.heap.size, 21, none⟩) := f2 (hd 2 (by kernel_rfl))
            have hcell := (hB.cell (p := ⟨w.heap.size, 21, none⟩) lc).trans kc
            refine wpOp_step rfl (fun K hK => ?_)
            go_simp
            refine hK _ _ ⟨_, _, _, _, _, _, _, _, _, _, _, _, _, _, _, _, _, _, _, _, _, _, rfl, hB, f0, f1, fun _ => rfl, fun _ => rfl, f4, f5, f6, f7, f8, f9, f10, f11, f12, f13, f14, f15, f16, f17, f18, f19, f20, f21⟩
          · obtain rfl : x39 = .int .u32 c.pc := f3 (hd 3 (by kernel_rfl))
            refine wpOp_step rfl (fun K hK => ?_)
            go_simp
            refine hK _ _ ⟨_, _, _, _, _, _, _, _, _, _, _, _, _, _, _, _, _, _, _, _, _, _, rfl, hB, f0, f1, f2, fun _ => rfl, fun _ => (by rw [wu32 _ (by omega) (by omega)]), f5, f6, f7, f8, f9, f10, f11, f12, f13, f14, f15, f16, f17, f18, f19, f20, f21⟩
          · obtain rfl : x37 = .int .u32 (c.pc + 1) := f1 (hd 1 (by kernel_rfl))
            obtain rfl : x40 = .int .u32 (c.pc + 1) := f4 (hd 4 (by kernel_rfl))
            refine wpOp_step rfl (fun K hK => ?_)
            go_simp
            refine hK _ _ ⟨_, _, _, _, _, _, _, _, _, _, _, _, _, _, _, _, _, _, _, _, _, _, rfl, hB, f0, fun _ => rfl, f2, f3, fun _ => rfl, fun _ => rfl, f6, f7, f8, f9, f10, f11, f12, f13, f14, f15, f16, f17, f18, f19, f20, f21⟩
          · obtain rfl : x41 = .bool true := f5 (hd 5 (by kernel_rfl))
            refine wpOp_step rfl (fun K hK => ?_)
            go_simp
            refine hK _ _ ⟨_, _, _, _, _, _, _, _, _, _, _, _, _, _, _, _, _, _, _, _, _, _, rfl, hB, f0, f1, f2, f3, f4, fun _ => rfl, fun _ => rfl, f7, f8, f9, f10, f11, f12, f13, f14, f15, f16, f17, f18, f19, f20, f21⟩
          · obtain rfl : x42 = .bool true := f6 (hd 6 (by kernel_rfl))
            refine wpOp_step rfl (fun K hK => ?_)
            go_simp
            refine hK _ _ ⟨_, _, _, _, _, _, _, _, _, _, _, _, _, _, _, _, _, _, _, _, _, _, rfl, hB, f0, f1, f2, f3, f4, f5, fun _ => rfl, fun _ => rfl, f8, f9, f10, f11, f12, f13, f14, f15, f16, f17, f18, f19, f20, f21⟩
          · obtain rfl : x42 = .bool true := f6 (hd 6 (by kernel_rfl))
            obtain rfl : x43 = .pointer (some ⟨b5, 21, none⟩) := f7 (hd 7 (by kernel_rfl))
            have hcell := (hB.cell (p := ⟨b5, 21, none⟩) l5).trans k5
            refine wpOp_step rfl (fun K hK => ?_)
            go_simp
            refine hK _ _ ⟨_, _, _, _, _, _, _, _, _, _, _, _, _, _, _, _, _, _, _, _, _, _, rfl, hB, f0, f1, f2, f3, f4, f5, fun _ => rfl, fun _ => rfl, fun _ => rfl, f9, f10, f11, f12, f13, f14, f15, f16, f17, f18, f19, f20, f21⟩
          · obtain rfl : x42 = .bool true := f6 (hd 6 (by kernel_rfl))
            refine wpOp_step rfl (fun K hK => ?_)
            go_simp
            refine hK _ _ ⟨_, _, _, _, _, _, _, _, _, _, _, _, _, _, _, _, _, _, _, _, _, _, rfl, hB, f0, f1, f2, f3, f4, f5, fun _ => rfl, f7, f8, fun _ => rfl, f10, f11, f12, f13, f14, f15, f16, f17, f18, f19, f20, f21⟩
          · obtain rfl : x42 = .bool true := f6 (hd 6 (by kernel_rfl))
            obtain rfl : x45 = .pointer (some ⟨w.heap.size, 21, none⟩) := f9 (hd 9 (by kernel_rfl))
            have hcell := (hB.cell (p := ⟨w.heap.size, 21, none⟩) lc).trans kc
            refine wpOp_step rfl (fun K hK => ?_)
            go_simp
            refine hK _ _ ⟨_, _, _, _, _, _, _, _, _, _, _, _, _, _, _, _, _, _, _, _, _, _, rfl, hB, f0, f1, f2, f3, f4, f5, fun _ => rfl, f7, f8, fun _ => rfl, fun _ => rfl, f11, f12, f13, f14, f15, f16, f17, f18, f19, f20, f21⟩
          · obtain rfl : x42 = .bool true := f6 (hd 6 (by kernel_rfl))
            obtain rfl : x46 = .int .u32 c.pc := f10 (hd 10 (by kernel_rfl))
            refine wpOp_step rfl (fun K hK => ?_)
            go_simp
            refine hK _ _ ⟨_, _, _, _, _, _, _, _, _, _, _, _, _, _, _, _, _, _, _, _, _, _, rfl, hB, f0, f1, f2, f3, f4, f5, fun _ => rfl, f7, f8, f9, fun _ => rfl, fun _ => (by rw [wi64 _ (by omega) (by omega)]), f12, f13, f14, f15, f16, f17, f18, f19, f20, f21⟩
          · obtain rfl : x42 = .bool true := f6 (hd 6 (by kernel_rfl))
            obtain rfl : x47 = .int .i64 c.pc := f11 (hd 11 (by kernel_rfl))
            refine wpOp_step rfl (fun K hK => ?_)
            go_simp
            refine hK _ _ ⟨_, _, _, _, _, _, _, _, _, _, _, _, _, _, _, _, _, _, _, _, _, _, rfl, hB, f0, f1, f2, f3, f4, f5, fun _ => rfl, f7, f8, f9, f10, fun _ => rfl, fun _ => (by rw [wi64 _ (by omega) (by omega)]), f13, f14, f15, f16, f17, f18, f19, f20, f21⟩
          · obtain rfl : x42 = .bool true := f6 (hd 6 (by kernel_rfl))
            refine wpOp_step rfl (fun K hK => ?_)
            go_simp
            refine hK _ _ ⟨_, _, _, _, _, _, _, _, _, _, _, _, _, _, _, _, _, _, _, _, _, _, rfl, hB, f0, f1, f2, f3, f4, f5, fun _ => rfl, f7, f8, f9, f10, f11, f12, fun _ => rfl, f14, f15, f16, f17, f18, f19, f20, f21⟩
          · obtain rfl : x42 = .bool true := f6 (hd 6 (by kernel_rfl))
            obtain rfl : x48 = .int .i64 (c.pc + 1) := f12 (hd 12 (by kernel_rfl))
            obtain rfl : x49 = .int .i64 a1 := f13 (hd 13 (by kernel_rfl))
            refine wpOp_step rfl (fun K hK => ?_)
            go_simp
            refine hK _ _ ⟨_, _, _, _, _, _, _, _, _, _, _, _, _, _, _, _, _, _, _, _, _, _, rfl, hB, f0, f1, f2, f3, f4, f5, fun _ => rfl, f7, f8, f9, f10, f11, fun _ => rfl, fun _ => rfl, fun _ => (by rw [wi64 _ (by omega) (by omega)]), f15, f16, f17, f18, f19, f20, f21⟩
          · obtain rfl : x42 = .bool true := f6 (hd 6 (by kernel_rfl))
            obtain rfl : x50 = .int .i64 (c.pc + 1 + a1) := f14 (hd 14 (by kernel_rfl))
            refine wpOp_step rfl (fun K hK => ?_)
            go_simp
            refine (rword_any (c.pc + 1 + a1) (by omega) (by omega) _).mono ?_
            rintro e Wy ⟨rfl, rfl⟩
            refine hK _ _ ⟨_, _, _, _, _, _, _, _, _, _, _, _, _, _, _, _, _, _, _, _, _, _, rfl, hB, f0, f1, f2, f3, f4, f5, fun _ => rfl, f7, f8, f9, f10, f11, f12, f13, fun _ => rfl, fun _ => rfl, f16, f17, f18, f19, f20, f21⟩
          · obtain rfl : x42 = .bool true := f6 (hd 6 (by kernel_rfl))
            obtain rfl : x44 = .int .u32 (w32 (c.pc + 1 + a1)) := f8 (hd 8 (by kernel_rfl))
            obtain rfl : x51 = .int .u32 (w32 (c.pc + 1 + a1)) := f15 (hd 15 (by kernel_rfl))
            refine wpOp_step rfl (fun K hK => ?_)
            go_simp
            refine hK _ _ ⟨_, _, _, _, _, _, _, _, _, _, _, _, _, _, _, _, _, _, _, _, _, _, rfl, hB, f0, f1, f2, f3, f4, f5, fun _ => rfl, f7, fun _ => rfl, f9, f10, f11, f12, f13, f14, fun _ => rfl, fun _ => rfl, f17, f18, f19, f20, f21⟩
          · obtain rfl : x42 = .bool true := f6 (hd 6 (by kernel_rfl))
            obtain rfl : x52 = .bool true := f16 (hd 16 (by kernel_rfl))
            refine wpOp_step rfl (fun K hK => ?_)
            go_simp
            refine hK _ _ ⟨_, _, _, _, _, _, _, _, _, _, _, _, _, _, _, _, _, _, _, _, _, _, rfl, hB, f0, f1, f2, f3, f4, f5, fun _ => rfl, f7, f8, f9, f10, f11, f12, f13, f14, f15, fun _ => rfl, fun _ => rfl, f18, f19, f20, f21⟩
          · obtain rfl : x53 = .bool true := f17 (hd 17 (by kernel_rfl))
            refine wpOp_step rfl (fun K hK => ?_)
            go_simp
            refine hK _ _ ⟨_, _, _, _, _, _, _, _, _, _, _, _, _, _, _, _, _, _, _, _, _, _, rfl, hB, f0, f1, f2, f3, f4, f5, f6, f7, f8, f9, f10, f11, f12, f13, f14, f15, f16, fun _ => rfl, fun _ => rfl, f19, f20, f21⟩
          · obtain rfl : x54 = .bool true := f18 (hd 18 (by kernel_rfl))
            refine wpOp_step rfl (fun K hK => ?_)
            go_simp
            refine (known4_any _).mono ?_
            rintro e Wy ⟨rfl, bb⟩
            refine hK _ _ ⟨_, _, _, _, _, _, _, _, _, _, _, _, _, _, _, _, _, _, _, _, _, _, rfl, (hB.trans (bb.mono hB.size)), f0, f1, f2, f3, f4, f5, f6, f7, f8, f9, f10, f11, f12, f13, f14, f15, f16, f17, fun _ => rfl, fun _ => rfl, f20, f21⟩
          · obtain rfl : x54 = .bool true := f18 (hd 18 (by kernel_rfl))
            obtain rfl : x55 = .bool true := f19 (hd 19 (by kernel_rfl))
            refine wpOp_step rfl (fun K hK => ?_)
            go_simp
            refine hK _ _ ⟨_, _, _, _, _, _, _, _, _, _, _, _, _, _, _, _, _, _, _, _, _, _, rfl, hB, f0, f1, f2, f3, f4, f5, f6, f7, f8, f9, f10, f11, f12, f13, f14, f15, f16, f17, fun _ => rfl, fun _ => rfl, fun _ => rfl, f21⟩
          · obtain rfl : x56 = .bool true := f20 (hd 20 (by kernel_rfl))
            refine wpOp_step rfl (fun K hK => ?_)
            go_simp
            refine hK _ _ ⟨_, _, _, _, _, _, _, _, _, _, _, _, _, _, _, _, _, _, _, _, _, _, rfl, hB, f0, f1, f2, f3, f4, f5, f6, f7, f8, f9, f10, f11, f12, f13, f14, f15, f16, f17, f18, f19, fun _ => rfl, fun _ => rfl⟩
        · intro L a W3 hup hI
          obtain ⟨x36, x37, x38, x39, x40, x41, x42, x43, x44, x45, x46, x47, x48, x49, x50, x51, x52, x53, x54, x55, x56, x4, rfl, hB, f0, f1, f2, f3, f4, f5, f6, f7, f8, f9, f10, f11, f12, f13, f14, f15, f16, f17, f18, f19, f20, f21⟩ := hI
          obtain rfl : x36 = .pointer (some ⟨b7, 21, none⟩) := f0 (hup 0 (by omega))
          obtain rfl : x37 = .int .u32 (c.pc + 1) := f1 (hup 1 (by omega))
          obtain rfl : x38 = .pointer (some ⟨w.heap.size, 21, none⟩) := f2 (hup 2 (by omega))
          obtain rfl : x39 = .int .u32 c.pc := f3 (hup 3 (by omega))
          obtain rfl : x40 = .int .u32 (c.pc + 1) := f4 (hup 4 (by omega))
          obtain rfl : x41 = .bool true := f5 (hup 5 (by omega))
          obtain rfl : x42 = .bool true := f6 (hup 6 (by omega))
          obtain rfl : x43 = .pointer (some ⟨b5, 21, none⟩) := f7 (hup 7 (by omega))
          obtain rfl : x44 = .int .u32 (w32 (c.pc + 1 + a1)) := f8 (hup 8 (by omega))
          obtain rfl : x45 = .pointer (some ⟨w.heap.size, 21, none⟩) := f9 (hup 9 (by omega))
          obtain rfl : x46 = .int .u32 c.pc := f10 (hup 10 (by omega))
          obtain rfl : x47 = .int .i64 c.pc := f11 (hup 11 (by omega))
          obtain rfl : x48 = .int .i64 (c.pc + 1) := f12 (hup 12 (by omega))
          obtain rfl : x49 = .int .i64 a1 := f13 (hup 13 (by omega))
          obtain rfl : x50 = .int .i64 (c.pc + 1 + a1) := f14 (hup 14 (by omega))
          obtain rfl : x51 = .int .u32 (w32 (c.pc + 1 + a1)) := f15 (hup 15 (by omega))
          obtain rfl : x52 = .bool true := f16 (hup 16 (by omega))
          obtain rfl : x53 = .bool true := f17 (hup 17 (by omega))
          obtain rfl : x54 = .bool true := f18 (hup 18 (by omega))
          obtain rfl : x55 = .bool true := f19 (hup 19 (by omega))
          obtain rfl : x56 = .bool true := f20 (hup 20 (by omega))
          obtain rfl : x4 = .bool true := f21 (hup 21 (by omega))
          have B3 := hB
          clear hB hup L f0 f1 f2 f3 f4 f5 f6 f7 f8 f9 f10 f11 f12 f13 f14 f15 f16 f17 f18 f19 f20 f21
          go_wp2
          go_ret
          exact ⟨rfl, BB.trans (B3.mono BB.size)⟩

  · have hpc := cpu_pc c
    go_enter Try.func7, Try.ntmps7
    have hd : (decide (1073741823 ≤ c.pc) || decide (a1 < -8388608) || decide (8388608 ≤ a1)) = true := by
      rw [Bool.eq_iff_iff]; simp; omega
    go_wp2_with (go_at_call 12; (with_reducible refine (known4_any _).mono ?_); rintro e wk ⟨rfl, bk⟩)
    all_goals go_ret
    all_goals exact ⟨rfl, (below1 _ _).trans (bk.mono (by simp))⟩

theorem own : ownKnob Try.prog.godebug = none := by kernel_rfl
theorem laidOut : laidOutB Try.prog = true := by kernel_rfl
theorem contract (H : Type) (enc : TypeId × Value → H) (W : World) (base : Nat) (args : Array Value) (ds gs : List (DataW H)) (before : List MemPlace)
    (hval : ∀ (j : Nat) t v, Try.f7.params[j]? = some t → args[j]? = some v → Value.okWide Try.prog W .any base t v)
    (hW : DataW.Whole enc Try.prog Try.f7.params.toList Rows.riscReturnsSpec.vars false W args.toList ds gs before) :
    Calls Try.prog 7 args W fun e W' => ∃ v, e = .returned v ∧ Rows.riscReturnsSpec.post enc Try.prog Try.f7 false true false false W args v W' := by
  have hW' := hW
  obtain ⟨p, q, hA0, hV, rfl, hfz, hnd⟩ := hW
  have hA : DataW.TrodAll enc Try.prog W 0 (fun _ => true) true Try.f7.params.toList args.toList ds p := hA0
  rw [Try.params7] at hA hval
  obtain ⟨v0, vs0, d0, ds0, p0, q0, hargs, rfl, rfl, h0, r0⟩ := trodAll_cons hA
  obtain ⟨v1, vs1, d1, ds1, p1, q1, rfl, rfl, rfl, h1, r1⟩ := trodAll_cons r0
  obtain ⟨rfl, rfl, rfl⟩ := trodAll_nil r1
  obtain rfl : args = #[v0, v1] := by cases args; simp_all
  obtain ⟨rfl, rfl⟩ := trodVars_none hV
  obtain ⟨a0, rfl, w0⟩ := open_cpu (hval 0 25 v0 rfl rfl)
  have k0 := h0
  have lt0 : ∀ x ∈ p0, x.block < W.heap.size := by obtain ⟨m, hm⟩ := k0; exact DataW.trod_lt m _ _ _ hm
  obtain ⟨a1, rfl, rfl, rfl, w1⟩ := open_int Try.underlying3 (hval 1 3 v1 rfl rfl) h1
  clear hA0
  refine (walk a0 a1 W w0 w1).mono fun e W' ⟨he, bel⟩ => ?_
  subst he
  exact ⟨_, rfl, _, _, _, [], _, [], hW', trodAll_mk1 (shut_bool Try.underlying4 _), (trodAll_cons_mk (Below.trod laidOut (by kernel_rfl) (of_decide_eq_true (by kernel_rfl)) k0 bel lt0) (trodAll_cons_mk (shut_int Try.underlying3 w1) trodAll_mk0)), rfl, bel.frame _, fun h => by cases h⟩
set_option maxRecDepth 100000 in
theorem lifted (os : Os) (started : os.Started) (H : Type) (enc : TypeId × Value → H) :
    ReturnsInHanded {} Try.checked os 7 .any (Rows.riscReturnsSpec.pre6 enc Try.prog Try.f7 Rows.riscReturnsRow.domain false) (Rows.riscReturnsSpec.post enc Try.prog Try.f7 false true false false) := by
  refine returnsInHanded_of_change (C := Try.checked) own started (by kernel_rfl) Try.func7
    (ChangeSpec.witness6 (enc := enc) (C := Try.checked) false ⟨#[], #[.agg #[.int .u32 0, .int .u32 0, .int .u32 0, .int .u32 0, .int .u32 0, .int .u32 0, .int .u32 0, .int .u32 0, .int .u32 0, .int .u32 0, .int .u32 0, .int .u32 0, .int .u32 0, .int .u32 0, .int .u32 0, .int .u32 0, .int .u32 0, .bool false, .bool false, .bool false, .bool false, .int .u32 0], .int .i64 0], []⟩ 8 (by kernel_rfl) (by kernel_rfl) (by kernel_rfl) (by kernel_rfl)) ?_
  intro W base args ds gs before hval hW hcnd _
  exact contract H enc W base args ds gs before hval hW
theorem said : Rows.RiscReturnsSaid :=
  OpenClaim.holds_of_wide 7 Try.f7 rfl rfl rfl rfl rfl rfl rfl ⟨rfl, rfl, rfl, rfl, rfl⟩ rfl rfl rfl rfl rfl (by kernel_rfl) Try.func7 (by kernel_rfl)
    (of_decide_eq_true (by kernel_rfl)) (by unfold Func.isWrapper; first | (rw [if_pos (by decide +kernel)]; kernel_rfl) | (rw [if_neg (by decide +kernel)]; exact ⟨rfl, rfl⟩))
    (fun os started H enc _ => lifted os started H enc)
theorem proved : Rows.RiscReturnsSaid := said
end Go.Proofs.Ytgjecfchnokcfaa.riscReturns

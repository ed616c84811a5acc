/-
  What the laws of layer 4 share: the document's word behind a call; a processor and what it asks for, compared.
-/
import Derived.Test.YtgjecfchnokcfaaInv
import Derived.Test.YtgjecfchnokcfaaDec
namespace Go.Proofs.Ytgjecfchnokcfaa
open Go.ChangeShapes Go.WideShapes Go.ChangeAt Go.RowKit
set_option linter.unusedVariables false
theorem ev_size (k pl : Int) (by_ : Bool) (reg val n : Int) : (Try.prog.info? 28).map (·.size) = some (evCells k pl by_ reg val n).size := by kernel_rfl
theorem ev_one (k pl : Int) (by_ : Bool) (reg val n : Int) : (evCells k pl by_ reg val n).all (·.oneCell') = true := by simp [evCells, Value.oneCell']
theorem rw0 (u v : Bool) (a b c op im off cond n : Int) (m0 : 0 ≤ im) (m1 : im ≤ 65535) (c0 : 0 ≤ c) (c1 : c ≤ 15) (w : World) :
    Calls Try.prog 22 #[.agg #[.int .i64 0, .bool u, .bool v, .int .i64 a, .int .i64 b, .int .i64 c, .int .i64 op, .int .i64 im, .int .i64 off, .int .i64 cond, .int .i64 n]] w fun e w' => e = .returned (.int .u32 (wd01 0 u v a b op (im + c))) ∧ Below w.heap.size w w' :=
  (rword_0 u v a b c op im off cond n m0 m1 c0 c1 w).mono fun e w' ⟨h, k, hk⟩ => ⟨h, by rw [hk]; exact below_drewN (below1 _ _) _⟩
theorem rw1 (u v : Bool) (a b c op im off cond n : Int) (m0 : 0 ≤ im) (m1 : im ≤ 65535) (c0 : 0 ≤ c) (c1 : c ≤ 15) (w : World) :
    Calls Try.prog 22 #[.agg #[.int .i64 1, .bool u, .bool v, .int .i64 a, .int .i64 b, .int .i64 c, .int .i64 op, .int .i64 im, .int .i64 off, .int .i64 cond, .int .i64 n]] w fun e w' => e = .returned (.int .u32 (wd01 1 u v a b op (im + c))) ∧ Below w.heap.size w w' :=
  (rword_1 u v a b c op im off cond n m0 m1 c0 c1 w).mono fun e w' ⟨h, k, hk⟩ => ⟨h, by rw [hk]; exact below_drewN (below1 _ _) _⟩
theorem rw2 (u v : Bool) (a b c op im off cond n : Int) (w : World) :
    Calls Try.prog 22 #[.agg #[.int .i64 2, .bool u, .bool v, .int .i64 a, .int .i64 b, .int .i64 c, .int .i64 op, .int .i64 im, .int .i64 off, .int .i64 cond, .int .i64 n]] w fun e w' => e = .returned (.int .u32 (wd23 0 v a b off)) ∧ Below w.heap.size w w' :=
  (rword_2 u v a b c op im off cond n w).mono fun e w' ⟨h, k, hk⟩ => ⟨h, by rw [hk]; exact below_drewN (below1 _ _) _⟩
theorem rw3 (u v : Bool) (a b c op im off cond n : Int) (w : World) :
    Calls Try.prog 22 #[.agg #[.int .i64 3, .bool u, .bool v, .int .i64 a, .int .i64 b, .int .i64 c, .int .i64 op, .int .i64 im, .int .i64 off, .int .i64 cond, .int .i64 n]] w fun e w' => e = .returned (.int .u32 (wd23 1 v a b off)) ∧ Below w.heap.size w w' :=
  (rword_3 u v a b c op im off cond n w).mono fun e w' ⟨h, k, hk⟩ => ⟨h, by rw [hk]; exact below_drewN (below1 _ _) _⟩
theorem rw4 (u v : Bool) (a b c op im off cond n : Int) (w : World) :
    Calls Try.prog 22 #[.agg #[.int .i64 4, .bool u, .bool v, .int .i64 a, .int .i64 b, .int .i64 c, .int .i64 op, .int .i64 im, .int .i64 off, .int .i64 cond, .int .i64 n]] w fun e w' => e = .returned (.int .u32 (wd4 v cond off)) ∧ Below w.heap.size w w' :=
  (rword_4 u v a b c op im off cond n w).mono fun e w' ⟨h, k, hk⟩ => ⟨h, by rw [hk]; exact below_drewN (below1 _ _) _⟩
theorem rw5 (u v : Bool) (a b c op im off cond n : Int) (w : World) :
    Calls Try.prog 22 #[.agg #[.int .i64 5, .bool u, .bool v, .int .i64 a, .int .i64 b, .int .i64 c, .int .i64 op, .int .i64 im, .int .i64 off, .int .i64 cond, .int .i64 n]] w fun e w' => e = .returned (.int .u32 (wd5 v cond c)) ∧ Below w.heap.size w w' :=
  (rword_5 u v a b c op im off cond n w).mono fun e w' ⟨h, k, hk⟩ => ⟨h, by rw [hk]; exact below_drewN (below1 _ _) _⟩
theorem rw6 (u v : Bool) (a b c op im off cond n : Int) (w : World) :
    Calls Try.prog 22 #[.agg #[.int .i64 6, .bool u, .bool v, .int .i64 a, .int .i64 b, .int .i64 c, .int .i64 op, .int .i64 im, .int .i64 off, .int .i64 cond, .int .i64 n]] w fun e w' => e = .returned (.int .u32 (wd6 cond n)) ∧ Below w.heap.size w w' :=
  (rword_6 u v a b c op im off cond n w).mono fun e w' ⟨h, k, hk⟩ => ⟨h, by rw [hk]; exact below_drewN (below1 _ _) _⟩

theorem wu32 (n : Int) (h0 : 0 ≤ n) (h1 : n ≤ 4294967295) : IntKind.u32.wrap n = n := by rw [IntKind.wrap_u32]; omega
theorem wi64 (n : Int) (h0 : -9223372036854775808 ≤ n) (h1 : n ≤ 9223372036854775807) : IntKind.i64.wrap n = n := IntWalk.i64_in n ⟨h0, h1⟩
def kA : Cpu := { cpu0 with r := upd cpu0.r 1 5 }
def kX : Cpu := ldC { nextC kA with c := true, v := false } 2 4294967294
def kB : Cpu := { cpu0 with pc := 9 }
def kY : Cpu := { cpu0 with r := upd cpu0.r 15 40, pc := 7 }
theorem kX_eq : oprC (nextC kA) 9 false 2 1 (valI false false 9 7) = some kX := by kernel_rfl
theorem kY_eq : jmpC (nextC kB) ⟨4, false, true, 0, 0, 0, 0, 0, -3, 7, 0⟩ 0 7 = kY := by kernel_rfl
theorem cpu0_bd (k : Nat) : 0 ≤ cpu0.r k ∧ cpu0.r k ≤ 4294967295 := ⟨by show (0 : Int) ≤ 0; omega, by show (0 : Int) ≤ 4294967295; omega⟩
theorem upd_bd (r : Nat → Int) (a : Nat) (x : Int) (h : ∀ k, 0 ≤ r k ∧ r k ≤ 4294967295) (h0 : 0 ≤ x) (h1 : x ≤ 4294967295) (k : Nat) : 0 ≤ upd r a x k ∧ upd r a x k ≤ 4294967295 := by
  unfold upd
  split
  · exact ⟨h0, h1⟩
  · exact h k
theorem kstep1 (W : World) : Calls Try.prog 10 #[.agg (cpuCells kA), .int .u32 (wd01 1 false false 2 1 9 7)] W (StepIs kX 0 0 false 0 0 0 W) := by
  have h := step_im kA (wd01 1 false false 2 1 9 7) ⟨1, false, false, 2, 1, 0, 9, 7, 0, 0, 0⟩ (w32_bd _).1 (w32_bd _).2 (dec_wd1 false false 2 1 9 7 (by omega) (by omega) (by omega) (by omega) (by omega) (by omega) (by omega) (by omega) (by rfl)) (upd_bd _ 1 5 cpu0_bd (by omega) (by omega)) 2 1 (by omega) (by omega) rfl rfl (by dsimp only; omega) (by dsimp only; omega) (by dsimp only; omega) (by dsimp only; omega) rfl W
  dsimp only at h
  rw [kX_eq] at h
  exact h
theorem kstep2 (W : World) : Calls Try.prog 10 #[.agg (cpuCells kB), .int .u32 (wd4 true 7 (-3))] W (StepIs kY 0 0 false 0 0 0 W) := by
  have h := step_jump4 kB (wd4 true 7 (-3)) ⟨4, false, true, 0, 0, 0, 0, 0, -3, 7, 0⟩ (w32_bd _).1 (w32_bd _).2 (dec_wd4 true 7 (-3) (by omega) (by omega) (by omega) (by omega)) cpu0_bd 0 7 (by omega) (by omega) rfl rfl (by dsimp only; omega) (by dsimp only; omega) rfl W
  rw [kY_eq] at h
  exact h

set_option maxHeartbeats 4000000 in
theorem known4_any (w : World) : Calls Try.prog 12 #[] w fun e w' => e = .returned (.bool true) ∧ Below w.heap.size w w' := by
  go_enter Try.func12, Try.ntmps12
  go_wp2_with fail
  have HC := Lib.hid (show (w.alloc (.cells #[.int .u32 0, .int .u32 5, .int .u32 0, .int .u32 0, .int .u32 0, .int .u32 0, .int .u32 0, .int .u32 0, .int .u32 0, .int .u32 0, .int .u32 0, .int .u32 0, .int .u32 0, .int .u32 0, .int .u32 0, .int .u32 0, .int .u32 0, .bool false, .bool false, .bool false, .bool false, .int .u32 0] 25)).heap[w.heap.size]? = some (.cells (cpuCells kA) 25 (0, 0)) from heap_alloc_new _ _)
  have BW := below1 w (.cells #[.int .u32 0, .int .u32 5, .int .u32 0, .int .u32 0, .int .u32 0, .int .u32 0, .int .u32 0, .int .u32 0, .int .u32 0, .int .u32 0, .int .u32 0, .int .u32 0, .int .u32 0, .int .u32 0, .int .u32 0, .int .u32 0, .int .u32 0, .bool false, .bool false, .bool false, .bool false, .int .u32 0] 25)
  generalize w.alloc _ = W0 at HC BW ⊢
  refine wp_region_inv' 11 rfl (fun (L : Nat → Bool) (a : Act) (Wz : World) => ∃ x10 x11 x12 x13 x9 x14 x15 x2 x3 : Value, a = { tmps := #[.bool false, .pointer (some ⟨w.heap.size, 0, none⟩), x2, x3, undef, undef, undef, .pointer (some ⟨w.heap.size, 0, none⟩), .pointer (some ⟨w.heap.size, 1, none⟩), x9, x10, x11, x12, x13, x14, x15, undef, undef, undef, undef, undef, undef, undef, undef, undef, undef, undef, undef, undef, undef, undef, undef, undef, undef, undef, undef, undef, undef, undef, undef, undef, undef, undef, undef, undef, undef, undef, undef, undef, undef, undef, undef, undef, undef, undef, undef, undef, undef, undef, undef, undef, undef, undef, undef, undef, undef, undef, undef, undef, undef, undef, undef], defers := [] } ∧ Below W0.heap.size W0 Wz ∧ Up (L 0) x10 (.agg (cpuCells kA)) ∧ Up (L 1) x11 (.agg #[.int .i64 1, .bool false, .bool false, .int .i64 2, .int .i64 1, .int .i64 0, .int .i64 9, .int .i64 7, .int .i64 0, .int .i64 0, .int .i64 0]) ∧ Up (L 2) x12 (.int .u32 (wd01 1 false false 2 1 9 7)) ∧ Up (L 3) x13 (.tuple #[.agg (cpuCells kX), .agg (evCells 0 0 false 0 0 0)]) ∧ Up (L 4) x9 (.tuple #[.agg (cpuCells kX), .agg (evCells 0 0 false 0 0 0)]) ∧ Up (L 5) x14 (.agg (cpuCells kX)) ∧ Up (L 6) x15 (.agg (evCells 0 0 false 0 0 0)) ∧ NewAt (L 7) (L 9) x2 W0.heap.size 25 (cpuCells cpu0) (cpuCells kX) Wz ∧ NewAt (L 8) (L 10) x3 W0.heap.size 28 (evCells 0 0 false 0 0 0) (evCells 0 0 false 0 0 0) Wz) (by kernel_rfl) (by kernel_rfl) ?_ ?_ ?_
  · exact ⟨undef, undef, undef, undef, undef, undef, undef, undef, undef, rfl, (Below.refl _ _).drew, Up.no (by decide), Up.no (by decide), Up.no (by decide), Up.no (by decide), Up.no (by decide), Up.no (by decide), Up.no (by decide), NewAt.no (by decide), NewAt.no (by decide)⟩
  · intro i hi L a Wz hL hc hd hI
    obtain ⟨x10, x11, x12, x13, x9, x14, x15, x2, x3, rfl, hB, f0, f1, f2, f3, f4, f5, f6, f7, f8⟩ := hI
    have : i = 0 ∨ i = 1 ∨ i = 2 ∨ i = 3 ∨ i = 4 ∨ i = 5 ∨ i = 6 ∨ i = 7 ∨ i = 8 ∨ i = 9 ∨ i = 10 := by omega
    rcases this with rfl | rfl | rfl | rfl | rfl | rfl | rfl | rfl | rfl | rfl | rfl
    · refine wpOp_step rfl (fun K hK => ?_)
      rw [if_pos (by rfl)]
      refine wp_load_row 25 _ rfl _ rfl 25 (cpuCells kA) (0, 0) _ ((hB.block _ (lt_heap HC.out)).trans HC.out) Try.underlying25 rfl (cpu_size _) ?_
      refine hK _ _ ⟨_, _, _, _, _, _, _, _, _, rfl, hB, fun _ => rfl, f1, f2, f3, f4, f5, f6, f7, f8⟩
    · refine wpOp_step rfl (fun K hK => ?_)
      go_simp
      refine hK _ _ ⟨_, _, _, _, _, _, _, _, _, rfl, hB, f0, fun _ => rfl, f2, f3, f4, f5, f6, f7, f8⟩
    · obtain rfl : x11 = .agg #[.int .i64 1, .bool false, .bool false, .int .i64 2, .int .i64 1, .int .i64 0, .int .i64 9, .int .i64 7, .int .i64 0, .int .i64 0, .int .i64 0] := f1 (hd 1 (by kernel_rfl))
      refine wpOp_step rfl (fun K hK => ?_)
      go_simp
      refine (rw1 false false 2 1 0 9 7 0 0 0 (by omega) (by omega) (by omega) (by omega) _).mono ?_
      rintro e Wy ⟨rfl, bb⟩
      refine hK _ _ ⟨_, _, _, _, _, _, _, _, _, rfl, (hB.trans (bb.mono hB.size)), f0, fun _ => rfl, fun _ => rfl, f3, f4, f5, f6, f7.below bb, f8.below bb⟩
    · obtain rfl : x10 = .agg (cpuCells kA) := f0 (hd 0 (by kernel_rfl))
      obtain rfl : x12 = .int .u32 (wd01 1 false false 2 1 9 7) := f2 (hd 2 (by kernel_rfl))
      refine wpOp_step rfl (fun K hK => ?_)
      go_simp
      refine (kstep1 _).mono ?_
      rintro e Wy ⟨rfl, bb⟩
      refine hK _ _ ⟨_, _, _, _, _, _, _, _, _, rfl, (hB.trans (bb.mono hB.size)), fun _ => rfl, f1, fun _ => rfl, fun _ => rfl, f4, f5, f6, f7.below bb, f8.below bb⟩
    · obtain rfl : x13 = .tuple #[.agg (cpuCells kX), .agg (evCells 0 0 false 0 0 0)] := f3 (hd 3 (by kernel_rfl))
      refine wpOp_step rfl (fun K hK => ?_)
      go_simp
      refine hK _ _ ⟨_, _, _, _, _, _, _, _, _, rfl, hB, f0, f1, f2, fun _ => rfl, fun _ => rfl, f5, f6, f7, f8⟩
    · obtain rfl : x9 = .tuple #[.agg (cpuCells kX), .agg (evCells 0 0 false 0 0 0)] := f4 (hd 4 (by kernel_rfl))
      refine wpOp_step rfl (fun K hK => ?_)
      go_simp
      refine hK _ _ ⟨_, _, _, _, _, _, _, _, _, rfl, hB, f0, f1, f2, f3, fun _ => rfl, fun _ => rfl, f6, f7, f8⟩
    · obtain rfl : x9 = .tuple #[.agg (cpuCells kX), .agg (evCells 0 0 false 0 0 0)] := f4 (hd 4 (by kernel_rfl))
      refine wpOp_step rfl (fun K hK => ?_)
      go_simp
      refine hK _ _ ⟨_, _, _, _, _, _, _, _, _, rfl, hB, f0, f1, f2, f3, fun _ => rfl, f5, fun _ => rfl, f7, f8⟩
    · refine wpOp_step rfl (fun K hK => ?_)
      go_simp
      have hs : L 9 = false := by
        cases h : L 9
        · rfl
        · exact absurd (hc 9 7 h (by kernel_rfl)) (by rw [hL]; decide)
      refine hK _ _ ⟨_, _, _, _, _, _, _, _, _, rfl, (hB.alloc hB.size _), f0, f1, f2, f3, f4, f5, f6, NewAt.made _ hB.size hs, f8.below (below1 _ _)⟩
    · refine wpOp_step rfl (fun K hK => ?_)
      go_simp
      have hs : L 10 = false := by
        cases h : L 10
        · rfl
        · exact absurd (hc 10 8 h (by kernel_rfl)) (by rw [hL]; decide)
      refine hK _ _ ⟨_, _, _, _, _, _, _, _, _, rfl, (hB.alloc hB.size _), f0, f1, f2, f3, f4, f5, f6, f7.below (below1 _ _), NewAt.made _ hB.size hs⟩
    · obtain rfl : x14 = .agg (cpuCells kX) := f5 (hd 5 (by kernel_rfl))
      obtain ⟨b7, rfl, g7, h7⟩ := f7 (hd 7 (by kernel_rfl))
      rw [hL] at h7
      refine wpOp_step rfl (fun K hK => ?_)
      rw [if_pos (by rfl)]
      refine wp_store_row 25 _ _ rfl b7 (cpuCells kX) rfl rfl 25 (cpuCells cpu0) h7 (cpu_size _) (by first | rfl | simp) (cpu_one _) ?_
      refine hK _ _ ⟨_, _, _, _, _, _, _, _, _, rfl, (below_setRow' hB g7 _), f0, f1, f2, f3, f4, fun _ => rfl, f6, NewAt.stored _ g7 h7, f8.other h7 (by decide)⟩
    · obtain rfl : x15 = .agg (evCells 0 0 false 0 0 0) := f6 (hd 6 (by kernel_rfl))
      obtain ⟨b8, rfl, g8, h8⟩ := f8 (hd 8 (by kernel_rfl))
      rw [hL] at h8
      refine wpOp_step rfl (fun K hK => ?_)
      rw [if_pos (by rfl)]
      refine wp_store_row 28 _ _ rfl b8 (evCells 0 0 false 0 0 0) rfl rfl 28 (evCells 0 0 false 0 0 0) h8 (ev_size _ _ _ _ _ _) (by first | rfl | simp) (ev_one _ _ _ _ _ _) ?_
      refine hK _ _ ⟨_, _, _, _, _, _, _, _, _, rfl, (below_setRow' hB g8 _), f0, f1, f2, f3, f4, f5, fun _ => rfl, f7.other h8 (by decide), NewAt.stored _ g8 h8⟩
  · intro L a W hup hI
    obtain ⟨x10, x11, x12, x13, x9, x14, x15, x2, x3, rfl, hB, f0, f1, f2, f3, f4, f5, f6, f7, f8⟩ := hI
    obtain rfl : x10 = .agg (cpuCells kA) := f0 (hup 0 (by omega))
    obtain rfl : x11 = .agg #[.int .i64 1, .bool false, .bool false, .int .i64 2, .int .i64 1, .int .i64 0, .int .i64 9, .int .i64 7, .int .i64 0, .int .i64 0, .int .i64 0] := f1 (hup 1 (by omega))
    obtain rfl : x12 = .int .u32 (wd01 1 false false 2 1 9 7) := f2 (hup 2 (by omega))
    obtain rfl : x13 = .tuple #[.agg (cpuCells kX), .agg (evCells 0 0 false 0 0 0)] := f3 (hup 3 (by omega))
    obtain rfl : x9 = .tuple #[.agg (cpuCells kX), .agg (evCells 0 0 false 0 0 0)] := f4 (hup 4 (by omega))
    obtain rfl : x14 = .agg (cpuCells kX) := f5 (hup 5 (by omega))
    obtain rfl : x15 = .agg (evCells 0 0 false 0 0 0) := f6 (hup 6 (by omega))
    obtain ⟨b2, rfl, g2, h2⟩ := f7 (hup 7 (by omega))
    rw [hup 9 (by omega)] at h2
    have H2 := Lib.hid (show W.heap[b2]? = some (.cells (cpuCells kX) 25 (0, 0)) from h2)
    clear h2
    obtain ⟨b3, rfl, g3, h3⟩ := f8 (hup 8 (by omega))
    rw [hup 10 (by omega)] at h3
    have H3 := Lib.hid (show W.heap[b3]? = some (.cells (evCells 0 0 false 0 0 0) 28 (0, 0)) from h3)
    clear h3
    have B1 := hB
    clear hB hup L f0 f1 f2 f3 f4 f5 f6 f7 f8
    go_wp2_with fail
    have HD := Lib.hid (show (W.alloc (.cells #[.int .u32 0, .int .u32 0, .int .u32 0, .int .u32 0, .int .u32 0, .int .u32 0, .int .u32 0, .int .u32 0, .int .u32 0, .int .u32 0, .int .u32 0, .int .u32 0, .int .u32 0, .int .u32 0, .int .u32 0, .int .u32 0, .int .u32 0, .bool false, .bool false, .bool false, .bool false, .int .u32 9] 25)).heap[W.heap.size]? = some (.cells (cpuCells kB) 25 (0, 0)) from heap_alloc_new _ _)
    have BW1 : Below W.heap.size W (W.alloc (.cells #[.int .u32 0, .int .u32 0, .int .u32 0, .int .u32 0, .int .u32 0, .int .u32 0, .int .u32 0, .int .u32 0, .int .u32 0, .int .u32 0, .int .u32 0, .int .u32 0, .int .u32 0, .int .u32 0, .int .u32 0, .int .u32 0, .int .u32 0, .bool false, .bool false, .bool false, .bool false, .int .u32 9] 25)) := below1 _ _
    generalize W.alloc (.cells #[.int .u32 0, .int .u32 0, .int .u32 0, .int .u32 0, .int .u32 0, .int .u32 0, .int .u32 0, .int .u32 0, .int .u32 0, .int .u32 0, .int .u32 0, .int .u32 0, .int .u32 0, .int .u32 0, .int .u32 0, .int .u32 0, .int .u32 0, .bool false, .bool false, .bool false, .bool false, .int .u32 9] 25) = W1 at HD BW1 ⊢
    refine wp_region_inv' 11 rfl (fun (L : Nat → Bool) (a : Act) (Wz : World) => ∃ x18 x19 x20 x21 x17 x22 x23 x5 x6 : Value, a = { tmps := #[Value.bool false, Value.pointer (some { block := w.heap.size, off := 0 }), Value.pointer (some { block := b2, off := 0 }), Value.pointer (some { block := b3, off := 0 }), Value.pointer (some { block := W.heap.size, off := 0 }), x5, x6, Value.pointer (some { block := w.heap.size, off := 0 }), Value.pointer (some { block := w.heap.size, off := 1 }), Value.tuple #[Value.agg (cpuCells kX), Value.agg (evCells 0 0 false 0 0 0)], Value.agg (cpuCells kA), Value.agg #[Value.int IntKind.i64 1, Value.bool false, Value.bool false, Value.int IntKind.i64 2, Value.int IntKind.i64 1, Value.int IntKind.i64 0, Value.int IntKind.i64 9, Value.int IntKind.i64 7, Value.int IntKind.i64 0, Value.int IntKind.i64 0, Value.int IntKind.i64 0], Value.int IntKind.u32 (wd01 1 false false 2 1 9 7), Value.tuple #[Value.agg (cpuCells kX), Value.agg (evCells 0 0 false 0 0 0)], Value.agg (cpuCells kX), Value.agg (evCells 0 0 false 0 0 0), Value.pointer (some { block := W.heap.size, off := 21 }), x17, x18, x19, x20, x21, x22, x23, undef, undef, undef, undef, undef, undef, undef, undef, undef, undef, undef, undef, undef, undef, undef, undef, undef, undef, undef, undef, undef, undef, undef, undef, undef, undef, undef, undef, undef, undef, undef, undef, undef, undef, undef, undef, undef, undef, undef, undef, undef, undef, undef, undef, undef, undef, undef, undef], defers := [] } ∧ Below W1.heap.size W1 Wz ∧ Up (L 0) x18 (.agg (cpuCells kB)) ∧ Up (L 1) x19 (.agg #[.int .i64 4, .bool false, .bool true, .int .i64 0, .int .i64 0, .int .i64 0, .int .i64 0, .int .i64 0, .int .i64 (-3), .int .i64 7, .int .i64 0]) ∧ Up (L 2) x20 (.int .u32 (wd4 true 7 (-3))) ∧ Up (L 3) x21 (.tuple #[.agg (cpuCells kY), .agg (evCells 0 0 false 0 0 0)]) ∧ Up (L 4) x17 (.tuple #[.agg (cpuCells kY), .agg (evCells 0 0 false 0 0 0)]) ∧ Up (L 5) x22 (.agg (cpuCells kY)) ∧ Up (L 6) x23 (.agg (evCells 0 0 false 0 0 0)) ∧ NewAt (L 7) (L 9) x5 W1.heap.size 25 (cpuCells cpu0) (cpuCells kY) Wz ∧ NewAt (L 8) (L 10) x6 W1.heap.size 28 (evCells 0 0 false 0 0 0) (evCells 0 0 false 0 0 0) Wz) (by kernel_rfl) (by kernel_rfl) ?_ ?_ ?_
    · exact ⟨undef, undef, undef, undef, undef, undef, undef, undef, undef, rfl, (Below.refl _ _).drew, Up.no (by decide), Up.no (by decide), Up.no (by decide), Up.no (by decide), Up.no (by decide), Up.no (by decide), Up.no (by decide), NewAt.no (by decide), NewAt.no (by decide)⟩
    · intro i hi L a Wz hL hc hd hI
      obtain ⟨x18, x19, x20, x21, x17, x22, x23, x5, x6, rfl, hB, f0, f1, f2, f3, f4, f5, f6, f7, f8⟩ := hI
      have : i = 0 ∨ i = 1 ∨ i = 2 ∨ i = 3 ∨ i = 4 ∨ i = 5 ∨ i = 6 ∨ i = 7 ∨ i = 8 ∨ i = 9 ∨ i = 10 := by omega
      rcases this with rfl | rfl | rfl | rfl | rfl | rfl | rfl | rfl | rfl | rfl | rfl
      · refine wpOp_step rfl (fun K hK => ?_)
        rw [if_pos (by rfl)]
        refine wp_load_row 25 _ rfl _ rfl 25 (cpuCells kB) (0, 0) _ ((hB.block _ (lt_heap HD.out)).trans HD.out) Try.underlying25 rfl (cpu_size _) ?_
        refine hK _ _ ⟨_, _, _, _, _, _, _, _, _, rfl, hB, fun _ => rfl, f1, f2, f3, f4, f5, f6, f7, f8⟩
      · refine wpOp_step rfl (fun K hK => ?_)
        go_simp
        refine hK _ _ ⟨_, _, _, _, _, _, _, _, _, rfl, hB, f0, fun _ => rfl, f2, f3, f4, f5, f6, f7, f8⟩
      · obtain rfl : x19 = .agg #[.int .i64 4, .bool false, .bool true, .int .i64 0, .int .i64 0, .int .i64 0, .int .i64 0, .int .i64 0, .int .i64 (-3), .int .i64 7, .int .i64 0] := f1 (hd 1 (by kernel_rfl))
        refine wpOp_step rfl (fun K hK => ?_)
        go_simp
        refine (rw4 false true 0 0 0 0 0 (-3) 7 0 _).mono ?_
        rintro e Wy ⟨rfl, bb⟩
        refine hK _ _ ⟨_, _, _, _, _, _, _, _, _, rfl, (hB.trans (bb.mono hB.size)), f0, fun _ => rfl, fun _ => rfl, f3, f4, f5, f6, f7.below bb, f8.below bb⟩
      · obtain rfl : x18 = .agg (cpuCells kB) := f0 (hd 0 (by kernel_rfl))
        obtain rfl : x20 = .int .u32 (wd4 true 7 (-3)) := f2 (hd 2 (by kernel_rfl))
        refine wpOp_step rfl (fun K hK => ?_)
        go_simp
        refine (kstep2 _).mono ?_
        rintro e Wy ⟨rfl, bb⟩
        refine hK _ _ ⟨_, _, _, _, _, _, _, _, _, rfl, (hB.trans (bb.mono hB.size)), fun _ => rfl, f1, fun _ => rfl, fun _ => rfl, f4, f5, f6, f7.below bb, f8.below bb⟩
      · obtain rfl : x21 = .tuple #[.agg (cpuCells kY), .agg (evCells 0 0 false 0 0 0)] := f3 (hd 3 (by kernel_rfl))
        refine wpOp_step rfl (fun K hK => ?_)
        go_simp
        refine hK _ _ ⟨_, _, _, _, _, _, _, _, _, rfl, hB, f0, f1, f2, fun _ => rfl, fun _ => rfl, f5, f6, f7, f8⟩
      · obtain rfl : x17 = .tuple #[.agg (cpuCells kY), .agg (evCells 0 0 false 0 0 0)] := f4 (hd 4 (by kernel_rfl))
        refine wpOp_step rfl (fun K hK => ?_)
        go_simp
        refine hK _ _ ⟨_, _, _, _, _, _, _, _, _, rfl, hB, f0, f1, f2, f3, fun _ => rfl, fun _ => rfl, f6, f7, f8⟩
      · obtain rfl : x17 = .tuple #[.agg (cpuCells kY), .agg (evCells 0 0 false 0 0 0)] := f4 (hd 4 (by kernel_rfl))
        refine wpOp_step rfl (fun K hK => ?_)
        go_simp
        refine hK _ _ ⟨_, _, _, _, _, _, _, _, _, rfl, hB, f0, f1, f2, f3, fun _ => rfl, f5, fun _ => rfl, f7, f8⟩
      · refine wpOp_step rfl (fun K hK => ?_)
        go_simp
        have hs : L 9 = false := by
          cases h : L 9
          · rfl
          · exact absurd (hc 9 7 h (by kernel_rfl)) (by rw [hL]; decide)
        refine hK _ _ ⟨_, _, _, _, _, _, _, _, _, rfl, (hB.alloc hB.size _), f0, f1, f2, f3, f4, f5, f6, NewAt.made _ hB.size hs, f8.below (below1 _ _)⟩
      · refine wpOp_step rfl (fun K hK => ?_)
        go_simp
        have hs : L 10 = false := by
          cases h : L 10
          · rfl
          · exact absurd (hc 10 8 h (by kernel_rfl)) (by rw [hL]; decide)
        refine hK _ _ ⟨_, _, _, _, _, _, _, _, _, rfl, (hB.alloc hB.size _), f0, f1, f2, f3, f4, f5, f6, f7.below (below1 _ _), NewAt.made _ hB.size hs⟩
      · obtain rfl : x22 = .agg (cpuCells kY) := f5 (hd 5 (by kernel_rfl))
        obtain ⟨b7, rfl, g7, h7⟩ := f7 (hd 7 (by kernel_rfl))
        rw [hL] at h7
        refine wpOp_step rfl (fun K hK => ?_)
        rw [if_pos (by rfl)]
        refine wp_store_row 25 _ _ rfl b7 (cpuCells kY) rfl rfl 25 (cpuCells cpu0) h7 (cpu_size _) (by first | rfl | simp) (cpu_one _) ?_
        refine hK _ _ ⟨_, _, _, _, _, _, _, _, _, rfl, (below_setRow' hB g7 _), f0, f1, f2, f3, f4, fun _ => rfl, f6, NewAt.stored _ g7 h7, f8.other h7 (by decide)⟩
      · obtain rfl : x23 = .agg (evCells 0 0 false 0 0 0) := f6 (hd 6 (by kernel_rfl))
        obtain ⟨b8, rfl, g8, h8⟩ := f8 (hd 8 (by kernel_rfl))
        rw [hL] at h8
        refine wpOp_step rfl (fun K hK => ?_)
        rw [if_pos (by rfl)]
        refine wp_store_row 28 _ _ rfl b8 (evCells 0 0 false 0 0 0) rfl rfl 28 (evCells 0 0 false 0 0 0) h8 (ev_size _ _ _ _ _ _) (by first | rfl | simp) (ev_one _ _ _ _ _ _) ?_
        refine hK _ _ ⟨_, _, _, _, _, _, _, _, _, rfl, (below_setRow' hB g8 _), f0, f1, f2, f3, f4, f5, fun _ => rfl, f7.other h8 (by decide), NewAt.stored _ g8 h8⟩
    · intro L a W2 hup hI
      obtain ⟨x18, x19, x20, x21, x17, x22, x23, x5, x6, rfl, hB, f0, f1, f2, f3, f4, f5, f6, f7, f8⟩ := hI
      obtain rfl : x18 = .agg (cpuCells kB) := f0 (hup 0 (by omega))
      obtain rfl : x19 = .agg #[.int .i64 4, .bool false, .bool true, .int .i64 0, .int .i64 0, .int .i64 0, .int .i64 0, .int .i64 0, .int .i64 (-3), .int .i64 7, .int .i64 0] := f1 (hup 1 (by omega))
      obtain rfl : x20 = .int .u32 (wd4 true 7 (-3)) := f2 (hup 2 (by omega))
      obtain rfl : x21 = .tuple #[.agg (cpuCells kY), .agg (evCells 0 0 false 0 0 0)] := f3 (hup 3 (by omega))
      obtain rfl : x17 = .tuple #[.agg (cpuCells kY), .agg (evCells 0 0 false 0 0 0)] := f4 (hup 4 (by omega))
      obtain rfl : x22 = .agg (cpuCells kY) := f5 (hup 5 (by omega))
      obtain rfl : x23 = .agg (evCells 0 0 false 0 0 0) := f6 (hup 6 (by omega))
      obtain ⟨b5, rfl, g5, h5⟩ := f7 (hup 7 (by omega))
      rw [hup 9 (by omega)] at h5
      have H5 := Lib.hid (show W2.heap[b5]? = some (.cells (cpuCells kY) 25 (0, 0)) from h5)
      clear h5
      obtain ⟨b6, rfl, g6, h6⟩ := f8 (hup 8 (by omega))
      rw [hup 10 (by omega)] at h6
      have H6 := Lib.hid (show W2.heap[b6]? = some (.cells (evCells 0 0 false 0 0 0) 28 (0, 0)) from h6)
      clear h6
      have B2 := hB
      clear hB hup L f0 f1 f2 f3 f4 f5 f6 f7 f8
      have l2 := lt_heap H2.out
      have l3 := lt_heap H3.out
      have K2 := (B2.block _ (Nat.lt_of_lt_of_le l2 BW1.size)).trans ((BW1.block _ l2).trans H2.out)
      have K3 := (B2.block _ (Nat.lt_of_lt_of_le l3 BW1.size)).trans ((BW1.block _ l3).trans H3.out)
      have c2 : W2.cell? ⟨b2, 2, none⟩ = some (.int .u32 4294967294) := cell_at K2 2
      have c17 : W2.cell? ⟨b2, 17, none⟩ = some (.bool true) := cell_at K2 17
      have c18 : W2.cell? ⟨b2, 18, none⟩ = some (.bool false) := cell_at K2 18
      have c19 : W2.cell? ⟨b2, 19, none⟩ = some (.bool true) := cell_at K2 19
      have c20 : W2.cell? ⟨b2, 20, none⟩ = some (.bool false) := cell_at K2 20
      have c21 : W2.cell? ⟨b2, 21, none⟩ = some (.int .u32 1) := cell_at K2 21
      have d15 : W2.cell? ⟨b5, 15, none⟩ = some (.int .u32 40) := cell_at H5.out 15
      have d21 : W2.cell? ⟨b5, 21, none⟩ = some (.int .u32 7) := cell_at H5.out 21
      have e0 : W2.cell? ⟨b3, 0, none⟩ = some (.int .i64 0) := cell_at K3 0
      have e1 : W2.cell? ⟨b3, 1, none⟩ = some (.int .u32 0) := cell_at K3 1
      have e2 : W2.cell? ⟨b3, 2, none⟩ = some (.bool false) := cell_at K3 2
      have e3 : W2.cell? ⟨b3, 3, none⟩ = some (.int .i64 0) := cell_at K3 3
      have e4 : W2.cell? ⟨b3, 4, none⟩ = some (.int .u32 0) := cell_at K3 4
      have e5 : W2.cell? ⟨b3, 5, none⟩ = some (.int .i64 0) := cell_at K3 5
      have f0 : W2.cell? ⟨b6, 0, none⟩ = some (.int .i64 0) := cell_at H6.out 0
      have f1 : W2.cell? ⟨b6, 1, none⟩ = some (.int .u32 0) := cell_at H6.out 1
      have f2 : W2.cell? ⟨b6, 2, none⟩ = some (.bool false) := cell_at H6.out 2
      have f3 : W2.cell? ⟨b6, 3, none⟩ = some (.int .i64 0) := cell_at H6.out 3
      have f4 : W2.cell? ⟨b6, 4, none⟩ = some (.int .u32 0) := cell_at H6.out 4
      have f5 : W2.cell? ⟨b6, 5, none⟩ = some (.int .i64 0) := cell_at H6.out 5
      have BB : Below w.heap.size w W2 := BW.trans ((B1.mono BW.size).trans ((BW1.mono (Nat.le_trans BW.size B1.size)).trans (B2.mono (Nat.le_trans (Nat.le_trans BW.size B1.size) BW1.size))))
      clear K2 K3 l2 l3 B2 BW1 B1 g2 g3 g5 g6
      go_wp2
      go_ret
      exact ⟨rfl, BB⟩
end Go.Proofs.Ytgjecfchnokcfaa

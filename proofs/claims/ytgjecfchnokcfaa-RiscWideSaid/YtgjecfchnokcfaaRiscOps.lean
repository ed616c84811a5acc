/-
  A list of instructions that is done one behind the other (the law's own helper): if each has a word, and each step is known, the processor behind all of them.
-/
import Derived.Test.YtgjecfchnokcfaaRiscK
import Derived.Test.YtgjecfchnokcfaaInv
import Derived.Deep.MidRow
namespace Go.Proofs.Ytgjecfchnokcfaa
open Go.ChangeShapes Go.WideShapes Go.ChangeAt Go.RowKit
set_option linter.unusedVariables false
theorem ins_size (i : Ins) : (Try.prog.info? 44).map (·.size) = some (insCells i).toList.length := by kernel_rfl
set_option maxHeartbeats 4000000 in
theorem ops_any (n q : Nat) (I : Nat → Ins) (x : Nat → Int) (C : Nat → Cpu) (w : World) (hn : n ≤ 100)
    (hrow : ∀ k W, k < n → Below w.heap.size w W → W.rangeAt q (k * 11) (insCells (I k)).toList)
    (hw : ∀ k, k < n → ∀ W, Calls Try.prog 22 #[.agg (insCells (I k))] W fun e w' => e = .returned (.int .u32 (x k)) ∧ Below W.heap.size W w')
    (hs : ∀ k, k < n → ∀ W, Calls Try.prog 10 #[.agg (cpuCells (C k)), .int .u32 (x k)] W (StepIs (C (k + 1)) 0 0 false 0 0 0 W)) :
    Calls Try.prog 25 #[.agg (cpuCells (C 0)), .slice (some ⟨q, 0, none⟩) n n] w fun e w' => e = .returned (.agg (cpuCells (C n))) ∧ Below w.heap.size w w' := by
  have HR := Lib.hid hrow
  have HWD := Lib.hid hw
  have HST := Lib.hid hs
  clear hrow hw hs
  go_enter Try.func25, Try.ntmps25
  go_wp2_with fail
  have H0 : ((w.alloc (.cells (cpuCells (C 0)) 25)).alloc (.cells (cpuCells cpu0) 25)).heap[w.heap.size]? = some (.cells (cpuCells (C 0)) 25 (0, 0)) := ((below1 _ _).block _ (by simp)).trans (heap_alloc_new _ _)
  have H1 : ((w.alloc (.cells (cpuCells (C 0)) 25)).alloc (.cells (cpuCells cpu0) 25)).heap[w.heap.size + 1]? = some (.cells (cpuCells cpu0) 25 (0, 0)) := by
    have h := heap_alloc_new (w.alloc (.cells (cpuCells (C 0)) 25)) (.cells (cpuCells cpu0) 25)
    rw [show (w.alloc (.cells (cpuCells (C 0)) 25)).heap.size = w.heap.size + 1 by simp] at h
    exact h
  have HH0 := Lib.hid H0
  have HH1 := Lib.hid H1
  clear H0 H1
  go_loopw [5] (fun i wr => ∃ k : Nat, k ≤ n ∧ i = .int .i64 k ∧ Below w.heap.size w wr ∧ wr.heap[w.heap.size]? = some (.cells (cpuCells (C k)) 25 (0, 0)) ∧ wr.heap[w.heap.size + 1]? = some (.cells (cpuCells cpu0) 25 (0, 0))) (fun i _ => n - (intOf i).toNat)
  case atStart => exact ⟨0, by omega, rfl, below2 _ _ _, HH0.out, HH1.out⟩
  case round =>
    obtain ⟨k, hk, rfl, hbr, hp, hp1⟩ := hrel
    have HP := Lib.hid hp
    have HP1 := Lib.hid hp1
    clear hp hp1
    by_cases hlt : k < n
    · have d0 : decide ((k : Int) < n) = true := by simp; omega
      go_wp2_with fail
      refine wp_region_inv' 11 rfl (fun (L : Nat → Bool) (a : Act) (Wz : World) => ∃ x13 x14 x15 x16 x17 x18 x19 x12 x20 x21 : Value, a = { tmps := #[Value.agg (cpuCells (C 0)), Value.slice (some { block := q, off := 0 }) n n, Value.pointer (some { block := w.heap.size, off := 0 }), undef, Value.pointer (some { block := w.heap.size + 1, off := 0 }), Value.int IntKind.i64 ↑k, Value.int IntKind.i64 ↑k, Value.slice (some { block := q, off := 0 }) n n, Value.int IntKind.i64 ↑n, Value.bool true, u10, u11, x12, x13, x14, x15, x16, x17, x18, x19, x20, x21, undef], defers := [] } ∧ Below w.heap.size w Wz ∧ Wz.heap[w.heap.size]? = some (.cells (if L 10 then cpuCells (C (k+1)) else cpuCells (C k)) 25 (0, 0)) ∧ Wz.heap[(w.heap.size + 1)]? = some (.cells (cpuCells cpu0) 25 (0, 0)) ∧ Up (L 0) x13 (.agg (cpuCells (C k))) ∧ Up (L 1) x14 (.slice (some ⟨q, 0, none⟩) n n) ∧ Up (L 2) x15 (.int .i64 k) ∧ Up (L 3) x16 (.pointer (some ⟨q, k * 11, none⟩)) ∧ Up (L 4) x17 (.agg (insCells (I k))) ∧ Up (L 5) x18 (.int .u32 (x k)) ∧ Up (L 6) x19 (.tuple #[.agg (cpuCells (C (k+1))), .agg (evCells 0 0 false 0 0 0)]) ∧ Up (L 7) x12 (.tuple #[.agg (cpuCells (C (k+1))), .agg (evCells 0 0 false 0 0 0)]) ∧ Up (L 8) x20 (.agg (cpuCells (C (k+1)))) ∧ Up (L 9) x21 (.agg (evCells 0 0 false 0 0 0))) (by kernel_rfl) (by kernel_rfl) ?_ ?_ ?_
      · exact ⟨u13, u14, u15, u16, u17, u18, u19, u12, u20, u21, rfl, hbr.drew, HP.out, HP1.out, Up.no (by decide), Up.no (by decide), Up.no (by decide), Up.no (by decide), Up.no (by decide), Up.no (by decide), Up.no (by decide), Up.no (by decide), Up.no (by decide), Up.no (by decide)⟩
      · intro i hi L a Wz hL hc hd hI
        obtain ⟨x13, x14, x15, x16, x17, x18, x19, x12, x20, x21, rfl, hBz, fa10, fr0, f0, f1, f2, f3, f4, f5, f6, f7, f8, f9⟩ := hI
        have : i = 0 ∨ i = 1 ∨ i = 2 ∨ i = 3 ∨ i = 4 ∨ i = 5 ∨ i = 6 ∨ i = 7 ∨ i = 8 ∨ i = 9 ∨ i = 10 := by omega
        rcases this with rfl | rfl | rfl | rfl | rfl | rfl | rfl | rfl | rfl | rfl | rfl
        · refine wpOp_step rfl (fun K hK => ?_)
          have hs : L 10 = false := by
            cases h : L 10
            · rfl
            · exact absurd (hc 10 0 h (by kernel_rfl)) (by rw [hL]; decide)
          rw [if_pos (by rfl)]
          have hrow := fa10
          rw [hs] at hrow
          refine wp_load_row 25 _ rfl _ rfl 25 (cpuCells (C k)) (0, 0) _ hrow Try.underlying25 rfl (cpu_size _) ?_
          refine hK _ _ ⟨_, _, _, _, _, _, _, _, _, _, rfl, hBz, fa10, fr0, fun _ => rfl, f1, f2, f3, f4, f5, f6, f7, f8, f9⟩
        · refine wpOp_step rfl (fun K hK => ?_)
          go_simp
          refine hK _ _ ⟨_, _, _, _, _, _, _, _, _, _, rfl, hBz, fa10, fr0, f0, fun _ => rfl, f2, f3, f4, f5, f6, f7, f8, f9⟩
        · refine wpOp_step rfl (fun K hK => ?_)
          go_simp
          refine hK _ _ ⟨_, _, _, _, _, _, _, _, _, _, rfl, hBz, fa10, fr0, f0, f1, fun _ => rfl, f3, f4, f5, f6, f7, f8, f9⟩
        · obtain rfl : x14 = .slice (some ⟨q, 0, none⟩) n n := f1 (hd 1 (by kernel_rfl))
          obtain rfl : x15 = .int .i64 k := f2 (hd 2 (by kernel_rfl))
          refine wpOp_step rfl (fun K hK => ?_)
          go_simp
          refine hK _ _ ⟨_, _, _, _, _, _, _, _, _, _, rfl, hBz, fa10, fr0, f0, fun _ => rfl, fun _ => rfl, fun _ => rfl, f4, f5, f6, f7, f8, f9⟩
        · obtain rfl : x16 = .pointer (some ⟨q, k * 11, none⟩) := f3 (hd 3 (by kernel_rfl))
          refine wpOp_step rfl (fun K hK => ?_)
          rw [if_pos (by rfl)]
          refine wp_load_mid 44 _ rfl q (k * 11) rfl ((insCells (I k)).toList) _ (HR.out k _ hlt hBz) Try.underlying44 rfl (ins_size _) ?_
          refine hK _ _ ⟨_, _, _, _, _, _, _, _, _, _, rfl, hBz, fa10, fr0, f0, f1, f2, fun _ => rfl, fun _ => rfl, f5, f6, f7, f8, f9⟩
        · obtain rfl : x17 = .agg (insCells (I k)) := f4 (hd 4 (by kernel_rfl))
          refine wpOp_step rfl (fun K hK => ?_)
          go_simp
          refine (HWD.out k hlt _).mono ?_
          rintro e Wy ⟨rfl, bb⟩
          refine hK _ _ ⟨_, _, _, _, _, _, _, _, _, _, rfl, (hBz.trans (bb.mono hBz.size)), (bb.block _ (lt_heap fa10)).trans fa10, (bb.block _ (lt_heap fr0)).trans fr0, f0, f1, f2, f3, fun _ => rfl, fun _ => rfl, f6, f7, f8, f9⟩
        · obtain rfl : x13 = .agg (cpuCells (C k)) := f0 (hd 0 (by kernel_rfl))
          obtain rfl : x18 = .int .u32 (x k) := f5 (hd 5 (by kernel_rfl))
          refine wpOp_step rfl (fun K hK => ?_)
          go_simp
          refine (HST.out k hlt _).mono ?_
          rintro e Wy ⟨rfl, bb⟩
          refine hK _ _ ⟨_, _, _, _, _, _, _, _, _, _, rfl, (hBz.trans (bb.mono hBz.size)), (bb.block _ (lt_heap fa10)).trans fa10, (bb.block _ (lt_heap fr0)).trans fr0, fun _ => rfl, f1, f2, f3, f4, fun _ => rfl, fun _ => rfl, f7, f8, f9⟩
        · obtain rfl : x19 = .tuple #[.agg (cpuCells (C (k+1))), .agg (evCells 0 0 false 0 0 0)] := f6 (hd 6 (by kernel_rfl))
          refine wpOp_step rfl (fun K hK => ?_)
          go_simp
          refine hK _ _ ⟨_, _, _, _, _, _, _, _, _, _, rfl, hBz, fa10, fr0, f0, f1, f2, f3, f4, f5, fun _ => rfl, fun _ => rfl, f8, f9⟩
        · obtain rfl : x12 = .tuple #[.agg (cpuCells (C (k+1))), .agg (evCells 0 0 false 0 0 0)] := f7 (hd 7 (by kernel_rfl))
          refine wpOp_step rfl (fun K hK => ?_)
          go_simp
          refine hK _ _ ⟨_, _, _, _, _, _, _, _, _, _, rfl, hBz, fa10, fr0, f0, f1, f2, f3, f4, f5, f6, fun _ => rfl, fun _ => rfl, f9⟩
        · obtain rfl : x12 = .tuple #[.agg (cpuCells (C (k+1))), .agg (evCells 0 0 false 0 0 0)] := f7 (hd 7 (by kernel_rfl))
          refine wpOp_step rfl (fun K hK => ?_)
          go_simp
          refine hK _ _ ⟨_, _, _, _, _, _, _, _, _, _, rfl, hBz, fa10, fr0, f0, f1, f2, f3, f4, f5, f6, fun _ => rfl, f8, fun _ => rfl⟩
        · obtain rfl : x20 = .agg (cpuCells (C (k+1))) := f8 (hd 8 (by kernel_rfl))
          rw [hL] at fa10
          refine wpOp_step rfl (fun K hK => ?_)
          rw [if_pos (by rfl)]
          refine wp_store_row 25 _ _ rfl w.heap.size (cpuCells (C (k+1))) rfl rfl 25 (cpuCells (C k)) fa10 (cpu_size _) (by first | rfl | simp) (cpu_one _) ?_
          refine hK _ _ ⟨_, _, _, _, _, _, _, _, _, _, rfl, (below_setRow' hBz (Nat.le_refl _) _), setRow_heap _ _ _ _ _ _ fa10, (setRow_other _ _ _ _ (by omega)).trans fr0, f0, f1, f2, f3, f4, f5, f6, f7, fun _ => rfl, f9⟩
      · intro L a W2 hup hI
        obtain ⟨x13, x14, x15, x16, x17, x18, x19, x12, x20, x21, rfl, hBz, fa10, fr0, f0, f1, f2, f3, f4, f5, f6, f7, f8, f9⟩ := hI
        rw [hup 10 (by omega)] at fa10
        have HA10 := Lib.hid (show W2.heap[w.heap.size]? = some (.cells (cpuCells (C (k+1))) 25 (0, 0)) from fa10)
        clear fa10
        have HR0 := Lib.hid (show W2.heap[(w.heap.size + 1)]? = some (.cells (cpuCells cpu0) 25 (0, 0)) from fr0)
        clear fr0
        obtain rfl : x13 = .agg (cpuCells (C k)) := f0 (hup 0 (by omega))
        obtain rfl : x14 = .slice (some ⟨q, 0, none⟩) n n := f1 (hup 1 (by omega))
        obtain rfl : x15 = .int .i64 k := f2 (hup 2 (by omega))
        obtain rfl : x16 = .pointer (some ⟨q, k * 11, none⟩) := f3 (hup 3 (by omega))
        obtain rfl : x17 = .agg (insCells (I k)) := f4 (hup 4 (by omega))
        obtain rfl : x18 = .int .u32 (x k) := f5 (hup 5 (by omega))
        obtain rfl : x19 = .tuple #[.agg (cpuCells (C (k+1))), .agg (evCells 0 0 false 0 0 0)] := f6 (hup 6 (by omega))
        obtain rfl : x12 = .tuple #[.agg (cpuCells (C (k+1))), .agg (evCells 0 0 false 0 0 0)] := f7 (hup 7 (by omega))
        obtain rfl : x20 = .agg (cpuCells (C (k+1))) := f8 (hup 8 (by omega))
        obtain rfl : x21 = .agg (evCells 0 0 false 0 0 0) := f9 (hup 9 (by omega))
        have B2 := hBz
        clear hBz hup L f0 f1 f2 f3 f4 f5 f6 f7 f8 f9
        go_wp2_with fail
        go_roundw
        case rel => exact ⟨k + 1, by omega, by go_num, B2, HA10.out, HR0.out⟩
        case measure => simp [intOf]; omega
    · obtain rfl : k = n := by omega
      have d0 : decide ((k : Int) < k) = false := by simp
      have HS := Lib.hid (cpu_size (C k))
      have H3 := Lib.hid (cpu_one (C k))
      go_wp2_with (first | (with_reducible refine wpList_load_row rfl 25 _ rfl w.heap.size rfl 25 (cpuCells (C k)) (0, 0) _ HP.out Try.underlying25 rfl HS.out ?_) | (with_reducible refine wpList_store_row rfl 25 _ _ rfl (w.heap.size + 1) (cpuCells (C k)) rfl rfl 25 _ HP1.out HS.out rfl H3.out ?_))
      exact bodyPost_ret (results_cell_row rfl _ _ (w.heap.size + 1) 25 (cpuCells (C k)) (0, 0) _ rfl (setRow_heap _ _ _ _ _ _ HP1.out) Try.underlying25 rfl HS.out) rfl ⟨rfl, below_setRow' hbr (by omega) _⟩
def rows (l : List Ins) : Array Value := (l.flatMap fun i => (insCells i).toList).toArray
theorem flat_at (l : List Ins) : ∀ (k j : Nat), k < l.length → j < 11 → (l.flatMap fun i => (insCells i).toList)[k * 11 + j]? = (insCells (l.getD k ins0)).toList[j]? := by
  induction l with
  | nil => intro k j h; simp at h
  | cons a l ih =>
    intro k j h hj
    have h11 : (insCells a).toList.length = 11 := rfl
    rw [List.flatMap_cons]
    cases k with
    | zero => rw [List.getElem?_append_left (by omega)]; simp
    | succ k =>
      rw [List.getElem?_append_right (by omega), h11, show (k + 1) * 11 + j - 11 = k * 11 + j by omega, ih k j (by simpa using h) hj]
      simp
theorem rows_range (l : List Ins) (k : Nat) (hk : k < l.length) (W : World) (q : Nat) {t : TypeId} (h : W.heap[q]? = some (.cells (rows l) t (0, 0))) : W.rangeAt q (k * 11) (insCells (l.getD k ins0)).toList := by
  intro j v hj
  have hj' : j < 11 := (List.getElem?_eq_some_iff.1 hj).1
  refine (cell_at h _).trans ?_
  show ((l.flatMap fun i => (insCells i).toList).toArray)[k * 11 + j]? = some v
  rw [List.getElem?_toArray, flat_at l k j hk hj', hj]
/-- an instruction that may be makes one processor of another -/
def Does (i : Ins) (c c' : Cpu) : Prop := ∃ x : Int, (∀ W, Calls Try.prog 22 #[.agg (insCells i)] W fun e w' => e = .returned (.int .u32 x) ∧ Below W.heap.size W w') ∧ (∀ W, Calls Try.prog 10 #[.agg (cpuCells c), .int .u32 x] W (StepIs c' 0 0 false 0 0 0 W))
theorem ops_list (l : List Ins) (C : Nat → Cpu) (q : Nat) (w : World) (hl : l.length ≤ 100) {t : TypeId} (h : w.heap[q]? = some (.cells (rows l) t (0, 0))) (hd : ∀ k, k < l.length → Does (l.getD k ins0) (C k) (C (k + 1))) :
    Calls Try.prog 25 #[.agg (cpuCells (C 0)), .slice (some ⟨q, 0, none⟩) l.length l.length] w fun e w' => e = .returned (.agg (cpuCells (C l.length))) ∧ Below w.heap.size w w' := by
  classical
  refine ops_any l.length q (fun k => l.getD k ins0) (fun k => if h : k < l.length then Classical.choose (hd k h) else 0) C w hl (fun k W hk hb => rows_range l k hk W q ((hb.block _ (lt_heap h)).trans h)) (fun k hk => ?_) (fun k hk => ?_)
  · rw [dif_pos hk]; exact (Classical.choose_spec (hd k hk)).1
  · rw [dif_pos hk]; exact (Classical.choose_spec (hd k hk)).2
theorem ops_1 (c0 c1 : Cpu) (i0 : Ins) (q : Nat) (w : World) {t : TypeId} (h : w.heap[q]? = some (.cells (rows [i0]) t (0, 0))) (d0 : Does i0 c0 c1) :
    Calls Try.prog 25 #[.agg (cpuCells c0), .slice (some ⟨q, 0, none⟩) 1 1] w fun e w' => e = .returned (.agg (cpuCells c1)) ∧ Below w.heap.size w w' :=
  ops_list [i0] (fun k => [c0, c1].getD k cpu0) q w (by simp) h (fun k hk => by
    have : k = 0 := by simpa using hk
    subst this; exact d0)
theorem ops_2 (c0 c1 c2 : Cpu) (i0 i1 : Ins) (q : Nat) (w : World) {t : TypeId} (h : w.heap[q]? = some (.cells (rows [i0, i1]) t (0, 0))) (d0 : Does i0 c0 c1) (d1 : Does i1 c1 c2) :
    Calls Try.prog 25 #[.agg (cpuCells c0), .slice (some ⟨q, 0, none⟩) 2 2] w fun e w' => e = .returned (.agg (cpuCells c2)) ∧ Below w.heap.size w w' :=
  ops_list [i0, i1] (fun k => [c0, c1, c2].getD k cpu0) q w (by simp) h (fun k hk => by
    have : k = 0 ∨ k = 1 := by simp at hk; omega
    rcases this with rfl | rfl
    · exact d0
    · exact d1)
theorem ops_6 (c0 c1 c2 c3 c4 c5 c6 : Cpu) (i0 i1 i2 i3 i4 i5 : Ins) (q : Nat) (w : World) {t : TypeId} (h : w.heap[q]? = some (.cells (rows [i0, i1, i2, i3, i4, i5]) t (0, 0))) (d0 : Does i0 c0 c1) (d1 : Does i1 c1 c2) (d2 : Does i2 c2 c3) (d3 : Does i3 c3 c4) (d4 : Does i4 c4 c5) (d5 : Does i5 c5 c6) :
    Calls Try.prog 25 #[.agg (cpuCells c0), .slice (some ⟨q, 0, none⟩) 6 6] w fun e w' => e = .returned (.agg (cpuCells c6)) ∧ Below w.heap.size w w' :=
  ops_list [i0, i1, i2, i3, i4, i5] (fun k => [c0, c1, c2, c3, c4, c5, c6].getD k cpu0) q w (by simp) h (fun k hk => by
    have : k = 0 ∨ k = 1 ∨ k = 2 ∨ k = 3 ∨ k = 4 ∨ k = 5 := by simp at hk; omega
    rcases this with rfl | rfl | rfl | rfl | rfl | rfl
    · exact d0
    · exact d1
    · exact d2
    · exact d3
    · exact d4
    · exact d5)
theorem does_im (c c' : Cpu) (u v : Bool) (A B : Nat) (op im : Int) (hr : ∀ k, 0 ≤ c.r k ∧ c.r k ≤ 4294967295) (hA : A < 16) (hB : B < 16) (o0 : 0 ≤ op) (o1 : op ≤ 11) (m0 : 0 ≤ im) (m1 : im ≤ 65535) (hm : mayOpB 1 u v B 0 op = true)
    (h : oprC (nextC c) op u A B (valI u v op im) = some c') : Does ⟨1, u, v, A, B, 0, op, im, 0, 0, 0⟩ c c' := by
  refine ⟨wd01 1 u v A B op (im + 0), rw1 u v A B 0 op im 0 0 0 m0 m1 (by omega) (by omega), fun W => ?_⟩
  rw [Int.add_zero]
  have k := step_im c (wd01 1 u v A B op im) ⟨1, u, v, A, B, 0, op, im, 0, 0, 0⟩ (w32_bd _).1 (w32_bd _).2 (dec_wd1 u v A B op im (by omega) (by omega) (by omega) (by omega) o0 (by omega) m0 m1 hm) hr A B hA hB rfl rfl m0 m1 o0 o1 rfl W
  dsimp only at k
  rw [h] at k
  exact k
theorem does_reg (c c' : Cpu) (u : Bool) (A B D : Nat) (op : Int) (hr : ∀ k, 0 ≤ c.r k ∧ c.r k ≤ 4294967295) (hh : 0 ≤ c.h ∧ c.h ≤ 4294967295) (hA : A < 16) (hB : B < 16) (hD : D < 16) (o0 : 0 ≤ op) (o1 : op ≤ 11) (hm : mayOpB 0 u false B D op = true)
    (h : oprC (nextC c) op u A B (srcI (nextC c) u op D) = some c') : Does ⟨0, u, false, A, B, D, op, 0, 0, 0, 0⟩ c c' := by
  refine ⟨wd01 0 u false A B op (0 + D), rw0 u false A B D op 0 0 0 0 (by omega) (by omega) (by omega) (by omega), fun W => ?_⟩
  rw [Int.zero_add]
  have k := step_reg c (wd01 0 u false A B op D) ⟨0, u, false, A, B, D, op, 0, 0, 0, 0⟩ (w32_bd _).1 (w32_bd _).2 (dec_wd0 u A B op D (by omega) (by omega) (by omega) (by omega) o0 (by omega) (by omega) (by omega) hm) hr hh A B D hA hB hD rfl rfl rfl o0 o1 rfl W
  dsimp only at k
  rw [h] at k
  exact k
end Go.Proofs.Ytgjecfchnokcfaa

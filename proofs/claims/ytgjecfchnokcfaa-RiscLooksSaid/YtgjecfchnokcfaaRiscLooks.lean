/-
  RiscLooks: for every processor, every two numbers and every value: conditions, flags, loads and answers are the document's. No condition.
-/
import Derived.Test.YtgjecfchnokcfaaRiscF
import Derived.Test.YtgjecfchnokcfaaWordR
import Derived.Test.YtgjecfchnokcfaaOpenS
import Derived.Deep.DeepHandedRow
import Derived.Carry
import Derived.Test.YtgjecfchnokcfaaInv
namespace Go.Proofs.Ytgjecfchnokcfaa.riscLooks
open Go.ChangeShapes Go.WideShapes Go.ChangeAt Go.RowKit
open Go.ChangeMaps (open_string shut_string)
set_option linter.unusedVariables false
theorem results_ct {P : Program} {fn : Func} {p q : Tmp} {ty : TypeId} (h : fn.results = #[.cell p ty, .tmp q]) (tmps : Array Value) (w : World) (g : Nat) (t : TypeId) (cs : Array Value) (fr : Nat × Nat) (d : TypeDesc) (v : Value)
    (hp : tmps.getD p undef = .pointer (some ⟨g, 0, none⟩)) (hq : tmps.getD q undef = v) (hg : w.heap[g]? = some (.cells cs t fr))
    (hu : P.underlying ty = some d) (hd : (match d with | .struct _ | .array _ _ => true | _ => false) = true) (hi : (P.info? ty).map (·.size) = some cs.size) :
    (results fn tmps).run P w = .ok (.tuple #[.agg cs, v]) w := by
  have hp' : tmps[p]?.getD undef = .pointer (some ⟨g, 0, none⟩) := by simpa using hp
  have hq' : tmps[q]?.getD undef = v := by simpa using hq
  simp [results, h, hp', hq', asAddr, run_loadVar_row w g t ty cs fr d hg hu hd hi]
theorem num4_any (e : Int) (w : World) : Calls Try.prog 19 #[.int .i64 e] w fun x w' => x = .returned (.int .i64 e) ∧ w = w' := by
  go_enter Try.func19, Try.ntmps19
  go_wp2
  go_ret
  exact ⟨rfl, rfl⟩
theorem two_rows (w : World) (cs ds : Array Value) (t u : TypeId) : ((w.alloc (.cells cs t)).alloc (.cells ds u)).heap[w.heap.size]? = some (.cells cs t (0, 0)) ∧ ((w.alloc (.cells cs t)).alloc (.cells ds u)).heap[w.heap.size + 1]? = some (.cells ds u (0, 0)) := by
  refine ⟨((below1 _ _).block _ (by simp)).trans (heap_alloc_new _ _), ?_⟩
  have h := heap_alloc_new (w.alloc (.cells cs t)) (.cells ds u)
  rw [show (w.alloc (.cells cs t)).heap.size = w.heap.size + 1 by simp] at h
  exact h
set_option maxHeartbeats 4000000 in
theorem loaded_yes (C : Cpu) (a : Nat) (ha : a < 16) (x : Int) (x0 : 0 ≤ x) (x1 : x ≤ 4294967295) (w : World) : Calls Try.prog 13 #[.agg (cpuCells C), .int .i64 a, .int .u32 x] w fun e w' => e = .returned (.tuple #[.agg (cpuCells (ldC C a x)), .int .i64 0]) ∧ Below w.heap.size w w' := by
  obtain ⟨hb, hz⟩ := two_rows w (cpuCells C) (cpuCells cpu0) 25 25
  have HB := Lib.hid hb
  have HZ := Lib.hid hz
  have HW := below2 w (.cells (cpuCells C) 25) (.cells (cpuCells cpu0) 25)
  clear hb hz
  have d1 : decide ((a : Int) < 0) = false := by simp
  have d2 : decide ((16 : Int) ≤ a) = false := by simp; omega
  go_enter Try.func13, Try.ntmps13
  go_upto_region 3 with (fail)
  change Code.wp _ _ _ _ ((w.alloc (.cells (cpuCells C) 25)).alloc (.cells (cpuCells cpu0) 25))
  generalize (w.alloc (.cells (cpuCells C) 25)).alloc (.cells (cpuCells cpu0) 25) = W at HB HZ HW ⊢
  have HS := Lib.hid (cpu_size (ldC C a x))
  have H3 := Lib.hid (cpu_one (ldC C a x))
  go_upto_region 4 with (go_at_call 35; refine (load_any w.heap.size C a x ha x0 x1 _ HB.out).mono ?_; rintro e W2 ⟨rfl, t3⟩)
  have HL := Lib.hid t3.at_
  have HZ2 := Lib.hid ((t3.block (w.heap.size + 1) (lt_heap HZ.out) (by omega)).trans HZ.out)
  have HW2 : Below w.heap.size w W2 := HW.trans (t3.below (Nat.le_refl _) HW.size)
  clear t3
  go_wp2_with (first | (with_reducible refine wpList_load_row rfl 25 _ rfl w.heap.size rfl 25 (cpuCells (ldC C a x)) (0, 0) _ HL.out Try.underlying25 rfl HS.out ?_) | (with_reducible refine wpList_store_row rfl 25 _ _ rfl (w.heap.size + 1) (cpuCells (ldC C a x)) rfl rfl 25 _ HZ2.out HS.out rfl H3.out ?_))
  exact bodyPost_ret (results_ct rfl _ _ (w.heap.size + 1) 25 (cpuCells (ldC C a x)) (0, 0) _ _ rfl rfl (setRow_heap _ _ _ _ _ _ HZ2.out) Try.underlying25 rfl HS.out) rfl ⟨rfl, below_setRow' HW2 (by omega) _⟩
set_option maxHeartbeats 4000000 in
theorem loaded_no (C : Cpu) (a : Int) (ha : ¬ (0 ≤ a ∧ a ≤ 15)) (x : Int) (w : World) : Calls Try.prog 13 #[.agg (cpuCells C), .int .i64 a, .int .u32 x] w fun e w' => e = .returned (.tuple #[.agg (cpuCells cpu0), .int .i64 2]) ∧ Below w.heap.size w w' := by
  obtain ⟨hb, hz⟩ := two_rows w (cpuCells C) (cpuCells cpu0) 25 25
  have HB := Lib.hid hb
  have HZ := Lib.hid hz
  have HW := below2 w (.cells (cpuCells C) 25) (.cells (cpuCells cpu0) 25)
  clear hb hz
  have HS := Lib.hid (cpu_size cpu0)
  have H3 := Lib.hid (cpu_one cpu0)
  by_cases h0 : 0 ≤ a
  · have d1 : decide (a < 0) = false := by simp; omega
    have d2 : decide (16 ≤ a) = true := by simp; omega
    clear ha
    go_enter Try.func13, Try.ntmps13
    go_upto_region 2 with (fail)
    change Code.wp _ _ _ _ ((w.alloc (.cells (cpuCells C) 25)).alloc (.cells (cpuCells cpu0) 25))
    generalize (w.alloc (.cells (cpuCells C) 25)).alloc (.cells (cpuCells cpu0) 25) = W at HB HZ HW ⊢
    go_wp2_with (refine wpList_store_row rfl 25 _ _ rfl (w.heap.size + 1) (cpuCells cpu0) rfl rfl 25 _ HZ.out HS.out rfl H3.out ?_)
    exact bodyPost_ret (results_ct rfl _ _ (w.heap.size + 1) 25 (cpuCells cpu0) (0, 0) _ _ rfl rfl (setRow_heap _ _ _ _ _ _ HZ.out) Try.underlying25 rfl HS.out) rfl ⟨rfl, below_setRow' HW (by omega) _⟩
  · have d1 : decide (a < 0) = true := by simp; omega
    clear ha
    go_enter Try.func13, Try.ntmps13
    go_upto_region 2 with (fail)
    change Code.wp _ _ _ _ ((w.alloc (.cells (cpuCells C) 25)).alloc (.cells (cpuCells cpu0) 25))
    generalize (w.alloc (.cells (cpuCells C) 25)).alloc (.cells (cpuCells cpu0) 25) = W at HB HZ HW ⊢
    go_wp2_with (refine wpList_store_row rfl 25 _ _ rfl (w.heap.size + 1) (cpuCells cpu0) rfl rfl 25 _ HZ.out HS.out rfl H3.out ?_)
    exact bodyPost_ret (results_ct rfl _ _ (w.heap.size + 1) 25 (cpuCells cpu0) (0, 0) _ _ rfl rfl (setRow_heap _ _ _ _ _ _ HZ.out) Try.underlying25 rfl HS.out) rfl ⟨rfl, below_setRow' HW (by omega) _⟩
/-- R0 laid -/
def ansC (C : Cpu) (x : Int) : Cpu := { C with r := upd C.r 0 x }
set_option maxHeartbeats 4000000 in
theorem answered_any (C : Cpu) (x : Int) (w : World) : Calls Try.prog 14 #[.agg (cpuCells C), .int .u32 x] w fun e w' => e = .returned (.agg (cpuCells (ansC C x))) ∧ Below w.heap.size w w' := by
  obtain ⟨hb, hz⟩ := two_rows w (cpuCells C) (cpuCells cpu0) 25 25
  have HB := Lib.hid hb
  have HZ := Lib.hid hz
  have HW := below2 w (.cells (cpuCells C) 25) (.cells (cpuCells cpu0) 25)
  clear hb hz
  go_enter Try.func14, Try.ntmps14
  go_upto_region 1 with (fail)
  change Code.wp _ _ _ _ ((w.alloc (.cells (cpuCells C) 25)).alloc (.cells (cpuCells cpu0) 25))
  generalize (w.alloc (.cells (cpuCells C) 25)).alloc (.cells (cpuCells cpu0) 25) = W at HB HZ HW ⊢
  have hca : W.cell? ⟨w.heap.size, 0, none⟩ = some (.int .u32 (C.r 0)) := cell_at HB.out 0
  have hfr : W.frozen? ⟨w.heap.size, 0, none⟩ = false := free_at HB.out 0
  go_upto_region 2 with (fail)
  have t3 := ((Turn.refl HB.out).setCell 0 (.int .u32 x)).to (cs' := cpuCells (ansC C x)) (reg_set C 0 (by omega) x)
  have HL := Lib.hid t3.at_
  have HZ2 := Lib.hid ((t3.block (w.heap.size + 1) (lt_heap HZ.out) (by omega)).trans HZ.out)
  have HW2 : Below w.heap.size w _ := HW.trans (t3.below (Nat.le_refl _) HW.size)
  generalize W.setCell ⟨w.heap.size, 0, none⟩ (.int .u32 x) = W2 at HL HZ2 HW2 ⊢
  clear hca hfr
  have HS := Lib.hid (cpu_size (ansC C x))
  have H3 := Lib.hid (cpu_one (ansC C x))
  go_wp2_with (first | (with_reducible refine wpList_load_row rfl 25 _ rfl w.heap.size rfl 25 (cpuCells (ansC C x)) (0, 0) _ HL.out Try.underlying25 rfl HS.out ?_) | (with_reducible refine wpList_store_row rfl 25 _ _ rfl (w.heap.size + 1) (cpuCells (ansC C x)) rfl rfl 25 _ HZ2.out HS.out rfl H3.out ?_))
  exact bodyPost_ret (results_cell_row rfl _ _ (w.heap.size + 1) 25 (cpuCells (ansC C x)) (0, 0) _ rfl (setRow_heap _ _ _ _ _ _ HZ2.out) Try.underlying25 rfl HS.out) rfl ⟨rfl, below_setRow' HW2 (by omega) _⟩
set_option maxHeartbeats 4000000 in
theorem walk (c : Cpu) (a1 a2 a3 : Int) (w : World) (wf : CpuWf c) (w1 : (Lit.int .i64 a1).wf = true) (w2 : (Lit.int .i64 a2).wf = true) (w3 : (Lit.int .u32 a3).wf = true) :
    Calls Try.prog 4 #[.agg (cpuCells c), .int .i64 a1, .int .i64 a2, .int .u32 a3] w fun e w' => e = .returned (.bool true) ∧ Below w.heap.size w w' := by
  obtain ⟨h0, h1⟩ := bd_u32 w3
  obtain ⟨b0, b1⟩ := bd_i64 w1
  clear wf w1 w2 w3
  obtain ⟨kb, hkb⟩ : ∃ kb, holdB c (a1 % 16).toNat = kb := ⟨_, rfl⟩
  have CH := Lib.hid (fun W => holdsV_all c a1 b0 b1 W)
  have CR := Lib.hid (fun W => rholds_all c a1 b0 b1 W)
  rw [hkb] at CH CR
  obtain ⟨kf, hkf⟩ : ∃ kf, flagsI c.n c.z c.c c.v = kf := ⟨_, rfl⟩
  have CF := Lib.hid (fun W => flags_any c W)
  have CG := Lib.hid (fun W => rflags_any c W)
  rw [hkf] at CF CG
  clear hkb hkf b0 b1
  obtain ⟨cl, el, CL⟩ : ∃ (cl : Cpu) (el : Int), Hid (∀ W, Calls Try.prog 13 #[.agg (cpuCells c), .int .i64 a2, .int .u32 a3] W fun e w' => e = .returned (.tuple #[.agg (cpuCells cl), .int .i64 el]) ∧ Below W.heap.size W w') ∧ Hid ((0 ≤ a2 ∧ a2 ≤ 15 → cl = ldC c a2.toNat a3 ∧ el = 0) ∧ (¬ (0 ≤ a2 ∧ a2 ≤ 15) → cl = cpu0 ∧ el = 2)) := by
    by_cases h : 0 ≤ a2 ∧ a2 ≤ 15
    · refine ⟨ldC c a2.toNat a3, 0, Lib.hid (fun W => ?_), Lib.hid ⟨fun _ => ⟨rfl, rfl⟩, fun k => absurd h k⟩⟩
      have := loaded_yes c a2.toNat (by omega) a3 h0 h1 W
      rwa [Int.toNat_of_nonneg h.1] at this
    · exact ⟨cpu0, 2, Lib.hid (fun W => loaded_no c a2 h a3 W), Lib.hid ⟨fun k => absurd k h, fun _ => ⟨rfl, rfl⟩⟩⟩
  obtain ⟨CL, CE⟩ := CL
  obtain ⟨ca, hca⟩ : ∃ ca, ansC c a3 = ca := ⟨_, rfl⟩
  have CA := Lib.hid (fun W => answered_any c a3 W)
  rw [hca] at CA
  have HCA := Lib.hid hca
  clear hca
  have HS := Lib.hid (cpu_size c)
  have H3 := Lib.hid (cpu_one c)
  have HSl := Lib.hid (cpu_size cl)
  have H3l := Lib.hid (cpu_one cl)
  have HSa := Lib.hid (cpu_size ca)
  have H3a := Lib.hid (cpu_one ca)
  have HC := Lib.hid (heap_alloc_new w (.cells (cpuCells c) 25))
  have BW := below1 w (.cells (cpuCells c) 25)
  go_enter Try.func4, Try.ntmps4
  go_upto_region 1 with (fail)
  generalize w.alloc (.cells (cpuCells c) 25) = W0 at HC BW ⊢
  go_upto_region 2 with (first | (with_reducible refine wpList_load_row rfl 25 _ rfl w.heap.size rfl 25 (cpuCells c) (0, 0) _ HC.out Try.underlying25 rfl HS.out ?_) | (go_at_call 13; refine (CL.out _).mono ?_; rintro e w2 ⟨rfl, b2⟩) | (with_reducible refine wpList_store_row rfl 25 _ _ rfl _ (cpuCells cl) rfl rfl 25 _ (heap_alloc_new _ _) HSl.out rfl H3l.out ?_; rw [World.setRow_alloc_new]))
  have hc1 := (b2.block _ (lt_heap HC.out)).trans HC.out
  have HC1 := Lib.hid (((below1 w2 (.cells (cpuCells cl) 25)).block _ (lt_heap hc1)).trans hc1)
  have HL := Lib.hid (heap_alloc_new w2 (.cells (cpuCells cl) 25))
  have B1 : Below w.heap.size w (w2.alloc (.cells (cpuCells cl) 25)) := (BW.trans (b2.mono BW.size)).trans ((below1 w2 _).mono (Nat.le_trans BW.size b2.size))
  have L1 : w.heap.size < w2.heap.size := lt_heap hc1
  obtain ⟨g1, hg1⟩ : ∃ g1, w2.heap.size = g1 := ⟨_, rfl⟩
  rw [hg1] at HL L1 ⊢
  clear hg1 hc1
  generalize w2.alloc (.cells (cpuCells cl) 25) = W1 at HC1 HL B1 ⊢
  clear b2 HC BW
  go_upto_region 3 with (first | (with_reducible refine wpList_load_row rfl 25 _ rfl w.heap.size rfl 25 (cpuCells c) (0, 0) _ HC1.out Try.underlying25 rfl HS.out ?_) | (go_at_call 14; refine (CA.out _).mono ?_; rintro e w3 ⟨rfl, b3⟩) | (with_reducible refine wpList_store_row rfl 25 _ _ rfl _ (cpuCells ca) rfl rfl 25 _ (heap_alloc_new _ _) HSa.out rfl H3a.out ?_; rw [World.setRow_alloc_new]))
  have hc1 := (b3.block _ (lt_heap HC1.out)).trans HC1.out
  have hl1 := (b3.block _ (lt_heap HL.out)).trans HL.out
  have HC2 := Lib.hid (((below1 w3 (.cells (cpuCells ca) 25)).block _ (lt_heap hc1)).trans hc1)
  have HL2 := Lib.hid (((below1 w3 (.cells (cpuCells ca) 25)).block _ (lt_heap hl1)).trans hl1)
  have HA := Lib.hid (heap_alloc_new w3 (.cells (cpuCells ca) 25))
  have B2 : Below w.heap.size w (w3.alloc (.cells (cpuCells ca) 25)) := (B1.trans (b3.mono B1.size)).trans ((below1 w3 _).mono (Nat.le_trans B1.size b3.size))
  obtain ⟨g2, hg2⟩ : ∃ g2, w3.heap.size = g2 := ⟨_, rfl⟩
  rw [hg2] at HA ⊢
  clear hg2 hc1 hl1
  generalize w3.alloc (.cells (cpuCells ca) 25) = W2 at HC2 HL2 HA B2 ⊢
  clear b3 HC1 HL B1
  refine wp_region_inv' 14 rfl (fun (L : Nat → Bool) (a : Act) (Wz : World) => ∃ x23 x24 x25 x26 x27 x28 x29 x30 x31 x32 x33 x34 x35 x36 : Value, a = { tmps := #[Value.agg (cpuCells c), Value.int IntKind.i64 a1, Value.int IntKind.i64 a2, Value.int IntKind.u32 a3, Value.pointer (some { block := w.heap.size, off := 0 }), undef, undef, undef, Value.bool false, Value.pointer (some { block := g1, off := 0 }), Value.int IntKind.i64 el, Value.pointer (some { block := g2, off := 0 }), undef, Value.tuple #[Value.agg (cpuCells cl), Value.int IntKind.i64 el], Value.agg (cpuCells c), Value.int IntKind.i64 a2, Value.int IntKind.u32 a3, Value.tuple #[Value.agg (cpuCells cl), Value.int IntKind.i64 el], Value.agg (cpuCells cl), Value.int IntKind.i64 el, Value.agg (cpuCells c), Value.int IntKind.u32 a3, Value.agg (cpuCells ca), x23, x24, x25, x26, x27, x28, x29, x30, x31, x32, x33, x34, x35, x36, undef, undef, undef, undef, undef, undef, undef, undef, undef, undef, undef, undef, undef, undef, undef, undef, undef, undef, undef, undef, undef, undef, undef, undef, undef, undef, undef, undef, undef, undef, undef, undef, undef, undef, undef, undef, undef, undef], defers := [] } ∧ Below W2.heap.size W2 Wz ∧ Up (L 0) x23 (.agg (cpuCells c)) ∧ Up (L 1) x24 (.int .i64 a1) ∧ Up (L 2) x25 (.bool kb) ∧ Up (L 3) x26 (.agg (cpuCells c)) ∧ Up (L 4) x27 (.int .i64 a1) ∧ Up (L 5) x28 (.bool kb) ∧ Up (L 6) x29 (.bool false) ∧ Up (L 7) x30 (.bool false) ∧ Up (L 8) x31 (.agg (cpuCells c)) ∧ Up (L 9) x32 (.int .u32 kf) ∧ Up (L 10) x33 (.agg (cpuCells c)) ∧ Up (L 11) x34 (.int .u32 kf) ∧ Up (L 12) x35 (.bool false) ∧ Up (L 13) x36 (.bool false)) (by kernel_rfl) (by kernel_rfl) ?_ ?_ ?_
  · exact ⟨undef, undef, undef, undef, undef, undef, undef, undef, undef, undef, undef, undef, undef, undef, rfl, (Below.refl _ _).drew, Up.no (by decide), Up.no (by decide), Up.no (by decide), Up.no (by decide), Up.no (by decide), Up.no (by decide), Up.no (by decide), Up.no (by decide), Up.no (by decide), Up.no (by decide), Up.no (by decide), Up.no (by decide), Up.no (by decide), Up.no (by decide)⟩
  · intro i hi L a Wz hL hc hd hI
    obtain ⟨x23, x24, x25, x26, x27, x28, x29, x30, x31, x32, x33, x34, x35, x36, rfl, hBz, f0, f1, f2, f3, f4, f5, f6, f7, f8, f9, f10, f11, f12, f13⟩ := hI
    have : i = 0 ∨ i = 1 ∨ i = 2 ∨ i = 3 ∨ i = 4 ∨ i = 5 ∨ i = 6 ∨ i = 7 ∨ i = 8 ∨ i = 9 ∨ i = 10 ∨ i = 11 ∨ i = 12 ∨ i = 13 := by omega
    rcases this with rfl | rfl | rfl | rfl | rfl | rfl | rfl | rfl | rfl | rfl | rfl | rfl | rfl | rfl
    · refine wpOp_step rfl (fun K hK => ?_)
      rw [if_pos (by rfl)]
      refine wp_load_row 25 _ rfl _ rfl 25 (cpuCells c) (0, 0) _ ((hBz.block _ (lt_heap HC2.out)).trans HC2.out) Try.underlying25 rfl (cpu_size _) ?_
      refine hK _ _ ⟨_, _, _, _, _, _, _, _, _, _, _, _, _, _, rfl, hBz, fun _ => rfl, f1, f2, f3, f4, f5, f6, f7, f8, f9, f10, f11, f12, f13⟩
    · refine wpOp_step rfl (fun K hK => ?_)
      go_simp
      refine hK _ _ ⟨_, _, _, _, _, _, _, _, _, _, _, _, _, _, rfl, hBz, f0, fun _ => rfl, f2, f3, f4, f5, f6, f7, f8, f9, f10, f11, f12, f13⟩
    · obtain rfl : x23 = .agg (cpuCells c) := f0 (hd 0 (by kernel_rfl))
      obtain rfl : x24 = .int .i64 a1 := f1 (hd 1 (by kernel_rfl))
      refine wpOp_step rfl (fun K hK => ?_)
      go_simp
      refine (CH.out _).mono ?_
      rintro e Wy ⟨rfl, bb⟩
      refine hK _ _ ⟨_, _, _, _, _, _, _, _, _, _, _, _, _, _, rfl, (hBz.trans (bb.mono hBz.size)), fun _ => rfl, fun _ => rfl, fun _ => rfl, f3, f4, f5, f6, f7, f8, f9, f10, f11, f12, f13⟩
    · refine wpOp_step rfl (fun K hK => ?_)
      rw [if_pos (by rfl)]
      refine wp_load_row 25 _ rfl _ rfl 25 (cpuCells c) (0, 0) _ ((hBz.block _ (lt_heap HC2.out)).trans HC2.out) Try.underlying25 rfl (cpu_size _) ?_
      refine hK _ _ ⟨_, _, _, _, _, _, _, _, _, _, _, _, _, _, rfl, hBz, f0, f1, f2, fun _ => rfl, f4, f5, f6, f7, f8, f9, f10, f11, f12, f13⟩
    · refine wpOp_step rfl (fun K hK => ?_)
      go_simp
      refine hK _ _ ⟨_, _, _, _, _, _, _, _, _, _, _, _, _, _, rfl, hBz, f0, f1, f2, f3, fun _ => rfl, f5, f6, f7, f8, f9, f10, f11, f12, f13⟩
    · obtain rfl : x26 = .agg (cpuCells c) := f3 (hd 3 (by kernel_rfl))
      obtain rfl : x27 = .int .i64 a1 := f4 (hd 4 (by kernel_rfl))
      refine wpOp_step rfl (fun K hK => ?_)
      go_simp
      refine (CR.out _).mono ?_
      rintro e Wy ⟨rfl, bb⟩
      refine hK _ _ ⟨_, _, _, _, _, _, _, _, _, _, _, _, _, _, rfl, (hBz.trans (bb.mono hBz.size)), f0, f1, f2, fun _ => rfl, fun _ => rfl, fun _ => rfl, f6, f7, f8, f9, f10, f11, f12, f13⟩
    · obtain rfl : x25 = .bool kb := f2 (hd 2 (by kernel_rfl))
      obtain rfl : x28 = .bool kb := f5 (hd 5 (by kernel_rfl))
      refine wpOp_step rfl (fun K hK => ?_)
      go_simp
      refine hK _ _ ⟨_, _, _, _, _, _, _, _, _, _, _, _, _, _, rfl, hBz, f0, f1, fun _ => rfl, f3, f4, fun _ => rfl, fun _ => rfl, f7, f8, f9, f10, f11, f12, f13⟩
    · obtain rfl : x29 = .bool false := f6 (hd 6 (by kernel_rfl))
      refine wpOp_step rfl (fun K hK => ?_)
      go_simp
      refine hK _ _ ⟨_, _, _, _, _, _, _, _, _, _, _, _, _, _, rfl, hBz, f0, f1, f2, f3, f4, f5, fun _ => rfl, fun _ => rfl, f8, f9, f10, f11, f12, f13⟩
    · obtain rfl : x30 = .bool false := f7 (hd 7 (by kernel_rfl))
      refine wpOp_step rfl (fun K hK => ?_)
      rw [if_pos (by rfl)]
      refine wp_load_row 25 _ rfl _ rfl 25 (cpuCells c) (0, 0) _ ((hBz.block _ (lt_heap HC2.out)).trans HC2.out) Try.underlying25 rfl (cpu_size _) ?_
      refine hK _ _ ⟨_, _, _, _, _, _, _, _, _, _, _, _, _, _, rfl, hBz, f0, f1, f2, f3, f4, f5, f6, fun _ => rfl, fun _ => rfl, f9, f10, f11, f12, f13⟩
    · obtain rfl : x30 = .bool false := f7 (hd 7 (by kernel_rfl))
      obtain rfl : x31 = .agg (cpuCells c) := f8 (hd 8 (by kernel_rfl))
      refine wpOp_step rfl (fun K hK => ?_)
      go_simp
      refine (CF.out _).mono ?_
      rintro e Wy ⟨rfl, bb⟩
      refine hK _ _ ⟨_, _, _, _, _, _, _, _, _, _, _, _, _, _, rfl, (hBz.trans (bb.mono hBz.size)), f0, f1, f2, f3, f4, f5, f6, fun _ => rfl, fun _ => rfl, fun _ => rfl, f10, f11, f12, f13⟩
    · obtain rfl : x30 = .bool false := f7 (hd 7 (by kernel_rfl))
      refine wpOp_step rfl (fun K hK => ?_)
      rw [if_pos (by rfl)]
      refine wp_load_row 25 _ rfl _ rfl 25 (cpuCells c) (0, 0) _ ((hBz.block _ (lt_heap HC2.out)).trans HC2.out) Try.underlying25 rfl (cpu_size _) ?_
      refine hK _ _ ⟨_, _, _, _, _, _, _, _, _, _, _, _, _, _, rfl, hBz, f0, f1, f2, f3, f4, f5, f6, fun _ => rfl, f8, f9, fun _ => rfl, f11, f12, f13⟩
    · obtain rfl : x30 = .bool false := f7 (hd 7 (by kernel_rfl))
      obtain rfl : x33 = .agg (cpuCells c) := f10 (hd 10 (by kernel_rfl))
      refine wpOp_step rfl (fun K hK => ?_)
      go_simp
      refine (CG.out _).mono ?_
      rintro e Wy ⟨rfl, bb⟩
      refine hK _ _ ⟨_, _, _, _, _, _, _, _, _, _, _, _, _, _, rfl, (hBz.trans (bb.mono hBz.size)), f0, f1, f2, f3, f4, f5, f6, fun _ => rfl, f8, f9, fun _ => rfl, fun _ => rfl, f12, f13⟩
    · obtain rfl : x30 = .bool false := f7 (hd 7 (by kernel_rfl))
      obtain rfl : x32 = .int .u32 kf := f9 (hd 9 (by kernel_rfl))
      obtain rfl : x34 = .int .u32 kf := f11 (hd 11 (by kernel_rfl))
      refine wpOp_step rfl (fun K hK => ?_)
      go_simp
      refine hK _ _ ⟨_, _, _, _, _, _, _, _, _, _, _, _, _, _, rfl, hBz, f0, f1, f2, f3, f4, f5, f6, fun _ => rfl, f8, fun _ => rfl, f10, fun _ => rfl, fun _ => rfl, f13⟩
    · obtain rfl : x30 = .bool false := f7 (hd 7 (by kernel_rfl))
      obtain rfl : x35 = .bool false := f12 (hd 12 (by kernel_rfl))
      refine wpOp_step rfl (fun K hK => ?_)
      go_simp
      refine hK _ _ ⟨_, _, _, _, _, _, _, _, _, _, _, _, _, _, rfl, hBz, f0, f1, f2, f3, f4, f5, f6, fun _ => rfl, f8, f9, f10, f11, fun _ => rfl, fun _ => rfl⟩
  · intro L a W3 hup hI
    obtain ⟨x23, x24, x25, x26, x27, x28, x29, x30, x31, x32, x33, x34, x35, x36, rfl, hBz, f0, f1, f2, f3, f4, f5, f6, f7, f8, f9, f10, f11, f12, f13⟩ := hI
    obtain rfl : x23 = .agg (cpuCells c) := f0 (hup 0 (by omega))
    obtain rfl : x24 = .int .i64 a1 := f1 (hup 1 (by omega))
    obtain rfl : x25 = .bool kb := f2 (hup 2 (by omega))
    obtain rfl : x26 = .agg (cpuCells c) := f3 (hup 3 (by omega))
    obtain rfl : x27 = .int .i64 a1 := f4 (hup 4 (by omega))
    obtain rfl : x28 = .bool kb := f5 (hup 5 (by omega))
    obtain rfl : x29 = .bool false := f6 (hup 6 (by omega))
    obtain rfl : x30 = .bool false := f7 (hup 7 (by omega))
    obtain rfl : x31 = .agg (cpuCells c) := f8 (hup 8 (by omega))
    obtain rfl : x32 = .int .u32 kf := f9 (hup 9 (by omega))
    obtain rfl : x33 = .agg (cpuCells c) := f10 (hup 10 (by omega))
    obtain rfl : x34 = .int .u32 kf := f11 (hup 11 (by omega))
    obtain rfl : x35 = .bool false := f12 (hup 12 (by omega))
    obtain rfl : x36 = .bool false := f13 (hup 13 (by omega))
    have B3 := hBz
    clear hBz hup L f0 f1 f2 f3 f4 f5 f6 f7 f8 f9 f10 f11 f12 f13
    have HC3 := Lib.hid ((B3.block _ (lt_heap HC2.out)).trans HC2.out)
    have HL3 := Lib.hid ((B3.block _ (lt_heap HL2.out)).trans HL2.out)
    have HA3 := Lib.hid ((B3.block _ (lt_heap HA.out)).trans HA.out)
    have B4 := B2.trans (B3.mono B2.size)
    clear B2 B3 HC2 HL2 HA
    go_upto_region 6 with (first | (with_reducible refine wpList_load_row rfl 25 _ rfl w.heap.size rfl 25 (cpuCells c) (0, 0) _ HC3.out Try.underlying25 rfl HS.out ?_) | (with_reducible refine wpList_store_row rfl 25 _ _ rfl _ (cpuCells c) rfl rfl 25 _ (heap_alloc_new _ _) HS.out rfl H3.out ?_; rw [World.setRow_alloc_new]))
    have l1 := lt_heap HC3.out
    have l2 := lt_heap HL3.out
    have l3 := lt_heap HA3.out
    have HC4 := Lib.hid (((below1 W3 (.cells (cpuCells c) 25)).block _ l1).trans HC3.out)
    have HL4 := Lib.hid (((below1 W3 (.cells (cpuCells c) 25)).block _ l2).trans HL3.out)
    have HA4 := Lib.hid (((below1 W3 (.cells (cpuCells c) 25)).block _ l3).trans HA3.out)
    have HZ := Lib.hid (heap_alloc_new W3 (.cells (cpuCells c) 25))
    have B5 : Below w.heap.size w (W3.alloc (.cells (cpuCells c) 25)) := B4.trans ((below1 W3 _).mono B4.size)
    obtain ⟨g3, hg3⟩ : ∃ g3, W3.heap.size = g3 := ⟨_, rfl⟩
    rw [hg3] at HZ l1 l2 l3 ⊢
    clear hg3
    generalize W3.alloc (.cells (cpuCells c) 25) = W4 at HC4 HL4 HA4 HZ B5 ⊢
    clear HC3 HL3 HA3 B4
    have hca : W4.cell? ⟨g3, 0, none⟩ = some (.int .u32 (c.r 0)) := cell_at HZ.out 0
    have hfr : W4.frozen? ⟨g3, 0, none⟩ = false := free_at HZ.out 0
    go_upto_region 7 with (fail)
    have t3 := ((Turn.refl HZ.out).setCell 0 (.int .u32 a3)).to (cs' := cpuCells ca) ((reg_set c 0 (by omega) a3).trans (by rw [← HCA.out]; rfl))
    have HZ5 := Lib.hid t3.at_
    have HC5 := Lib.hid ((t3.block _ (lt_heap HC4.out) (by omega)).trans HC4.out)
    have HL5 := Lib.hid ((t3.block _ (lt_heap HL4.out) (by omega)).trans HL4.out)
    have HA5 := Lib.hid ((t3.block _ (lt_heap HA4.out) (by omega)).trans HA4.out)
    have B6 : Below w.heap.size w _ := B5.trans (t3.below (by omega) B5.size)
    generalize W4.setCell ⟨g3, 0, none⟩ (.int .u32 a3) = W5 at HZ5 HC5 HL5 HA5 B6 ⊢
    clear t3 hca hfr HC4 HL4 HA4 HZ B5
    go_upto_region 9 with (first | (with_reducible refine wpList_load_row rfl 25 _ rfl g2 rfl 25 (cpuCells ca) (0, 0) _ HA5.out Try.underlying25 rfl HSa.out ?_) | (with_reducible refine wpList_load_row rfl 25 _ rfl g3 rfl 25 (cpuCells ca) (0, 0) _ HZ5.out Try.underlying25 rfl HSa.out ?_) | (with_reducible refine wpList_ne_cpu rfl _ _ _ rfl ca rfl rfl ?_))
    clear HZ5 HA5 HSa H3a
    by_cases hin : 0 ≤ a2 ∧ a2 ≤ 15
    · obtain ⟨rfl, rfl⟩ := CE.out.1 hin
      obtain ⟨x0, x1⟩ := hin
      obtain ⟨R, rfl⟩ := Int.eq_ofNat_of_zero_le x0
      have hR : R < 16 := by omega
      have d1 : decide ((R : Int) < 0) = false := by simp
      have d2 : decide (15 < (R : Int)) = false := by simp; omega
      have CS := Lib.hid (fun W => rset_any c R hR a3 h0 h1 W)
      have HL6 := Lib.hid (show W5.heap[g1]? = some (.cells (cpuCells (ldC c R a3)) 25 (0, 0)) from HL5.out)
      clear CE CL HSl H3l x0 x1 HL5
      go_wp2_with fail
      refine wp_region_inv' 15 rfl (fun (L : Nat → Bool) (a : Act) (Wz : World) => ∃ x61 x62 x63 x64 x65 x66 x67 x68 x69 x70 x71 x72 x73 x74 x8 : Value, a = { tmps := #[Value.agg (cpuCells c), Value.int IntKind.i64 a1, Value.int IntKind.i64 ↑R, Value.int IntKind.u32 a3, Value.pointer (some { block := w.heap.size, off := 0 }), undef, undef, undef, x8, Value.pointer (some { block := g1, off := 0 }), Value.int IntKind.i64 0, Value.pointer (some { block := g2, off := 0 }), Value.pointer (some { block := g3, off := 0 }), Value.tuple #[Value.agg (cpuCells (ldC c R a3)), Value.int IntKind.i64 0], Value.agg (cpuCells c), Value.int IntKind.i64 ↑R, Value.int IntKind.u32 a3, Value.tuple #[Value.agg (cpuCells (ldC c R a3)), Value.int IntKind.i64 0], Value.agg (cpuCells (ldC c R a3)), Value.int IntKind.i64 0, Value.agg (cpuCells c), Value.int IntKind.u32 a3, Value.agg (cpuCells ca), Value.agg (cpuCells c), Value.int IntKind.i64 a1, Value.bool kb, Value.agg (cpuCells c), Value.int IntKind.i64 a1, Value.bool kb, Value.bool false, Value.bool false, Value.agg (cpuCells c), Value.int IntKind.u32 kf, Value.agg (cpuCells c), Value.int IntKind.u32 kf, Value.bool false, Value.bool false, Value.agg (cpuCells c), Value.int IntKind.u32 a3, Value.pointer (some { block := g3, off := 0 }), Value.pointer (some { block := g3, off := 0 }), Value.agg (cpuCells ca), Value.agg (cpuCells ca), Value.bool false, Value.int IntKind.i64 ↑R, Value.bool false, Value.bool false, Value.int IntKind.i64 ↑R, Value.bool false, Value.bool false, undef, undef, undef, undef, undef, undef, undef, undef, undef, undef, undef, x61, x62, x63, x64, x65, x66, x67, x68, x69, x70, x71, x72, x73, x74], defers := [] } ∧ Below W5.heap.size W5 Wz ∧ Up (L 0) x61 (.agg (cpuCells (ldC c R a3))) ∧ Up (L 1) x62 (.agg (cpuCells c)) ∧ Up (L 2) x63 (.int .i64 R) ∧ Up (L 3) x64 (.int .u32 a3) ∧ Up (L 4) x65 (.agg (cpuCells (ldC c R a3))) ∧ Up (L 5) x66 (.bool true) ∧ Up (L 6) x67 (.bool true) ∧ Up (L 7) x68 (.int .i64 0) ∧ Up (L 8) x69 (.int .i64 0) ∧ Up (L 9) x70 (.bool true) ∧ Up (L 10) x71 (.bool true) ∧ Up (L 11) x72 (.bool true) ∧ Up (L 12) x73 (.bool true) ∧ Up (L 13) x74 (.bool true) ∧ Up (L 14) x8 (.bool true)) (by kernel_rfl) (by kernel_rfl) ?_ ?_ ?_
      · exact ⟨undef, undef, undef, undef, undef, undef, undef, undef, undef, undef, undef, undef, undef, undef, Value.bool false, rfl, (Below.refl _ _).drew, Up.no (by decide), Up.no (by decide), Up.no (by decide), Up.no (by decide), Up.no (by decide), Up.no (by decide), Up.no (by decide), Up.no (by decide), Up.no (by decide), Up.no (by decide), Up.no (by decide), Up.no (by decide), Up.no (by decide), Up.no (by decide), Up.no (by decide)⟩
      · intro i hi L a Wz hL hc hd hI
        obtain ⟨x61, x62, x63, x64, x65, x66, x67, x68, x69, x70, x71, x72, x73, x74, x8, rfl, hBz, f0, f1, f2, f3, f4, f5, f6, f7, f8, f9, f10, f11, f12, f13, f14⟩ := hI
        have : i = 0 ∨ i = 1 ∨ i = 2 ∨ i = 3 ∨ i = 4 ∨ i = 5 ∨ i = 6 ∨ i = 7 ∨ i = 8 ∨ i = 9 ∨ i = 10 ∨ i = 11 ∨ i = 12 ∨ i = 13 ∨ i = 14 := by omega
        rcases this with rfl | rfl | rfl | rfl | rfl | rfl | rfl | rfl | rfl | rfl | rfl | rfl | rfl | rfl | rfl
        · refine wpOp_step rfl (fun K hK => ?_)
          rw [if_pos (by rfl)]
          refine wp_load_row 25 _ rfl _ rfl 25 (cpuCells (ldC c R a3)) (0, 0) _ ((hBz.block _ (lt_heap HL6.out)).trans HL6.out) Try.underlying25 rfl (cpu_size _) ?_
          refine hK _ _ ⟨_, _, _, _, _, _, _, _, _, _, _, _, _, _, _, rfl, hBz, fun _ => rfl, f1, f2, f3, f4, f5, f6, f7, f8, f9, f10, f11, f12, f13, f14⟩
        · refine wpOp_step rfl (fun K hK => ?_)
          rw [if_pos (by rfl)]
          refine wp_load_row 25 _ rfl _ rfl 25 (cpuCells c) (0, 0) _ ((hBz.block _ (lt_heap HC5.out)).trans HC5.out) Try.underlying25 rfl (cpu_size _) ?_
          refine hK _ _ ⟨_, _, _, _, _, _, _, _, _, _, _, _, _, _, _, rfl, hBz, f0, fun _ => rfl, f2, f3, f4, f5, f6, f7, f8, f9, f10, f11, f12, f13, f14⟩
        · refine wpOp_step rfl (fun K hK => ?_)
          go_simp
          refine hK _ _ ⟨_, _, _, _, _, _, _, _, _, _, _, _, _, _, _, rfl, hBz, f0, f1, fun _ => rfl, f3, f4, f5, f6, f7, f8, f9, f10, f11, f12, f13, f14⟩
        · refine wpOp_step rfl (fun K hK => ?_)
          go_simp
          refine hK _ _ ⟨_, _, _, _, _, _, _, _, _, _, _, _, _, _, _, rfl, hBz, f0, f1, f2, fun _ => rfl, f4, f5, f6, f7, f8, f9, f10, f11, f12, f13, f14⟩
        · obtain rfl : x62 = .agg (cpuCells c) := f1 (hd 1 (by kernel_rfl))
          obtain rfl : x63 = .int .i64 R := f2 (hd 2 (by kernel_rfl))
          obtain rfl : x64 = .int .u32 a3 := f3 (hd 3 (by kernel_rfl))
          refine wpOp_step rfl (fun K hK => ?_)
          go_simp
          refine (CS.out _).mono ?_
          rintro e Wy ⟨rfl, bb⟩
          refine hK _ _ ⟨_, _, _, _, _, _, _, _, _, _, _, _, _, _, _, rfl, (hBz.trans (bb.mono hBz.size)), f0, fun _ => rfl, fun _ => rfl, fun _ => rfl, fun _ => rfl, f5, f6, f7, f8, f9, f10, f11, f12, f13, f14⟩
        · obtain rfl : x61 = .agg (cpuCells (ldC c R a3)) := f0 (hd 0 (by kernel_rfl))
          obtain rfl : x65 = .agg (cpuCells (ldC c R a3)) := f4 (hd 4 (by kernel_rfl))
          refine wpOp_step rfl (fun K hK => ?_)
          rw [if_pos (by rfl)]
          refine wp_eq_cpu _ _ _ rfl (ldC c R a3) rfl rfl ?_
          refine hK _ _ ⟨_, _, _, _, _, _, _, _, _, _, _, _, _, _, _, rfl, hBz, fun _ => rfl, f1, f2, f3, fun _ => rfl, fun _ => rfl, f6, f7, f8, f9, f10, f11, f12, f13, f14⟩
        · obtain rfl : x66 = .bool true := f5 (hd 5 (by kernel_rfl))
          refine wpOp_step rfl (fun K hK => ?_)
          go_simp
          refine hK _ _ ⟨_, _, _, _, _, _, _, _, _, _, _, _, _, _, _, rfl, hBz, f0, f1, f2, f3, f4, fun _ => rfl, fun _ => rfl, f7, f8, f9, f10, f11, f12, f13, f14⟩
        · obtain rfl : x67 = .bool true := f6 (hd 6 (by kernel_rfl))
          refine wpOp_step rfl (fun K hK => ?_)
          go_simp
          refine hK _ _ ⟨_, _, _, _, _, _, _, _, _, _, _, _, _, _, _, rfl, hBz, f0, f1, f2, f3, f4, f5, fun _ => rfl, fun _ => rfl, f8, f9, f10, f11, f12, f13, f14⟩
        · obtain rfl : x67 = .bool true := f6 (hd 6 (by kernel_rfl))
          obtain rfl : x68 = .int .i64 0 := f7 (hd 7 (by kernel_rfl))
          refine wpOp_step rfl (fun K hK => ?_)
          go_simp
          refine (num4_any _ _).mono ?_
          rintro e Wy ⟨rfl, rfl⟩
          refine hK _ _ ⟨_, _, _, _, _, _, _, _, _, _, _, _, _, _, _, rfl, hBz, f0, f1, f2, f3, f4, f5, fun _ => rfl, fun _ => rfl, fun _ => rfl, f9, f10, f11, f12, f13, f14⟩
        · obtain rfl : x67 = .bool true := f6 (hd 6 (by kernel_rfl))
          obtain rfl : x69 = .int .i64 0 := f8 (hd 8 (by kernel_rfl))
          refine wpOp_step rfl (fun K hK => ?_)
          go_simp
          refine hK _ _ ⟨_, _, _, _, _, _, _, _, _, _, _, _, _, _, _, rfl, hBz, f0, f1, f2, f3, f4, f5, fun _ => rfl, f7, fun _ => rfl, fun _ => rfl, f10, f11, f12, f13, f14⟩
        · obtain rfl : x67 = .bool true := f6 (hd 6 (by kernel_rfl))
          obtain rfl : x70 = .bool true := f9 (hd 9 (by kernel_rfl))
          refine wpOp_step rfl (fun K hK => ?_)
          go_simp
          refine hK _ _ ⟨_, _, _, _, _, _, _, _, _, _, _, _, _, _, _, rfl, hBz, f0, f1, f2, f3, f4, f5, fun _ => rfl, f7, f8, fun _ => rfl, fun _ => rfl, f11, f12, f13, f14⟩
        · obtain rfl : x71 = .bool true := f10 (hd 10 (by kernel_rfl))
          refine wpOp_step rfl (fun K hK => ?_)
          go_simp
          refine hK _ _ ⟨_, _, _, _, _, _, _, _, _, _, _, _, _, _, _, rfl, hBz, f0, f1, f2, f3, f4, f5, f6, f7, f8, f9, fun _ => rfl, fun _ => rfl, f12, f13, f14⟩
        · obtain rfl : x72 = .bool true := f11 (hd 11 (by kernel_rfl))
          refine wpOp_step rfl (fun K hK => ?_)
          go_simp
          refine (known4_any _).mono ?_
          rintro e Wy ⟨rfl, bb⟩
          refine hK _ _ ⟨_, _, _, _, _, _, _, _, _, _, _, _, _, _, _, rfl, (hBz.trans (bb.mono hBz.size)), f0, f1, f2, f3, f4, f5, f6, f7, f8, f9, f10, fun _ => rfl, fun _ => rfl, f13, f14⟩
        · obtain rfl : x72 = .bool true := f11 (hd 11 (by kernel_rfl))
          obtain rfl : x73 = .bool true := f12 (hd 12 (by kernel_rfl))
          refine wpOp_step rfl (fun K hK => ?_)
          go_simp
          refine hK _ _ ⟨_, _, _, _, _, _, _, _, _, _, _, _, _, _, _, rfl, hBz, f0, f1, f2, f3, f4, f5, f6, f7, f8, f9, f10, fun _ => rfl, fun _ => rfl, fun _ => rfl, f14⟩
        · obtain rfl : x74 = .bool true := f13 (hd 13 (by kernel_rfl))
          refine wpOp_step rfl (fun K hK => ?_)
          go_simp
          refine hK _ _ ⟨_, _, _, _, _, _, _, _, _, _, _, _, _, _, _, rfl, hBz, f0, f1, f2, f3, f4, f5, f6, f7, f8, f9, f10, f11, f12, fun _ => rfl, fun _ => rfl⟩
      · intro L a W6 hup hI
        obtain ⟨x61, x62, x63, x64, x65, x66, x67, x68, x69, x70, x71, x72, x73, x74, x8, rfl, hBz, f0, f1, f2, f3, f4, f5, f6, f7, f8, f9, f10, f11, f12, f13, f14⟩ := hI
        obtain rfl : x61 = .agg (cpuCells (ldC c R a3)) := f0 (hup 0 (by omega))
        obtain rfl : x62 = .agg (cpuCells c) := f1 (hup 1 (by omega))
        obtain rfl : x63 = .int .i64 R := f2 (hup 2 (by omega))
        obtain rfl : x64 = .int .u32 a3 := f3 (hup 3 (by omega))
        obtain rfl : x65 = .agg (cpuCells (ldC c R a3)) := f4 (hup 4 (by omega))
        obtain rfl : x66 = .bool true := f5 (hup 5 (by omega))
        obtain rfl : x67 = .bool true := f6 (hup 6 (by omega))
        obtain rfl : x68 = .int .i64 0 := f7 (hup 7 (by omega))
        obtain rfl : x69 = .int .i64 0 := f8 (hup 8 (by omega))
        obtain rfl : x70 = .bool true := f9 (hup 9 (by omega))
        obtain rfl : x71 = .bool true := f10 (hup 10 (by omega))
        obtain rfl : x72 = .bool true := f11 (hup 11 (by omega))
        obtain rfl : x73 = .bool true := f12 (hup 12 (by omega))
        obtain rfl : x74 = .bool true := f13 (hup 13 (by omega))
        obtain rfl : x8 = .bool true := f14 (hup 14 (by omega))
        have B7 := hBz
        clear hBz hup L f0 f1 f2 f3 f4 f5 f6 f7 f8 f9 f10 f11 f12 f13 f14
        go_wp2_with fail
        go_ret
        exact ⟨rfl, B6.trans (B7.mono B6.size)⟩
    · obtain ⟨rfl, rfl⟩ := CE.out.2 hin
      by_cases x0 : 0 ≤ a2
      · have d1 : decide (a2 < 0) = false := by simp; omega
        have d2 : decide (15 < a2) = true := by simp; omega
        go_wp2_with (first | (with_reducible refine wpList_load_row rfl 25 _ rfl g1 rfl 25 (cpuCells cpu0) (0, 0) _ HL5.out Try.underlying25 rfl HSl.out ?_) | (with_reducible refine wpList_eq_cpu rfl _ _ _ rfl cpu0 rfl rfl ?_) | (go_at_call 19; refine (num4_any _ _).mono ?_; rintro e w' ⟨rfl, rfl⟩) | (go_at_call 12; refine (known4_any _).mono ?_; rintro e w' ⟨rfl, bk⟩))
        go_ret
        exact ⟨rfl, B6.trans (bk.mono B6.size)⟩
      · have d1 : decide (a2 < 0) = true := by simp; omega
        go_wp2_with (first | (with_reducible refine wpList_load_row rfl 25 _ rfl g1 rfl 25 (cpuCells cpu0) (0, 0) _ HL5.out Try.underlying25 rfl HSl.out ?_) | (with_reducible refine wpList_eq_cpu rfl _ _ _ rfl cpu0 rfl rfl ?_) | (go_at_call 19; refine (num4_any _ _).mono ?_; rintro e w' ⟨rfl, rfl⟩) | (go_at_call 12; refine (known4_any _).mono ?_; rintro e w' ⟨rfl, bk⟩))
        go_ret
        exact ⟨rfl, B6.trans (bk.mono B6.size)⟩
theorem own : ownKnob Try.prog.godebug = none := by kernel_rfl
theorem laidOut : laidOutB Try.prog = true := by kernel_rfl
theorem contract (H : Type) (enc : TypeId × Value → H) (W : World) (base : Nat) (args : Array Value) (ds gs : List (DataW H)) (before : List MemPlace)
    (hval : ∀ (j : Nat) t v, Try.f4.params[j]? = some t → args[j]? = some v → Value.okWide Try.prog W .any base t v)
    (hW : DataW.Whole enc Try.prog Try.f4.params.toList Rows.riscLooksSpec.vars false W args.toList ds gs before) :
    Calls Try.prog 4 args W fun e W' => ∃ v, e = .returned v ∧ Rows.riscLooksSpec.post enc Try.prog Try.f4 false true false false W args v W' := by
  have hW' := hW
  obtain ⟨p, q, hA0, hV, rfl, hfz, hnd⟩ := hW
  have hA : DataW.TrodAll enc Try.prog W 0 (fun _ => true) true Try.f4.params.toList args.toList ds p := hA0
  rw [Try.params4] at hA hval
  obtain ⟨v0, vs0, d0, ds0, p0, q0, hargs, rfl, rfl, h0, r0⟩ := trodAll_cons hA
  obtain ⟨v1, vs1, d1, ds1, p1, q1, rfl, rfl, rfl, h1, r1⟩ := trodAll_cons r0
  obtain ⟨v2, vs2, d2, ds2, p2, q2, rfl, rfl, rfl, h2, r2⟩ := trodAll_cons r1
  obtain ⟨v3, vs3, d3, ds3, p3, q3, rfl, rfl, rfl, h3, r3⟩ := trodAll_cons r2
  obtain ⟨rfl, rfl, rfl⟩ := trodAll_nil r3
  obtain rfl : args = #[v0, v1, v2, v3] := by cases args; simp_all
  obtain ⟨rfl, rfl⟩ := trodVars_none hV
  obtain ⟨a0, rfl, w0⟩ := open_cpu (hval 0 25 v0 rfl rfl)
  have k0 := h0
  have lt0 : ∀ x ∈ p0, x.block < W.heap.size := by obtain ⟨m, hm⟩ := k0; exact DataW.trod_lt m _ _ _ hm
  obtain ⟨a1, rfl, rfl, rfl, w1⟩ := open_int Try.underlying3 (hval 1 3 v1 rfl rfl) h1
  obtain ⟨a2, rfl, rfl, rfl, w2⟩ := open_int Try.underlying3 (hval 2 3 v2 rfl rfl) h2
  obtain ⟨a3, rfl, rfl, rfl, w3⟩ := open_int Try.underlying22 (hval 3 22 v3 rfl rfl) h3
  clear hA0
  refine (walk a0 a1 a2 a3 W w0 w1 w2 w3).mono fun e W' ⟨he, bel⟩ => ?_
  subst he
  exact ⟨_, rfl, _, _, _, [], _, [], hW', trodAll_mk1 (shut_bool Try.underlying4 _), (trodAll_cons_mk (Below.trod laidOut (by kernel_rfl) (of_decide_eq_true (by kernel_rfl)) k0 bel lt0) (trodAll_cons_mk (shut_int Try.underlying3 w1) (trodAll_cons_mk (shut_int Try.underlying3 w2) (trodAll_cons_mk (shut_int Try.underlying22 w3) trodAll_mk0)))), rfl, bel.frame _, fun h => by cases h⟩
set_option maxRecDepth 100000 in
theorem lifted (os : Os) (started : os.Started) (H : Type) (enc : TypeId × Value → H) :
    ReturnsInHanded {} Try.checked os 4 .any (Rows.riscLooksSpec.pre6 enc Try.prog Try.f4 Rows.riscLooksRow.domain false) (Rows.riscLooksSpec.post enc Try.prog Try.f4 false true false false) := by
  refine returnsInHanded_of_change (C := Try.checked) own started (by kernel_rfl) Try.func4
    (ChangeSpec.witness6 (enc := enc) (C := Try.checked) false ⟨#[], #[.agg #[.int .u32 0, .int .u32 0, .int .u32 0, .int .u32 0, .int .u32 0, .int .u32 0, .int .u32 0, .int .u32 0, .int .u32 0, .int .u32 0, .int .u32 0, .int .u32 0, .int .u32 0, .int .u32 0, .int .u32 0, .int .u32 0, .int .u32 0, .bool false, .bool false, .bool false, .bool false, .int .u32 0], .int .i64 0, .int .i64 0, .int .u32 0], []⟩ 8 (by kernel_rfl) (by kernel_rfl) (by kernel_rfl) (by kernel_rfl)) ?_
  intro W base args ds gs before hval hW hcnd _
  exact contract H enc W base args ds gs before hval hW
theorem said : Rows.RiscLooksSaid :=
  OpenClaim.holds_of_wide 4 Try.f4 rfl rfl rfl rfl rfl rfl rfl ⟨rfl, rfl, rfl, rfl, rfl⟩ rfl rfl rfl rfl rfl (by kernel_rfl) Try.func4 (by kernel_rfl)
    (of_decide_eq_true (by kernel_rfl)) (by unfold Func.isWrapper; first | (rw [if_pos (by decide +kernel)]; kernel_rfl) | (rw [if_neg (by decide +kernel)]; exact ⟨rfl, rfl⟩))
    (fun os started H enc _ => lifted os started H enc)
theorem proved : Rows.RiscLooksSaid := said
end Go.Proofs.Ytgjecfchnokcfaa.riscLooks

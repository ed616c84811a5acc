/-
  RiscNumbers: for every processor, every word and every register: MOV'' of the word's upper half and IOR of its lower one bring it into the register; a number from -65536 to 65535 comes by MOV alone. No condition.
-/
import Derived.Test.YtgjecfchnokcfaaRiscOps
import Derived.Test.YtgjecfchnokcfaaWordR
import Derived.Test.YtgjecfchnokcfaaOpenS
import Derived.Deep.DeepHandedRow
import Derived.Carry
import Derived.Deep.Cut
namespace Go.Proofs.Ytgjecfchnokcfaa.riscNumbers
open Go.ChangeShapes Go.WideShapes Go.ChangeAt Go.RowKit
open Go.ChangeMaps (open_string shut_string)
set_option linter.unusedVariables false
theorem or_halves (a b : Int) (a0 : 0 ≤ a) (a1 : a ≤ 65535) (b0 : 0 ≤ b) (b1 : b ≤ 65535) : bits BinOp.or IntKind.u32 (a * 65536) b = a * 65536 + b := by
  obtain ⟨n, rfl⟩ := Int.eq_ofNat_of_zero_le a0
  obtain ⟨m, rfl⟩ := Int.eq_ofNat_of_zero_le b0
  rw [show ((n : Int) * 65536) = ((n * 65536 : Nat) : Int) by omega, u32_or_nat (n * 65536) m (by omega) (by omega)]
  have h2 : m < 2 ^ 16 := by omega
  have := Nat.shiftLeft_add_eq_or_of_lt h2 n
  rw [Nat.shiftLeft_eq] at this
  have e : n * 65536 ||| m = n * 65536 + m := this.symm
  rw [e]; omega
def n1 (c : Cpu) (R : Nat) (a : Int) : Cpu := ldC (nextC c) R (a / 65536 * 65536)
def n2 (c : Cpu) (R : Nat) (a : Int) : Cpu := ldC (nextC (n1 c R a)) R a
def n3 (c : Cpu) (R : Nat) (a : Int) : Cpu := ldC (nextC c) R a
theorem n1_bd (c : Cpu) (R : Nat) (a : Int) (hr : ∀ k, 0 ≤ c.r k ∧ c.r k ≤ 4294967295) (h0 : 0 ≤ a) (h1 : a ≤ 4294967295) (k : Nat) : 0 ≤ (n1 c R a).r k ∧ (n1 c R a).r k ≤ 4294967295 :=
  upd_bd c.r R _ hr (by omega) (by omega) k
theorem d1 (c : Cpu) (R : Nat) (a : Int) (hr : ∀ k, 0 ≤ c.r k ∧ c.r k ≤ 4294967295) (hR : R < 16) (h0 : 0 ≤ a) (h1 : a ≤ 4294967295) : Does ⟨1, true, false, R, (0 : Nat), 0, 0, a / 65536, 0, 0, 0⟩ c (n1 c R a) :=
  does_im c _ true false R 0 0 (a / 65536) hr hR (by omega) (by omega) (by omega) (by omega) (by omega) (by simp [mayOpB]) (by simp [oprC, valI, n1])
theorem d2 (c : Cpu) (R : Nat) (a : Int) (hr : ∀ k, 0 ≤ c.r k ∧ c.r k ≤ 4294967295) (hR : R < 16) (h0 : 0 ≤ a) (h1 : a ≤ 4294967295) : Does ⟨1, false, false, R, R, 0, 6, a % 65536, 0, 0, 0⟩ (n1 c R a) (n2 c R a) :=
  does_im _ _ false false R R 6 (a % 65536) (n1_bd c R a hr h0 h1) hR hR (by omega) (by omega) (by omega) (by omega) (by simp [mayOpB]) (by
    have e : (nextC (n1 c R a)).r R = a / 65536 * 65536 := upd_same _ _ _
    have e2 := or_halves (a / 65536) (a % 65536) (by omega) (by omega) (by omega) (by omega)
    simp [oprC, valI, e, e2, n2]
    congr 1; omega)
theorem d3 (c : Cpu) (R : Nat) (a : Int) (bn : Bool) (hr : ∀ k, 0 ≤ c.r k ∧ c.r k ≤ 4294967295) (hR : R < 16) (h0 : 0 ≤ a) (h1 : a ≤ 4294967295) (hb : bn = decide (2147483648 ≤ a)) (g0 : -65536 ≤ wrap32 a) (g1 : wrap32 a ≤ 65535) :
    Does ⟨1, false, bn, R, (0 : Nat), 0, 0, a % 65536, 0, 0, 0⟩ c (n3 c R a) :=
  does_im _ _ false bn R 0 0 (a % 65536) hr hR (by omega) (by omega) (by omega) (by omega) (by omega) (by simp [mayOpB]) (by
    have e : valI false bn 0 (a % 65536) = a := by
      subst hb
      unfold valI
      by_cases h : 2147483648 ≤ a
      · have := wrap32_hi a h h1
        simp [h]; omega
      · have := wrap32_lo a h0 (by omega)
        simp [h]; omega
    simp [oprC, e, n3])
theorem sgn (a : Int) (h0 : 0 ≤ a) (h1 : a ≤ 4294967295) : decide (wrap32 a < 0) = decide (2147483648 ≤ a) := by
  by_cases h : 2147483648 ≤ a
  · have := wrap32_hi a h h1
    rw [decide_eq_true h, decide_eq_true (by omega)]
  · have := wrap32_lo a h0 (by omega)
    rw [decide_eq_false h, decide_eq_false (by omega)]
theorem sgz (a : Int) (h0 : 0 ≤ a) (h1 : a ≤ 4294967295) : (wrap32 a == 0) = decide (a = 0) := by
  show decide (wrap32 a = 0) = decide (a = 0)
  by_cases h : 2147483648 ≤ a
  · have := wrap32_hi a h h1
    rw [decide_eq_false (by omega), decide_eq_false (by omega)]
  · have := wrap32_lo a h0 (by omega)
    rw [this]
set_option maxHeartbeats 4000000 in
theorem walk (c : Cpu) (a1 a2 : Int) (w : World) (wf : CpuWf c) (w1 : (Lit.int .u32 a1).wf = true) (w2 : (Lit.int .i64 a2).wf = true) :
    Calls Try.prog 9 #[.agg (cpuCells c), .int .u32 a1, .int .i64 a2] w fun e w' => e = .returned (.bool true) ∧ Below w.heap.size w w' := by
  have hr := wf.r
  obtain ⟨h0, h1⟩ := bd_u32 w1
  clear wf w1 w2
  by_cases h : 0 ≤ a2 ∧ a2 ≤ 15
  · obtain ⟨x0, x1⟩ := h
    obtain ⟨R, rfl⟩ := Int.eq_ofNat_of_zero_le x0
    have hR : R < 16 := by omega
    have hR1 : (R : Int) < 16 := by omega
    obtain ⟨bn, hbn⟩ : ∃ bn, decide (2147483648 ≤ a1) = bn := ⟨_, rfl⟩
    obtain ⟨bz, hbz⟩ : ∃ bz, decide (a1 = 0) = bz := ⟨_, rfl⟩
    have EN := Lib.hid ((sgn a1 h0 h1).trans hbn)
    have EZ := Lib.hid ((sgz a1 h0 h1).trans hbz)
    have EW := Lib.hid (show (a1 == 0) = bz from hbz)
    obtain ⟨c2, hc2⟩ : ∃ c2, n2 c R a1 = c2 := ⟨_, rfl⟩
    have D1 := Lib.hid (d1 c R a1 hr hR h0 h1)
    have D2 := Lib.hid (d2 c R a1 hr hR h0 h1)
    rw [hc2] at D2
    have e1 : c2.r R = a1 := by rw [← hc2]; exact upd_same _ _ _
    have e2 : c2.n = bn := by rw [← hc2]; exact hbn
    have e3 : c2.z = bz := by rw [← hc2]; exact hbz
    have KR := Lib.hid (fun (W : World) b (hW : W.heap[b]? = some (.cells (cpuCells c2) 25 (0, 0))) => show W.cell? ⟨b, R, none⟩ = some (.int .u32 a1) by rw [← e1]; exact (cell_at hW R).trans (reg_cell c2 R hR))
    have KN := Lib.hid (fun (W : World) b (hW : W.heap[b]? = some (.cells (cpuCells c2) 25 (0, 0))) => show W.cell? ⟨b, 17, none⟩ = some (.bool bn) by rw [← e2]; exact cell_at hW 17)
    have KZ := Lib.hid (fun (W : World) b (hW : W.heap[b]? = some (.cells (cpuCells c2) 25 (0, 0))) => show W.cell? ⟨b, 18, none⟩ = some (.bool bz) by rw [← e3]; exact cell_at hW 18)
    have D3 := Lib.hid (fun g0 g1 => d3 c R a1 bn hr hR h0 h1 hbn.symm g0 g1)
    have HN3 := Lib.hid (show (n3 c R a1).r R = a1 ∧ (n3 c R a1).n = bn ∧ (n3 c R a1).z = bz from ⟨upd_same _ _ _, hbn, hbz⟩)
    have hwb := wrap32_bd a1
    clear e1 e2 e3 hc2 hbn hbz hr
    have g1 : decide ((R : Int) < 0) = false := by simp
    have g2 : decide (15 < (R : Int)) = false := by simp; omega
    go_enter Try.func9, Try.ntmps9
    go_upto_region 3 with (fail)
    have HC := Lib.hid (show (w.alloc (.cells (cpuCells c) 25)).heap[w.heap.size]? = some (.cells (cpuCells c) 25 (0, 0)) from heap_alloc_new _ _)
    have BW := below1 w (.cells (cpuCells c) 25)
    generalize w.alloc (.cells (cpuCells c) 25) = W0 at HC BW ⊢
    have HS := Lib.hid (cpu_size c)
    have HS2 := Lib.hid (cpu_size c2)
    have H32 := Lib.hid (cpu_one c2)
    go_upto_region 4 with (first | (with_reducible refine wpList_load_row rfl 25 _ rfl w.heap.size rfl 25 (cpuCells c) (0, 0) _ HC.out Try.underlying25 rfl HS.out ?_) | (go_at_call 25; refine (ops_2 c (n1 c R a1) c2 _ _ _ _ (heap_alloc_new _ _) D1.out D2.out).mono ?_; rintro e w2 ⟨rfl, b2⟩) | (with_reducible refine wpList_store_row rfl 25 _ _ rfl _ (cpuCells c2) rfl rfl 25 _ (heap_alloc_new _ _) HS2.out rfl H32.out ?_; rw [World.setRow_alloc_new]))
    have B0 : Below W0.heap.size W0 w2 := (below1 W0 _).trans (b2.mono (by simp))
    have HC2 := (B0.block _ (lt_heap HC.out)).trans HC.out
    have HC3 := Lib.hid (show (w2.alloc (.cells (cpuCells c2) 25)).heap[w.heap.size]? = some (.cells (cpuCells c) 25 (0, 0)) from ((below1 w2 _).block _ (lt_heap HC2)).trans HC2)
    have HX := Lib.hid (show (w2.alloc (.cells (cpuCells c2) 25)).heap[w2.heap.size]? = some (.cells (cpuCells c2) 25 (0, 0)) from heap_alloc_new _ _)
    have B3 : Below w.heap.size w (w2.alloc (.cells (cpuCells c2) 25)) := (BW.trans (B0.mono BW.size)).trans ((below1 w2 _).mono (Nat.le_trans BW.size B0.size))
    obtain ⟨b7, hb7⟩ : ∃ b7, w2.heap.size = b7 := ⟨_, rfl⟩
    rw [hb7] at HX ⊢
    clear hb7
    generalize w2.alloc (.cells (cpuCells c2) 25) = W3 at HC3 HX B3 ⊢
    clear B0 HC2 b2 BW HC D1 D2 HS2 H32
    have kr := KR.out W3 b7 HX.out
    have kn := KN.out W3 b7 HX.out
    have kz := KZ.out W3 b7 HX.out
    have en := EN.out
    have ez := EZ.out
    have ew := EW.out
    clear KR KN KZ
    by_cases s1 : wrap32 a1 < -65536
    · have t1 : decide (wrap32 a1 < -65536) = true := by simp; omega
      go_wp2_with (first | (go_at_call 24; refine (signed_any _ (by omega) (by omega) _).mono ?_; rintro e w' ⟨rfl, rfl⟩) | (go_at_call 12; refine (known4_any _).mono ?_; rintro e w' ⟨rfl, bk⟩))
      go_ret
      exact ⟨rfl, B3.trans (bk.mono B3.size)⟩
    · have t1 : decide (wrap32 a1 < -65536) = false := by simp; omega
      by_cases s2 : 65535 < wrap32 a1
      · have t2 : decide (65535 < wrap32 a1) = true := by simp; omega
        go_wp2_with (first | (go_at_call 24; refine (signed_any _ (by omega) (by omega) _).mono ?_; rintro e w' ⟨rfl, rfl⟩) | (go_at_call 12; refine (known4_any _).mono ?_; rintro e w' ⟨rfl, bk⟩))
        go_ret
        exact ⟨rfl, B3.trans (bk.mono B3.size)⟩
      · have t2 : decide (65535 < wrap32 a1) = false := by simp; omega
        have D := Lib.hid (D3.out (by omega) (by omega))
        obtain ⟨f1, f2, f3⟩ := HN3.out
        obtain ⟨c3, hc3⟩ : ∃ c3, n3 c R a1 = c3 := ⟨_, rfl⟩
        rw [hc3] at D f1 f2 f3
        have F1 := Lib.hid f1
        have F2 := Lib.hid f2
        have F3 := Lib.hid f3
        have HS3 := Lib.hid (cpu_size c3)
        have H33 := Lib.hid (cpu_one c3)
        clear f1 f2 f3 hc3 HN3 D3
        go_upto_region 10 with (first | (go_at_call 24; refine (signed_any _ (by omega) (by omega) _).mono ?_; rintro e w' ⟨rfl, rfl⟩) | (with_reducible refine wpList_load_row rfl 25 _ rfl w.heap.size rfl 25 (cpuCells c) (0, 0) _ HC3.out Try.underlying25 rfl HS.out ?_) | (go_at_call 25; refine (ops_1 c c3 _ _ _ (heap_alloc_new _ _) D.out).mono ?_; rintro e w4 ⟨rfl, b4⟩) | (with_reducible refine wpList_store_row rfl 25 _ _ rfl _ (cpuCells c3) rfl rfl 25 _ (heap_alloc_new _ _) HS3.out rfl H33.out ?_; rw [World.setRow_alloc_new]))
        have HY := Lib.hid (show (w4.alloc (.cells (cpuCells c3) 25)).heap[w4.heap.size]? = some (.cells (cpuCells c3) 25 (0, 0)) from heap_alloc_new _ _)
        have B4 : Below W3.heap.size W3 w4 := (below1 W3 _).trans (b4.mono (by simp))
        have B5 : Below w.heap.size w (w4.alloc (.cells (cpuCells c3) 25)) := (B3.trans (B4.mono B3.size)).trans ((below1 w4 _).mono (Nat.le_trans B3.size B4.size))
        obtain ⟨b8, hb8⟩ : ∃ b8, w4.heap.size = b8 := ⟨_, rfl⟩
        rw [hb8] at HY ⊢
        clear hb8
        generalize w4.alloc (.cells (cpuCells c3) 25) = W5 at HY B5 ⊢
        have kr : W5.cell? ⟨b8, R, none⟩ = some (.int .u32 a1) := by rw [← F1.out]; exact (cell_at HY.out R).trans (reg_cell c3 R hR)
        have kn : W5.cell? ⟨b8, 17, none⟩ = some (.bool bn) := by rw [← F2.out]; exact cell_at HY.out 17
        have kz : W5.cell? ⟨b8, 18, none⟩ = some (.bool bz) := by rw [← F3.out]; exact cell_at HY.out 18
        clear b4 B4 HC3 HX F1 F2 F3
        go_wp2_with (first | (go_at_call 12; refine (known4_any _).mono ?_; rintro e w' ⟨rfl, bk⟩))
        go_ret
        exact ⟨rfl, B5.trans (bk.mono B5.size)⟩
  · go_enter Try.func9, Try.ntmps9
    have BW := below1 w (.cells (cpuCells c) 25)
    by_cases h1 : 0 ≤ a2
    · by_cases h2 : a2 ≤ 15
      · exact absurd ⟨h1, h2⟩ h
      all_goals
        go_wp2_with (go_at_call 12; refine (known4_any _).mono ?_; rintro e w' ⟨rfl, bk⟩)
        go_ret
        exact ⟨rfl, BW.trans (bk.mono BW.size)⟩
    all_goals
      go_wp2_with (go_at_call 12; refine (known4_any _).mono ?_; rintro e w' ⟨rfl, bk⟩)
      go_ret
      exact ⟨rfl, BW.trans (bk.mono BW.size)⟩
theorem own : ownKnob Try.prog.godebug = none := by kernel_rfl
theorem laidOut : laidOutB Try.prog = true := by kernel_rfl
theorem contract (H : Type) (enc : TypeId × Value → H) (W : World) (base : Nat) (args : Array Value) (ds gs : List (DataW H)) (before : List MemPlace)
    (hval : ∀ (j : Nat) t v, Try.f9.params[j]? = some t → args[j]? = some v → Value.okWide Try.prog W .any base t v)
    (hW : DataW.Whole enc Try.prog Try.f9.params.toList Rows.riscNumbersSpec.vars false W args.toList ds gs before) :
    Calls Try.prog 9 args W fun e W' => ∃ v, e = .returned v ∧ Rows.riscNumbersSpec.post enc Try.prog Try.f9 false true false false W args v W' := by
  have hW' := hW
  obtain ⟨p, q, hA0, hV, rfl, hfz, hnd⟩ := hW
  have hA : DataW.TrodAll enc Try.prog W 0 (fun _ => true) true Try.f9.params.toList args.toList ds p := hA0
  rw [Try.params9] at hA hval
  obtain ⟨v0, vs0, d0, ds0, p0, q0, hargs, rfl, rfl, h0, r0⟩ := trodAll_cons hA
  obtain ⟨v1, vs1, d1, ds1, p1, q1, rfl, rfl, rfl, h1, r1⟩ := trodAll_cons r0
  obtain ⟨v2, vs2, d2, ds2, p2, q2, rfl, rfl, rfl, h2, r2⟩ := trodAll_cons r1
  obtain ⟨rfl, rfl, rfl⟩ := trodAll_nil r2
  obtain rfl : args = #[v0, v1, v2] := by cases args; simp_all
  obtain ⟨rfl, rfl⟩ := trodVars_none hV
  obtain ⟨a0, rfl, w0⟩ := open_cpu (hval 0 25 v0 rfl rfl)
  have k0 := h0
  have lt0 : ∀ x ∈ p0, x.block < W.heap.size := by obtain ⟨m, hm⟩ := k0; exact DataW.trod_lt m _ _ _ hm
  obtain ⟨a1, rfl, rfl, rfl, w1⟩ := open_int Try.underlying22 (hval 1 22 v1 rfl rfl) h1
  obtain ⟨a2, rfl, rfl, rfl, w2⟩ := open_int Try.underlying3 (hval 2 3 v2 rfl rfl) h2
  clear hA0
  refine (walk a0 a1 a2 W w0 w1 w2).mono fun e W' ⟨he, bel⟩ => ?_
  subst he
  exact ⟨_, rfl, _, _, _, [], _, [], hW', trodAll_mk1 (shut_bool Try.underlying4 _), (trodAll_cons_mk (Below.trod laidOut (by kernel_rfl) (of_decide_eq_true (by kernel_rfl)) k0 bel lt0) (trodAll_cons_mk (shut_int Try.underlying22 w1) (trodAll_cons_mk (shut_int Try.underlying3 w2) trodAll_mk0))), rfl, bel.frame _, fun h => by cases h⟩
set_option maxRecDepth 100000 in
theorem lifted (os : Os) (started : os.Started) (H : Type) (enc : TypeId × Value → H) :
    ReturnsInHanded {} Try.checked os 9 .any (Rows.riscNumbersSpec.pre6 enc Try.prog Try.f9 Rows.riscNumbersRow.domain false) (Rows.riscNumbersSpec.post enc Try.prog Try.f9 false true false false) := by
  refine returnsInHanded_of_change (C := Try.checked) own started (by kernel_rfl) Try.func9
    (ChangeSpec.witness6 (enc := enc) (C := Try.checked) false ⟨#[], #[.agg #[.int .u32 0, .int .u32 0, .int .u32 0, .int .u32 0, .int .u32 0, .int .u32 0, .int .u32 0, .int .u32 0, .int .u32 0, .int .u32 0, .int .u32 0, .int .u32 0, .int .u32 0, .int .u32 0, .int .u32 0, .int .u32 0, .int .u32 0, .bool false, .bool false, .bool false, .bool false, .int .u32 0], .int .u32 0, .int .i64 0], []⟩ 8 (by kernel_rfl) (by kernel_rfl) (by kernel_rfl) (by kernel_rfl)) ?_
  intro W base args ds gs before hval hW hcnd _
  exact contract H enc W base args ds gs before hval hW
theorem said : Rows.RiscNumbersSaid :=
  OpenClaim.holds_of_wide 9 Try.f9 rfl rfl rfl rfl rfl rfl rfl ⟨rfl, rfl, rfl, rfl, rfl⟩ rfl rfl rfl rfl rfl (by kernel_rfl) Try.func9 (by kernel_rfl)
    (of_decide_eq_true (by kernel_rfl)) (by unfold Func.isWrapper; first | (rw [if_pos (by decide +kernel)]; kernel_rfl) | (rw [if_neg (by decide +kernel)]; exact ⟨rfl, rfl⟩))
    (fun os started H enc _ => lifted os started H enc)
theorem proved : Rows.RiscNumbersSaid := said
end Go.Proofs.Ytgjecfchnokcfaa.riscNumbers

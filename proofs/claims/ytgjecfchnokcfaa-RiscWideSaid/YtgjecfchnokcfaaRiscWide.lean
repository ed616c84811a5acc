/-
  RiscWide: for every processor and every two numbers of 64 bits: ADD and ADD', SUB and SUB', MUL' and its H make sums, differences and products of two registers each; behind DIV H is the rest. No condition.
-/
import Derived.Test.YtgjecfchnokcfaaRiscOps
import Derived.Test.YtgjecfchnokcfaaWordR
import Derived.Test.YtgjecfchnokcfaaOpenS
import Derived.Deep.DeepHandedRow
import Derived.Carry
import Derived.Deep.Cut
namespace Go.Proofs.Ytgjecfchnokcfaa.riscWide
open Go.ChangeShapes Go.WideShapes Go.ChangeAt Go.RowKit
open Go.ChangeMaps (open_string shut_string)
set_option linter.unusedVariables false
/-- the registers laid -/
def setC (c : Cpu) (x0 x1 y0 y1 : Int) : Cpu := { c with r := upd (upd (upd (upd c.r 0 x0) 1 x1) 2 y0) 3 y1 }
def addC (c : Cpu) (u : Bool) (A B D : Nat) : Cpu := ldC { nextC c with c := decide (4294967296 ≤ c.r B + c.r D + bit (u && c.c)), v := out32 (wrap32 (c.r B) + wrap32 (c.r D) + bit (u && c.c)) } A (w32 (c.r B + c.r D + bit (u && c.c)))
def subC (c : Cpu) (u : Bool) (A B D : Nat) : Cpu := ldC { nextC c with c := decide (c.r B - c.r D - bit (u && c.c) < 0), v := out32 (wrap32 (c.r B) - wrap32 (c.r D) - bit (u && c.c)) } A (w32 (c.r B - c.r D - bit (u && c.c)))
def mulC (c : Cpu) (A B D : Nat) : Cpu := ldC { nextC c with h := c.r B * c.r D / 4294967296 } A (w32 (c.r B * c.r D))
def movH (c : Cpu) (A : Nat) : Cpu := ldC (nextC c) A c.h
def divC (c : Cpu) (A B D : Nat) : Cpu := ldC { nextC c with h := wrap32 (c.r B) % wrap32 (c.r D) } A (w32 (wrap32 (c.r B) / wrap32 (c.r D)))
/-- what registers hold -/
structure Fine (c : Cpu) : Prop where
  r : ∀ k, 0 ≤ c.r k ∧ c.r k ≤ 4294967295
  h : 0 ≤ c.h ∧ c.h ≤ 4294967295
theorem Fine.ld {c : Cpu} (d : Cpu) (h : Fine c) (hd : d.r = c.r) (hh : 0 ≤ d.h ∧ d.h ≤ 4294967295) (A : Nat) (x : Int) (x0 : 0 ≤ x) (x1 : x ≤ 4294967295) : Fine (ldC d A x) :=
  ⟨fun k => by show 0 ≤ upd d.r A x k ∧ upd d.r A x k ≤ 4294967295; rw [hd]; exact upd_bd c.r A x h.r x0 x1 k, hh⟩
theorem Fine.add {c : Cpu} (h : Fine c) (u : Bool) (A B D : Nat) : Fine (addC c u A B D) := Fine.ld { nextC c with c := decide (4294967296 ≤ c.r B + c.r D + bit (u && c.c)), v := out32 (wrap32 (c.r B) + wrap32 (c.r D) + bit (u && c.c)) } h rfl h.h A _ (w32_bd _).1 (w32_bd _).2
theorem Fine.sub {c : Cpu} (h : Fine c) (u : Bool) (A B D : Nat) : Fine (subC c u A B D) := Fine.ld { nextC c with c := decide (c.r B - c.r D - bit (u && c.c) < 0), v := out32 (wrap32 (c.r B) - wrap32 (c.r D) - bit (u && c.c)) } h rfl h.h A _ (w32_bd _).1 (w32_bd _).2
theorem mul_hi (a b : Int) (a0 : 0 ≤ a) (a1 : a ≤ 4294967295) (b0 : 0 ≤ b) (b1 : b ≤ 4294967295) : 0 ≤ a * b ∧ a * b ≤ 4294967295 * 4294967295 :=
  ⟨Int.mul_nonneg a0 b0, Int.mul_le_mul a1 b1 b0 (by omega)⟩
theorem Fine.mul {c : Cpu} (h : Fine c) (A B D : Nat) : Fine (mulC c A B D) := by
  have := mul_hi (c.r B) (c.r D) (h.r B).1 (h.r B).2 (h.r D).1 (h.r D).2
  exact Fine.ld { nextC c with h := c.r B * c.r D / 4294967296 } h rfl ⟨by show 0 ≤ c.r B * c.r D / 4294967296; omega, by show c.r B * c.r D / 4294967296 ≤ 4294967295; omega⟩ A _ (w32_bd _).1 (w32_bd _).2
theorem Fine.div {c : Cpu} (h : Fine c) (A B D : Nat) (hp : 0 < wrap32 (c.r D)) : Fine (divC c A B D) := by
  have h1 := Int.emod_nonneg (wrap32 (c.r B)) (show wrap32 (c.r D) ≠ 0 by omega)
  have h2 := Int.emod_lt_of_pos (wrap32 (c.r B)) hp
  have h3 := wrap32_bd (c.r D)
  exact Fine.ld { nextC c with h := wrap32 (c.r B) % wrap32 (c.r D) } h rfl ⟨h1, by show wrap32 (c.r B) % wrap32 (c.r D) ≤ 4294967295; omega⟩ A _ (w32_bd _).1 (w32_bd _).2
theorem Fine.set {c : Cpu} (h : Fine c) {x0 x1 y0 y1 : Int} (a : 0 ≤ x0 ∧ x0 ≤ 4294967295) (b : 0 ≤ x1 ∧ x1 ≤ 4294967295) (d : 0 ≤ y0 ∧ y0 ≤ 4294967295) (e : 0 ≤ y1 ∧ y1 ≤ 4294967295) : Fine (setC c x0 x1 y0 y1) :=
  ⟨fun k => upd_bd _ 3 _ (fun k => upd_bd _ 2 _ (fun k => upd_bd _ 1 _ (fun k => upd_bd _ 0 _ h.r a.1 a.2 k) b.1 b.2 k) d.1 d.2 k) e.1 e.2 k, h.h⟩
theorem does_add {c : Cpu} (h : Fine c) (u : Bool) (A B D : Nat) (hA : A < 16) (hB : B < 16) (hD : D < 16) : Does ⟨0, u, false, A, B, D, 8, 0, 0, 0, 0⟩ c (addC c u A B D) :=
  does_reg c _ u A B D 8 h.r h.h hA hB hD (by omega) (by omega) (by simp [mayOpB]) (by simp [oprC, srcI, addC, nextC])
theorem does_sub {c : Cpu} (h : Fine c) (u : Bool) (A B D : Nat) (hA : A < 16) (hB : B < 16) (hD : D < 16) : Does ⟨0, u, false, A, B, D, 9, 0, 0, 0, 0⟩ c (subC c u A B D) :=
  does_reg c _ u A B D 9 h.r h.h hA hB hD (by omega) (by omega) (by simp [mayOpB]) (by simp [oprC, srcI, subC, nextC])
theorem does_mul {c : Cpu} (h : Fine c) (A B D : Nat) (hA : A < 16) (hB : B < 16) (hD : D < 16) : Does ⟨0, true, false, A, B, D, 10, 0, 0, 0, 0⟩ c (mulC c A B D) :=
  does_reg c _ true A B D 10 h.r h.h hA hB hD (by omega) (by omega) (by simp [mayOpB]) (by simp [oprC, srcI, mulC, nextC])
theorem does_movH {c : Cpu} (h : Fine c) (A : Nat) (hA : A < 16) : Does ⟨0, true, false, A, (0 : Nat), (0 : Nat), 0, 0, 0, 0, 0⟩ c (movH c A) :=
  does_reg c _ true A 0 0 0 h.r h.h hA (by omega) (by omega) (by omega) (by omega) (by simp [mayOpB]) (by simp [oprC, srcI, movH, nextC])
theorem does_div {c : Cpu} (h : Fine c) (A B D : Nat) (hA : A < 16) (hB : B < 16) (hD : D < 16) (hp : 0 < wrap32 (c.r D)) : Does ⟨0, false, false, A, B, D, 11, 0, 0, 0, 0⟩ c (divC c A B D) :=
  does_reg c _ false A B D 11 h.r h.h hA hB hD (by omega) (by omega) (by simp [mayOpB]) (by
    have : ¬ wrap32 (c.r D) ≤ 0 := by omega
    simp [oprC, srcI, divC, nextC, this])
def z1 (c : Cpu) := addC c false 4 0 2
def z2 (c : Cpu) := addC (z1 c) true 5 1 3
def z3 (c : Cpu) := subC (z2 c) false 6 0 2
def z4 (c : Cpu) := subC (z3 c) true 7 1 3
def z5 (c : Cpu) := mulC (z4 c) 8 0 2
def z6 (c : Cpu) := movH (z5 c) 9
theorem z6_r (c : Cpu) (x0 x1 y0 y1 : Int) : let d := z6 (setC c x0 x1 y0 y1)
    d.r 4 = w32 (x0 + y0 + 0) ∧ d.r 5 = w32 (x1 + y1 + bit (decide (4294967296 ≤ x0 + y0 + 0))) ∧ d.r 6 = w32 (x0 - y0 - 0) ∧ d.r 7 = w32 (x1 - y1 - bit (decide (x0 - y0 - 0 < 0))) ∧ d.r 8 = w32 (x0 * y0) ∧ d.r 9 = x0 * y0 / 4294967296 :=
  ⟨rfl, rfl, rfl, rfl, rfl, rfl⟩
set_option maxHeartbeats 4000000 in
theorem walk (c : Cpu) (a1 a2 : Int) (w : World) (wf : CpuWf c) (w1 : (Lit.int .u64 a1).wf = true) (w2 : (Lit.int .u64 a2).wf = true) :
    Calls Try.prog 8 #[.agg (cpuCells c), .int .u64 a1, .int .u64 a2] w fun e w' => e = .returned (.bool true) ∧ Below w.heap.size w w' := by
  have hr := wf.r
  have hh := wf.h
  obtain ⟨p0, p1⟩ := bd_u64 w1
  obtain ⟨q0, q1⟩ := bd_u64 w2
  clear wf w1 w2
  have HC0 := Lib.hid (show (w.alloc (.cells (cpuCells c) 25)).heap[w.heap.size]? = some (.cells (cpuCells c) 25 (0, 0)) from heap_alloc_new _ _)
  have BW := below1 w (.cells (cpuCells c) 25)
  go_enter Try.func8, Try.ntmps8
  go_upto_region 1 with (fail)
  generalize w.alloc (.cells (cpuCells c) 25) = W0 at HC0 BW ⊢
  have k0 : W0.cell? ⟨w.heap.size, 0, none⟩ = some (.int .u32 (c.r 0)) := cell_at HC0.out 0
  have k1 : W0.cell? ⟨w.heap.size, 1, none⟩ = some (.int .u32 (c.r 1)) := cell_at HC0.out 1
  have k2 : W0.cell? ⟨w.heap.size, 2, none⟩ = some (.int .u32 (c.r 2)) := cell_at HC0.out 2
  have k3 : W0.cell? ⟨w.heap.size, 3, none⟩ = some (.int .u32 (c.r 3)) := cell_at HC0.out 3
  have f0 : ∀ j, W0.frozen? ⟨w.heap.size, j, none⟩ = false := fun j => free_at HC0.out j
  have hx0 : 0 ≤ a1 % 4294967296 ∧ a1 % 4294967296 ≤ 4294967295 := by omega
  have hx1 : 0 ≤ a1 / 4294967296 ∧ a1 / 4294967296 ≤ 4294967295 := by omega
  have hy0 : 0 ≤ a2 % 4294967296 ∧ a2 % 4294967296 ≤ 4294967295 := by omega
  have hy1 : 0 ≤ a2 / 4294967296 ∧ a2 / 4294967296 ≤ 4294967295 := by omega
  have F := Fine.set (c := c) ⟨hr, hh⟩ hx0 hx1 hy0 hy1
  have Z := z6_r c (a1 % 4294967296) (a1 / 4294967296) (a2 % 4294967296) (a2 / 4294967296)
  obtain ⟨ca, hca⟩ : ∃ ca, setC c (a1 % 4294967296) (a1 / 4294967296) (a2 % 4294967296) (a2 / 4294967296) = ca := ⟨_, rfl⟩
  have HCA := Lib.hid hca
  have FF := Lib.hid (hca ▸ F)
  have ZZ := Lib.hid (hca ▸ Z)
  have HH := Lib.hid HC0.out
  clear hx0 hx1 hy0 hy1 hca hr hh F Z
  go_upto_region 2 with (fail)
  have T := (((((Turn.refl HC0.out).setCell 0 (.int .u32 (a1 % 4294967296))).setCell 1 (.int .u32 (a1 / 4294967296))).setCell 2 (.int .u32 (a2 % 4294967296))).setCell 3 (.int .u32 (a2 / 4294967296))).to (cs' := cpuCells ca) (by rw [← HCA.out]; simp [cpuCells, setC, upd])
  have HC := Lib.hid T.at_
  have B1 : Below w.heap.size w _ := BW.trans (T.below (Nat.le_refl _) BW.size)
  generalize (((W0.setCell ⟨w.heap.size, 0, none⟩ (.int .u32 (a1 % 4294967296))).setCell ⟨w.heap.size, 1, none⟩ (.int .u32 (a1 / 4294967296))).setCell ⟨w.heap.size, 2, none⟩ (.int .u32 (a2 % 4294967296))).setCell ⟨w.heap.size, 3, none⟩ (.int .u32 (a2 / 4294967296)) = W1 at HC B1 T ⊢
  clear T k0 k1 k2 k3 f0 BW HC0
  obtain ⟨cz, hcz⟩ : ∃ cz, z6 ca = cz := ⟨_, rfl⟩
  have HS := Lib.hid (cpu_size ca)
  have HS2 := Lib.hid (cpu_size cz)
  have H32 := Lib.hid (cpu_one cz)
  have D0 := Lib.hid (does_add FF.out false 4 0 2 (by omega) (by omega) (by omega))
  have D1 := Lib.hid (does_add (FF.out.add false 4 0 2) true 5 1 3 (by omega) (by omega) (by omega))
  have D2 := Lib.hid (does_sub ((FF.out.add false 4 0 2).add true 5 1 3) false 6 0 2 (by omega) (by omega) (by omega))
  have D3 := Lib.hid (does_sub (((FF.out.add false 4 0 2).add true 5 1 3).sub false 6 0 2) true 7 1 3 (by omega) (by omega) (by omega))
  have D4 := Lib.hid (does_mul ((((FF.out.add false 4 0 2).add true 5 1 3).sub false 6 0 2).sub true 7 1 3) 8 0 2 (by omega) (by omega) (by omega))
  have d5 := does_movH (((((FF.out.add false 4 0 2).add true 5 1 3).sub false 6 0 2).sub true 7 1 3).mul 8 0 2) 9 (by omega)
  change Does _ _ (z6 ca) at d5
  rw [hcz] at d5
  have D5 := Lib.hid d5
  have z := ZZ.out
  dsimp only at z
  rw [hcz] at z
  have HZ := Lib.hid z
  clear z d5 hcz ZZ
  go_upto_region 3 with (first | (with_reducible refine wpList_load_row rfl 25 _ rfl w.heap.size rfl 25 (cpuCells ca) (0, 0) _ HC.out Try.underlying25 rfl HS.out ?_) | (go_at_call 25; refine (ops_6 ca _ _ _ _ _ cz _ _ _ _ _ _ _ _ (heap_alloc_new _ _) D0.out D1.out D2.out D3.out D4.out D5.out).mono ?_; rintro e w2 ⟨rfl, b2⟩) | (with_reducible refine wpList_store_row rfl 25 _ _ rfl _ (cpuCells cz) rfl rfl 25 _ (heap_alloc_new _ _) HS2.out rfl H32.out ?_; rw [World.setRow_alloc_new]))
  have B0 : Below W1.heap.size W1 w2 := (below1 W1 _).trans (b2.mono (by simp))
  have HC2 := (B0.block _ (lt_heap HC.out)).trans HC.out
  have HC3 := Lib.hid (show (w2.alloc (.cells (cpuCells cz) 25)).heap[w.heap.size]? = some (.cells (cpuCells ca) 25 (0, 0)) from ((below1 w2 _).block _ (lt_heap HC2)).trans HC2)
  have HX := Lib.hid (show (w2.alloc (.cells (cpuCells cz) 25)).heap[w2.heap.size]? = some (.cells (cpuCells cz) 25 (0, 0)) from heap_alloc_new _ _)
  have B3 : Below w.heap.size w (w2.alloc (.cells (cpuCells cz) 25)) := (B1.trans (B0.mono B1.size)).trans ((below1 w2 _).mono (Nat.le_trans B1.size B0.size))
  obtain ⟨b7, hb7⟩ : ∃ b7, w2.heap.size = b7 := ⟨_, rfl⟩
  rw [hb7] at HX ⊢
  clear hb7
  generalize w2.alloc (.cells (cpuCells cz) 25) = W3 at HC3 HX B3 ⊢
  clear B0 HC2 b2 B1 HC D0 D1 D2 D3 D4 D5 HS2 H32 HH
  obtain ⟨e4, e5, e6, e7, e8, e9⟩ := HZ.out
  obtain ⟨s0, hs0⟩ : ∃ s0, cz.r 4 = s0 := ⟨_, rfl⟩
  obtain ⟨s1, hs1⟩ : ∃ s1, cz.r 5 = s1 := ⟨_, rfl⟩
  obtain ⟨t0, ht0⟩ : ∃ t0, cz.r 6 = t0 := ⟨_, rfl⟩
  obtain ⟨t1, ht1⟩ : ∃ t1, cz.r 7 = t1 := ⟨_, rfl⟩
  obtain ⟨m0, hm0⟩ : ∃ m0, cz.r 8 = m0 := ⟨_, rfl⟩
  obtain ⟨m1, hm1⟩ : ∃ m1, cz.r 9 = m1 := ⟨_, rfl⟩
  have k4 : W3.cell? ⟨b7, 4, none⟩ = some (.int .u32 s0) := by rw [← hs0]; exact cell_at HX.out 4
  have k5 : W3.cell? ⟨b7, 5, none⟩ = some (.int .u32 s1) := by rw [← hs1]; exact cell_at HX.out 5
  have k6 : W3.cell? ⟨b7, 6, none⟩ = some (.int .u32 t0) := by rw [← ht0]; exact cell_at HX.out 6
  have k7 : W3.cell? ⟨b7, 7, none⟩ = some (.int .u32 t1) := by rw [← ht1]; exact cell_at HX.out 7
  have k8 : W3.cell? ⟨b7, 8, none⟩ = some (.int .u32 m0) := by rw [← hm0]; exact cell_at HX.out 8
  have k9 : W3.cell? ⟨b7, 9, none⟩ = some (.int .u32 m1) := by rw [← hm1]; exact cell_at HX.out 9
  rw [hs0] at e4; rw [hs1] at e5; rw [ht0] at e6; rw [ht1] at e7; rw [hm0] at e8; rw [hm1] at e9
  have bs0 : 0 ≤ s0 ∧ s0 ≤ 4294967295 := by rw [e4]; exact w32_bd _
  have bs1 : 0 ≤ s1 ∧ s1 ≤ 4294967295 := by rw [e5]; exact w32_bd _
  have bt0 : 0 ≤ t0 ∧ t0 ≤ 4294967295 := by rw [e6]; exact w32_bd _
  have bt1 : 0 ≤ t1 ∧ t1 ≤ 4294967295 := by rw [e7]; exact w32_bd _
  have bm0 : 0 ≤ m0 ∧ m0 ≤ 4294967295 := by rw [e8]; exact w32_bd _
  have hP := mul_hi (a1 % 4294967296) (a2 % 4294967296) (by omega) (by omega) (by omega) (by omega)
  have bm1 : 0 ≤ m1 ∧ m1 ≤ 4294967295 := by rw [e9]; omega
  have E4 := Lib.hid e4
  have E5 := Lib.hid e5
  have E6 := Lib.hid e6
  have E7 := Lib.hid e7
  have E8 := Lib.hid e8
  have E9 := Lib.hid e9
  clear e4 e5 e6 e7 e8 e9 hs0 hs1 ht0 ht1 hm0 hm1 HX HZ
  have q1 : IntKind.u64.wrap (a1 + a2) = s1 * 4294967296 + s0 := by
    rw [IntKind.wrap_u64, E4.out, E5.out]
    unfold w32 bit
    by_cases h : 4294967296 ≤ a1 % 4294967296 + a2 % 4294967296 + 0 <;> simp only [h, decide_true, decide_false, if_true, if_false, Bool.false_eq_true] <;> omega
  have q2 : IntKind.u64.wrap (a1 - a2) = t1 * 4294967296 + t0 := by
    rw [IntKind.wrap_u64, E6.out, E7.out]
    unfold w32 bit
    by_cases h : a1 % 4294967296 - a2 % 4294967296 - 0 < 0 <;> simp only [h, decide_true, decide_false, if_true, if_false, Bool.false_eq_true] <;> omega
  have q3 : (m1 * 4294967296 + m0 != a1 % 4294967296 * (a2 % 4294967296)) = false := by
    have : m1 * 4294967296 + m0 = a1 % 4294967296 * (a2 % 4294967296) := by
      rw [E8.out, E9.out]
      unfold w32
      omega
    rw [this]; simp
  clear E4 E5 E6 E7 E8 E9
  go_wp2_with fail
  go_quiet (fail)
  go_upto_region 6 with (fail)
  clear q1 q2 q3 k4 k5 k6 k7 k8 k9
  have kd : ca.r 2 = a2 % 4294967296 := by rw [← HCA.out]; rfl
  have ka : ca.r 0 = a1 % 4294967296 := by rw [← HCA.out]; rfl
  have j2 : W3.cell? ⟨w.heap.size, 2, none⟩ = some (.int .u32 (a2 % 4294967296)) := by rw [← kd]; exact cell_at HC3.out 2
  have j0 : W3.cell? ⟨w.heap.size, 0, none⟩ = some (.int .u32 (a1 % 4294967296)) := by rw [← ka]; exact cell_at HC3.out 0
  have KD := Lib.hid kd
  have KA := Lib.hid ka
  clear kd ka
  have B4 : Below w.heap.size w (W3.drewN nq) := below_drewN B3 nq
  by_cases sg : wrap32 (a2 % 4294967296) ≤ 0
  · have t1 : decide (wrap32 (a2 % 4294967296) ≤ 0) = true := by simpa using sg
    go_wp2_with (first | (go_at_call 24; refine (signed_any _ (by omega) (by omega) _).mono ?_; rintro e w' ⟨rfl, rfl⟩) | (go_at_call 12; refine (known4_any _).mono ?_; rintro e w' ⟨rfl, bk⟩))
    go_ret
    exact ⟨rfl, B4.trans (bk.mono B4.size)⟩
  · have t1 : decide (wrap32 (a2 % 4294967296) ≤ 0) = false := by simpa using sg
    have D0 := Lib.hid (does_div FF.out 4 0 2 (by omega) (by omega) (by omega) (by rw [KD.out]; omega))
    obtain ⟨cy, hcy⟩ : ∃ cy, movH (divC ca 4 0 2) 5 = cy := ⟨_, rfl⟩
    have d1 := does_movH (FF.out.div 4 0 2 (by rw [KD.out]; omega)) 5 (by omega)
    rw [hcy] at d1
    have D1 := Lib.hid d1
    have r4 : cy.r 4 = w32 (wrap32 (a1 % 4294967296) / wrap32 (a2 % 4294967296)) := by rw [← hcy, ← KD.out, ← KA.out]; rfl
    have r5 : cy.r 5 = wrap32 (a1 % 4294967296) % wrap32 (a2 % 4294967296) := by rw [← hcy, ← KD.out, ← KA.out]; rfl
    have R4 := Lib.hid r4
    have R5 := Lib.hid r5
    have HS2 := Lib.hid (cpu_size cy)
    have H32 := Lib.hid (cpu_one cy)
    clear d1 hcy r4 r5
    have HC4 := Lib.hid (show (W3.drewN nq).heap[w.heap.size]? = some (.cells (cpuCells ca) 25 (0, 0)) from HC3.out)
    go_upto_region 9 with (first | (go_at_call 24; refine (signed_any _ (by omega) (by omega) _).mono ?_; rintro e w' ⟨rfl, rfl⟩) | (with_reducible refine wpList_load_row rfl 25 _ rfl w.heap.size rfl 25 (cpuCells ca) (0, 0) _ HC4.out Try.underlying25 rfl HS.out ?_) | (go_at_call 25; refine (ops_2 ca _ cy _ _ _ _ (heap_alloc_new _ _) D0.out D1.out).mono ?_; rintro e w4 ⟨rfl, b4⟩) | (with_reducible refine wpList_store_row rfl 25 _ _ rfl _ (cpuCells cy) rfl rfl 25 _ (heap_alloc_new _ _) HS2.out rfl H32.out ?_; rw [World.setRow_alloc_new]))
    have B5 : Below (W3.drewN nq).heap.size (W3.drewN nq) w4 := (below1 (W3.drewN nq) _).trans (b4.mono (by simp))
    have HC5 := (B5.block _ (lt_heap HC4.out)).trans HC4.out
    have HC6 : (w4.alloc (.cells (cpuCells cy) 25)).heap[w.heap.size]? = some (.cells (cpuCells ca) 25 (0, 0)) := ((below1 w4 _).block _ (lt_heap HC5)).trans HC5
    have HY : (w4.alloc (.cells (cpuCells cy) 25)).heap[w4.heap.size]? = some (.cells (cpuCells cy) 25 (0, 0)) := heap_alloc_new _ _
    have B6 : Below w.heap.size w (w4.alloc (.cells (cpuCells cy) 25)) := (B4.trans (B5.mono B4.size)).trans ((below1 w4 _).mono (Nat.le_trans B4.size B5.size))
    obtain ⟨b8, hb8⟩ : ∃ b8, w4.heap.size = b8 := ⟨_, rfl⟩
    rw [hb8] at HY ⊢
    clear hb8
    generalize w4.alloc (.cells (cpuCells cy) 25) = W5 at HC6 HY B6 ⊢
    have j2 : W5.cell? ⟨w.heap.size, 2, none⟩ = some (.int .u32 (a2 % 4294967296)) := by rw [← KD.out]; exact cell_at HC6 2
    have j0 : W5.cell? ⟨w.heap.size, 0, none⟩ = some (.int .u32 (a1 % 4294967296)) := by rw [← KA.out]; exact cell_at HC6 0
    have k4 : W5.cell? ⟨b8, 4, none⟩ = some (.int .u32 (w32 (wrap32 (a1 % 4294967296) / wrap32 (a2 % 4294967296)))) := by rw [← R4.out]; exact cell_at HY 4
    have k5 : W5.cell? ⟨b8, 5, none⟩ = some (.int .u32 (wrap32 (a1 % 4294967296) % wrap32 (a2 % 4294967296))) := by rw [← R5.out]; exact cell_at HY 5
    clear HC5 HC6 HY b4 B5 B4 HC4 HC3 KD KA R4 R5 HS2 H32 D0 D1 HCA FF HS hP bs0 bs1 bt0 bt1 bm0 bm1
    go_wp2_with (first | (go_at_call 26; refine (rdiv_any _ _ (by omega) (by omega) (by omega) (by omega) (by omega) _).mono ?_; rintro e w' ⟨rfl, rfl⟩) | (go_at_call 12; refine (known4_any _).mono ?_; rintro e w' ⟨rfl, bk⟩))
    go_ret
    exact ⟨rfl, B6.trans (bk.mono B6.size)⟩
theorem own : ownKnob Try.prog.godebug = none := by kernel_rfl
theorem laidOut : laidOutB Try.prog = true := by kernel_rfl
theorem contract (H : Type) (enc : TypeId × Value → H) (W : World) (base : Nat) (args : Array Value) (ds gs : List (DataW H)) (before : List MemPlace)
    (hval : ∀ (j : Nat) t v, Try.f8.params[j]? = some t → args[j]? = some v → Value.okWide Try.prog W .any base t v)
    (hW : DataW.Whole enc Try.prog Try.f8.params.toList Rows.riscWideSpec.vars false W args.toList ds gs before) :
    Calls Try.prog 8 args W fun e W' => ∃ v, e = .returned v ∧ Rows.riscWideSpec.post enc Try.prog Try.f8 false true false false W args v W' := by
  have hW' := hW
  obtain ⟨p, q, hA0, hV, rfl, hfz, hnd⟩ := hW
  have hA : DataW.TrodAll enc Try.prog W 0 (fun _ => true) true Try.f8.params.toList args.toList ds p := hA0
  rw [Try.params8] at hA hval
  obtain ⟨v0, vs0, d0, ds0, p0, q0, hargs, rfl, rfl, h0, r0⟩ := trodAll_cons hA
  obtain ⟨v1, vs1, d1, ds1, p1, q1, rfl, rfl, rfl, h1, r1⟩ := trodAll_cons r0
  obtain ⟨v2, vs2, d2, ds2, p2, q2, rfl, rfl, rfl, h2, r2⟩ := trodAll_cons r1
  obtain ⟨rfl, rfl, rfl⟩ := trodAll_nil r2
  obtain rfl : args = #[v0, v1, v2] := by cases args; simp_all
  obtain ⟨rfl, rfl⟩ := trodVars_none hV
  obtain ⟨a0, rfl, w0⟩ := open_cpu (hval 0 25 v0 rfl rfl)
  have k0 := h0
  have lt0 : ∀ x ∈ p0, x.block < W.heap.size := by obtain ⟨m, hm⟩ := k0; exact DataW.trod_lt m _ _ _ hm
  obtain ⟨a1, rfl, rfl, rfl, w1⟩ := open_int Try.underlying52 (hval 1 52 v1 rfl rfl) h1
  obtain ⟨a2, rfl, rfl, rfl, w2⟩ := open_int Try.underlying52 (hval 2 52 v2 rfl rfl) h2
  clear hA0
  refine (walk a0 a1 a2 W w0 w1 w2).mono fun e W' ⟨he, bel⟩ => ?_
  subst he
  exact ⟨_, rfl, _, _, _, [], _, [], hW', trodAll_mk1 (shut_bool Try.underlying4 _), (trodAll_cons_mk (Below.trod laidOut (by kernel_rfl) (of_decide_eq_true (by kernel_rfl)) k0 bel lt0) (trodAll_cons_mk (shut_int Try.underlying52 w1) (trodAll_cons_mk (shut_int Try.underlying52 w2) trodAll_mk0))), rfl, bel.frame _, fun h => by cases h⟩
set_option maxRecDepth 100000 in
theorem lifted (os : Os) (started : os.Started) (H : Type) (enc : TypeId × Value → H) :
    ReturnsInHanded {} Try.checked os 8 .any (Rows.riscWideSpec.pre6 enc Try.prog Try.f8 Rows.riscWideRow.domain false) (Rows.riscWideSpec.post enc Try.prog Try.f8 false true false false) := by
  refine returnsInHanded_of_change (C := Try.checked) own started (by kernel_rfl) Try.func8
    (ChangeSpec.witness6 (enc := enc) (C := Try.checked) false ⟨#[], #[.agg #[.int .u32 0, .int .u32 0, .int .u32 0, .int .u32 0, .int .u32 0, .int .u32 0, .int .u32 0, .int .u32 0, .int .u32 0, .int .u32 0, .int .u32 0, .int .u32 0, .int .u32 0, .int .u32 0, .int .u32 0, .int .u32 0, .int .u32 0, .bool false, .bool false, .bool false, .bool false, .int .u32 0], .int .u64 0, .int .u64 0], []⟩ 8 (by kernel_rfl) (by kernel_rfl) (by kernel_rfl) (by kernel_rfl)) ?_
  intro W base args ds gs before hval hW hcnd _
  exact contract H enc W base args ds gs before hval hW
theorem said : Rows.RiscWideSaid :=
  OpenClaim.holds_of_wide 8 Try.f8 rfl rfl rfl rfl rfl rfl rfl ⟨rfl, rfl, rfl, rfl, rfl⟩ rfl rfl rfl rfl rfl (by kernel_rfl) Try.func8 (by kernel_rfl)
    (of_decide_eq_true (by kernel_rfl)) (by unfold Func.isWrapper; first | (rw [if_pos (by decide +kernel)]; kernel_rfl) | (rw [if_neg (by decide +kernel)]; exact ⟨rfl, rfl⟩))
    (fun os started H enc _ => lifted os started H enc)
theorem proved : Rows.RiscWideSaid := said
end Go.Proofs.Ytgjecfchnokcfaa.riscWide

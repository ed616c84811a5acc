/-
  A machine in memory: what MachineStores calls besides.
-/
import Derived.Test.YtlgdlaohfkgkfaaGreatMacN
import Derived.Test.YtlgdlaohfkgkfaaGreatMacK
import Derived.Test.YtlgdlaohfkgkfaaGreatRiscS
import Derived.Test.YtlgdlaohfkgkfaaGreatOwnA
import Derived.KernelRfl
namespace Go.Proofs.YtlgdlaohfkgkfaaGreat
open Go.ChangeShapes Go.WideShapes Go.ChangeAt Go.RowKit
set_option linter.unusedVariables false
set_option linter.unusedSimpArgs false
theorem known5_any (w : World) : Calls Tryz.prog 5 #[] w fun e w' => e = .returned (.bool true) ∧ Below w.heap.size w w' :=
  Ev.closed_true 1000 30 (by kernel_rfl) w
theorem num5_any (e : Int) (w : World) : Calls Tryz.prog 9 #[.int .i64 e] w fun x w' => x = .returned (.int .i64 e) ∧ w = w' := by
  go_enter Tryz.func9, Tryz.ntmps9
  go_wp2
  go_ret
  exact ⟨rfl, rfl⟩
def mayN (n : Int) : Bool := decide (64 ≤ n) && (decide (n ≤ 16777216) && decide (n % 4 = 0))
theorem rmay5_any (n : Int) (h0 : -9223372036854775808 ≤ n) (h1 : n ≤ 9223372036854775807) (w : World) : Calls Tryz.prog 8 #[.int .i64 n] w fun x w' => x = .returned (.bool (mayN n)) ∧ w = w' := by
  unfold mayN
  by_cases a : 64 ≤ n
  · by_cases b : n ≤ 16777216
    · by_cases c : n % 4 = 0
      · have hc : (n % 4 == 0) = true := by simp [c]
        go_enter Tryz.func8, Tryz.ntmps8
        go_wp2
        go_ret
        simp [a, b, c]
      · have hc : (n % 4 == 0) = false := by simp [c]
        go_enter Tryz.func8, Tryz.ntmps8
        go_wp2
        go_ret
        simp [a, b, c]
    · go_enter Tryz.func8, Tryz.ntmps8
      go_wp2
      go_ret
      simp [a]
      omega
  · go_enter Tryz.func8, Tryz.ntmps8
    go_wp2
    go_ret
    simp
    omega
/-- a store that was just made, with all that it has -/
theorem news_any (w : World) : Calls Tryz.prog 6 #[.int .i64 10] w fun e w' => ∃ q mb, e = .returned (.tuple #[.pointer (some ⟨q, 0, none⟩), .int .i64 0]) ∧ NewSt w' w.heap.size q ∧ NewS w' q mb ∧ Below w.heap.size w w' := by
  have hmm := @run_makeMap Tryz.prog
  go_enter Tryz.func6, Tryz.ntmps6
  go_wp2_with fail
  go_ret2
  have hb := heap_alloc_last (w.alloc (.map #[] 0)) (.cells #[.bool true, .int .i64 10, .int .i64 0, .map (some w.heap.size), .slice none 0 0] 74)
  have e : (w.alloc (.map #[] 0)).heap.size = w.heap.size + 1 := by simp
  rw [e] at hb
  have hm : ((w.alloc (.map #[] 0)).alloc (.cells #[.bool true, .int .i64 10, .int .i64 0, .map (some w.heap.size), .slice none 0 0] 74)).heap[w.heap.size]? = some (.map #[] 0) := ((mbelow1 (w.alloc (.map #[] 0)) _).block _ (by simp)).trans (heap_alloc_last w _)
  refine ⟨w.heap.size + 1, w.heap.size, rfl, ⟨by omega, by simp, (cell_at hb 0).trans rfl⟩, ⟨(cell_at hb 0).trans rfl, (cell_at hb 1).trans rfl, (cell_at hb 2).trans rfl, (cell_at hb 3).trans rfl, (cell_at hb 4).trans rfl, hm⟩, (mbelow1 w _).alloc (by simp) _⟩
theorem mrw3 (u v : Bool) (a b c op im off cond n : Int) (w : World) :
    Calls Tryz.prog 34 #[.agg #[.int .i64 3, .bool u, .bool v, .int .i64 a, .int .i64 b, .int .i64 c, .int .i64 op, .int .i64 im, .int .i64 off, .int .i64 cond, .int .i64 n]] w fun e w' => e = .returned (.int .u32 (wd23 1 v a b off)) ∧ Below w.heap.size w w' :=
  (rword_3 u v a b c op im off cond n w).mono fun e w' ⟨h, k, hk⟩ => ⟨h, by rw [hk]; exact (mbelow1 _ _).trans (mdrewN _ _ |>.mono (by simp))⟩
theorem mrw2 (u v : Bool) (a b c op im off cond n : Int) (w : World) :
    Calls Tryz.prog 34 #[.agg #[.int .i64 2, .bool u, .bool v, .int .i64 a, .int .i64 b, .int .i64 c, .int .i64 op, .int .i64 im, .int .i64 off, .int .i64 cond, .int .i64 n]] w fun e w' => e = .returned (.int .u32 (wd23 0 v a b off)) ∧ Below w.heap.size w w' :=
  (rword_2 u v a b c op im off cond n w).mono fun e w' ⟨h, k, hk⟩ => ⟨h, by rw [hk]; exact (mbelow1 _ _).trans (mdrewN _ _ |>.mono (by simp))⟩
def wst (v : Bool) : Int := wd23 1 v 2 3 0
def wld (v : Bool) : Int := wd23 0 v 4 3 0
theorem wst_bd (v : Bool) : 0 ≤ wst v ∧ wst v ≤ 4294967295 := by cases v <;> decide
theorem wld_bd (v : Bool) : 0 ≤ wld v ∧ wld v ≤ 4294967295 := by cases v <;> decide
theorem dec_wst (v : Bool) : dec (wst v) = (⟨3, false, v, 2, 3, 0, 0, 0, 0, 0, 0⟩, false) := dec_wd23 1 v 2 3 0 (by omega) (by omega) (by omega) (by omega) (by omega) (by omega) (by omega) (by omega)
theorem dec_wld (v : Bool) : dec (wld v) = (⟨2, false, v, 4, 3, 0, 0, 0, 0, 0, 0⟩, false) := dec_wd23 0 v 4 3 0 (by omega) (by omega) (by omega) (by omega) (by omega) (by omega) (by omega) (by omega)
theorem stst_any (c : Cpu) (v : Bool) (q : Nat) (hr : ∀ k, 0 ≤ c.r k ∧ c.r k ≤ 4294967295) (h3 : c.r 3 = (q : Int)) (w : World) : Calls Tryz.prog 68 #[.agg (cpuCells c), .int .u32 (wst v)] w fun e w' => e = .returned (.tuple #[.agg (cpuCells (nextC c)), .agg (evCells 2 (q : Int) v 3 (stV v (c.r 2)) 0)]) ∧ Below w.heap.size w w' := by
  have h := step_store c (wst v) false v 2 3 0 0 0 0 0 0 (wst_bd v).1 (wst_bd v).2 (dec_wst v) hr 2 3 (by omega) (by omega) rfl rfl w
  have e : w32 (c.r 3 + 0) = (q : Int) := by have := hr 3; rw [h3] at this ⊢; unfold w32; omega
  rw [e] at h
  exact h
theorem stld_any (c : Cpu) (v : Bool) (q : Nat) (hr : ∀ k, 0 ≤ c.r k ∧ c.r k ≤ 4294967295) (h3 : c.r 3 = (q : Int)) (w : World) : Calls Tryz.prog 68 #[.agg (cpuCells c), .int .u32 (wld v)] w fun e w' => e = .returned (.tuple #[.agg (cpuCells (nextC c)), .agg (evCells 1 (q : Int) v 4 0 0)]) ∧ Below w.heap.size w w' := by
  have h := step_load c (wld v) false v 4 3 0 0 0 0 0 0 (wld_bd v).1 (wld_bd v).2 (dec_wld v) hr 3 (by omega) rfl (by omega) (by omega) w
  have e : w32 (c.r 3 + 0) = (q : Int) := by have := hr 3; rw [h3] at this ⊢; unfold w32; omega
  rw [e] at h
  exact h
section
variable {w : World} {B : Nat} {p : Mp} {m : Mc}
theorem Step_of (h : MAt w B p m) (hk : m.kind = 0) (R : Mc) (hR : R.kind = 0)
    (HS0 : Calls Tryz.prog 40 #[.pointer (some ⟨p.b, 0, none⟩)] w fun e w' => e = .returned (.tuple #[]) ∧ MAt w' B p R ∧ ClAt w' B p ∧ Chg p w w') :
    Calls Tryz.prog 20 #[.pointer (some ⟨p.b, 0, none⟩)] w fun e w' => e = .returned (.bool true) ∧ MAt w' B p R ∧ ClAt w' B p ∧ Chg p w w' := by
  have hr := running_any h
  rw [hk] at hr
  have HR := Lib.hid hr
  have HS := Lib.hid HS0
  have HRR : Hid (∀ V, MAt V B p R → Calls Tryz.prog 39 #[.pointer (some ⟨p.b, 0, none⟩)] V fun e w' => e = .returned (.bool true) ∧ w' = V) := Lib.hid fun V hV => by have := running_any hV; rw [hR] at this; exact this
  go_enter Tryz.func20, Tryz.ntmps20
  go_wp2_with (first
    | (go_at_call 39; (with_reducible refine HR.out.mono ?_); rintro e w' ⟨rfl, rfl⟩)
    | (go_at_call 40; (with_reducible refine HS.out.mono ?_); rintro e w9 ⟨rfl, hm9, hc9, hg9⟩; have HM9 := Lib.hid hm9; clear hm9)
    | (go_at_call 39; (with_reducible refine (HRR.out _ HM9.out).mono ?_); rintro e w' ⟨rfl, rfl⟩))
  go_ret
  exact ⟨rfl, HM9.out, hc9, hg9⟩
end
end Go.Proofs.YtlgdlaohfkgkfaaGreat

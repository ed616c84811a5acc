/-
  A machine in memory: the map of its calls.
-/
import Derived.Test.YtlgdlaohfkgkfaaGreatMacD
import Derived.Maps.OwnSet
namespace Go.Proofs.YtlgdlaohfkgkfaaGreat
open Go.ChangeShapes Go.WideShapes Go.ChangeAt Go.RowKit
open Go.ChangeMaps (setBlock)
set_option linter.unusedVariables false
set_option linter.unusedSimpArgs false
def mheldE (v : Value) : Option (DataW Value × List MemPlace) := some (.held v, [])
theorem mkeyI (x : Int) (h : (Lit.int .i64 x).wf = true) : keyOf Tryz.prog 3 (.int .i64 x) = some (.int .i64 x) := Maps.keyOf_int_mk Tryz.underlying3 h
theorem mkeyedI : Maps.Keyed Tryz.prog 3 := Maps.int_keyed Tryz.underlying3
theorem turned_below {w w' : World} {b : Nat} (h : w.mapTurned w' b) {B : Nat} (hB : B ≤ b) : Below B w w' := by
  obtain ⟨es, clock, es', clock', hb, rfl⟩ := h
  exact ⟨rfl, rfl, rfl, by simp [setBlock], fun k hk => by show (w.heap.setIfInBounds b _)[k]? = w.heap[k]?; rw [Array.getElem?_setIfInBounds_ne (by omega)]⟩
noncomputable def callsD : DataW Value := ((((((((((((((.map [] : DataW Value).put (.int .i64 16) (.held (Value.func (.func 42) #[] #[]))).put (.int .i64 17) (.held (Value.func (.func 43) #[] #[]))).put (.int .i64 18) (.held (Value.func (.func 44) #[] #[]))).put (.int .i64 19) (.held (Value.func (.func 45) #[] #[]))).put (.int .i64 20) (.held (Value.func (.func 46) #[] #[]))).put (.int .i64 21) (.held (Value.func (.func 47) #[] #[]))).put (.int .i64 22) (.held (Value.func (.func 48) #[] #[]))).put (.int .i64 23) (.held (Value.func (.func 49) #[] #[]))).put (.int .i64 24) (.held (Value.func (.func 50) #[] #[]))).put (.int .i64 25) (.held (Value.func (.func 51) #[] #[]))).put (.int .i64 26) (.held (Value.func (.func 52) #[] #[]))).put (.int .i64 27) (.held (Value.func (.func 53) #[] #[]))).put (.int .i64 28) (.held (Value.func (.func 54) #[] #[])))
set_option maxHeartbeats 4000000 in
theorem calls_any (w : World) : Calls Tryz.prog 24 #[] w fun e w' => e = .returned (.map (some w.heap.size)) ∧ w'.ownsMap Tryz.prog 3 mheldE w.heap.size 13 callsD ∧ Below w.heap.size w w' := by
  have hmm := @run_makeMap Tryz.prog
  have m0 : (w.alloc (.map #[] 0)).ownsMap Tryz.prog 3 mheldE w.heap.size 0 (.map []) := World.ownsMap_made w Tryz.prog 3 mheldE
  have B0 : Below w.heap.size w (w.alloc (.map #[] 0)) := mbelow1 w _
  obtain ⟨w1, r1, m1, t1⟩ := m0.store (key := .int .i64 16) (val := Value.func (.func 42) #[] #[]) mkeyedI Tryz.underlying77 (by decide) (mkeyI 16 (by decide)) (rfl : mheldE _ = _)
  have B1 := B0.trans (turned_below t1 (Nat.le_refl _))
  obtain ⟨w2, r2, m2, t2⟩ := m1.store (key := .int .i64 17) (val := Value.func (.func 43) #[] #[]) mkeyedI Tryz.underlying77 (by decide) (mkeyI 17 (by decide)) (rfl : mheldE _ = _)
  have B2 := B1.trans (turned_below t2 (Nat.le_refl _))
  obtain ⟨w3, r3, m3, t3⟩ := m2.store (key := .int .i64 18) (val := Value.func (.func 44) #[] #[]) mkeyedI Tryz.underlying77 (by decide) (mkeyI 18 (by decide)) (rfl : mheldE _ = _)
  have B3 := B2.trans (turned_below t3 (Nat.le_refl _))
  obtain ⟨w4, r4, m4, t4⟩ := m3.store (key := .int .i64 19) (val := Value.func (.func 45) #[] #[]) mkeyedI Tryz.underlying77 (by decide) (mkeyI 19 (by decide)) (rfl : mheldE _ = _)
  have B4 := B3.trans (turned_below t4 (Nat.le_refl _))
  obtain ⟨w5, r5, m5, t5⟩ := m4.store (key := .int .i64 20) (val := Value.func (.func 46) #[] #[]) mkeyedI Tryz.underlying77 (by decide) (mkeyI 20 (by decide)) (rfl : mheldE _ = _)
  have B5 := B4.trans (turned_below t5 (Nat.le_refl _))
  obtain ⟨w6, r6, m6, t6⟩ := m5.store (key := .int .i64 21) (val := Value.func (.func 47) #[] #[]) mkeyedI Tryz.underlying77 (by decide) (mkeyI 21 (by decide)) (rfl : mheldE _ = _)
  have B6 := B5.trans (turned_below t6 (Nat.le_refl _))
  obtain ⟨w7, r7, m7, t7⟩ := m6.store (key := .int .i64 22) (val := Value.func (.func 48) #[] #[]) mkeyedI Tryz.underlying77 (by decide) (mkeyI 22 (by decide)) (rfl : mheldE _ = _)
  have B7 := B6.trans (turned_below t7 (Nat.le_refl _))
  obtain ⟨w8, r8, m8, t8⟩ := m7.store (key := .int .i64 23) (val := Value.func (.func 49) #[] #[]) mkeyedI Tryz.underlying77 (by decide) (mkeyI 23 (by decide)) (rfl : mheldE _ = _)
  have B8 := B7.trans (turned_below t8 (Nat.le_refl _))
  obtain ⟨w9, r9, m9, t9⟩ := m8.store (key := .int .i64 24) (val := Value.func (.func 50) #[] #[]) mkeyedI Tryz.underlying77 (by decide) (mkeyI 24 (by decide)) (rfl : mheldE _ = _)
  have B9 := B8.trans (turned_below t9 (Nat.le_refl _))
  obtain ⟨w10, r10, m10, t10⟩ := m9.store (key := .int .i64 25) (val := Value.func (.func 51) #[] #[]) mkeyedI Tryz.underlying77 (by decide) (mkeyI 25 (by decide)) (rfl : mheldE _ = _)
  have B10 := B9.trans (turned_below t10 (Nat.le_refl _))
  obtain ⟨w11, r11, m11, t11⟩ := m10.store (key := .int .i64 26) (val := Value.func (.func 52) #[] #[]) mkeyedI Tryz.underlying77 (by decide) (mkeyI 26 (by decide)) (rfl : mheldE _ = _)
  have B11 := B10.trans (turned_below t11 (Nat.le_refl _))
  obtain ⟨w12, r12, m12, t12⟩ := m11.store (key := .int .i64 27) (val := Value.func (.func 53) #[] #[]) mkeyedI Tryz.underlying77 (by decide) (mkeyI 27 (by decide)) (rfl : mheldE _ = _)
  have B12 := B11.trans (turned_below t12 (Nat.le_refl _))
  obtain ⟨w13, r13, m13, t13⟩ := m12.store (key := .int .i64 28) (val := Value.func (.func 54) #[] #[]) mkeyedI Tryz.underlying77 (by decide) (mkeyI 28 (by decide)) (rfl : mheldE _ = _)
  have B13 := B12.trans (turned_below t13 (Nat.le_refl _))
  have HM := Lib.hid m13
  have HB := Lib.hid B13
  clear m0 B0 m1 B1 m2 B2 m3 B3 m4 B4 m5 B5 m6 B6 m7 B7 m8 B8 m9 B9 m10 B10 m11 B11 m12 B12 m13 B13 t1 t2 t3 t4 t5 t6 t7 t8 t9 t10 t11 t12 t13
  go_enter Tryz.func24, Tryz.ntmps24
  go_wp2
  go_ret
  exact ⟨rfl, HM.out, HB.out⟩
/-- what key 17 stands for -/
theorem calls_17 : callsD.atKey (.int .i64 17) (.held .nilFunc) = .held (Value.func (.func 43) #[] #[]) := by
  unfold callsD
  rw [Maps.atKey_put_other (by simp)]
  rw [Maps.atKey_put_other (by simp)]
  rw [Maps.atKey_put_other (by simp)]
  rw [Maps.atKey_put_other (by simp)]
  rw [Maps.atKey_put_other (by simp)]
  rw [Maps.atKey_put_other (by simp)]
  rw [Maps.atKey_put_other (by simp)]
  rw [Maps.atKey_put_other (by simp)]
  rw [Maps.atKey_put_other (by simp)]
  rw [Maps.atKey_put_other (by simp)]
  rw [Maps.atKey_put_other (by simp)]
  exact Maps.atKey_put_same ⟨_, rfl⟩ (show WideAt.IsKeyLit (.int .i64 17) from True.intro) _ _
end Go.Proofs.YtlgdlaohfkgkfaaGreat

/-
  An act in memory; the table of what acts name; what its checks do, by letters.
-/
import Derived.Test.YtlodoilihminaaaGreatDoorScrB
import Derived.Test.YtlodoilihminaaaGreatDoorOwnA
import Derived.Maps.OwnSet
import Derived.Lib.OthersKept
import Derived.Deep.RegionWith
import Derived.Laws.RangeAny
namespace Go.Proofs.YtlodoilihminaaaGreatDoor
open Go.ChangeShapes Go.WideShapes Go.ChangeAt Go.RowKit
open Go.ChangeMaps (setBlock)
set_option linter.unusedVariables false
set_option linter.unusedSimpArgs false
def actC (k : Int) (n : List UInt8) (bA : Option Addr) (bn bc : Nat) (nA : Option Addr) (nn nc : Nat) (m f : Int) : Array Value := #[.int .i64 k, .string (S n), .slice bA bn bc, .slice nA nn nc, .int .i64 m, .int .i64 f]
/-- an act as it lies -/
structure ActAt (w : World) (a : Ac) (bA : Option Addr) (bn bc : Nat) (nA : Option Addr) (nn nc : Nat) : Prop where
  hnm : a.name.length ≤ maxLen
  hbr : Rd w w.heap.size .u8 bA bn a.bytes
  hbb : ∀ x ∈ a.bytes, 0 ≤ x ∧ x < 256
  hbn : bn ≤ maxLen
  hbc : bn ≤ bc
  hnr : NmRow w w.heap.size nA nn a.names
  hnn : nn ≤ maxLen
  hm : -9223372036854775808 ≤ a.mem ∧ a.mem ≤ 9223372036854775807
  hf : -9223372036854775808 ≤ a.fuel ∧ a.fuel ≤ 9223372036854775807
theorem ActAt.below {w W : World} {a : Ac} {bA : Option Addr} {bn bc : Nat} {nA : Option Addr} {nn nc : Nat} (h : ActAt w a bA bn bc nA nn nc) (hb : Below w.heap.size w W) : ActAt W a bA bn bc nA nn nc :=
  ⟨h.hnm, (h.hbr.below hb).more hb.size, h.hbb, h.hbn, h.hbc, (h.hnr.below hb).more hb.size, h.hnn, h.hm, h.hf⟩
/-! ### what acts name -/
def shW (k : Int) : List UInt8 := if k = 1 then [110, 98] else if k = 2 then [110, 116] else if k = 3 then [110] else if k = 4 then [110] else if k = 5 then [109, 105, 102] else if k = 6 then [109, 102, 108] else []
def sheldE (v : Value) : Option (DataW Value × List MemPlace) := some (.held v, [])
theorem skeyI (x : Int) (h : (Lit.int .i64 x).wf = true) : keyOf Tryz.prog 23 (.int .i64 x) = some (.int .i64 x) := Maps.keyOf_int_mk Tryz.underlying23 h
theorem skeyedI : Maps.Keyed Tryz.prog 23 := Maps.int_keyed Tryz.underlying23
theorem sbelow1 (w : World) (a : Obj) : Below w.heap.size w (w.alloc a) := (Below.refl _ _).alloc (Nat.le_refl _) _
theorem sturned_below {w w' : World} {b : Nat} (h : w.mapTurned w' b) {B : Nat} (hB : B ≤ b) : Below B w w' := by
  obtain ⟨es, clock, es', clock', hb, rfl⟩ := h
  exact ⟨rfl, rfl, rfl, by simp [setBlock], fun k hk => by show (w.heap.setIfInBounds b _)[k]? = w.heap[k]?; rw [Array.getElem?_setIfInBounds_ne (by omega)]⟩
def shV (k : Int) : Value := .agg #[.string (S (shW k))]
noncomputable def shD : DataW Value := (((((((.map [] : DataW Value).put (.int .i64 1) (.held (shV 1))).put (.int .i64 2) (.held (shV 2))).put (.int .i64 3) (.held (shV 3))).put (.int .i64 4) (.held (shV 4))).put (.int .i64 5) (.held (shV 5))).put (.int .i64 6) (.held (shV 6))).put (.int .i64 7) (.held (shV 7))
set_option maxHeartbeats 4000000 in
theorem shapes_any (w : World) : Calls Tryz.prog 25 #[] w fun e w' => e = .returned (.map (some w.heap.size)) ∧ w'.ownsMap Tryz.prog 23 sheldE w.heap.size 7 shD ∧ Below w.heap.size w w' := by
  have hmm := @run_makeMap Tryz.prog
  have m0 : (w.alloc (.map #[] 0)).ownsMap Tryz.prog 23 sheldE w.heap.size 0 (.map []) := World.ownsMap_made w Tryz.prog 23 sheldE
  have B0 : Below w.heap.size w (w.alloc (.map #[] 0)) := sbelow1 w _
  obtain ⟨w1, r1, m1, t1⟩ := m0.store (key := .int .i64 1) (val := .agg #[.string ⟨#[110, 98]⟩]) skeyedI Tryz.underlying67 (by decide) (skeyI 1 (by decide)) (rfl : sheldE _ = _)
  have B1 := B0.trans (sturned_below t1 (Nat.le_refl _))
  obtain ⟨w2, r2, m2, t2⟩ := m1.store (key := .int .i64 2) (val := .agg #[.string ⟨#[110, 116]⟩]) skeyedI Tryz.underlying67 (by decide) (skeyI 2 (by decide)) (rfl : sheldE _ = _)
  have B2 := B1.trans (sturned_below t2 (Nat.le_refl _))
  obtain ⟨w3, r3, m3, t3⟩ := m2.store (key := .int .i64 3) (val := .agg #[.string ⟨#[110]⟩]) skeyedI Tryz.underlying67 (by decide) (skeyI 3 (by decide)) (rfl : sheldE _ = _)
  have B3 := B2.trans (sturned_below t3 (Nat.le_refl _))
  obtain ⟨w4, r4, m4, t4⟩ := m3.store (key := .int .i64 4) (val := .agg #[.string ⟨#[110]⟩]) skeyedI Tryz.underlying67 (by decide) (skeyI 4 (by decide)) (rfl : sheldE _ = _)
  have B4 := B3.trans (sturned_below t4 (Nat.le_refl _))
  obtain ⟨w5, r5, m5, t5⟩ := m4.store (key := .int .i64 5) (val := .agg #[.string ⟨#[109, 105, 102]⟩]) skeyedI Tryz.underlying67 (by decide) (skeyI 5 (by decide)) (rfl : sheldE _ = _)
  have B5 := B4.trans (sturned_below t5 (Nat.le_refl _))
  obtain ⟨w6, r6, m6, t6⟩ := m5.store (key := .int .i64 6) (val := .agg #[.string ⟨#[109, 102, 108]⟩]) skeyedI Tryz.underlying67 (by decide) (skeyI 6 (by decide)) (rfl : sheldE _ = _)
  have B6 := B5.trans (sturned_below t6 (Nat.le_refl _))
  obtain ⟨w7, r7, m7, t7⟩ := m6.store (key := .int .i64 7) (val := .agg #[.string ⟨#[]⟩]) skeyedI Tryz.underlying67 (by decide) (skeyI 7 (by decide)) (rfl : sheldE _ = _)
  have B7 := B6.trans (sturned_below t7 (Nat.le_refl _))
  have HM : Hid (w7.ownsMap Tryz.prog 23 sheldE w.heap.size 7 shD) := Lib.hid m7
  have HB := Lib.hid B7
  clear m0 B0 m1 B1 m2 B2 m3 B3 m4 B4 m5 B5 m6 B6 m7 B7 t1 t2 t3 t4 t5 t6 t7
  go_enter Tryz.func25, Tryz.ntmps25
  go_wp2
  go_ret
  exact ⟨rfl, HM.out, HB.out⟩
theorem sh_at (k : Int) (hk : (Lit.int .i64 k).wf = true) : shD.atKey (.int .i64 k) (.held (.agg #[.string ⟨#[]⟩])) = .held (shV k) ∧ Maps.has shD (.int .i64 k) = decide (1 ≤ k ∧ k ≤ 7) := by
  by_cases h : k = 1 ∨ k = 2 ∨ k = 3 ∨ k = 4 ∨ k = 5 ∨ k = 6 ∨ k = 7
  · rcases h with rfl | rfl | rfl | rfl | rfl | rfl | rfl
    · constructor
      · unfold shD
        rw [Maps.atKey_put_other (by simp)]
        rw [Maps.atKey_put_other (by simp)]
        rw [Maps.atKey_put_other (by simp)]
        rw [Maps.atKey_put_other (by simp)]
        rw [Maps.atKey_put_other (by simp)]
        rw [Maps.atKey_put_other (by simp)]
        exact Maps.atKey_put_same ⟨_, rfl⟩ (show WideAt.IsKeyLit (.int .i64 1) from True.intro) _ _
      · unfold shD
        rw [Maps.has_put_other (by simp)]
        rw [Maps.has_put_other (by simp)]
        rw [Maps.has_put_other (by simp)]
        rw [Maps.has_put_other (by simp)]
        rw [Maps.has_put_other (by simp)]
        rw [Maps.has_put_other (by simp)]
        exact (Maps.has_put_same ⟨_, rfl⟩ (show WideAt.IsKeyLit (.int .i64 1) from True.intro) _).trans (by decide)
    · constructor
      · unfold shD
        rw [Maps.atKey_put_other (by simp)]
        rw [Maps.atKey_put_other (by simp)]
        rw [Maps.atKey_put_other (by simp)]
        rw [Maps.atKey_put_other (by simp)]
        rw [Maps.atKey_put_other (by simp)]
        exact Maps.atKey_put_same ⟨_, rfl⟩ (show WideAt.IsKeyLit (.int .i64 2) from True.intro) _ _
      · unfold shD
        rw [Maps.has_put_other (by simp)]
        rw [Maps.has_put_other (by simp)]
        rw [Maps.has_put_other (by simp)]
        rw [Maps.has_put_other (by simp)]
        rw [Maps.has_put_other (by simp)]
        exact (Maps.has_put_same ⟨_, rfl⟩ (show WideAt.IsKeyLit (.int .i64 2) from True.intro) _).trans (by decide)
    · constructor
      · unfold shD
        rw [Maps.atKey_put_other (by simp)]
        rw [Maps.atKey_put_other (by simp)]
        rw [Maps.atKey_put_other (by simp)]
        rw [Maps.atKey_put_other (by simp)]
        exact Maps.atKey_put_same ⟨_, rfl⟩ (show WideAt.IsKeyLit (.int .i64 3) from True.intro) _ _
      · unfold shD
        rw [Maps.has_put_other (by simp)]
        rw [Maps.has_put_other (by simp)]
        rw [Maps.has_put_other (by simp)]
        rw [Maps.has_put_other (by simp)]
        exact (Maps.has_put_same ⟨_, rfl⟩ (show WideAt.IsKeyLit (.int .i64 3) from True.intro) _).trans (by decide)
    · constructor
      · unfold shD
        rw [Maps.atKey_put_other (by simp)]
        rw [Maps.atKey_put_other (by simp)]
        rw [Maps.atKey_put_other (by simp)]
        exact Maps.atKey_put_same ⟨_, rfl⟩ (show WideAt.IsKeyLit (.int .i64 4) from True.intro) _ _
      · unfold shD
        rw [Maps.has_put_other (by simp)]
        rw [Maps.has_put_other (by simp)]
        rw [Maps.has_put_other (by simp)]
        exact (Maps.has_put_same ⟨_, rfl⟩ (show WideAt.IsKeyLit (.int .i64 4) from True.intro) _).trans (by decide)
    · constructor
      · unfold shD
        rw [Maps.atKey_put_other (by simp)]
        rw [Maps.atKey_put_other (by simp)]
        exact Maps.atKey_put_same ⟨_, rfl⟩ (show WideAt.IsKeyLit (.int .i64 5) from True.intro) _ _
      · unfold shD
        rw [Maps.has_put_other (by simp)]
        rw [Maps.has_put_other (by simp)]
        exact (Maps.has_put_same ⟨_, rfl⟩ (show WideAt.IsKeyLit (.int .i64 5) from True.intro) _).trans (by decide)
    · constructor
      · unfold shD
        rw [Maps.atKey_put_other (by simp)]
        exact Maps.atKey_put_same ⟨_, rfl⟩ (show WideAt.IsKeyLit (.int .i64 6) from True.intro) _ _
      · unfold shD
        rw [Maps.has_put_other (by simp)]
        exact (Maps.has_put_same ⟨_, rfl⟩ (show WideAt.IsKeyLit (.int .i64 6) from True.intro) _).trans (by decide)
    · constructor
      · unfold shD
        exact Maps.atKey_put_same ⟨_, rfl⟩ (show WideAt.IsKeyLit (.int .i64 7) from True.intro) _ _
      · unfold shD
        exact (Maps.has_put_same ⟨_, rfl⟩ (show WideAt.IsKeyLit (.int .i64 7) from True.intro) _).trans (by decide)
  · have hn : ∀ j : Int, 1 ≤ j → j ≤ 7 → (Lit.int .i64 k) ≠ (Lit.int .i64 j) := fun j h1 h2 e => by
      injection e with _ e
      omega
    have hs : shV k = .agg #[.string ⟨#[]⟩] := by
      unfold shV shW
      rw [if_neg (by omega), if_neg (by omega), if_neg (by omega), if_neg (by omega), if_neg (by omega), if_neg (by omega)]
      rfl
    constructor
    · unfold shD
      rw [Maps.atKey_put_other (hn 7 (by omega) (by omega)), Maps.atKey_put_other (hn 6 (by omega) (by omega)), Maps.atKey_put_other (hn 5 (by omega) (by omega)), Maps.atKey_put_other (hn 4 (by omega) (by omega)), Maps.atKey_put_other (hn 3 (by omega) (by omega)), Maps.atKey_put_other (hn 2 (by omega) (by omega)), Maps.atKey_put_other (hn 1 (by omega) (by omega)), hs]
      rfl
    · unfold shD
      rw [Maps.has_put_other (hn 7 (by omega) (by omega)), Maps.has_put_other (hn 6 (by omega) (by omega)), Maps.has_put_other (hn 5 (by omega) (by omega)), Maps.has_put_other (hn 4 (by omega) (by omega)), Maps.has_put_other (hn 3 (by omega) (by omega)), Maps.has_put_other (hn 2 (by omega) (by omega)), Maps.has_put_other (hn 1 (by omega) (by omega)), decide_eq_false (by omega)]
      rfl
theorem look_sh {V : World} {b n : Nat} (hm : V.ownsMap Tryz.prog 23 sheldE b n shD) (k : Int) (hk : (Lit.int .i64 k).wf = true) :
    (Instr.lookup 67 (.map (some b)) (.int .i64 k) true).run Tryz.prog V = .ok (.tuple #[shV k, .bool (decide (1 ≤ k ∧ k ≤ 7))]) V ∧ (Instr.lookup 67 (.map (some b)) (.int .i64 k) false).run Tryz.prog V = .ok (shV k) V := by
  have hz : (zeroValue 66).run Tryz.prog V = .ok (.agg #[.string ⟨#[]⟩]) V := by go_simp
  obtain ⟨h1, h2⟩ := sh_at k hk
  constructor
  · obtain ⟨v, ps, hrun, hv⟩ := hm.look_ok skeyedI Tryz.underlying67 hz (zd := .held (.agg #[.string ⟨#[]⟩])) (zp := []) rfl (skeyI k hk)
    rw [h1] at hv
    have e : v = shV k := by
      have := (Prod.mk.inj (Option.some.inj hv)).1
      injection this
    rw [hrun, e, h2]
  · obtain ⟨v, ps, hrun, hv⟩ := hm.lookup skeyedI Tryz.underlying67 hz (zd := .held (.agg #[.string ⟨#[]⟩])) (zp := []) rfl (skeyI k hk)
    rw [h1] at hv
    have e : v = shV k := by
      have := (Prod.mk.inj (Option.some.inj hv)).1
      injection this
    rw [hrun, e]
end Go.Proofs.YtlodoilihminaaaGreatDoor

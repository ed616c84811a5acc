/-
  The contracts of package key, and of its reference.
-/
import Derived.Test.YtojifffenfmklaaKeyN
namespace Go.Proofs.Ytojifffenfmklaa
open Go.ChangeShapes Go.WideShapes Go.ChangeAt Go.RowKit
set_option linter.unusedVariables false

theorem on1_any (b : Nat) (k z : Int) (k0 : 0 ≤ k) (k1 : k ≤ 4294967295) (z0 : 0 ≤ z) (z1 : z ≤ 255) (w : World) (hc : w.cell? ⟨b, 0, none⟩ = some (.int .u32 k)) (hf : w.frozen? ⟨b, 0, none⟩ = false) :
    Calls Try.prog 24 #[.int .u8 z, .pointer (some ⟨b, 0, none⟩)] w fun e w' => e = .returned (.tuple #[]) ∧ w' = w.setCell ⟨b, 0, none⟩ (.int .u32 (step k z)) := by
  have hw := w32_bd (k * 16777619)
  go_enter Try.func24, Try.ntmps24
  go_wp2_with (go_at_call 25; refine (mul_no _ _ (by omega) (by omega) (by omega) (by omega) _).mono ?_; rintro e w' ⟨rfl, rfl⟩)
  go_end0
  exact ⟨rfl, by unfold step w32; congr 2; omega⟩
theorem on_any (k : Int) (A : Option Addr) (n c : Nat) (zs : List Int) (k0 : 0 ≤ k) (k1 : k ≤ 4294967295) (w : World) (hr : Rd w w.heap.size .u8 A n zs) (hb : ∀ i, 0 ≤ nth zs i ∧ nth zs i ≤ 255) (hn : n ≤ maxLen) :
    Calls Try.prog 15 #[.int .u32 k, .slice A n c] w fun e w' => e = .returned (.int .u32 (fnv k zs)) ∧ Below w.heap.size w w' := by
  unfold maxLen at hn
  obtain ⟨hl, hcell⟩ := hr
  have HC := Lib.hid hcell
  have HL := Lib.hid hl
  have HB := Lib.hid hb
  clear hcell hl hb
  go_enter Try.func15, Try.ntmps15
  go_wp2_with fail
  go_loopw [11] (fun i wr => ∃ j : Nat, j ≤ n ∧ i = .int .i64 j ∧ wr = w.alloc (.cells #[.int .u32 (fnv k (zs.take j))] 27)) (fun i _ => n - (intOf i).toNat)
  case atStart => exact ⟨0, Nat.zero_le _, rfl, by simp [fnv]⟩
  case round =>
    obtain ⟨j, hj, rfl, rfl⟩ := hrel
    have hkb := fnv_bd k k0 k1 (zs.take j)
    by_cases hlt : j < n
    · obtain ⟨x, rfl, hx, hcell⟩ := HC.out (by omega)
      have hc : (w.alloc (.cells #[.int .u32 (fnv k (zs.take j))] 27)).cell? (x.add j) = some (.int .u8 (nth zs j)) := by
        rw [World.cell?_alloc_lt w _ _ (by rw [block_add]; exact hx)]; exact hcell j hlt
      have hz := HB.out j
      clear hcell
      have HS : Hid (fnv k (zs.take (j + 1)) = step (fnv k (zs.take j)) (nth zs j)) := Lib.hid (fnv_snoc k zs j (by rw [HL.out]; exact hlt))
      go_wp2_with (go_at_call 24; refine (on1_any _ (fnv k (zs.take j)) _ (by omega) (by omega) (by omega) (by omega) _ (by go_simp) (by go_simp)).mono ?_; rintro e w' ⟨rfl, rfl⟩)
      go_roundw
      case rel => exact ⟨j + 1, by omega, by go_num, by rw [HS.out]⟩
      case measure => simp [intOf]; omega
    · go_wp2_with fail
      go_ret
      have e : zs.take j = zs := List.take_of_length_le (by rw [HL.out]; omega)
      exact ⟨ret_int (by rw [e]), (Below.refl _ _).alloc (Nat.le_refl _) _⟩
theorem rd_one (W : World) (z : Int) (t : TypeId) : Rd (W.alloc (.cells #[.int .u8 z] t)) (W.alloc (.cells #[.int .u8 z] t)).heap.size .u8 (some ⟨W.heap.size, 0, none⟩) 1 [z] := by
  refine ⟨rfl, fun _ => ⟨_, rfl, by simp, fun i hi => ?_⟩⟩
  obtain rfl : i = 0 := by omega
  simp [Addr.add, nth]
theorem step_any (k z : Int) (k0 : 0 ≤ k) (k1 : k ≤ 4294967295) (z0 : 0 ≤ z) (z1 : z ≤ 255) (w : World) :
    Calls Try.prog 14 #[.int .u32 k, .int .u8 z] w fun e w' => e = .returned (.int .u32 (step k z)) ∧ Below w.heap.size w w' := by
  go_enter Try.func14, Try.ntmps14
  go_wp2_with fail
  refine (on_any k _ 1 1 [z] k0 k1 _ (rd_one _ _ _) (fun i => nth_mem (fun z => 0 ≤ z ∧ z ≤ 255) _ (by intro y hy; simp at hy; subst hy; omega) (by omega) i) (by unfold maxLen; omega)).mono ?_
  rintro e w' ⟨rfl, hb⟩
  go_wp2_with fail
  go_ret
  exact ⟨rfl, ((Below.refl _ _).alloc (Nat.le_refl _) _).trans (hb.mono (by simp))⟩
theorem start_any (w : World) : Calls Try.prog 17 #[] w fun e w' => e = .returned (.int .u32 2166136261) ∧ w = w' := by
  go_enter Try.func17, Try.ntmps17
  go_wp2
  go_ret
  exact ⟨rfl, rfl⟩
/-- one list of bytes as a slice has it, and what it reads -/
structure Lst where
  a : Option Addr
  n : Nat
  c : Nat
  l : List Int
def Lst.val (x : Lst) : Value := .slice x.a x.n x.c
/-- a list of lists of bytes, below block B -/
def RdL (w : World) (B : Nat) (A : Option Addr) (n : Nat) (ls : List Lst) : Prop :=
  ls.length = n ∧ (0 < n → ∃ x, A = some x ∧ x.block < B ∧ ∀ i y, ls[i]? = some y → w.cell? (x.add i) = some y.val) ∧ ∀ y ∈ ls, Rd w B .u8 y.a y.n y.l ∧ (∀ i, 0 ≤ nth y.l i ∧ nth y.l i ≤ 255) ∧ y.n ≤ maxLen
theorem RdL.below {w w' : World} {B n : Nat} {A : Option Addr} {ls : List Lst} (h : RdL w B A n ls) (hb : Below B w w') : RdL w' B A n ls :=
  ⟨h.1, fun hn => by
    obtain ⟨x, e, hx, hc⟩ := h.2.1 hn
    exact ⟨x, e, hx, fun i y hi => (hb.cell (by rw [block_add]; exact hx)).trans (hc i y hi)⟩, fun y hy => ⟨(h.2.2 y hy).1.below hb, (h.2.2 y hy).2⟩⟩
def allOf (ls : List Lst) : List Int := ls.flatMap (·.l)
theorem allOf_succ (ls : List Lst) (j : Nat) (y : Lst) (h : ls[j]? = some y) : allOf (ls.take (j + 1)) = allOf (ls.take j) ++ y.l := by
  obtain ⟨hj, rfl⟩ := List.getElem?_eq_some_iff.1 h
  rw [List.take_succ_eq_append_getElem hj]; unfold allOf; rw [List.flatMap_append]; simp
theorem key_of_any (A : Option Addr) (n c : Nat) (ls : List Lst) (w : World) (hr : RdL w w.heap.size A n ls) (hn : n ≤ maxLen) :
    Calls Try.prog 12 #[.slice A n c] w fun e w' => e = .returned (.int .u32 (fnv 2166136261 (allOf ls))) ∧ Below w.heap.size w w' := by
  unfold maxLen at hn
  have HR := Lib.hid hr
  clear hr
  go_enter Try.func12, Try.ntmps12
  go_wp2_with fail
  go_loopw [3, 8] (fun k i wr => ∃ j : Nat, j ≤ n ∧ i = .int .i64 j ∧ k = .int .u32 (fnv 2166136261 (allOf (ls.take j))) ∧ Below w.heap.size w wr) (fun _ i _ => n - (intOf i).toNat)
  case atStart => exact ⟨0, Nat.zero_le _, rfl, by simp [fnv, allOf], Below.refl _ _⟩
  case round =>
    obtain ⟨j, hj, rfl, rfl, hb⟩ := hrel
    have hkb := fnv_bd 2166136261 (by omega) (by omega) (allOf (ls.take j))
    by_cases hlt : j < n
    · obtain ⟨hl, hcell, hall⟩ := HR.out.below hb
      obtain ⟨x, rfl, hx, hcell⟩ := hcell (by omega)
      have hj' : j < ls.length := by omega
      have hc := hcell j ls[j] (List.getElem?_eq_getElem hj')
      obtain ⟨hy, hyb, hyn⟩ := hall ls[j] (List.getElem_mem hj')
      have HS := Lib.hid (allOf_succ ls j ls[j] (List.getElem?_eq_getElem hj'))
      clear hcell hall
      generalize ls[j] = y at *
      unfold Lst.val at hc
      have HY := Lib.hid hy
      have HYB := Lib.hid hyb
      clear hy hyb
      go_wp2_with fail
      refine (on_any _ y.a y.n y.c y.l hkb.1 hkb.2 _ (HY.out.more hb.size) HYB.out hyn).mono ?_
      rintro e w' ⟨rfl, hb2⟩
      have hb3 : Below w.heap.size w w' := hb.trans (hb2.mono hb.size)
      clear hb2
      go_wp2_with fail
      go_roundw
      case rel => exact ⟨j + 1, by omega, by go_num, by rw [HS.out, fnv_append], hb3⟩
      case measure => simp [intOf]; omega
    · go_wp2_with fail
      go_ret
      have e : ls.take j = ls := List.take_of_length_le (by rw [HR.out.1]; omega)
      exact ⟨ret_int (by rw [e]), hb⟩
end Go.Proofs.Ytojifffenfmklaa

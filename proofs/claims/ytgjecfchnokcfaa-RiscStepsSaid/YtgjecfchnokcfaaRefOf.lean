/-
  The contract of the document's answer for words, read: Of of layer 3's reference tells what package isa's Of tells.
-/
import Derived.Test.YtgjecfchnokcfaaMayOf
import Derived.Test.YtgjecfchnokcfaaDec
import Derived.KernelRfl
namespace Go.Proofs.Ytgjecfchnokcfaa
open Go.ChangeShapes Go.WideShapes Go.ChangeAt Go.RowKit
set_option linter.unusedVariables false
set_option linter.unusedSimpArgs false
noncomputable section
namespace rof
def bI (n : Nat) : Ev.SB := .cmp .eql (.atom n) (.lit 1)
def c0 : Ev.AV := .agg [.int .i64 (.lit 0), .bool (bI 1), .bool (.lit false), .int .i64 (.atom 3), .int .i64 (.atom 4), .int .i64 (.atom 7), .int .i64 (.atom 5), .int .i64 (.lit 0), .int .i64 (.lit 0), .int .i64 (.lit 0), .int .i64 (.lit 0)]
def c1 : Ev.AV := .agg [.int .i64 (.lit 1), .bool (bI 1), .bool (bI 2), .int .i64 (.atom 3), .int .i64 (.atom 4), .int .i64 (.lit 0), .int .i64 (.atom 5), .int .i64 (.atom 8), .int .i64 (.lit 0), .int .i64 (.lit 0), .int .i64 (.lit 0)]
def c2 : Ev.AV := .agg [.int .i64 (.lit 2), .bool (.lit false), .bool (bI 2), .int .i64 (.atom 3), .int .i64 (.atom 4), .int .i64 (.lit 0), .int .i64 (.lit 0), .int .i64 (.lit 0), .int .i64 (.atom 11), .int .i64 (.lit 0), .int .i64 (.lit 0)]
def c3 : Ev.AV := .agg [.int .i64 (.lit 3), .bool (.lit false), .bool (bI 2), .int .i64 (.atom 3), .int .i64 (.atom 4), .int .i64 (.lit 0), .int .i64 (.lit 0), .int .i64 (.lit 0), .int .i64 (.atom 11), .int .i64 (.lit 0), .int .i64 (.lit 0)]
def c4 : Ev.AV := .agg [.int .i64 (.lit 4), .bool (.lit false), .bool (bI 2), .int .i64 (.lit 0), .int .i64 (.lit 0), .int .i64 (.lit 0), .int .i64 (.lit 0), .int .i64 (.lit 0), .int .i64 (.atom 12), .int .i64 (.atom 3), .int .i64 (.lit 0)]
def c5 : Ev.AV := .agg [.int .i64 (.lit 5), .bool (.lit false), .bool (bI 2), .int .i64 (.lit 0), .int .i64 (.lit 0), .int .i64 (.atom 7), .int .i64 (.lit 0), .int .i64 (.lit 0), .int .i64 (.lit 0), .int .i64 (.atom 3), .int .i64 (.lit 0)]
def c6 : Ev.AV := .agg [.int .i64 (.lit 6), .bool (.lit false), .bool (.lit false), .int .i64 (.lit 0), .int .i64 (.lit 0), .int .i64 (.lit 0), .int .i64 (.lit 0), .int .i64 (.lit 0), .int .i64 (.lit 0), .int .i64 (.atom 3), .int .i64 (.atom 10)]
/-- the fields of a word -/
def fb (x : Int) (f s : Nat) : Int := x / 2 ^ f % 2 ^ s
def bE (f s a : Nat) : Ev.Ent := ⟨52, [.int .u32 (.atom 0), .int .i64 (.lit (.ofNat f)), .int .i64 (.lit (.ofNat s))], .int .i64 (.atom a)⟩
def orc : List Ev.Ent := [bE 29 1 1, bE 28 1 2, bE 24 4 3, bE 20 4 4, bE 16 4 5, bE 0 20 6, bE 0 4 7, bE 0 16 8, bE 0 24 9, bE 4 8 10, ⟨53, [.int .i64 (.atom 6), .int .i64 (.lit 20)], .int .i64 (.atom 11)⟩, ⟨53, [.int .i64 (.atom 9), .int .i64 (.lit 24)], .int .i64 (.atom 12)⟩,
  ⟨21, [c0], .bool (.atom 30)⟩, ⟨21, [c1], .bool (.atom 31)⟩, ⟨21, [c2], .bool (.atom 32)⟩, ⟨21, [c3], .bool (.atom 33)⟩, ⟨21, [c4], .bool (.atom 34)⟩, ⟨21, [c5], .bool (.atom 35)⟩, ⟨21, [c6], .bool (.atom 36)⟩,
  ⟨22, [c0], .int .u32 (.atom 40)⟩, ⟨22, [c1], .int .u32 (.atom 41)⟩, ⟨22, [c2], .int .u32 (.atom 42)⟩, ⟨22, [c3], .int .u32 (.atom 43)⟩, ⟨22, [c4], .int .u32 (.atom 44)⟩, ⟨22, [c5], .int .u32 (.atom 45)⟩, ⟨22, [c6], .int .u32 (.atom 46)⟩]
def is (k : Nat) : Ev.SB := .ite (.atom (30 + k)) (.cmp .eql (.atom (40 + k)) (.atom 0)) (.lit false)
def i0 : Ev.SB := .ite (.atom 30) (.cmp .eql (.atom 40) (.atom 0)) (.lit false)
def i1 : Ev.SB := .ite (.atom 31) (.cmp .eql (.atom 41) (.atom 0)) (.lit false)
def i2 : Ev.SB := .ite (.atom 32) (.cmp .eql (.atom 42) (.atom 0)) (.lit false)
def i3 : Ev.SB := .ite (.atom 33) (.cmp .eql (.atom 43) (.atom 0)) (.lit false)
def i4 : Ev.SB := .ite (.atom 34) (.cmp .eql (.atom 44) (.atom 0)) (.lit false)
def i5 : Ev.SB := .ite (.atom 35) (.cmp .eql (.atom 45) (.atom 0)) (.lit false)
def i6 : Ev.SB := .ite (.atom 36) (.cmp .eql (.atom 46) (.atom 0)) (.lit false)
def none_ : Ev.AV := .agg [.int .i64 (.lit 0), .bool (.lit false), .bool (.lit false), .int .i64 (.lit 0), .int .i64 (.lit 0), .int .i64 (.lit 0), .int .i64 (.lit 0), .int .i64 (.lit 0), .int .i64 (.lit 0), .int .i64 (.lit 0), .int .i64 (.lit 0)]
theorem run0 (φ : Ev.Val → Prop) : Ev.outV ((Ev.evO Try.prog ⟨[(i0, true)], φ⟩ (Ev.orcL orc) 1000 30 (.fn 33) [.int .u32 (.atom 0)]).go .e 0) = some (.tuple [c0, .bool (.lit true)]) := by kernel_rfl
theorem run1 (φ : Ev.Val → Prop) : Ev.outV ((Ev.evO Try.prog ⟨[(i1, true), (i0, false)], φ⟩ (Ev.orcL orc) 1000 30 (.fn 33) [.int .u32 (.atom 0)]).go .e 0) = some (.tuple [c1, .bool (.lit true)]) := by kernel_rfl
theorem run2 (φ : Ev.Val → Prop) : Ev.outV ((Ev.evO Try.prog ⟨[(i2, true), (i1, false), (i0, false)], φ⟩ (Ev.orcL orc) 1000 30 (.fn 33) [.int .u32 (.atom 0)]).go .e 0) = some (.tuple [c2, .bool (.lit true)]) := by kernel_rfl
theorem run3 (φ : Ev.Val → Prop) : Ev.outV ((Ev.evO Try.prog ⟨[(i3, true), (i2, false), (i1, false), (i0, false)], φ⟩ (Ev.orcL orc) 1000 30 (.fn 33) [.int .u32 (.atom 0)]).go .e 0) = some (.tuple [c3, .bool (.lit true)]) := by kernel_rfl
theorem run4 (φ : Ev.Val → Prop) : Ev.outV ((Ev.evO Try.prog ⟨[(i4, true), (i3, false), (i2, false), (i1, false), (i0, false)], φ⟩ (Ev.orcL orc) 1000 30 (.fn 33) [.int .u32 (.atom 0)]).go .e 0) = some (.tuple [c4, .bool (.lit true)]) := by kernel_rfl
theorem run5 (φ : Ev.Val → Prop) : Ev.outV ((Ev.evO Try.prog ⟨[(i5, true), (i4, false), (i3, false), (i2, false), (i1, false), (i0, false)], φ⟩ (Ev.orcL orc) 1000 30 (.fn 33) [.int .u32 (.atom 0)]).go .e 0) = some (.tuple [c5, .bool (.lit true)]) := by kernel_rfl
theorem run6 (φ : Ev.Val → Prop) : Ev.outV ((Ev.evO Try.prog ⟨[(i6, true), (i5, false), (i4, false), (i3, false), (i2, false), (i1, false), (i0, false)], φ⟩ (Ev.orcL orc) 1000 30 (.fn 33) [.int .u32 (.atom 0)]).go .e 0) = some (.tuple [c6, .bool (.lit true)]) := by kernel_rfl
theorem run7 (φ : Ev.Val → Prop) : Ev.outV ((Ev.evO Try.prog ⟨[(i6, false), (i5, false), (i4, false), (i3, false), (i2, false), (i1, false), (i0, false)], φ⟩ (Ev.orcL orc) 1000 30 (.fn 33) [.int .u32 (.atom 0)]).go .e 0) = some (.tuple [none_, .bool (.lit false)]) := by kernel_rfl
def cand (x : Int) : Nat → Ins
  | 0 => ⟨0, fb x 29 1 == 1, false, fb x 24 4, fb x 20 4, fb x 0 4, fb x 16 4, 0, 0, 0, 0⟩
  | 1 => ⟨1, fb x 29 1 == 1, fb x 28 1 == 1, fb x 24 4, fb x 20 4, 0, fb x 16 4, fb x 0 16, 0, 0, 0⟩
  | 2 => ⟨2, false, fb x 28 1 == 1, fb x 24 4, fb x 20 4, 0, 0, 0, sg (fb x 0 20) 524288, 0, 0⟩
  | 3 => ⟨3, false, fb x 28 1 == 1, fb x 24 4, fb x 20 4, 0, 0, 0, sg (fb x 0 20) 524288, 0, 0⟩
  | 4 => ⟨4, false, fb x 28 1 == 1, 0, 0, 0, 0, 0, sg (fb x 0 24) 8388608, fb x 24 4, 0⟩
  | 5 => ⟨5, false, fb x 28 1 == 1, 0, 0, fb x 0 4, 0, 0, 0, fb x 24 4, 0⟩
  | _ => ⟨6, false, false, 0, 0, 0, 0, 0, 0, fb x 24 4, fb x 4 8⟩
def wdOf (x : Int) : Nat → Int
  | 0 => wd01 0 (fb x 29 1 == 1) false (fb x 24 4) (fb x 20 4) (fb x 16 4) (0 + fb x 0 4)
  | 1 => wd01 1 (fb x 29 1 == 1) (fb x 28 1 == 1) (fb x 24 4) (fb x 20 4) (fb x 16 4) (fb x 0 16 + 0)
  | 2 => wd23 0 (fb x 28 1 == 1) (fb x 24 4) (fb x 20 4) (sg (fb x 0 20) 524288)
  | 3 => wd23 1 (fb x 28 1 == 1) (fb x 24 4) (fb x 20 4) (sg (fb x 0 20) 524288)
  | 4 => wd4 (fb x 28 1 == 1) (fb x 24 4) (sg (fb x 0 24) 8388608)
  | 5 => wd5 (fb x 28 1 == 1) (fb x 24 4) (fb x 0 4)
  | _ => wd6 (fb x 24 4) (fb x 4 8)
def val (x : Int) : Ev.Val := Ev.Val.of (fun k => if k = 0 then x else if k = 1 then fb x 29 1 else if k = 2 then fb x 28 1 else if k = 3 then fb x 24 4 else if k = 4 then fb x 20 4 else if k = 5 then fb x 16 4 else if k = 6 then fb x 0 20 else if k = 7 then fb x 0 4 else if k = 8 then fb x 0 16 else if k = 9 then fb x 0 24 else if k = 10 then fb x 4 8 else if k = 11 then sg (fb x 0 20) 524288 else if k = 12 then sg (fb x 0 24) 8388608 else wdOf x (k - 40)) (fun k => mayE (cand x (k - 30)))
theorem fb_bd (x : Int) (f s : Nat) : 0 ≤ fb x f s ∧ fb x f s < 2 ^ s := ⟨Int.emod_nonneg _ (by have : (0 : Int) < 2 ^ s := Int.pow_pos (by omega); omega), Int.emod_lt_of_pos _ (Int.pow_pos (by omega))⟩
theorem bits_29_1 (x : Int) (x0 : 0 ≤ x) (x1 : x ≤ 4294967295) (w : World) : Calls Try.prog 52 #[.int .u32 x, .int .i64 29, .int .i64 1] w fun e w' => e = .returned (.int .i64 (fb x 29 1)) ∧ Below w.heap.size w w' :=
  (Ev.calls_of (A := Ev.Ass.none) (args := [.int .u32 (.atom 0), .int .i64 (.lit 29), .int .i64 (.lit 1)]) (v := .int .i64 (.wrap .i64 (.bin .rem .u32 (.bin .shr .u32 (.atom 0) (.lit 29)) (.lit 2)))) (Ev.noOrc_ok _ _) 1000 30 (by kernel_rfl) (Ev.Val.of (fun _ => x) fun _ => false) (Ev.Ass.has_none _) [.int .u32 x, .int .i64 29, .int .i64 1] w ⟨trivial, Nat.zero_le _⟩ ⟨rfl, rfl, rfl, trivial⟩).mono fun e w' ⟨y, μ, he, hy, hb⟩ => ⟨by
    rw [he]
    refine congrArg Ending.returned (Eq.trans hy (congrArg (Value.int .i64) ?_))
    show IntKind.i64.wrap ((x.fdiv (2 ^ min (Int.toNat 29) IntKind.u32.bits)).tmod 2) = _
    have e1 : x.fdiv (2 ^ min (Int.toNat 29) IntKind.u32.bits) = x / 536870912 := by
      show x.fdiv (536870912 : Int) = _
      rw [Int.fdiv_eq_ediv_of_nonneg _ (by omega)]
    rw [e1, Int.tmod_eq_emod_of_nonneg (Int.ediv_nonneg x0 (by omega))]
    show IntKind.i64.wrap (x / 536870912 % 2) = x / 536870912 % 2
    exact IntWalk.i64_in _ ⟨by omega, by omega⟩, hb⟩
theorem bits_28_1 (x : Int) (x0 : 0 ≤ x) (x1 : x ≤ 4294967295) (w : World) : Calls Try.prog 52 #[.int .u32 x, .int .i64 28, .int .i64 1] w fun e w' => e = .returned (.int .i64 (fb x 28 1)) ∧ Below w.heap.size w w' :=
  (Ev.calls_of (A := Ev.Ass.none) (args := [.int .u32 (.atom 0), .int .i64 (.lit 28), .int .i64 (.lit 1)]) (v := .int .i64 (.wrap .i64 (.bin .rem .u32 (.bin .shr .u32 (.atom 0) (.lit 28)) (.lit 2)))) (Ev.noOrc_ok _ _) 1000 30 (by kernel_rfl) (Ev.Val.of (fun _ => x) fun _ => false) (Ev.Ass.has_none _) [.int .u32 x, .int .i64 28, .int .i64 1] w ⟨trivial, Nat.zero_le _⟩ ⟨rfl, rfl, rfl, trivial⟩).mono fun e w' ⟨y, μ, he, hy, hb⟩ => ⟨by
    rw [he]
    refine congrArg Ending.returned (Eq.trans hy (congrArg (Value.int .i64) ?_))
    show IntKind.i64.wrap ((x.fdiv (2 ^ min (Int.toNat 28) IntKind.u32.bits)).tmod 2) = _
    have e1 : x.fdiv (2 ^ min (Int.toNat 28) IntKind.u32.bits) = x / 268435456 := by
      show x.fdiv (268435456 : Int) = _
      rw [Int.fdiv_eq_ediv_of_nonneg _ (by omega)]
    rw [e1, Int.tmod_eq_emod_of_nonneg (Int.ediv_nonneg x0 (by omega))]
    show IntKind.i64.wrap (x / 268435456 % 2) = x / 268435456 % 2
    exact IntWalk.i64_in _ ⟨by omega, by omega⟩, hb⟩
theorem bits_24_4 (x : Int) (x0 : 0 ≤ x) (x1 : x ≤ 4294967295) (w : World) : Calls Try.prog 52 #[.int .u32 x, .int .i64 24, .int .i64 4] w fun e w' => e = .returned (.int .i64 (fb x 24 4)) ∧ Below w.heap.size w w' :=
  (Ev.calls_of (A := Ev.Ass.none) (args := [.int .u32 (.atom 0), .int .i64 (.lit 24), .int .i64 (.lit 4)]) (v := .int .i64 (.wrap .i64 (.bin .rem .u32 (.bin .shr .u32 (.atom 0) (.lit 24)) (.lit 16)))) (Ev.noOrc_ok _ _) 1000 30 (by kernel_rfl) (Ev.Val.of (fun _ => x) fun _ => false) (Ev.Ass.has_none _) [.int .u32 x, .int .i64 24, .int .i64 4] w ⟨trivial, Nat.zero_le _⟩ ⟨rfl, rfl, rfl, trivial⟩).mono fun e w' ⟨y, μ, he, hy, hb⟩ => ⟨by
    rw [he]
    refine congrArg Ending.returned (Eq.trans hy (congrArg (Value.int .i64) ?_))
    show IntKind.i64.wrap ((x.fdiv (2 ^ min (Int.toNat 24) IntKind.u32.bits)).tmod 16) = _
    have e1 : x.fdiv (2 ^ min (Int.toNat 24) IntKind.u32.bits) = x / 16777216 := by
      show x.fdiv (16777216 : Int) = _
      rw [Int.fdiv_eq_ediv_of_nonneg _ (by omega)]
    rw [e1, Int.tmod_eq_emod_of_nonneg (Int.ediv_nonneg x0 (by omega))]
    show IntKind.i64.wrap (x / 16777216 % 16) = x / 16777216 % 16
    exact IntWalk.i64_in _ ⟨by omega, by omega⟩, hb⟩
theorem bits_20_4 (x : Int) (x0 : 0 ≤ x) (x1 : x ≤ 4294967295) (w : World) : Calls Try.prog 52 #[.int .u32 x, .int .i64 20, .int .i64 4] w fun e w' => e = .returned (.int .i64 (fb x 20 4)) ∧ Below w.heap.size w w' :=
  (Ev.calls_of (A := Ev.Ass.none) (args := [.int .u32 (.atom 0), .int .i64 (.lit 20), .int .i64 (.lit 4)]) (v := .int .i64 (.wrap .i64 (.bin .rem .u32 (.bin .shr .u32 (.atom 0) (.lit 20)) (.lit 16)))) (Ev.noOrc_ok _ _) 1000 30 (by kernel_rfl) (Ev.Val.of (fun _ => x) fun _ => false) (Ev.Ass.has_none _) [.int .u32 x, .int .i64 20, .int .i64 4] w ⟨trivial, Nat.zero_le _⟩ ⟨rfl, rfl, rfl, trivial⟩).mono fun e w' ⟨y, μ, he, hy, hb⟩ => ⟨by
    rw [he]
    refine congrArg Ending.returned (Eq.trans hy (congrArg (Value.int .i64) ?_))
    show IntKind.i64.wrap ((x.fdiv (2 ^ min (Int.toNat 20) IntKind.u32.bits)).tmod 16) = _
    have e1 : x.fdiv (2 ^ min (Int.toNat 20) IntKind.u32.bits) = x / 1048576 := by
      show x.fdiv (1048576 : Int) = _
      rw [Int.fdiv_eq_ediv_of_nonneg _ (by omega)]
    rw [e1, Int.tmod_eq_emod_of_nonneg (Int.ediv_nonneg x0 (by omega))]
    show IntKind.i64.wrap (x / 1048576 % 16) = x / 1048576 % 16
    exact IntWalk.i64_in _ ⟨by omega, by omega⟩, hb⟩
theorem bits_16_4 (x : Int) (x0 : 0 ≤ x) (x1 : x ≤ 4294967295) (w : World) : Calls Try.prog 52 #[.int .u32 x, .int .i64 16, .int .i64 4] w fun e w' => e = .returned (.int .i64 (fb x 16 4)) ∧ Below w.heap.size w w' :=
  (Ev.calls_of (A := Ev.Ass.none) (args := [.int .u32 (.atom 0), .int .i64 (.lit 16), .int .i64 (.lit 4)]) (v := .int .i64 (.wrap .i64 (.bin .rem .u32 (.bin .shr .u32 (.atom 0) (.lit 16)) (.lit 16)))) (Ev.noOrc_ok _ _) 1000 30 (by kernel_rfl) (Ev.Val.of (fun _ => x) fun _ => false) (Ev.Ass.has_none _) [.int .u32 x, .int .i64 16, .int .i64 4] w ⟨trivial, Nat.zero_le _⟩ ⟨rfl, rfl, rfl, trivial⟩).mono fun e w' ⟨y, μ, he, hy, hb⟩ => ⟨by
    rw [he]
    refine congrArg Ending.returned (Eq.trans hy (congrArg (Value.int .i64) ?_))
    show IntKind.i64.wrap ((x.fdiv (2 ^ min (Int.toNat 16) IntKind.u32.bits)).tmod 16) = _
    have e1 : x.fdiv (2 ^ min (Int.toNat 16) IntKind.u32.bits) = x / 65536 := by
      show x.fdiv (65536 : Int) = _
      rw [Int.fdiv_eq_ediv_of_nonneg _ (by omega)]
    rw [e1, Int.tmod_eq_emod_of_nonneg (Int.ediv_nonneg x0 (by omega))]
    show IntKind.i64.wrap (x / 65536 % 16) = x / 65536 % 16
    exact IntWalk.i64_in _ ⟨by omega, by omega⟩, hb⟩
theorem bits_0_20 (x : Int) (x0 : 0 ≤ x) (x1 : x ≤ 4294967295) (w : World) : Calls Try.prog 52 #[.int .u32 x, .int .i64 0, .int .i64 20] w fun e w' => e = .returned (.int .i64 (fb x 0 20)) ∧ Below w.heap.size w w' :=
  (Ev.calls_of (A := Ev.Ass.none) (args := [.int .u32 (.atom 0), .int .i64 (.lit 0), .int .i64 (.lit 20)]) (v := .int .i64 (.wrap .i64 (.bin .rem .u32 (.bin .shr .u32 (.atom 0) (.lit 0)) (.lit 1048576)))) (Ev.noOrc_ok _ _) 1000 30 (by kernel_rfl) (Ev.Val.of (fun _ => x) fun _ => false) (Ev.Ass.has_none _) [.int .u32 x, .int .i64 0, .int .i64 20] w ⟨trivial, Nat.zero_le _⟩ ⟨rfl, rfl, rfl, trivial⟩).mono fun e w' ⟨y, μ, he, hy, hb⟩ => ⟨by
    rw [he]
    refine congrArg Ending.returned (Eq.trans hy (congrArg (Value.int .i64) ?_))
    show IntKind.i64.wrap ((x.fdiv (2 ^ min (Int.toNat 0) IntKind.u32.bits)).tmod 1048576) = _
    have e1 : x.fdiv (2 ^ min (Int.toNat 0) IntKind.u32.bits) = x / 1 := by
      show x.fdiv (1 : Int) = _
      rw [Int.fdiv_eq_ediv_of_nonneg _ (by omega)]
    rw [e1, Int.tmod_eq_emod_of_nonneg (Int.ediv_nonneg x0 (by omega))]
    show IntKind.i64.wrap (x / 1 % 1048576) = x / 1 % 1048576
    exact IntWalk.i64_in _ ⟨by omega, by omega⟩, hb⟩
theorem bits_0_4 (x : Int) (x0 : 0 ≤ x) (x1 : x ≤ 4294967295) (w : World) : Calls Try.prog 52 #[.int .u32 x, .int .i64 0, .int .i64 4] w fun e w' => e = .returned (.int .i64 (fb x 0 4)) ∧ Below w.heap.size w w' :=
  (Ev.calls_of (A := Ev.Ass.none) (args := [.int .u32 (.atom 0), .int .i64 (.lit 0), .int .i64 (.lit 4)]) (v := .int .i64 (.wrap .i64 (.bin .rem .u32 (.bin .shr .u32 (.atom 0) (.lit 0)) (.lit 16)))) (Ev.noOrc_ok _ _) 1000 30 (by kernel_rfl) (Ev.Val.of (fun _ => x) fun _ => false) (Ev.Ass.has_none _) [.int .u32 x, .int .i64 0, .int .i64 4] w ⟨trivial, Nat.zero_le _⟩ ⟨rfl, rfl, rfl, trivial⟩).mono fun e w' ⟨y, μ, he, hy, hb⟩ => ⟨by
    rw [he]
    refine congrArg Ending.returned (Eq.trans hy (congrArg (Value.int .i64) ?_))
    show IntKind.i64.wrap ((x.fdiv (2 ^ min (Int.toNat 0) IntKind.u32.bits)).tmod 16) = _
    have e1 : x.fdiv (2 ^ min (Int.toNat 0) IntKind.u32.bits) = x / 1 := by
      show x.fdiv (1 : Int) = _
      rw [Int.fdiv_eq_ediv_of_nonneg _ (by omega)]
    rw [e1, Int.tmod_eq_emod_of_nonneg (Int.ediv_nonneg x0 (by omega))]
    show IntKind.i64.wrap (x / 1 % 16) = x / 1 % 16
    exact IntWalk.i64_in _ ⟨by omega, by omega⟩, hb⟩
theorem bits_0_16 (x : Int) (x0 : 0 ≤ x) (x1 : x ≤ 4294967295) (w : World) : Calls Try.prog 52 #[.int .u32 x, .int .i64 0, .int .i64 16] w fun e w' => e = .returned (.int .i64 (fb x 0 16)) ∧ Below w.heap.size w w' :=
  (Ev.calls_of (A := Ev.Ass.none) (args := [.int .u32 (.atom 0), .int .i64 (.lit 0), .int .i64 (.lit 16)]) (v := .int .i64 (.wrap .i64 (.bin .rem .u32 (.bin .shr .u32 (.atom 0) (.lit 0)) (.lit 65536)))) (Ev.noOrc_ok _ _) 1000 30 (by kernel_rfl) (Ev.Val.of (fun _ => x) fun _ => false) (Ev.Ass.has_none _) [.int .u32 x, .int .i64 0, .int .i64 16] w ⟨trivial, Nat.zero_le _⟩ ⟨rfl, rfl, rfl, trivial⟩).mono fun e w' ⟨y, μ, he, hy, hb⟩ => ⟨by
    rw [he]
    refine congrArg Ending.returned (Eq.trans hy (congrArg (Value.int .i64) ?_))
    show IntKind.i64.wrap ((x.fdiv (2 ^ min (Int.toNat 0) IntKind.u32.bits)).tmod 65536) = _
    have e1 : x.fdiv (2 ^ min (Int.toNat 0) IntKind.u32.bits) = x / 1 := by
      show x.fdiv (1 : Int) = _
      rw [Int.fdiv_eq_ediv_of_nonneg _ (by omega)]
    rw [e1, Int.tmod_eq_emod_of_nonneg (Int.ediv_nonneg x0 (by omega))]
    show IntKind.i64.wrap (x / 1 % 65536) = x / 1 % 65536
    exact IntWalk.i64_in _ ⟨by omega, by omega⟩, hb⟩
theorem bits_0_24 (x : Int) (x0 : 0 ≤ x) (x1 : x ≤ 4294967295) (w : World) : Calls Try.prog 52 #[.int .u32 x, .int .i64 0, .int .i64 24] w fun e w' => e = .returned (.int .i64 (fb x 0 24)) ∧ Below w.heap.size w w' :=
  (Ev.calls_of (A := Ev.Ass.none) (args := [.int .u32 (.atom 0), .int .i64 (.lit 0), .int .i64 (.lit 24)]) (v := .int .i64 (.wrap .i64 (.bin .rem .u32 (.bin .shr .u32 (.atom 0) (.lit 0)) (.lit 16777216)))) (Ev.noOrc_ok _ _) 1000 30 (by kernel_rfl) (Ev.Val.of (fun _ => x) fun _ => false) (Ev.Ass.has_none _) [.int .u32 x, .int .i64 0, .int .i64 24] w ⟨trivial, Nat.zero_le _⟩ ⟨rfl, rfl, rfl, trivial⟩).mono fun e w' ⟨y, μ, he, hy, hb⟩ => ⟨by
    rw [he]
    refine congrArg Ending.returned (Eq.trans hy (congrArg (Value.int .i64) ?_))
    show IntKind.i64.wrap ((x.fdiv (2 ^ min (Int.toNat 0) IntKind.u32.bits)).tmod 16777216) = _
    have e1 : x.fdiv (2 ^ min (Int.toNat 0) IntKind.u32.bits) = x / 1 := by
      show x.fdiv (1 : Int) = _
      rw [Int.fdiv_eq_ediv_of_nonneg _ (by omega)]
    rw [e1, Int.tmod_eq_emod_of_nonneg (Int.ediv_nonneg x0 (by omega))]
    show IntKind.i64.wrap (x / 1 % 16777216) = x / 1 % 16777216
    exact IntWalk.i64_in _ ⟨by omega, by omega⟩, hb⟩
theorem bits_4_8 (x : Int) (x0 : 0 ≤ x) (x1 : x ≤ 4294967295) (w : World) : Calls Try.prog 52 #[.int .u32 x, .int .i64 4, .int .i64 8] w fun e w' => e = .returned (.int .i64 (fb x 4 8)) ∧ Below w.heap.size w w' :=
  (Ev.calls_of (A := Ev.Ass.none) (args := [.int .u32 (.atom 0), .int .i64 (.lit 4), .int .i64 (.lit 8)]) (v := .int .i64 (.wrap .i64 (.bin .rem .u32 (.bin .shr .u32 (.atom 0) (.lit 4)) (.lit 256)))) (Ev.noOrc_ok _ _) 1000 30 (by kernel_rfl) (Ev.Val.of (fun _ => x) fun _ => false) (Ev.Ass.has_none _) [.int .u32 x, .int .i64 4, .int .i64 8] w ⟨trivial, Nat.zero_le _⟩ ⟨rfl, rfl, rfl, trivial⟩).mono fun e w' ⟨y, μ, he, hy, hb⟩ => ⟨by
    rw [he]
    refine congrArg Ending.returned (Eq.trans hy (congrArg (Value.int .i64) ?_))
    show IntKind.i64.wrap ((x.fdiv (2 ^ min (Int.toNat 4) IntKind.u32.bits)).tmod 256) = _
    have e1 : x.fdiv (2 ^ min (Int.toNat 4) IntKind.u32.bits) = x / 16 := by
      show x.fdiv (16 : Int) = _
      rw [Int.fdiv_eq_ediv_of_nonneg _ (by omega)]
    rw [e1, Int.tmod_eq_emod_of_nonneg (Int.ediv_nonneg x0 (by omega))]
    show IntKind.i64.wrap (x / 16 % 256) = x / 16 % 256
    exact IntWalk.i64_in _ ⟨by omega, by omega⟩, hb⟩
theorem signed_20 (n : Int) (n0 : 0 ≤ n) (n1 : n < 1048576) (w : World) : Calls Try.prog 53 #[.int .i64 n, .int .i64 20] w fun e w' => e = .returned (.int .i64 (sg n 524288)) ∧ Below w.heap.size w w' := by
  by_cases h : 524288 ≤ n
  · refine (Ev.calls_of (A := Ev.Ass.none.add (.cmp .geq (.atom 0) (.lit 524288), true)) (args := [.int .i64 (.atom 0), .int .i64 (.lit 20)]) (v := .int .i64 (.bin .sub .i64 (.atom 0) (.lit 1048576))) (Ev.noOrc_ok _ _) 1000 30 (by kernel_rfl) (Ev.Val.of (fun _ => n) fun _ => false) ((Ev.Ass.has_none _).add (decide_eq_true h)) [.int .i64 n, .int .i64 20] w ⟨trivial, Nat.zero_le _⟩ ⟨rfl, rfl, trivial⟩).mono fun e w' ⟨y, μ, he, hy, hb⟩ => ⟨?_, hb⟩
    rw [he]
    refine congrArg Ending.returned (Eq.trans hy (congrArg (Value.int .i64) ?_))
    show IntKind.i64.wrap (n - 1048576) = _
    rw [IntWalk.i64_in _ ⟨by omega, by omega⟩]
    unfold sg
    rw [if_pos h]; omega
  · refine (Ev.calls_of (A := Ev.Ass.none.add (.cmp .geq (.atom 0) (.lit 524288), false)) (args := [.int .i64 (.atom 0), .int .i64 (.lit 20)]) (v := .int .i64 (.atom 0)) (Ev.noOrc_ok _ _) 1000 30 (by kernel_rfl) (Ev.Val.of (fun _ => n) fun _ => false) ((Ev.Ass.has_none _).add (decide_eq_false h)) [.int .i64 n, .int .i64 20] w ⟨trivial, Nat.zero_le _⟩ ⟨rfl, rfl, trivial⟩).mono fun e w' ⟨y, μ, he, hy, hb⟩ => ⟨?_, hb⟩
    rw [he]
    refine congrArg Ending.returned (Eq.trans hy (congrArg (Value.int .i64) ?_))
    show n = sg n _
    unfold sg
    rw [if_neg h]
theorem signed_24 (n : Int) (n0 : 0 ≤ n) (n1 : n < 16777216) (w : World) : Calls Try.prog 53 #[.int .i64 n, .int .i64 24] w fun e w' => e = .returned (.int .i64 (sg n 8388608)) ∧ Below w.heap.size w w' := by
  by_cases h : 8388608 ≤ n
  · refine (Ev.calls_of (A := Ev.Ass.none.add (.cmp .geq (.atom 0) (.lit 8388608), true)) (args := [.int .i64 (.atom 0), .int .i64 (.lit 24)]) (v := .int .i64 (.bin .sub .i64 (.atom 0) (.lit 16777216))) (Ev.noOrc_ok _ _) 1000 30 (by kernel_rfl) (Ev.Val.of (fun _ => n) fun _ => false) ((Ev.Ass.has_none _).add (decide_eq_true h)) [.int .i64 n, .int .i64 24] w ⟨trivial, Nat.zero_le _⟩ ⟨rfl, rfl, trivial⟩).mono fun e w' ⟨y, μ, he, hy, hb⟩ => ⟨?_, hb⟩
    rw [he]
    refine congrArg Ending.returned (Eq.trans hy (congrArg (Value.int .i64) ?_))
    show IntKind.i64.wrap (n - 16777216) = _
    rw [IntWalk.i64_in _ ⟨by omega, by omega⟩]
    unfold sg
    rw [if_pos h]; omega
  · refine (Ev.calls_of (A := Ev.Ass.none.add (.cmp .geq (.atom 0) (.lit 8388608), false)) (args := [.int .i64 (.atom 0), .int .i64 (.lit 24)]) (v := .int .i64 (.atom 0)) (Ev.noOrc_ok _ _) 1000 30 (by kernel_rfl) (Ev.Val.of (fun _ => n) fun _ => false) ((Ev.Ass.has_none _).add (decide_eq_false h)) [.int .i64 n, .int .i64 24] w ⟨trivial, Nat.zero_le _⟩ ⟨rfl, rfl, trivial⟩).mono fun e w' ⟨y, μ, he, hy, hb⟩ => ⟨?_, hb⟩
    rw [he]
    refine congrArg Ending.returned (Eq.trans hy (congrArg (Value.int .i64) ?_))
    show n = sg n _
    unfold sg
    rw [if_neg h]
theorem c0_rel (x : Int) (μ : Ev.Names) : Ev.rel (val x) μ c0 (insV (cand x 0)) := ⟨(insCells (cand x 0)).toList, by simp [insCells, insV], rfl, rfl, rfl, rfl, rfl, rfl, rfl, rfl, rfl, rfl, rfl, trivial⟩
theorem c1_rel (x : Int) (μ : Ev.Names) : Ev.rel (val x) μ c1 (insV (cand x 1)) := ⟨(insCells (cand x 1)).toList, by simp [insCells, insV], rfl, rfl, rfl, rfl, rfl, rfl, rfl, rfl, rfl, rfl, rfl, trivial⟩
theorem c2_rel (x : Int) (μ : Ev.Names) : Ev.rel (val x) μ c2 (insV (cand x 2)) := ⟨(insCells (cand x 2)).toList, by simp [insCells, insV], rfl, rfl, rfl, rfl, rfl, rfl, rfl, rfl, rfl, rfl, rfl, trivial⟩
theorem c3_rel (x : Int) (μ : Ev.Names) : Ev.rel (val x) μ c3 (insV (cand x 3)) := ⟨(insCells (cand x 3)).toList, by simp [insCells, insV], rfl, rfl, rfl, rfl, rfl, rfl, rfl, rfl, rfl, rfl, rfl, trivial⟩
theorem c4_rel (x : Int) (μ : Ev.Names) : Ev.rel (val x) μ c4 (insV (cand x 4)) := ⟨(insCells (cand x 4)).toList, by simp [insCells, insV], rfl, rfl, rfl, rfl, rfl, rfl, rfl, rfl, rfl, rfl, rfl, trivial⟩
theorem c5_rel (x : Int) (μ : Ev.Names) : Ev.rel (val x) μ c5 (insV (cand x 5)) := ⟨(insCells (cand x 5)).toList, by simp [insCells, insV], rfl, rfl, rfl, rfl, rfl, rfl, rfl, rfl, rfl, rfl, rfl, trivial⟩
theorem c6_rel (x : Int) (μ : Ev.Names) : Ev.rel (val x) μ c6 (insV (cand x 6)) := ⟨(insCells (cand x 6)).toList, by simp [insCells, insV], rfl, rfl, rfl, rfl, rfl, rfl, rfl, rfl, rfl, rfl, rfl, trivial⟩
theorem none_rel (x : Int) (μ : Ev.Names) : Ev.rel (val x) μ none_ (insV ins0) := ⟨(insCells ins0).toList, by simp [insCells, insV], rfl, rfl, rfl, rfl, rfl, rfl, rfl, rfl, rfl, rfl, rfl, trivial⟩
theorem orc_ok (x : Int) (x0 : 0 ≤ x) (x1 : x ≤ 4294967295) {l : List (Ev.SB × Bool)} : ∀ e ∈ orc, Ev.EntOk Try.prog ⟨l, fun σ => σ = val x⟩ e := by
  refine Ev.ents_cons (Ev.EntOk.of rfl [.int .u32 x, .int .i64 29, .int .i64 1] ⟨rfl, rfl, rfl, trivial⟩ (v := .int .i64 (fb x 29 1)) (fun _ => rfl) fun W => bits_29_1 x x0 x1 W) ?_
  refine Ev.ents_cons (Ev.EntOk.of rfl [.int .u32 x, .int .i64 28, .int .i64 1] ⟨rfl, rfl, rfl, trivial⟩ (v := .int .i64 (fb x 28 1)) (fun _ => rfl) fun W => bits_28_1 x x0 x1 W) ?_
  refine Ev.ents_cons (Ev.EntOk.of rfl [.int .u32 x, .int .i64 24, .int .i64 4] ⟨rfl, rfl, rfl, trivial⟩ (v := .int .i64 (fb x 24 4)) (fun _ => rfl) fun W => bits_24_4 x x0 x1 W) ?_
  refine Ev.ents_cons (Ev.EntOk.of rfl [.int .u32 x, .int .i64 20, .int .i64 4] ⟨rfl, rfl, rfl, trivial⟩ (v := .int .i64 (fb x 20 4)) (fun _ => rfl) fun W => bits_20_4 x x0 x1 W) ?_
  refine Ev.ents_cons (Ev.EntOk.of rfl [.int .u32 x, .int .i64 16, .int .i64 4] ⟨rfl, rfl, rfl, trivial⟩ (v := .int .i64 (fb x 16 4)) (fun _ => rfl) fun W => bits_16_4 x x0 x1 W) ?_
  refine Ev.ents_cons (Ev.EntOk.of rfl [.int .u32 x, .int .i64 0, .int .i64 20] ⟨rfl, rfl, rfl, trivial⟩ (v := .int .i64 (fb x 0 20)) (fun _ => rfl) fun W => bits_0_20 x x0 x1 W) ?_
  refine Ev.ents_cons (Ev.EntOk.of rfl [.int .u32 x, .int .i64 0, .int .i64 4] ⟨rfl, rfl, rfl, trivial⟩ (v := .int .i64 (fb x 0 4)) (fun _ => rfl) fun W => bits_0_4 x x0 x1 W) ?_
  refine Ev.ents_cons (Ev.EntOk.of rfl [.int .u32 x, .int .i64 0, .int .i64 16] ⟨rfl, rfl, rfl, trivial⟩ (v := .int .i64 (fb x 0 16)) (fun _ => rfl) fun W => bits_0_16 x x0 x1 W) ?_
  refine Ev.ents_cons (Ev.EntOk.of rfl [.int .u32 x, .int .i64 0, .int .i64 24] ⟨rfl, rfl, rfl, trivial⟩ (v := .int .i64 (fb x 0 24)) (fun _ => rfl) fun W => bits_0_24 x x0 x1 W) ?_
  refine Ev.ents_cons (Ev.EntOk.of rfl [.int .u32 x, .int .i64 4, .int .i64 8] ⟨rfl, rfl, rfl, trivial⟩ (v := .int .i64 (fb x 4 8)) (fun _ => rfl) fun W => bits_4_8 x x0 x1 W) ?_
  refine Ev.ents_cons (Ev.EntOk.of rfl [.int .i64 (fb x 0 20), .int .i64 20] ⟨rfl, rfl, trivial⟩ (v := .int .i64 (sg (fb x 0 20) 524288)) (fun _ => rfl) fun W => signed_20 _ (fb_bd x 0 20).1 (fb_bd x 0 20).2 W) ?_
  refine Ev.ents_cons (Ev.EntOk.of rfl [.int .i64 (fb x 0 24), .int .i64 24] ⟨rfl, rfl, trivial⟩ (v := .int .i64 (sg (fb x 0 24) 8388608)) (fun _ => rfl) fun W => signed_24 _ (fb_bd x 0 24).1 (fb_bd x 0 24).2 W) ?_
  refine Ev.ents_cons (Ev.EntOk.of rfl [insV (cand x 0)] ⟨c0_rel x _, trivial⟩ (v := .bool (mayE (cand x 0))) (fun _ => rfl) fun W => rmay_any (cand x 0) W) ?_
  refine Ev.ents_cons (Ev.EntOk.of rfl [insV (cand x 1)] ⟨c1_rel x _, trivial⟩ (v := .bool (mayE (cand x 1))) (fun _ => rfl) fun W => rmay_any (cand x 1) W) ?_
  refine Ev.ents_cons (Ev.EntOk.of rfl [insV (cand x 2)] ⟨c2_rel x _, trivial⟩ (v := .bool (mayE (cand x 2))) (fun _ => rfl) fun W => rmay_any (cand x 2) W) ?_
  refine Ev.ents_cons (Ev.EntOk.of rfl [insV (cand x 3)] ⟨c3_rel x _, trivial⟩ (v := .bool (mayE (cand x 3))) (fun _ => rfl) fun W => rmay_any (cand x 3) W) ?_
  refine Ev.ents_cons (Ev.EntOk.of rfl [insV (cand x 4)] ⟨c4_rel x _, trivial⟩ (v := .bool (mayE (cand x 4))) (fun _ => rfl) fun W => rmay_any (cand x 4) W) ?_
  refine Ev.ents_cons (Ev.EntOk.of rfl [insV (cand x 5)] ⟨c5_rel x _, trivial⟩ (v := .bool (mayE (cand x 5))) (fun _ => rfl) fun W => rmay_any (cand x 5) W) ?_
  refine Ev.ents_cons (Ev.EntOk.of rfl [insV (cand x 6)] ⟨c6_rel x _, trivial⟩ (v := .bool (mayE (cand x 6))) (fun _ => rfl) fun W => rmay_any (cand x 6) W) ?_
  refine Ev.ents_cons (Ev.EntOk.of rfl [insV (cand x 0)] ⟨c0_rel x _, trivial⟩ (v := .int .u32 (wdOf x 0)) (fun _ => rfl) fun W => (rword_0 _ false _ _ _ _ 0 0 0 0 (by omega) (by omega) (fb_bd x 0 4).1 (by have := (fb_bd x 0 4).2; omega) W).mono fun e w' ⟨h, k, hk⟩ => ⟨h, by rw [hk]; exact below_drewN (below1 _ _) _⟩) ?_
  refine Ev.ents_cons (Ev.EntOk.of rfl [insV (cand x 1)] ⟨c1_rel x _, trivial⟩ (v := .int .u32 (wdOf x 1)) (fun _ => rfl) fun W => (rword_1 _ _ _ _ 0 _ _ 0 0 0 (fb_bd x 0 16).1 (by have := (fb_bd x 0 16).2; omega) (by omega) (by omega) W).mono fun e w' ⟨h, k, hk⟩ => ⟨h, by rw [hk]; exact below_drewN (below1 _ _) _⟩) ?_
  refine Ev.ents_cons (Ev.EntOk.of rfl [insV (cand x 2)] ⟨c2_rel x _, trivial⟩ (v := .int .u32 (wdOf x 2)) (fun _ => rfl) fun W => (rword_2 false _ _ _ 0 0 0 _ 0 0 W).mono fun e w' ⟨h, k, hk⟩ => ⟨h, by rw [hk]; exact below_drewN (below1 _ _) _⟩) ?_
  refine Ev.ents_cons (Ev.EntOk.of rfl [insV (cand x 3)] ⟨c3_rel x _, trivial⟩ (v := .int .u32 (wdOf x 3)) (fun _ => rfl) fun W => (rword_3 false _ _ _ 0 0 0 _ 0 0 W).mono fun e w' ⟨h, k, hk⟩ => ⟨h, by rw [hk]; exact below_drewN (below1 _ _) _⟩) ?_
  refine Ev.ents_cons (Ev.EntOk.of rfl [insV (cand x 4)] ⟨c4_rel x _, trivial⟩ (v := .int .u32 (wdOf x 4)) (fun _ => rfl) fun W => (rword_4 false _ 0 0 0 0 0 _ _ 0 W).mono fun e w' ⟨h, k, hk⟩ => ⟨h, by rw [hk]; exact below_drewN (below1 _ _) _⟩) ?_
  refine Ev.ents_cons (Ev.EntOk.of rfl [insV (cand x 5)] ⟨c5_rel x _, trivial⟩ (v := .int .u32 (wdOf x 5)) (fun _ => rfl) fun W => (rword_5 false _ 0 0 _ 0 0 0 _ 0 W).mono fun e w' ⟨h, k, hk⟩ => ⟨h, by rw [hk]; exact below_drewN (below1 _ _) _⟩) ?_
  refine Ev.ents_cons (Ev.EntOk.of rfl [insV (cand x 6)] ⟨c6_rel x _, trivial⟩ (v := .int .u32 (wdOf x 6)) (fun _ => rfl) fun W => (rword_6 false false 0 0 0 0 0 0 _ _ W).mono fun e w' ⟨h, k, hk⟩ => ⟨h, by rw [hk]; exact below_drewN (below1 _ _) _⟩) ?_
  exact Ev.ents_nil
/-- is it the candidate? -/
def hit (x : Int) (k : Nat) : Bool := mayE (cand x k) && (wdOf x k == x)
theorem i_den (x : Int) (k : Nat) (hk : k < 7) : (is k).den (val x) = hit x k := by
  have : k = 0 ∨ k = 1 ∨ k = 2 ∨ k = 3 ∨ k = 4 ∨ k = 5 ∨ k = 6 := by omega
  unfold hit
  
  have key : ∀ a b : Bool, (bif a then b else false) = (a && b) := by decide
  rcases this with rfl | rfl | rfl | rfl | rfl | rfl | rfl
  · exact key (mayE (cand x 0)) (wdOf x 0 == x)
  · exact key (mayE (cand x 1)) (wdOf x 1 == x)
  · exact key (mayE (cand x 2)) (wdOf x 2 == x)
  · exact key (mayE (cand x 3)) (wdOf x 3 == x)
  · exact key (mayE (cand x 4)) (wdOf x 4 == x)
  · exact key (mayE (cand x 5)) (wdOf x 5 == x)
  · exact key (mayE (cand x 6)) (wdOf x 6 == x)
theorem con_ok {ρ : Ev.Val} {s : Ev.SB} {b : Bool} {m : List (Ev.SB × Bool)} (h : s.den ρ = b) (g : ∀ q ∈ m, q.1.den ρ = q.2) : ∀ q ∈ (s, b) :: m, q.1.den ρ = q.2 := fun q hq => by
  rcases List.mem_cons.1 hq with rfl | hq
  · exact h
  · exact g q hq
theorem no_ok {ρ : Ev.Val} : ∀ q ∈ ([] : List (Ev.SB × Bool)), q.1.den ρ = q.2 := fun q hq => by cases hq
theorem of_run (x : Int) (x0 : 0 ≤ x) (x1 : x ≤ 4294967295) (l : List (Ev.SB × Bool)) (v : Ev.AV) (y : Value) (b : Bool) (hl : ∀ q ∈ l, q.1.den (val x) = q.2) (hv : ∀ μ z, Ev.rel (val x) μ v z → z = y)
    (hrun : ∀ φ, Ev.outV ((Ev.evO Try.prog ⟨l, φ⟩ (Ev.orcL orc) 1000 30 (.fn 33) [.int .u32 (.atom 0)]).go .e 0) = some (.tuple [v, .bool (.lit b)])) (w : World) :
    Calls Try.prog 33 #[.int .u32 x] w fun e w' => e = .returned (.tuple #[y, .bool b]) ∧ Below w.heap.size w w' := by
  refine (Ev.calls_of (A := ⟨l, fun σ => σ = val x⟩) (Ev.orcL_ok _ (orc_ok x x0 x1)) 1000 30 (hrun _) (val x) ⟨hl, rfl⟩ [.int .u32 x] w ⟨trivial, Nat.zero_le _⟩ ⟨rfl, trivial⟩).mono ?_
  rintro e w' ⟨t, μ, rfl, ht, hb⟩
  refine ⟨?_, hb⟩
  obtain ⟨xs, rfl, hxs⟩ := ht
  obtain ⟨y0, y1, rfl⟩ : ∃ y0 y1, xs = [y0, y1] := by
    rcases xs with _ | ⟨y0, _ | ⟨y1, _ | ⟨y2, l⟩⟩⟩
    · exact hxs.elim
    · exact hxs.2.elim
    · exact ⟨y0, y1, rfl⟩
    · exact hxs.2.2.elim
  have h0 := hv μ y0 hxs.1
  have h1 : y1 = .bool b := hxs.2.1
  rw [h0, h1]
theorem c_fun (x : Int) {a : Ev.AV} {y : Value} (hp : Ev.plain 4 a = true) (h : ∀ μ, Ev.rel (val x) μ a y) : ∀ μ z, Ev.rel (val x) μ a z → z = y := fun μ z hz => Ev.rel_fun 4 a z y hp hz (h μ)
end rof
open rof
theorem bit_of (n : Int) (h0 : 0 ≤ n) (h1 : n < 2) : bit (n == 1) = n := by
  have : n = 0 ∨ n = 1 := by omega
  rcases this with rfl | rfl <;> rfl
theorem sg_mod (n s : Int) (h0 : 0 ≤ n) (h1 : n < 2 * s) : sg n s % (2 * s) = n := by
  unfold sg
  split
  · rw [Int.sub_emod_right, Int.emod_eq_of_lt h0 h1]
  · exact Int.emod_eq_of_lt h0 h1
/-- a candidate that is it is what the word is read as -/
theorem hit_dec (x : Int) (k : Nat) (hk : k < 7) (h : hit x k = true) : dec x = (cand x k, false) := by
  unfold hit at h
  rw [Bool.and_eq_true] at h
  have hw : wdOf x k = x := by simpa using h.2
  have m := may_is _ h.1
  have : k = 0 ∨ k = 1 ∨ k = 2 ∨ k = 3 ∨ k = 4 ∨ k = 5 ∨ k = 6 := by omega
  rcases this with rfl | rfl | rfl | rfl | rfl | rfl | rfl
  · have q := dec_wd0 (cand x 0).u (cand x 0).a (cand x 0).b (cand x 0).op (cand x 0).c m.a0 m.a1 m.b0 m.b1 m.o0 (by have := m.o1; omega) m.c0 m.c1 (m.r rfl).2.2.2.2.2
    have e : wdOf x 0 = wd01 0 (cand x 0).u false (cand x 0).a (cand x 0).b (cand x 0).op (cand x 0).c := by show wd01 0 _ false _ _ _ (0 + _) = _; rw [Int.zero_add]; rfl
    rw [← e, hw] at q
    exact q
  · have q := dec_wd1 (cand x 1).u (cand x 1).v (cand x 1).a (cand x 1).b (cand x 1).op (cand x 1).im m.a0 m.a1 m.b0 m.b1 m.o0 (by have := m.o1; omega) m.m0 m.m1 (m.i rfl).2.2.2.2
    have e : wdOf x 1 = wd01 1 (cand x 1).u (cand x 1).v (cand x 1).a (cand x 1).b (cand x 1).op (cand x 1).im := by show wd01 1 _ _ _ _ _ (_ + 0) = _; rw [Int.add_zero]; rfl
    rw [← e, hw] at q
    exact q
  · have q := dec_wd23 0 (cand x 2).v (cand x 2).a (cand x 2).b (cand x 2).off (by omega) (by omega) m.a0 m.a1 m.b0 m.b1 (m.l (.inl rfl)).2.2.2.2.2.2.1 (m.l (.inl rfl)).2.2.2.2.2.2.2
    have e : wdOf x 2 = wd23 0 (cand x 2).v (cand x 2).a (cand x 2).b (cand x 2).off := rfl
    rw [← e, hw] at q
    exact q
  · have q := dec_wd23 1 (cand x 3).v (cand x 3).a (cand x 3).b (cand x 3).off (by omega) (by omega) m.a0 m.a1 m.b0 m.b1 (m.l (.inr rfl)).2.2.2.2.2.2.1 (m.l (.inr rfl)).2.2.2.2.2.2.2
    have e : wdOf x 3 = wd23 1 (cand x 3).v (cand x 3).a (cand x 3).b (cand x 3).off := rfl
    rw [← e, hw] at q
    exact q
  · have q := dec_wd4 (cand x 4).v (cand x 4).cond (cand x 4).off m.k0 m.k1 (m.j rfl).2.2.2.2.2.2.2.1 (m.j rfl).2.2.2.2.2.2.2.2
    have e : wdOf x 4 = wd4 (cand x 4).v (cand x 4).cond (cand x 4).off := rfl
    rw [← e, hw] at q
    exact q
  · have q := dec_wd5 (cand x 5).v (cand x 5).cond (cand x 5).c m.k0 m.k1 m.c0 m.c1 (m.t rfl).2.2.2.2.2.2.2
    have e : wdOf x 5 = wd5 (cand x 5).v (cand x 5).cond (cand x 5).c := rfl
    rw [← e, hw] at q
    exact q
  · have q := dec_wd6 (cand x 6).cond (cand x 6).n m.k0 m.k1 m.n0 m.n1
    have e : wdOf x 6 = wd6 (cand x 6).cond (cand x 6).n := rfl
    rw [← e, hw] at q
    exact q
theorem op_le {form : Int} {u v : Bool} {b c op : Int} (h : mayOpB form u v b c op = true) : op ≤ 11 := by
  unfold mayOpB at h
  split at h
  · omega
  · simp at h; omega
set_option maxHeartbeats 8000000 in
/-- what is read as an instruction is a candidate's word -/
theorem dec_hit (x : Int) (x0 : 0 ≤ x) (x1 : x ≤ 4294967295) (h : (dec x).2 = false) : ∃ k, k < 7 ∧ hit x k = true := by
  have b29 := fb_bd x 29 1
  have b28 := fb_bd x 28 1
  have b24 := fb_bd x 24 4
  have b20 := fb_bd x 20 4
  have b16 := fb_bd x 16 4
  have b0_20 := fb_bd x 0 20
  have b0_4 := fb_bd x 0 4
  have b0_16 := fb_bd x 0 16
  have b0_24 := fb_bd x 0 24
  have b4 := fb_bd x 4 8
  have d29 : fb x 29 1 = x / 536870912 % 2 := rfl
  have d28 : fb x 28 1 = x / 268435456 % 2 := rfl
  have d24 : fb x 24 4 = x / 16777216 % 16 := rfl
  have d20 : fb x 20 4 = x / 1048576 % 16 := rfl
  have d16 : fb x 16 4 = x / 65536 % 16 := rfl
  have d0_20 : fb x 0 20 = x % 1048576 := by show x / 1 % 1048576 = _; rw [Int.ediv_one]
  have d0_4 : fb x 0 4 = x % 16 := by show x / 1 % 16 = _; rw [Int.ediv_one]
  have d0_16 : fb x 0 16 = x % 65536 := by show x / 1 % 65536 = _; rw [Int.ediv_one]
  have d0_24 : fb x 0 24 = x % 16777216 := by show x / 1 % 16777216 = _; rw [Int.ediv_one]
  have d4 : fb x 4 8 = x / 16 % 256 := rfl
  have B29 := bit_of (fb x 29 1) b29.1 b29.2
  have B28 := bit_of (fb x 28 1) b28.1 b28.2
  have S20 := sg_mod (fb x 0 20) 524288 b0_20.1 (by have := b0_20.2; omega)
  have S24 := sg_mod (fb x 0 24) 8388608 b0_24.1 (by have := b0_24.2; omega)
  rw [dec_fields] at h
  rw [← d29, ← d28, ← d24, ← d20, ← d16, ← d0_20, ← d0_4, ← d0_16, ← d0_24] at h
  by_cases q0 : x / 1073741824 = 0
  · rw [if_pos q0] at h
    simp only [Bool.or_eq_false_iff, bne_eq_false_iff_eq, Bool.not_eq_false'] at h
    obtain ⟨⟨z0, z1⟩, hM⟩ := h
    have z1 : fb x 28 1 = 0 := by rw [d28] at z1 ⊢; simp at z1; omega
    refine ⟨0, by omega, ?_⟩
    unfold hit
    rw [Bool.and_eq_true]
    have o11 : fb x 16 4 ≤ 11 := op_le hM
    refine ⟨may_of ⟨0, fb x 29 1 == 1, false, fb x 24 4, fb x 20 4, fb x 0 4, fb x 16 4, 0, 0, 0, 0⟩ { f0 := by dsimp only; omega, f1 := by dsimp only; omega, a0 := by dsimp only; omega, a1 := by dsimp only; omega, b0 := by dsimp only; omega, b1 := by dsimp only; omega, c0 := by dsimp only; omega, c1 := by dsimp only; omega, o0 := by dsimp only; omega, o1 := by dsimp only; omega, m0 := by dsimp only; omega, m1 := by dsimp only; omega, k0 := by dsimp only; omega, k1 := by dsimp only; omega, n0 := by dsimp only; omega, n1 := by dsimp only; omega, r := fun _ => ⟨rfl, rfl, rfl, rfl, rfl, hM⟩, i := fun e => by dsimp only at e; omega, l := fun e => by dsimp only at e; omega, j := fun e => by dsimp only at e; omega, t := fun e => by dsimp only at e; omega, s := fun e => by dsimp only at e; omega }, ?_⟩
    show (wd01 0 (fb x 29 1 == 1) false (fb x 24 4) (fb x 20 4) (fb x 16 4) (0 + fb x 0 4) == x) = true
    rw [Int.zero_add, wd01_eq 0 _ _ _ _ _ _ (by omega) (by omega) (by omega) (by omega) (by omega) (by omega) (by omega) (by omega) (by omega) (by omega), B29]
    simp [bit]
    omega
  rw [if_neg q0] at h
  by_cases q1 : x / 1073741824 = 1
  · rw [if_pos q1] at h
    simp only [Bool.not_eq_false'] at h
    refine ⟨1, by omega, ?_⟩
    unfold hit
    rw [Bool.and_eq_true]
    have o11 : fb x 16 4 ≤ 11 := op_le h
    refine ⟨may_of ⟨1, fb x 29 1 == 1, fb x 28 1 == 1, fb x 24 4, fb x 20 4, 0, fb x 16 4, fb x 0 16, 0, 0, 0⟩ { f0 := by dsimp only; omega, f1 := by dsimp only; omega, a0 := by dsimp only; omega, a1 := by dsimp only; omega, b0 := by dsimp only; omega, b1 := by dsimp only; omega, c0 := by dsimp only; omega, c1 := by dsimp only; omega, o0 := by dsimp only; omega, o1 := by dsimp only; omega, m0 := by dsimp only; omega, m1 := by dsimp only; omega, k0 := by dsimp only; omega, k1 := by dsimp only; omega, n0 := by dsimp only; omega, n1 := by dsimp only; omega, r := fun e => by dsimp only at e; omega, i := fun _ => ⟨rfl, rfl, rfl, rfl, h⟩, l := fun e => by dsimp only at e; omega, j := fun e => by dsimp only at e; omega, t := fun e => by dsimp only at e; omega, s := fun e => by dsimp only at e; omega }, ?_⟩
    show (wd01 1 (fb x 29 1 == 1) (fb x 28 1 == 1) (fb x 24 4) (fb x 20 4) (fb x 16 4) (fb x 0 16 + 0) == x) = true
    rw [Int.add_zero, wd01_eq 1 _ _ _ _ _ _ (by omega) (by omega) (by omega) (by omega) (by omega) (by omega) (by omega) (by omega) (by omega) (by omega), B29, B28]
    simp
    omega
  rw [if_neg q1] at h
  by_cases q2 : x / 1073741824 = 2
  · have s0 : -524288 ≤ sg (fb x 0 20) 524288 ∧ sg (fb x 0 20) 524288 ≤ 524287 := by unfold sg; split <;> omega
    by_cases q3 : fb x 29 1 = 0
    · refine ⟨2, by omega, ?_⟩
      unfold hit
      rw [Bool.and_eq_true]
      refine ⟨may_of ⟨2, false, fb x 28 1 == 1, fb x 24 4, fb x 20 4, 0, 0, 0, sg (fb x 0 20) 524288, 0, 0⟩ { f0 := by dsimp only; omega, f1 := by dsimp only; omega, a0 := by dsimp only; omega, a1 := by dsimp only; omega, b0 := by dsimp only; omega, b1 := by dsimp only; omega, c0 := by dsimp only; omega, c1 := by dsimp only; omega, o0 := by dsimp only; omega, o1 := by dsimp only; omega, m0 := by dsimp only; omega, m1 := by dsimp only; omega, k0 := by dsimp only; omega, k1 := by dsimp only; omega, n0 := by dsimp only; omega, n1 := by dsimp only; omega, r := fun e => by dsimp only at e; omega, i := fun e => by dsimp only at e; omega, l := fun _ => ⟨rfl, rfl, rfl, rfl, rfl, rfl, s0.1, s0.2⟩, j := fun e => by dsimp only at e; omega, t := fun e => by dsimp only at e; omega, s := fun e => by dsimp only at e; omega }, ?_⟩
      show (wd23 0 (fb x 28 1 == 1) (fb x 24 4) (fb x 20 4) (sg (fb x 0 20) 524288) == x) = true
      rw [wd23_eq 0 _ _ _ _ (by omega) (by omega) (by omega) (by omega) (by omega) (by omega), B28, show (1048576 : Int) = 2 * 524288 from rfl, S20]
      simp
      omega
    · refine ⟨3, by omega, ?_⟩
      unfold hit
      rw [Bool.and_eq_true]
      refine ⟨may_of ⟨3, false, fb x 28 1 == 1, fb x 24 4, fb x 20 4, 0, 0, 0, sg (fb x 0 20) 524288, 0, 0⟩ { f0 := by dsimp only; omega, f1 := by dsimp only; omega, a0 := by dsimp only; omega, a1 := by dsimp only; omega, b0 := by dsimp only; omega, b1 := by dsimp only; omega, c0 := by dsimp only; omega, c1 := by dsimp only; omega, o0 := by dsimp only; omega, o1 := by dsimp only; omega, m0 := by dsimp only; omega, m1 := by dsimp only; omega, k0 := by dsimp only; omega, k1 := by dsimp only; omega, n0 := by dsimp only; omega, n1 := by dsimp only; omega, r := fun e => by dsimp only at e; omega, i := fun e => by dsimp only at e; omega, l := fun _ => ⟨rfl, rfl, rfl, rfl, rfl, rfl, s0.1, s0.2⟩, j := fun e => by dsimp only at e; omega, t := fun e => by dsimp only at e; omega, s := fun e => by dsimp only at e; omega }, ?_⟩
      show (wd23 1 (fb x 28 1 == 1) (fb x 24 4) (fb x 20 4) (sg (fb x 0 20) 524288) == x) = true
      rw [wd23_eq 1 _ _ _ _ (by omega) (by omega) (by omega) (by omega) (by omega) (by omega), B28, show (1048576 : Int) = 2 * 524288 from rfl, S20]
      simp
      omega
  rw [if_neg q2] at h
  have q3 : x / 1073741824 = 3 := by omega
  by_cases q4 : fb x 29 1 = 1
  · have s0 : -8388608 ≤ sg (fb x 0 24) 8388608 ∧ sg (fb x 0 24) 8388608 ≤ 8388607 := by unfold sg; split <;> omega
    refine ⟨4, by omega, ?_⟩
    unfold hit
    rw [Bool.and_eq_true]
    refine ⟨may_of ⟨4, false, fb x 28 1 == 1, 0, 0, 0, 0, 0, sg (fb x 0 24) 8388608, fb x 24 4, 0⟩ { f0 := by dsimp only; omega, f1 := by dsimp only; omega, a0 := by dsimp only; omega, a1 := by dsimp only; omega, b0 := by dsimp only; omega, b1 := by dsimp only; omega, c0 := by dsimp only; omega, c1 := by dsimp only; omega, o0 := by dsimp only; omega, o1 := by dsimp only; omega, m0 := by dsimp only; omega, m1 := by dsimp only; omega, k0 := by dsimp only; omega, k1 := by dsimp only; omega, n0 := by dsimp only; omega, n1 := by dsimp only; omega, r := fun e => by dsimp only at e; omega, i := fun e => by dsimp only at e; omega, l := fun e => by dsimp only at e; omega, j := fun _ => ⟨rfl, rfl, rfl, rfl, rfl, rfl, rfl, s0.1, s0.2⟩, t := fun e => by dsimp only at e; omega, s := fun e => by dsimp only at e; omega }, ?_⟩
    show (wd4 (fb x 28 1 == 1) (fb x 24 4) (sg (fb x 0 24) 8388608) == x) = true
    rw [wd4_eq _ _ _ (by omega) (by omega), B28, show (16777216 : Int) = 2 * 8388608 from rfl, S24]
    simp
    omega
  rw [if_neg q4] at h
  by_cases q5 : fb x 28 1 = 1 ∧ fb x 0 4 = 12
  · rw [if_pos q5] at h
    simp only [bne_eq_false_iff_eq] at h
    refine ⟨6, by omega, ?_⟩
    unfold hit
    rw [Bool.and_eq_true]
    refine ⟨may_of ⟨6, false, false, 0, 0, 0, 0, 0, 0, fb x 24 4, fb x 4 8⟩ { f0 := by dsimp only; omega, f1 := by dsimp only; omega, a0 := by dsimp only; omega, a1 := by dsimp only; omega, b0 := by dsimp only; omega, b1 := by dsimp only; omega, c0 := by dsimp only; omega, c1 := by dsimp only; omega, o0 := by dsimp only; omega, o1 := by dsimp only; omega, m0 := by dsimp only; omega, m1 := by dsimp only; omega, k0 := by dsimp only; omega, k1 := by dsimp only; omega, n0 := by dsimp only; omega, n1 := by dsimp only; omega, r := fun e => by dsimp only at e; omega, i := fun e => by dsimp only at e; omega, l := fun e => by dsimp only at e; omega, j := fun e => by dsimp only at e; omega, t := fun e => by dsimp only at e; omega, s := fun _ => ⟨rfl, rfl, rfl, rfl, rfl, rfl, rfl, rfl⟩ }, ?_⟩
    show (wd6 (fb x 24 4) (fb x 4 8) == x) = true
    rw [wd6_eq _ _ (by omega) (by omega) (by omega) (by omega)]
    simp
    omega
  · rw [if_neg q5] at h
    simp only [bne_eq_false_iff_eq] at h
    refine ⟨5, by omega, ?_⟩
    unfold hit
    rw [Bool.and_eq_true]
    refine ⟨may_of ⟨5, false, fb x 28 1 == 1, 0, 0, fb x 0 4, 0, 0, 0, fb x 24 4, 0⟩ { f0 := by dsimp only; omega, f1 := by dsimp only; omega, a0 := by dsimp only; omega, a1 := by dsimp only; omega, b0 := by dsimp only; omega, b1 := by dsimp only; omega, c0 := by dsimp only; omega, c1 := by dsimp only; omega, o0 := by dsimp only; omega, o1 := by dsimp only; omega, m0 := by dsimp only; omega, m1 := by dsimp only; omega, k0 := by dsimp only; omega, k1 := by dsimp only; omega, n0 := by dsimp only; omega, n1 := by dsimp only; omega, r := fun e => by dsimp only at e; omega, i := fun e => by dsimp only at e; omega, l := fun e => by dsimp only at e; omega, j := fun e => by dsimp only at e; omega, t := fun _ => ⟨rfl, rfl, rfl, rfl, rfl, rfl, rfl, fun e => q5 ⟨by have := e.1; dsimp only at this; simpa using this, e.2⟩⟩, s := fun e => by dsimp only at e; omega }, ?_⟩
    show (wd5 (fb x 28 1 == 1) (fb x 24 4) (fb x 0 4) == x) = true
    rw [wd5_eq _ _ _ (by omega) (by omega) (by omega) (by omega), B28]
    simp
    omega

theorem rof_any (x : Int) (x0 : 0 ≤ x) (x1 : x ≤ 4294967295) (w : World) : Calls Try.prog 33 #[.int .u32 x] w fun e w' => e = .returned (.tuple #[insV (if (dec x).2 then ins0 else (dec x).1), .bool (!(dec x).2)]) ∧ Below w.heap.size w w' := by
  have fin : ∀ k, k < 7 → hit x k = true → ∀ {e : Ending} {w' : World}, (e = .returned (.tuple #[insV (cand x k), .bool true]) ∧ Below w.heap.size w w') → e = .returned (.tuple #[insV (if (dec x).2 then ins0 else (dec x).1), .bool (!(dec x).2)]) ∧ Below w.heap.size w w' := fun k hk h e w' he => by
    rw [hit_dec x k hk h]; exact he
  cases h0 : hit x 0 with
  | true => exact (of_run x x0 x1 _ c0 (insV (cand x 0)) true (con_ok ((i_den x 0 (by omega)).trans h0) no_ok) (c_fun x rfl (c0_rel x)) run0 w).mono fun e w' he => fin 0 (by omega) h0 he
  | false =>
  cases h1 : hit x 1 with
  | true => exact (of_run x x0 x1 _ c1 (insV (cand x 1)) true (con_ok ((i_den x 1 (by omega)).trans h1) (con_ok ((i_den x 0 (by omega)).trans h0) no_ok)) (c_fun x rfl (c1_rel x)) run1 w).mono fun e w' he => fin 1 (by omega) h1 he
  | false =>
  cases h2 : hit x 2 with
  | true => exact (of_run x x0 x1 _ c2 (insV (cand x 2)) true (con_ok ((i_den x 2 (by omega)).trans h2) (con_ok ((i_den x 1 (by omega)).trans h1) (con_ok ((i_den x 0 (by omega)).trans h0) no_ok))) (c_fun x rfl (c2_rel x)) run2 w).mono fun e w' he => fin 2 (by omega) h2 he
  | false =>
  cases h3 : hit x 3 with
  | true => exact (of_run x x0 x1 _ c3 (insV (cand x 3)) true (con_ok ((i_den x 3 (by omega)).trans h3) (con_ok ((i_den x 2 (by omega)).trans h2) (con_ok ((i_den x 1 (by omega)).trans h1) (con_ok ((i_den x 0 (by omega)).trans h0) no_ok)))) (c_fun x rfl (c3_rel x)) run3 w).mono fun e w' he => fin 3 (by omega) h3 he
  | false =>
  cases h4 : hit x 4 with
  | true => exact (of_run x x0 x1 _ c4 (insV (cand x 4)) true (con_ok ((i_den x 4 (by omega)).trans h4) (con_ok ((i_den x 3 (by omega)).trans h3) (con_ok ((i_den x 2 (by omega)).trans h2) (con_ok ((i_den x 1 (by omega)).trans h1) (con_ok ((i_den x 0 (by omega)).trans h0) no_ok))))) (c_fun x rfl (c4_rel x)) run4 w).mono fun e w' he => fin 4 (by omega) h4 he
  | false =>
  cases h5 : hit x 5 with
  | true => exact (of_run x x0 x1 _ c5 (insV (cand x 5)) true (con_ok ((i_den x 5 (by omega)).trans h5) (con_ok ((i_den x 4 (by omega)).trans h4) (con_ok ((i_den x 3 (by omega)).trans h3) (con_ok ((i_den x 2 (by omega)).trans h2) (con_ok ((i_den x 1 (by omega)).trans h1) (con_ok ((i_den x 0 (by omega)).trans h0) no_ok)))))) (c_fun x rfl (c5_rel x)) run5 w).mono fun e w' he => fin 5 (by omega) h5 he
  | false =>
  cases h6 : hit x 6 with
  | true => exact (of_run x x0 x1 _ c6 (insV (cand x 6)) true (con_ok ((i_den x 6 (by omega)).trans h6) (con_ok ((i_den x 5 (by omega)).trans h5) (con_ok ((i_den x 4 (by omega)).trans h4) (con_ok ((i_den x 3 (by omega)).trans h3) (con_ok ((i_den x 2 (by omega)).trans h2) (con_ok ((i_den x 1 (by omega)).trans h1) (con_ok ((i_den x 0 (by omega)).trans h0) no_ok))))))) (c_fun x rfl (c6_rel x)) run6 w).mono fun e w' he => fin 6 (by omega) h6 he
  | false =>
  have ho : (dec x).2 = true := by
    cases hd : (dec x).2 with
    | true => rfl
    | false =>
      obtain ⟨k, hk, hh⟩ := dec_hit x x0 x1 hd
      have : k = 0 ∨ k = 1 ∨ k = 2 ∨ k = 3 ∨ k = 4 ∨ k = 5 ∨ k = 6 := by omega
      rcases this with rfl | rfl | rfl | rfl | rfl | rfl | rfl <;> simp_all
  rw [ho]
  exact of_run x x0 x1 _ none_ (insV ins0) false (con_ok ((i_den x 6 (by omega)).trans h6) (con_ok ((i_den x 5 (by omega)).trans h5) (con_ok ((i_den x 4 (by omega)).trans h4) (con_ok ((i_den x 3 (by omega)).trans h3) (con_ok ((i_den x 2 (by omega)).trans h2) (con_ok ((i_den x 1 (by omega)).trans h1) (con_ok ((i_den x 0 (by omega)).trans h0) no_ok))))))) (c_fun x rfl (none_rel x)) run7 w
end
end Go.Proofs.Ytgjecfchnokcfaa

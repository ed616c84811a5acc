/-
  The text of an instruction that may be, by the code (layer 3's isa.Text): reckoned by the kernel; it is textI.
-/
import Derived.Test.YtbhnkfhikjhaoaaDoorIMay
import Derived.Test.YtbhnkfhikjhaoaaDoorITextN
import Derived.Test.YtbhnkfhikjhaoaaDoorTextA
import Derived.Test.YtbhnkfhikjhaoaaDoorKnownC
namespace Go.Proofs.YtbhnkfhikjhaoaaDoor
open Go.ChangeShapes Go.WideShapes Go.ChangeAt Go.RowKit
set_option linter.unusedVariables false
set_option linter.unusedSimpArgs false
noncomputable section
theorem runOp0 (φ : Ev.Val → Prop) : Ev.outV ((Ev.evO Tryd.prog ⟨[], φ, Ev.noG⟩ Ev.noOrc 1000 30 (.fn 23) [.int .i64 (.lit 0)]).go .e 0) = some (.str [77, 79, 86]) := by kernel_rfl
theorem runOp1 (φ : Ev.Val → Prop) : Ev.outV ((Ev.evO Tryd.prog ⟨[], φ, Ev.noG⟩ Ev.noOrc 1000 30 (.fn 23) [.int .i64 (.lit 1)]).go .e 0) = some (.str [76, 83, 76]) := by kernel_rfl
theorem runOp2 (φ : Ev.Val → Prop) : Ev.outV ((Ev.evO Tryd.prog ⟨[], φ, Ev.noG⟩ Ev.noOrc 1000 30 (.fn 23) [.int .i64 (.lit 2)]).go .e 0) = some (.str [65, 83, 82]) := by kernel_rfl
theorem runOp3 (φ : Ev.Val → Prop) : Ev.outV ((Ev.evO Tryd.prog ⟨[], φ, Ev.noG⟩ Ev.noOrc 1000 30 (.fn 23) [.int .i64 (.lit 3)]).go .e 0) = some (.str [82, 79, 82]) := by kernel_rfl
theorem runOp4 (φ : Ev.Val → Prop) : Ev.outV ((Ev.evO Tryd.prog ⟨[], φ, Ev.noG⟩ Ev.noOrc 1000 30 (.fn 23) [.int .i64 (.lit 4)]).go .e 0) = some (.str [65, 78, 68]) := by kernel_rfl
theorem runOp5 (φ : Ev.Val → Prop) : Ev.outV ((Ev.evO Tryd.prog ⟨[], φ, Ev.noG⟩ Ev.noOrc 1000 30 (.fn 23) [.int .i64 (.lit 5)]).go .e 0) = some (.str [65, 78, 78]) := by kernel_rfl
theorem runOp6 (φ : Ev.Val → Prop) : Ev.outV ((Ev.evO Tryd.prog ⟨[], φ, Ev.noG⟩ Ev.noOrc 1000 30 (.fn 23) [.int .i64 (.lit 6)]).go .e 0) = some (.str [73, 79, 82]) := by kernel_rfl
theorem runOp7 (φ : Ev.Val → Prop) : Ev.outV ((Ev.evO Tryd.prog ⟨[], φ, Ev.noG⟩ Ev.noOrc 1000 30 (.fn 23) [.int .i64 (.lit 7)]).go .e 0) = some (.str [88, 79, 82]) := by kernel_rfl
theorem runOp8 (φ : Ev.Val → Prop) : Ev.outV ((Ev.evO Tryd.prog ⟨[], φ, Ev.noG⟩ Ev.noOrc 1000 30 (.fn 23) [.int .i64 (.lit 8)]).go .e 0) = some (.str [65, 68, 68]) := by kernel_rfl
theorem runOp9 (φ : Ev.Val → Prop) : Ev.outV ((Ev.evO Tryd.prog ⟨[], φ, Ev.noG⟩ Ev.noOrc 1000 30 (.fn 23) [.int .i64 (.lit 9)]).go .e 0) = some (.str [83, 85, 66]) := by kernel_rfl
theorem runOp10 (φ : Ev.Val → Prop) : Ev.outV ((Ev.evO Tryd.prog ⟨[], φ, Ev.noG⟩ Ev.noOrc 1000 30 (.fn 23) [.int .i64 (.lit 10)]).go .e 0) = some (.str [77, 85, 76]) := by kernel_rfl
theorem runOp11 (φ : Ev.Val → Prop) : Ev.outV ((Ev.evO Tryd.prog ⟨[], φ, Ev.noG⟩ Ev.noOrc 1000 30 (.fn 23) [.int .i64 (.lit 11)]).go .e 0) = some (.str [68, 73, 86]) := by kernel_rfl
theorem op_any (n : Int) (h0 : 0 ≤ n) (h1 : n ≤ 11) (w : World) : Calls Tryd.prog 23 #[.int .i64 n] w fun e w' => e = .returned (.string (S (opB n))) ∧ Below w.heap.size w w' := by
  rcases (by omega : n = 0 ∨ n = 1 ∨ n = 2 ∨ n = 3 ∨ n = 4 ∨ n = 5 ∨ n = 6 ∨ n = 7 ∨ n = 8 ∨ n = 9 ∨ n = 10 ∨ n = 11) with rfl | rfl | rfl | rfl | rfl | rfl | rfl | rfl | rfl | rfl | rfl | rfl
  · exact val_of runOp0 [.int .i64 0] ⟨rfl, trivial⟩ (fun _ y hy => hy.2) w
  · exact val_of runOp1 [.int .i64 1] ⟨rfl, trivial⟩ (fun _ y hy => hy.2) w
  · exact val_of runOp2 [.int .i64 2] ⟨rfl, trivial⟩ (fun _ y hy => hy.2) w
  · exact val_of runOp3 [.int .i64 3] ⟨rfl, trivial⟩ (fun _ y hy => hy.2) w
  · exact val_of runOp4 [.int .i64 4] ⟨rfl, trivial⟩ (fun _ y hy => hy.2) w
  · exact val_of runOp5 [.int .i64 5] ⟨rfl, trivial⟩ (fun _ y hy => hy.2) w
  · exact val_of runOp6 [.int .i64 6] ⟨rfl, trivial⟩ (fun _ y hy => hy.2) w
  · exact val_of runOp7 [.int .i64 7] ⟨rfl, trivial⟩ (fun _ y hy => hy.2) w
  · exact val_of runOp8 [.int .i64 8] ⟨rfl, trivial⟩ (fun _ y hy => hy.2) w
  · exact val_of runOp9 [.int .i64 9] ⟨rfl, trivial⟩ (fun _ y hy => hy.2) w
  · exact val_of runOp10 [.int .i64 10] ⟨rfl, trivial⟩ (fun _ y hy => hy.2) w
  · exact val_of runOp11 [.int .i64 11] ⟨rfl, trivial⟩ (fun _ y hy => hy.2) w
theorem runCd0 (φ : Ev.Val → Prop) : Ev.outV ((Ev.evO Tryd.prog ⟨[], φ, Ev.noG⟩ Ev.noOrc 1000 30 (.fn 22) [.int .i64 (.lit 0)]).go .e 0) = some (.str [77, 73]) := by kernel_rfl
theorem runCd1 (φ : Ev.Val → Prop) : Ev.outV ((Ev.evO Tryd.prog ⟨[], φ, Ev.noG⟩ Ev.noOrc 1000 30 (.fn 22) [.int .i64 (.lit 1)]).go .e 0) = some (.str [69, 81]) := by kernel_rfl
theorem runCd2 (φ : Ev.Val → Prop) : Ev.outV ((Ev.evO Tryd.prog ⟨[], φ, Ev.noG⟩ Ev.noOrc 1000 30 (.fn 22) [.int .i64 (.lit 2)]).go .e 0) = some (.str [67, 83]) := by kernel_rfl
theorem runCd3 (φ : Ev.Val → Prop) : Ev.outV ((Ev.evO Tryd.prog ⟨[], φ, Ev.noG⟩ Ev.noOrc 1000 30 (.fn 22) [.int .i64 (.lit 3)]).go .e 0) = some (.str [86, 83]) := by kernel_rfl
theorem runCd4 (φ : Ev.Val → Prop) : Ev.outV ((Ev.evO Tryd.prog ⟨[], φ, Ev.noG⟩ Ev.noOrc 1000 30 (.fn 22) [.int .i64 (.lit 4)]).go .e 0) = some (.str [76, 83]) := by kernel_rfl
theorem runCd5 (φ : Ev.Val → Prop) : Ev.outV ((Ev.evO Tryd.prog ⟨[], φ, Ev.noG⟩ Ev.noOrc 1000 30 (.fn 22) [.int .i64 (.lit 5)]).go .e 0) = some (.str [76, 84]) := by kernel_rfl
theorem runCd6 (φ : Ev.Val → Prop) : Ev.outV ((Ev.evO Tryd.prog ⟨[], φ, Ev.noG⟩ Ev.noOrc 1000 30 (.fn 22) [.int .i64 (.lit 6)]).go .e 0) = some (.str [76, 69]) := by kernel_rfl
theorem runCd7 (φ : Ev.Val → Prop) : Ev.outV ((Ev.evO Tryd.prog ⟨[], φ, Ev.noG⟩ Ev.noOrc 1000 30 (.fn 22) [.int .i64 (.lit 7)]).go .e 0) = some (.str [84]) := by kernel_rfl
theorem runCd8 (φ : Ev.Val → Prop) : Ev.outV ((Ev.evO Tryd.prog ⟨[], φ, Ev.noG⟩ Ev.noOrc 1000 30 (.fn 22) [.int .i64 (.lit 8)]).go .e 0) = some (.str [80, 76]) := by kernel_rfl
theorem runCd9 (φ : Ev.Val → Prop) : Ev.outV ((Ev.evO Tryd.prog ⟨[], φ, Ev.noG⟩ Ev.noOrc 1000 30 (.fn 22) [.int .i64 (.lit 9)]).go .e 0) = some (.str [78, 69]) := by kernel_rfl
theorem runCd10 (φ : Ev.Val → Prop) : Ev.outV ((Ev.evO Tryd.prog ⟨[], φ, Ev.noG⟩ Ev.noOrc 1000 30 (.fn 22) [.int .i64 (.lit 10)]).go .e 0) = some (.str [67, 67]) := by kernel_rfl
theorem runCd11 (φ : Ev.Val → Prop) : Ev.outV ((Ev.evO Tryd.prog ⟨[], φ, Ev.noG⟩ Ev.noOrc 1000 30 (.fn 22) [.int .i64 (.lit 11)]).go .e 0) = some (.str [86, 67]) := by kernel_rfl
theorem runCd12 (φ : Ev.Val → Prop) : Ev.outV ((Ev.evO Tryd.prog ⟨[], φ, Ev.noG⟩ Ev.noOrc 1000 30 (.fn 22) [.int .i64 (.lit 12)]).go .e 0) = some (.str [72, 73]) := by kernel_rfl
theorem runCd13 (φ : Ev.Val → Prop) : Ev.outV ((Ev.evO Tryd.prog ⟨[], φ, Ev.noG⟩ Ev.noOrc 1000 30 (.fn 22) [.int .i64 (.lit 13)]).go .e 0) = some (.str [71, 69]) := by kernel_rfl
theorem runCd14 (φ : Ev.Val → Prop) : Ev.outV ((Ev.evO Tryd.prog ⟨[], φ, Ev.noG⟩ Ev.noOrc 1000 30 (.fn 22) [.int .i64 (.lit 14)]).go .e 0) = some (.str [71, 84]) := by kernel_rfl
theorem runCd15 (φ : Ev.Val → Prop) : Ev.outV ((Ev.evO Tryd.prog ⟨[], φ, Ev.noG⟩ Ev.noOrc 1000 30 (.fn 22) [.int .i64 (.lit 15)]).go .e 0) = some (.str [70]) := by kernel_rfl
theorem cd_any (n : Int) (h0 : 0 ≤ n) (h1 : n ≤ 15) (w : World) : Calls Tryd.prog 22 #[.int .i64 n] w fun e w' => e = .returned (.string (S (cdB n))) ∧ Below w.heap.size w w' := by
  rcases (by omega : n = 0 ∨ n = 1 ∨ n = 2 ∨ n = 3 ∨ n = 4 ∨ n = 5 ∨ n = 6 ∨ n = 7 ∨ n = 8 ∨ n = 9 ∨ n = 10 ∨ n = 11 ∨ n = 12 ∨ n = 13 ∨ n = 14 ∨ n = 15) with rfl | rfl | rfl | rfl | rfl | rfl | rfl | rfl | rfl | rfl | rfl | rfl | rfl | rfl | rfl | rfl
  · exact val_of runCd0 [.int .i64 0] ⟨rfl, trivial⟩ (fun _ y hy => hy.2) w
  · exact val_of runCd1 [.int .i64 1] ⟨rfl, trivial⟩ (fun _ y hy => hy.2) w
  · exact val_of runCd2 [.int .i64 2] ⟨rfl, trivial⟩ (fun _ y hy => hy.2) w
  · exact val_of runCd3 [.int .i64 3] ⟨rfl, trivial⟩ (fun _ y hy => hy.2) w
  · exact val_of runCd4 [.int .i64 4] ⟨rfl, trivial⟩ (fun _ y hy => hy.2) w
  · exact val_of runCd5 [.int .i64 5] ⟨rfl, trivial⟩ (fun _ y hy => hy.2) w
  · exact val_of runCd6 [.int .i64 6] ⟨rfl, trivial⟩ (fun _ y hy => hy.2) w
  · exact val_of runCd7 [.int .i64 7] ⟨rfl, trivial⟩ (fun _ y hy => hy.2) w
  · exact val_of runCd8 [.int .i64 8] ⟨rfl, trivial⟩ (fun _ y hy => hy.2) w
  · exact val_of runCd9 [.int .i64 9] ⟨rfl, trivial⟩ (fun _ y hy => hy.2) w
  · exact val_of runCd10 [.int .i64 10] ⟨rfl, trivial⟩ (fun _ y hy => hy.2) w
  · exact val_of runCd11 [.int .i64 11] ⟨rfl, trivial⟩ (fun _ y hy => hy.2) w
  · exact val_of runCd12 [.int .i64 12] ⟨rfl, trivial⟩ (fun _ y hy => hy.2) w
  · exact val_of runCd13 [.int .i64 13] ⟨rfl, trivial⟩ (fun _ y hy => hy.2) w
  · exact val_of runCd14 [.int .i64 14] ⟨rfl, trivial⟩ (fun _ y hy => hy.2) w
  · exact val_of runCd15 [.int .i64 15] ⟨rfl, trivial⟩ (fun _ y hy => hy.2) w
theorem runReg (φ : Ev.Val → Prop) : Ev.outV ((Ev.evO Tryd.prog ⟨[], φ, Ev.noG⟩ (Ev.orcL [⟨21, [.int .i64 (.atom 0)], .txt (.atom 0)⟩]) 1000 30 (.fn 20) [.int .i64 (.atom 0)]).go .e 0) = some (.txt (.app (.lit [82]) (.atom 0))) := by kernel_rfl
theorem itoa_nat (k : Nat) : Lib.itoa (k : Int) = Lib.decDigits k := by unfold Lib.itoa; rw [if_neg (by omega)]; simp
theorem itoa_len (n : Int) (h0 : -9223372036854775808 ≤ n) (h1 : n ≤ 9223372036854775807) : (Lib.itoa n).length ≤ 21 := Lib.itoa_length_le n h0 h1
def sVal (i : Nat → Int) (s : Nat → List UInt8) (sz : ∀ i, (s i).length ≤ 1099511627776) : Ev.Val := ⟨i, fun _ => false, 0, fun _ => True, fun _ _ _ _ => trivial, s, sz, fun _ => (0, 0), fun _ => undef⟩
theorem reg_any (n : Int) (h0 : 0 ≤ n) (h1 : n ≤ 15) (w : World) : Calls Tryd.prog 20 #[.int .i64 n] w fun e w' => e = .returned (.string (S (regB n))) ∧ Below w.heap.size w w' := by
  have hl := itoa_len n (by omega) (by omega)
  obtain ⟨k, rfl⟩ := Int.eq_ofNat_of_zero_le h0
  obtain ⟨ρ, hρ⟩ : ∃ ρ, ρ = sVal (fun _ => (k : Int)) (fun _ => Lib.itoa k) (fun _ => by omega) := ⟨_, rfl⟩
  have hi : ρ.i = fun _ => (k : Int) := by rw [hρ]; rfl
  have hs : ρ.s = fun _ => Lib.itoa k := by rw [hρ]; rfl
  have hJ : ∀ w, ρ.J w ∧ ρ.N ≤ w.heap.size := fun w => by rw [hρ]; exact ⟨trivial, Nat.zero_le _⟩
  have harg : Ev.relL ρ Ev.Names.none [.int .i64 (.atom 0)] [.int .i64 k] := ⟨by simp only [Ev.rel, Ev.SI.den, hi], trivial⟩
  refine (Ev.calls_of (A := ⟨[], fun σ => σ = ρ, Ev.noG⟩) (Ev.orcL_ok _ (Ev.ents_cons (Ev.EntOk.of rfl [.int .i64 k] harg (v := .string (S (Lib.itoa k))) (fun _ => by simp only [Ev.rel, Ev.ST.den, hs]; rfl) fun W => ?_) Ev.ents_nil)) 1000 30 (runReg _) ρ ⟨fun p hp => (by cases hp), rfl, Ev.noG_ok _⟩ [.int .i64 k] w (hJ w) harg).mono fun e w' ⟨x, μ, he, hx, hb⟩ => ⟨?_, hb⟩
  · refine (Tryd.strconv_Itoa_small k (by omega) W).mono fun e w' ⟨he, hw⟩ => ⟨?_, ?_⟩
    · rw [he, itoa_nat]; rfl
    · rw [hw]; exact Below.refl _ _
  · simp only [Ev.rel, Ev.ST.den, hs] at hx
    rw [he, hx]
    rfl
theorem itoa_any (n : Int) (h0 : -9223372036854775808 ≤ n) (h1 : n ≤ 9223372036854775807) (w : World) (hT : Tab w) : Calls Tryd.prog 21 #[.int .i64 n] w fun e w' => e = .returned (.string (S (Lib.itoa n))) ∧ Below w.heap.size w w' :=
  (Tryd.strconv_Itoa n h0 h1 w hT).mono fun e w' ⟨he, k, os, hw⟩ => ⟨he, by rw [hw]; exact grow_below _ _ _⟩
/-! the texts' parts, by number -/
def txR (I : Ins) (k : Nat) : List UInt8 := if k = 0 then opB I.op else if k = 1 then regB I.a else if k = 2 then regB I.b else if k = 3 then regB I.c else if k = 4 then Lib.itoa I.off else if k = 5 then Lib.itoa I.im else if k = 6 then Lib.itoa I.n else if k = 7 then cdB I.cond else Lib.itoa (wrap32 (valI I.u I.v I.op I.im))
def txS (I : Ins) (k : Nat) : List UInt8 := (txR I k).take 100
theorem txS_sz (I : Ins) (k : Nat) : (txS I k).length ≤ 1099511627776 := by unfold txS; rw [List.length_take]; omega
def txV (I : Ins) : Ev.Val := tabValS (insI I) (insB I) (txS I) (txS_sz I)
theorem op_len (n : Int) (h0 : 0 ≤ n) (h1 : n ≤ 11) : (opB n).length ≤ 100 ∧ opB n ≠ [] := by
  obtain ⟨k, rfl⟩ := Int.eq_ofNat_of_zero_le h0
  have key : ∀ k : Fin 12, (opB ((k.val : Nat) : Int)).length ≤ 100 ∧ opB ((k.val : Nat) : Int) ≠ [] := by decide +kernel
  exact key ⟨k, by omega⟩
theorem cd_len (n : Int) (h0 : 0 ≤ n) (h1 : n ≤ 15) : (cdB n).length ≤ 100 := by
  obtain ⟨k, rfl⟩ := Int.eq_ofNat_of_zero_le h0
  have key : ∀ k : Fin 16, (cdB ((k.val : Nat) : Int)).length ≤ 100 := by decide +kernel
  exact key ⟨k, by omega⟩
theorem reg_len (n : Int) (h0 : 0 ≤ n) (h1 : n ≤ 15) : (regB n).length ≤ 100 := by
  have := itoa_len n (by omega) (by omega)
  unfold regB
  simp only [List.length_cons]
  omega
section
variable {I : Ins} (m : MayIs I)
include m
theorem tx0 : txS I 0 = opB I.op := List.take_of_length_le (op_len I.op m.o0 m.o1).1
theorem tx1 : txS I 1 = regB I.a := List.take_of_length_le (reg_len I.a m.a0 m.a1)
theorem tx2 : txS I 2 = regB I.b := List.take_of_length_le (reg_len I.b m.b0 m.b1)
theorem tx3 : txS I 3 = regB I.c := List.take_of_length_le (reg_len I.c m.c0 m.c1)
theorem tx4 : txS I 4 = Lib.itoa I.off := List.take_of_length_le (by have := itoa_len I.off m.wf.off.1 m.wf.off.2; exact Nat.le_trans this (by omega))
theorem tx5 : txS I 5 = Lib.itoa I.im := List.take_of_length_le (by have := itoa_len I.im m.wf.im.1 m.wf.im.2; exact Nat.le_trans this (by omega))
theorem tx6 : txS I 6 = Lib.itoa I.n := List.take_of_length_le (by have := itoa_len I.n m.wf.n.1 m.wf.n.2; exact Nat.le_trans this (by omega))
theorem tx7 : txS I 7 = cdB I.cond := List.take_of_length_le (cd_len I.cond m.k0 m.k1)
omit m in
theorem tx8 : txS I 8 = Lib.itoa (wrap32 (valI I.u I.v I.op I.im)) := List.take_of_length_le (by
  have hw := wrap32_bd (valI I.u I.v I.op I.im)
  have := itoa_len (wrap32 (valI I.u I.v I.op I.im)) (by omega) (by omega)
  exact Nat.le_trans this (by omega))
end
def teA (f c : Ev.SI) : List Ev.Ent := [⟨8, [insC f c], .bool (.lit true)⟩, ⟨23, [.int .i64 (.atom 6)], .txt (.atom 0)⟩, ⟨20, [.int .i64 (.atom 3)], .txt (.atom 1)⟩, ⟨20, [.int .i64 (.atom 4)], .txt (.atom 2)⟩, ⟨20, [.int .i64 (.atom 5)], .txt (.atom 3)⟩, ⟨21, [.int .i64 (.atom 8)], .txt (.atom 4)⟩, ⟨21, [.int .i64 (.atom 7)], .txt (.atom 5)⟩, ⟨21, [.int .i64 (.atom 10)], .txt (.atom 6)⟩, ⟨22, [.int .i64 (.atom 9)], .txt (.atom 7)⟩]
def teB (c : Ev.SI) : List Ev.Ent := ⟨25, [insC (.lit 1) c], .int .u32 (.atom 70)⟩ :: ⟨24, [.int .u32 (.atom 70)], .txt (.atom 8)⟩ :: teA (.lit 1) c
theorem teA_ok (I : Ins) (m : MayIs I) (f c : Ev.SI) (hf : I.form = f.den (txV I)) (hc : I.c = c.den (txV I)) {l : List (Ev.SB × Bool)} : ∀ e ∈ teA f c, Ev.EntOk Tryd.prog ⟨l, fun σ => σ = txV I, Ev.noG⟩ e :=
  Ev.ents_cons (Ev.EntOk.of rfl [.agg (insCells I)] ⟨insC_rel I (txV I) rfl rfl f c hf hc _, trivial⟩ (v := .bool true) (fun _ => rfl) fun W => may_yes I m.wf m W)
  (Ev.ents_cons (Ev.EntOk.of rfl [.int .i64 I.op] ⟨rfl, trivial⟩ (v := .string (S (txS I 0))) (fun _ => rfl) fun W => by rw [tx0 m]; exact op_any I.op m.o0 m.o1 W)
  (Ev.ents_cons (Ev.EntOk.of rfl [.int .i64 I.a] ⟨rfl, trivial⟩ (v := .string (S (txS I 1))) (fun _ => rfl) fun W => by rw [tx1 m]; exact reg_any I.a m.a0 m.a1 W)
  (Ev.ents_cons (Ev.EntOk.of rfl [.int .i64 I.b] ⟨rfl, trivial⟩ (v := .string (S (txS I 2))) (fun _ => rfl) fun W => by rw [tx2 m]; exact reg_any I.b m.b0 m.b1 W)
  (Ev.ents_cons (Ev.EntOk.of rfl [.int .i64 I.c] ⟨rfl, trivial⟩ (v := .string (S (txS I 3))) (fun _ => rfl) fun W => by rw [tx3 m]; exact reg_any I.c m.c0 m.c1 W)
  (Ev.ents_cons (Ev.EntOk.ofJ rfl [.int .i64 I.off] ⟨rfl, trivial⟩ (v := .string (S (txS I 4))) (fun _ => rfl) fun W hT => by rw [tx4 m]; exact itoa_any I.off m.wf.off.1 m.wf.off.2 W hT)
  (Ev.ents_cons (Ev.EntOk.ofJ rfl [.int .i64 I.im] ⟨rfl, trivial⟩ (v := .string (S (txS I 5))) (fun _ => rfl) fun W hT => by rw [tx5 m]; exact itoa_any I.im m.wf.im.1 m.wf.im.2 W hT)
  (Ev.ents_cons (Ev.EntOk.ofJ rfl [.int .i64 I.n] ⟨rfl, trivial⟩ (v := .string (S (txS I 6))) (fun _ => rfl) fun W hT => by rw [tx6 m]; exact itoa_any I.n m.wf.n.1 m.wf.n.2 W hT)
  (Ev.ents_cons (Ev.EntOk.of rfl [.int .i64 I.cond] ⟨rfl, trivial⟩ (v := .string (S (txS I 7))) (fun _ => rfl) fun W => by rw [tx7 m]; exact cd_any I.cond m.k0 m.k1 W) Ev.ents_nil))))))))
theorem teB_ok (I : Ins) (m : MayIs I) (c : Ev.SI) (hf : I.form = 1) (hc : I.c = c.den (txV I)) {l : List (Ev.SB × Bool)} : ∀ e ∈ teB c, Ev.EntOk Tryd.prog ⟨l, fun σ => σ = txV I, Ev.noG⟩ e :=
  Ev.ents_cons (Ev.EntOk.of rfl [.agg (insCells I)] ⟨insC_rel I (txV I) rfl rfl (.lit 1) c hf hc _, trivial⟩ (v := .int .u32 (valI I.u I.v I.op I.im)) (fun _ => rfl) fun W => value_f I.form hf I.u I.v I.a I.b I.c I.op I.im I.off I.cond I.n m.m0 m.m1 W)
  (Ev.ents_cons (Ev.EntOk.ofJ rfl [.int .u32 (valI I.u I.v I.op I.im)] ⟨rfl, trivial⟩ (v := .string (S (txS I 8))) (fun _ => rfl) fun W hT => by rw [tx8]; exact dec_any _ W hT) (teA_ok I m (.lit 1) c hf hc))
theorem text_run (I : Ins) (m : MayIs I) {f c : Ev.SI} (hf : I.form = f.den (txV I)) (hc : I.c = c.den (txV I)) {es : List Ev.Ent} {l : List (Ev.SB × Bool)} (hes : ∀ e ∈ es, Ev.EntOk Tryd.prog ⟨l, fun σ => σ = txV I, Ev.noG⟩ e) {X : Ev.ST}
    (h : ∀ φ, Ev.outV ((Ev.evO Tryd.prog ⟨l, φ, Ev.noG⟩ (Ev.orcL es) 1000 30 (.fn 9) [insC f c]).go .e 0) = some (.tuple [.txt X, .int .i64 (.lit 0)])) (hl : ∀ p ∈ l, p.1.den (txV I) = p.2) (hX : X.den (txV I) = textI I) (w : World) (hT : Tab w) :
    Calls Tryd.prog 9 #[.agg (insCells I)] w fun e w' => e = .returned (.tuple #[.string (S (textI I)), .int .i64 0]) ∧ Below w.heap.size w w' := by
  refine (Ev.calls_of (A := ⟨l, fun σ => σ = txV I, Ev.noG⟩) (Ev.orcL_ok _ hes) 1000 30 (h _) (txV I) ⟨hl, rfl, Ev.noG_ok _⟩ [.agg (insCells I)] w (tab_baseS hT _ _ _ _) ⟨insC_rel I (txV I) rfl rfl f c hf hc _, trivial⟩).mono fun e w' ⟨x, μ, he, hx, hb⟩ => ⟨?_, hb⟩
  obtain ⟨xs, rfl, hxs⟩ := hx
  match xs, hxs with
  | [x1, x2], ⟨h1, h2, _⟩ =>
    simp only [Ev.rel, hX] at h1 h2
    rw [he, h1, h2]
    rfl
theorem txV_i (I : Ins) : (txV I).i = insI I := rfl
theorem txV_b (I : Ins) : (txV I).b = insB I := rfl
theorem txV_s (I : Ins) : (txV I).s = txS I := rfl
theorem con_ok {ρ : Ev.Val} {s : Ev.SB} {b : Bool} {m : List (Ev.SB × Bool)} (h : s.den ρ = b) (g : ∀ q ∈ m, q.1.den ρ = q.2) : ∀ q ∈ (s, b) :: m, q.1.den ρ = q.2 := fun q hq => by
  rcases List.mem_cons.1 hq with rfl | hq
  · exact h
  · exact g q hq
theorem no_ok {ρ : Ev.Val} : ∀ q ∈ ([] : List (Ev.SB × Bool)), q.1.den ρ = q.2 := fun q hq => by cases hq
def fl_text0_u0_o0 : List (Ev.SB × Bool) := [(.seq (.app (.app (.app (.app (.app (.lit []) (.atom 0)) (.lit [32])) (.atom 1)) (.lit [32])) (.atom 2)) (.lit []), false), (.seq (.app (.app (.app (.lit []) (.atom 0)) (.lit [32])) (.atom 1)) (.lit []), false), (.seq (.app (.lit []) (.atom 0)) (.lit []), false), (.atom 0, false), (.cmp .eql (.atom 6) (.lit 0), false)]
theorem run_text0_u0_o0 (φ : Ev.Val → Prop) : Ev.outV ((Ev.evO Tryd.prog ⟨fl_text0_u0_o0, φ, Ev.noG⟩ (Ev.orcL (teA (.lit 0) (.atom 5))) 1000 30 (.fn 9) [insC (.lit 0) (.atom 5)]).go .e 0) = some (.tuple [.txt (.app (.app (.app (.app (.app (.app (.app (.lit []) (.atom 0)) (.lit [32])) (.atom 1)) (.lit [32])) (.atom 2)) (.lit [32])) (.atom 3)), .int .i64 (.lit 0)]) := by kernel_rfl
set_option maxHeartbeats 1000000 in
theorem text0_u0_o0 (I : Ins) (m : MayIs I) (hf : I.form = 0) (hu : I.u = false) (ho : ¬ I.op = 0) (w : World) (hT : Tab w) : Calls Tryd.prog 9 #[.agg (insCells I)] w fun e w' => e = .returned (.tuple #[.string (S (textI I)), .int .i64 0]) ∧ Below w.heap.size w w' := by
  have hne := (op_len I.op m.o0 m.o1).2
  refine text_run I m (f := .lit 0) (c := .atom 5) hf rfl (teA_ok I m (.lit 0) (.atom 5) hf rfl) run_text0_u0_o0 ?_ ?_ w hT
  · refine con_ok ?_ (con_ok ?_ (con_ok ?_ (con_ok ?_ (con_ok ?_ (no_ok)))))
    all_goals simp [Ev.SB.den, Ev.ST.den, Ev.SI.den, Ev.cmpI, txV_i, txV_b, txV_s, insI, insB, tx0 m, hne, hf, hu, ho]
  · simp [Ev.ST.den, txV_s, tx0 m, tx1 m, tx2 m, tx3 m, tx4 m, tx5 m, tx6 m, tx7 m, tx8, textI, partsI, joinB, lastB, hf, hu, ho]
def fl_text0_u0_o1 : List (Ev.SB × Bool) := [(.seq (.app (.app (.app (.lit []) (.atom 0)) (.lit [32])) (.atom 1)) (.lit []), false), (.seq (.app (.lit []) (.atom 0)) (.lit []), false), (.atom 0, false), (.cmp .eql (.atom 6) (.lit 0), true)]
theorem run_text0_u0_o1 (φ : Ev.Val → Prop) : Ev.outV ((Ev.evO Tryd.prog ⟨fl_text0_u0_o1, φ, Ev.noG⟩ (Ev.orcL (teA (.lit 0) (.atom 5))) 1000 30 (.fn 9) [insC (.lit 0) (.atom 5)]).go .e 0) = some (.tuple [.txt (.app (.app (.app (.app (.app (.lit []) (.atom 0)) (.lit [32])) (.atom 1)) (.lit [32])) (.atom 3)), .int .i64 (.lit 0)]) := by kernel_rfl
set_option maxHeartbeats 1000000 in
theorem text0_u0_o1 (I : Ins) (m : MayIs I) (hf : I.form = 0) (hu : I.u = false) (ho : I.op = 0) (w : World) (hT : Tab w) : Calls Tryd.prog 9 #[.agg (insCells I)] w fun e w' => e = .returned (.tuple #[.string (S (textI I)), .int .i64 0]) ∧ Below w.heap.size w w' := by
  have hne := (op_len I.op m.o0 m.o1).2
  refine text_run I m (f := .lit 0) (c := .atom 5) hf rfl (teA_ok I m (.lit 0) (.atom 5) hf rfl) run_text0_u0_o1 ?_ ?_ w hT
  · have ho2 : opB 0 ≠ [] := by decide
    refine con_ok ?_ (con_ok ?_ (con_ok ?_ (con_ok ?_ (no_ok))))
    all_goals simp [Ev.SB.den, Ev.ST.den, Ev.SI.den, Ev.cmpI, txV_i, txV_b, txV_s, insI, insB, tx0 m, hne, hf, hu, ho, ho2]
  · simp [Ev.ST.den, txV_s, tx0 m, tx1 m, tx2 m, tx3 m, tx4 m, tx5 m, tx6 m, tx7 m, tx8, textI, partsI, joinB, lastB, hf, hu, ho]
def fl_text0_u1_o0 : List (Ev.SB × Bool) := [(.seq (.app (.app (.app (.app (.app (.lit []) (.app (.atom 0) (.lit [39]))) (.lit [32])) (.atom 1)) (.lit [32])) (.atom 2)) (.lit []), false), (.seq (.app (.app (.app (.lit []) (.app (.atom 0) (.lit [39]))) (.lit [32])) (.atom 1)) (.lit []), false), (.seq (.app (.lit []) (.app (.atom 0) (.lit [39]))) (.lit []), false), (.atom 0, true), (.cmp .eql (.atom 6) (.lit 0), false)]
theorem run_text0_u1_o0 (φ : Ev.Val → Prop) : Ev.outV ((Ev.evO Tryd.prog ⟨fl_text0_u1_o0, φ, Ev.noG⟩ (Ev.orcL (teA (.lit 0) (.atom 5))) 1000 30 (.fn 9) [insC (.lit 0) (.atom 5)]).go .e 0) = some (.tuple [.txt (.app (.app (.app (.app (.app (.app (.app (.lit []) (.app (.atom 0) (.lit [39]))) (.lit [32])) (.atom 1)) (.lit [32])) (.atom 2)) (.lit [32])) (.atom 3)), .int .i64 (.lit 0)]) := by kernel_rfl
set_option maxHeartbeats 1000000 in
theorem text0_u1_o0 (I : Ins) (m : MayIs I) (hf : I.form = 0) (hu : I.u = true) (ho : ¬ I.op = 0) (w : World) (hT : Tab w) : Calls Tryd.prog 9 #[.agg (insCells I)] w fun e w' => e = .returned (.tuple #[.string (S (textI I)), .int .i64 0]) ∧ Below w.heap.size w w' := by
  have hne := (op_len I.op m.o0 m.o1).2
  refine text_run I m (f := .lit 0) (c := .atom 5) hf rfl (teA_ok I m (.lit 0) (.atom 5) hf rfl) run_text0_u1_o0 ?_ ?_ w hT
  · refine con_ok ?_ (con_ok ?_ (con_ok ?_ (con_ok ?_ (con_ok ?_ (no_ok)))))
    all_goals simp [Ev.SB.den, Ev.ST.den, Ev.SI.den, Ev.cmpI, txV_i, txV_b, txV_s, insI, insB, tx0 m, hne, hf, hu, ho]
  · simp [Ev.ST.den, txV_s, tx0 m, tx1 m, tx2 m, tx3 m, tx4 m, tx5 m, tx6 m, tx7 m, tx8, textI, partsI, joinB, lastB, hf, hu, ho]
def fl_text0_u1_o1_c0 : List (Ev.SB × Bool) := [(.seq (.app (.app (.app (.lit []) (.atom 0)) (.lit [32])) (.atom 1)) (.lit []), false), (.seq (.app (.lit []) (.atom 0)) (.lit []), false), (.atom 0, true), (.cmp .eql (.atom 6) (.lit 0), true)]
theorem run_text0_u1_o1_c0 (φ : Ev.Val → Prop) : Ev.outV ((Ev.evO Tryd.prog ⟨fl_text0_u1_o1_c0, φ, Ev.noG⟩ (Ev.orcL (teA (.lit 0) (.lit 0))) 1000 30 (.fn 9) [insC (.lit 0) (.lit 0)]).go .e 0) = some (.tuple [.txt (.app (.app (.app (.app (.app (.lit []) (.atom 0)) (.lit [32])) (.atom 1)) (.lit [32])) (.lit [72])), .int .i64 (.lit 0)]) := by kernel_rfl
set_option maxHeartbeats 1000000 in
theorem text0_u1_o1_c0 (I : Ins) (m : MayIs I) (hf : I.form = 0) (hu : I.u = true) (ho : I.op = 0) (hc : I.c = 0) (w : World) (hT : Tab w) : Calls Tryd.prog 9 #[.agg (insCells I)] w fun e w' => e = .returned (.tuple #[.string (S (textI I)), .int .i64 0]) ∧ Below w.heap.size w w' := by
  have hne := (op_len I.op m.o0 m.o1).2
  refine text_run I m (f := .lit 0) (c := .lit 0) hf hc (teA_ok I m (.lit 0) (.lit 0) hf hc) run_text0_u1_o1_c0 ?_ ?_ w hT
  · have ho2 : opB 0 ≠ [] := by decide
    refine con_ok ?_ (con_ok ?_ (con_ok ?_ (con_ok ?_ (no_ok))))
    all_goals simp [Ev.SB.den, Ev.ST.den, Ev.SI.den, Ev.cmpI, txV_i, txV_b, txV_s, insI, insB, tx0 m, hne, hf, hu, ho, hc, ho2]
  · simp [Ev.ST.den, txV_s, tx0 m, tx1 m, tx2 m, tx3 m, tx4 m, tx5 m, tx6 m, tx7 m, tx8, textI, partsI, joinB, lastB, hf, hu, ho, hc]
def fl_text0_u1_o1_c1 : List (Ev.SB × Bool) := [(.seq (.app (.app (.app (.lit []) (.atom 0)) (.lit [32])) (.atom 1)) (.lit []), false), (.seq (.app (.lit []) (.atom 0)) (.lit []), false), (.atom 0, true), (.cmp .eql (.atom 6) (.lit 0), true)]
theorem run_text0_u1_o1_c1 (φ : Ev.Val → Prop) : Ev.outV ((Ev.evO Tryd.prog ⟨fl_text0_u1_o1_c1, φ, Ev.noG⟩ (Ev.orcL (teA (.lit 0) (.lit 1))) 1000 30 (.fn 9) [insC (.lit 0) (.lit 1)]).go .e 0) = some (.tuple [.txt (.app (.app (.app (.app (.app (.lit []) (.atom 0)) (.lit [32])) (.atom 1)) (.lit [32])) (.lit [70])), .int .i64 (.lit 0)]) := by kernel_rfl
set_option maxHeartbeats 1000000 in
theorem text0_u1_o1_c1 (I : Ins) (m : MayIs I) (hf : I.form = 0) (hu : I.u = true) (ho : I.op = 0) (hc : I.c = 1) (w : World) (hT : Tab w) : Calls Tryd.prog 9 #[.agg (insCells I)] w fun e w' => e = .returned (.tuple #[.string (S (textI I)), .int .i64 0]) ∧ Below w.heap.size w w' := by
  have hne := (op_len I.op m.o0 m.o1).2
  refine text_run I m (f := .lit 0) (c := .lit 1) hf hc (teA_ok I m (.lit 0) (.lit 1) hf hc) run_text0_u1_o1_c1 ?_ ?_ w hT
  · have ho2 : opB 0 ≠ [] := by decide
    refine con_ok ?_ (con_ok ?_ (con_ok ?_ (con_ok ?_ (no_ok))))
    all_goals simp [Ev.SB.den, Ev.ST.den, Ev.SI.den, Ev.cmpI, txV_i, txV_b, txV_s, insI, insB, tx0 m, hne, hf, hu, ho, hc, ho2]
  · simp [Ev.ST.den, txV_s, tx0 m, tx1 m, tx2 m, tx3 m, tx4 m, tx5 m, tx6 m, tx7 m, tx8, textI, partsI, joinB, lastB, hf, hu, ho, hc]
def fl_text1_u0_o0 : List (Ev.SB × Bool) := [(.seq (.app (.app (.app (.app (.app (.lit []) (.atom 0)) (.lit [32])) (.atom 1)) (.lit [32])) (.atom 2)) (.lit []), false), (.seq (.app (.app (.app (.lit []) (.atom 0)) (.lit [32])) (.atom 1)) (.lit []), false), (.seq (.app (.lit []) (.atom 0)) (.lit []), false), (.atom 0, false), (.cmp .eql (.atom 6) (.lit 0), false)]
theorem run_text1_u0_o0 (φ : Ev.Val → Prop) : Ev.outV ((Ev.evO Tryd.prog ⟨fl_text1_u0_o0, φ, Ev.noG⟩ (Ev.orcL (teB (.atom 5))) 1000 30 (.fn 9) [insC (.lit 1) (.atom 5)]).go .e 0) = some (.tuple [.txt (.app (.app (.app (.app (.app (.app (.app (.lit []) (.atom 0)) (.lit [32])) (.atom 1)) (.lit [32])) (.atom 2)) (.lit [32])) (.atom 8)), .int .i64 (.lit 0)]) := by kernel_rfl
set_option maxHeartbeats 1000000 in
theorem text1_u0_o0 (I : Ins) (m : MayIs I) (hf : I.form = 1) (hu : I.u = false) (ho : ¬ I.op = 0) (w : World) (hT : Tab w) : Calls Tryd.prog 9 #[.agg (insCells I)] w fun e w' => e = .returned (.tuple #[.string (S (textI I)), .int .i64 0]) ∧ Below w.heap.size w w' := by
  have hne := (op_len I.op m.o0 m.o1).2
  refine text_run I m (f := .lit 1) (c := .atom 5) hf rfl (teB_ok I m (.atom 5) hf rfl) run_text1_u0_o0 ?_ ?_ w hT
  · refine con_ok ?_ (con_ok ?_ (con_ok ?_ (con_ok ?_ (con_ok ?_ (no_ok)))))
    all_goals simp [Ev.SB.den, Ev.ST.den, Ev.SI.den, Ev.cmpI, txV_i, txV_b, txV_s, insI, insB, tx0 m, hne, hf, hu, ho]
  · simp [Ev.ST.den, txV_s, tx0 m, tx1 m, tx2 m, tx3 m, tx4 m, tx5 m, tx6 m, tx7 m, tx8, textI, partsI, joinB, lastB, hf, hu, ho]
def fl_text1_u0_o1 : List (Ev.SB × Bool) := [(.seq (.app (.app (.app (.lit []) (.atom 0)) (.lit [32])) (.atom 1)) (.lit []), false), (.seq (.app (.lit []) (.atom 0)) (.lit []), false), (.atom 0, false), (.cmp .eql (.atom 6) (.lit 0), true)]
theorem run_text1_u0_o1 (φ : Ev.Val → Prop) : Ev.outV ((Ev.evO Tryd.prog ⟨fl_text1_u0_o1, φ, Ev.noG⟩ (Ev.orcL (teB (.atom 5))) 1000 30 (.fn 9) [insC (.lit 1) (.atom 5)]).go .e 0) = some (.tuple [.txt (.app (.app (.app (.app (.app (.lit []) (.atom 0)) (.lit [32])) (.atom 1)) (.lit [32])) (.atom 8)), .int .i64 (.lit 0)]) := by kernel_rfl
set_option maxHeartbeats 1000000 in
theorem text1_u0_o1 (I : Ins) (m : MayIs I) (hf : I.form = 1) (hu : I.u = false) (ho : I.op = 0) (w : World) (hT : Tab w) : Calls Tryd.prog 9 #[.agg (insCells I)] w fun e w' => e = .returned (.tuple #[.string (S (textI I)), .int .i64 0]) ∧ Below w.heap.size w w' := by
  have hne := (op_len I.op m.o0 m.o1).2
  refine text_run I m (f := .lit 1) (c := .atom 5) hf rfl (teB_ok I m (.atom 5) hf rfl) run_text1_u0_o1 ?_ ?_ w hT
  · have ho2 : opB 0 ≠ [] := by decide
    refine con_ok ?_ (con_ok ?_ (con_ok ?_ (con_ok ?_ (no_ok))))
    all_goals simp [Ev.SB.den, Ev.ST.den, Ev.SI.den, Ev.cmpI, txV_i, txV_b, txV_s, insI, insB, tx0 m, hne, hf, hu, ho, ho2]
  · simp [Ev.ST.den, txV_s, tx0 m, tx1 m, tx2 m, tx3 m, tx4 m, tx5 m, tx6 m, tx7 m, tx8, textI, partsI, joinB, lastB, hf, hu, ho]
def fl_text1_u1_o0 : List (Ev.SB × Bool) := [(.seq (.app (.app (.app (.app (.app (.lit []) (.app (.atom 0) (.lit [39]))) (.lit [32])) (.atom 1)) (.lit [32])) (.atom 2)) (.lit []), false), (.seq (.app (.app (.app (.lit []) (.app (.atom 0) (.lit [39]))) (.lit [32])) (.atom 1)) (.lit []), false), (.seq (.app (.lit []) (.app (.atom 0) (.lit [39]))) (.lit []), false), (.atom 0, true), (.cmp .eql (.atom 6) (.lit 0), false)]
theorem run_text1_u1_o0 (φ : Ev.Val → Prop) : Ev.outV ((Ev.evO Tryd.prog ⟨fl_text1_u1_o0, φ, Ev.noG⟩ (Ev.orcL (teB (.atom 5))) 1000 30 (.fn 9) [insC (.lit 1) (.atom 5)]).go .e 0) = some (.tuple [.txt (.app (.app (.app (.app (.app (.app (.app (.lit []) (.app (.atom 0) (.lit [39]))) (.lit [32])) (.atom 1)) (.lit [32])) (.atom 2)) (.lit [32])) (.atom 8)), .int .i64 (.lit 0)]) := by kernel_rfl
set_option maxHeartbeats 1000000 in
theorem text1_u1_o0 (I : Ins) (m : MayIs I) (hf : I.form = 1) (hu : I.u = true) (ho : ¬ I.op = 0) (w : World) (hT : Tab w) : Calls Tryd.prog 9 #[.agg (insCells I)] w fun e w' => e = .returned (.tuple #[.string (S (textI I)), .int .i64 0]) ∧ Below w.heap.size w w' := by
  have hne := (op_len I.op m.o0 m.o1).2
  refine text_run I m (f := .lit 1) (c := .atom 5) hf rfl (teB_ok I m (.atom 5) hf rfl) run_text1_u1_o0 ?_ ?_ w hT
  · refine con_ok ?_ (con_ok ?_ (con_ok ?_ (con_ok ?_ (con_ok ?_ (no_ok)))))
    all_goals simp [Ev.SB.den, Ev.ST.den, Ev.SI.den, Ev.cmpI, txV_i, txV_b, txV_s, insI, insB, tx0 m, hne, hf, hu, ho]
  · simp [Ev.ST.den, txV_s, tx0 m, tx1 m, tx2 m, tx3 m, tx4 m, tx5 m, tx6 m, tx7 m, tx8, textI, partsI, joinB, lastB, hf, hu, ho]
def fl_text1_u1_o1 : List (Ev.SB × Bool) := [(.seq (.app (.app (.app (.lit []) (.app (.atom 0) (.lit [39, 39]))) (.lit [32])) (.atom 1)) (.lit []), false), (.seq (.app (.lit []) (.app (.atom 0) (.lit [39, 39]))) (.lit []), false), (.atom 0, true), (.cmp .eql (.atom 6) (.lit 0), true)]
theorem run_text1_u1_o1 (φ : Ev.Val → Prop) : Ev.outV ((Ev.evO Tryd.prog ⟨fl_text1_u1_o1, φ, Ev.noG⟩ (Ev.orcL (teB (.atom 5))) 1000 30 (.fn 9) [insC (.lit 1) (.atom 5)]).go .e 0) = some (.tuple [.txt (.app (.app (.app (.app (.app (.lit []) (.app (.atom 0) (.lit [39, 39]))) (.lit [32])) (.atom 1)) (.lit [32])) (.atom 5)), .int .i64 (.lit 0)]) := by kernel_rfl
set_option maxHeartbeats 1000000 in
theorem text1_u1_o1 (I : Ins) (m : MayIs I) (hf : I.form = 1) (hu : I.u = true) (ho : I.op = 0) (w : World) (hT : Tab w) : Calls Tryd.prog 9 #[.agg (insCells I)] w fun e w' => e = .returned (.tuple #[.string (S (textI I)), .int .i64 0]) ∧ Below w.heap.size w w' := by
  have hne := (op_len I.op m.o0 m.o1).2
  refine text_run I m (f := .lit 1) (c := .atom 5) hf rfl (teB_ok I m (.atom 5) hf rfl) run_text1_u1_o1 ?_ ?_ w hT
  · have ho2 : opB 0 ≠ [] := by decide
    refine con_ok ?_ (con_ok ?_ (con_ok ?_ (con_ok ?_ (no_ok))))
    all_goals simp [Ev.SB.den, Ev.ST.den, Ev.SI.den, Ev.cmpI, txV_i, txV_b, txV_s, insI, insB, tx0 m, hne, hf, hu, ho, ho2]
  · simp [Ev.ST.den, txV_s, tx0 m, tx1 m, tx2 m, tx3 m, tx4 m, tx5 m, tx6 m, tx7 m, tx8, textI, partsI, joinB, lastB, hf, hu, ho]
def fl_text2_v0 : List (Ev.SB × Bool) := [(.seq (.app (.app (.app (.lit [76, 68, 87, 32]) (.atom 1)) (.lit [32])) (.atom 2)) (.lit []), false), (.seq (.app (.lit [76, 68, 87, 32]) (.atom 1)) (.lit []), false), (.atom 1, false)]
theorem run_text2_v0 (φ : Ev.Val → Prop) : Ev.outV ((Ev.evO Tryd.prog ⟨fl_text2_v0, φ, Ev.noG⟩ (Ev.orcL (teA (.lit 2) (.atom 5))) 1000 30 (.fn 9) [insC (.lit 2) (.atom 5)]).go .e 0) = some (.tuple [.txt (.app (.app (.app (.app (.app (.lit [76, 68, 87, 32]) (.atom 1)) (.lit [32])) (.atom 2)) (.lit [32])) (.atom 4)), .int .i64 (.lit 0)]) := by kernel_rfl
set_option maxHeartbeats 1000000 in
theorem text2_v0 (I : Ins) (m : MayIs I) (hf : I.form = 2) (hv : I.v = false) (w : World) (hT : Tab w) : Calls Tryd.prog 9 #[.agg (insCells I)] w fun e w' => e = .returned (.tuple #[.string (S (textI I)), .int .i64 0]) ∧ Below w.heap.size w w' := by
  have hne := (op_len I.op m.o0 m.o1).2
  refine text_run I m (f := .lit 2) (c := .atom 5) hf rfl (teA_ok I m (.lit 2) (.atom 5) hf rfl) run_text2_v0 ?_ ?_ w hT
  · refine con_ok ?_ (con_ok ?_ (con_ok ?_ (no_ok)))
    all_goals simp [Ev.SB.den, Ev.ST.den, Ev.SI.den, Ev.cmpI, txV_i, txV_b, txV_s, insI, insB, tx0 m, hne, hf, hv]
  · simp [Ev.ST.den, txV_s, tx0 m, tx1 m, tx2 m, tx3 m, tx4 m, tx5 m, tx6 m, tx7 m, tx8, textI, partsI, joinB, lastB, hf, hv]
def fl_text2_v1 : List (Ev.SB × Bool) := [(.seq (.app (.app (.app (.lit [76, 68, 66, 32]) (.atom 1)) (.lit [32])) (.atom 2)) (.lit []), false), (.seq (.app (.lit [76, 68, 66, 32]) (.atom 1)) (.lit []), false), (.atom 1, true)]
theorem run_text2_v1 (φ : Ev.Val → Prop) : Ev.outV ((Ev.evO Tryd.prog ⟨fl_text2_v1, φ, Ev.noG⟩ (Ev.orcL (teA (.lit 2) (.atom 5))) 1000 30 (.fn 9) [insC (.lit 2) (.atom 5)]).go .e 0) = some (.tuple [.txt (.app (.app (.app (.app (.app (.lit [76, 68, 66, 32]) (.atom 1)) (.lit [32])) (.atom 2)) (.lit [32])) (.atom 4)), .int .i64 (.lit 0)]) := by kernel_rfl
set_option maxHeartbeats 1000000 in
theorem text2_v1 (I : Ins) (m : MayIs I) (hf : I.form = 2) (hv : I.v = true) (w : World) (hT : Tab w) : Calls Tryd.prog 9 #[.agg (insCells I)] w fun e w' => e = .returned (.tuple #[.string (S (textI I)), .int .i64 0]) ∧ Below w.heap.size w w' := by
  have hne := (op_len I.op m.o0 m.o1).2
  refine text_run I m (f := .lit 2) (c := .atom 5) hf rfl (teA_ok I m (.lit 2) (.atom 5) hf rfl) run_text2_v1 ?_ ?_ w hT
  · refine con_ok ?_ (con_ok ?_ (con_ok ?_ (no_ok)))
    all_goals simp [Ev.SB.den, Ev.ST.den, Ev.SI.den, Ev.cmpI, txV_i, txV_b, txV_s, insI, insB, tx0 m, hne, hf, hv]
  · simp [Ev.ST.den, txV_s, tx0 m, tx1 m, tx2 m, tx3 m, tx4 m, tx5 m, tx6 m, tx7 m, tx8, textI, partsI, joinB, lastB, hf, hv]
def fl_text3_v0 : List (Ev.SB × Bool) := [(.seq (.app (.app (.app (.lit [83, 84, 87, 32]) (.atom 1)) (.lit [32])) (.atom 2)) (.lit []), false), (.seq (.app (.lit [83, 84, 87, 32]) (.atom 1)) (.lit []), false), (.atom 1, false)]
theorem run_text3_v0 (φ : Ev.Val → Prop) : Ev.outV ((Ev.evO Tryd.prog ⟨fl_text3_v0, φ, Ev.noG⟩ (Ev.orcL (teA (.lit 3) (.atom 5))) 1000 30 (.fn 9) [insC (.lit 3) (.atom 5)]).go .e 0) = some (.tuple [.txt (.app (.app (.app (.app (.app (.lit [83, 84, 87, 32]) (.atom 1)) (.lit [32])) (.atom 2)) (.lit [32])) (.atom 4)), .int .i64 (.lit 0)]) := by kernel_rfl
set_option maxHeartbeats 1000000 in
theorem text3_v0 (I : Ins) (m : MayIs I) (hf : I.form = 3) (hv : I.v = false) (w : World) (hT : Tab w) : Calls Tryd.prog 9 #[.agg (insCells I)] w fun e w' => e = .returned (.tuple #[.string (S (textI I)), .int .i64 0]) ∧ Below w.heap.size w w' := by
  have hne := (op_len I.op m.o0 m.o1).2
  refine text_run I m (f := .lit 3) (c := .atom 5) hf rfl (teA_ok I m (.lit 3) (.atom 5) hf rfl) run_text3_v0 ?_ ?_ w hT
  · refine con_ok ?_ (con_ok ?_ (con_ok ?_ (no_ok)))
    all_goals simp [Ev.SB.den, Ev.ST.den, Ev.SI.den, Ev.cmpI, txV_i, txV_b, txV_s, insI, insB, tx0 m, hne, hf, hv]
  · simp [Ev.ST.den, txV_s, tx0 m, tx1 m, tx2 m, tx3 m, tx4 m, tx5 m, tx6 m, tx7 m, tx8, textI, partsI, joinB, lastB, hf, hv]
def fl_text3_v1 : List (Ev.SB × Bool) := [(.seq (.app (.app (.app (.lit [83, 84, 66, 32]) (.atom 1)) (.lit [32])) (.atom 2)) (.lit []), false), (.seq (.app (.lit [83, 84, 66, 32]) (.atom 1)) (.lit []), false), (.atom 1, true)]
theorem run_text3_v1 (φ : Ev.Val → Prop) : Ev.outV ((Ev.evO Tryd.prog ⟨fl_text3_v1, φ, Ev.noG⟩ (Ev.orcL (teA (.lit 3) (.atom 5))) 1000 30 (.fn 9) [insC (.lit 3) (.atom 5)]).go .e 0) = some (.tuple [.txt (.app (.app (.app (.app (.app (.lit [83, 84, 66, 32]) (.atom 1)) (.lit [32])) (.atom 2)) (.lit [32])) (.atom 4)), .int .i64 (.lit 0)]) := by kernel_rfl
set_option maxHeartbeats 1000000 in
theorem text3_v1 (I : Ins) (m : MayIs I) (hf : I.form = 3) (hv : I.v = true) (w : World) (hT : Tab w) : Calls Tryd.prog 9 #[.agg (insCells I)] w fun e w' => e = .returned (.tuple #[.string (S (textI I)), .int .i64 0]) ∧ Below w.heap.size w w' := by
  have hne := (op_len I.op m.o0 m.o1).2
  refine text_run I m (f := .lit 3) (c := .atom 5) hf rfl (teA_ok I m (.lit 3) (.atom 5) hf rfl) run_text3_v1 ?_ ?_ w hT
  · refine con_ok ?_ (con_ok ?_ (con_ok ?_ (no_ok)))
    all_goals simp [Ev.SB.den, Ev.ST.den, Ev.SI.den, Ev.cmpI, txV_i, txV_b, txV_s, insI, insB, tx0 m, hne, hf, hv]
  · simp [Ev.ST.den, txV_s, tx0 m, tx1 m, tx2 m, tx3 m, tx4 m, tx5 m, tx6 m, tx7 m, tx8, textI, partsI, joinB, lastB, hf, hv]
def fl_text4_v0 : List (Ev.SB × Bool) := [(.seq (.app (.lit [66, 32]) (.atom 7)) (.lit []), false), (.atom 1, false)]
theorem run_text4_v0 (φ : Ev.Val → Prop) : Ev.outV ((Ev.evO Tryd.prog ⟨fl_text4_v0, φ, Ev.noG⟩ (Ev.orcL (teA (.lit 4) (.atom 5))) 1000 30 (.fn 9) [insC (.lit 4) (.atom 5)]).go .e 0) = some (.tuple [.txt (.app (.app (.app (.lit [66, 32]) (.atom 7)) (.lit [32])) (.atom 4)), .int .i64 (.lit 0)]) := by kernel_rfl
set_option maxHeartbeats 1000000 in
theorem text4_v0 (I : Ins) (m : MayIs I) (hf : I.form = 4) (hv : I.v = false) (w : World) (hT : Tab w) : Calls Tryd.prog 9 #[.agg (insCells I)] w fun e w' => e = .returned (.tuple #[.string (S (textI I)), .int .i64 0]) ∧ Below w.heap.size w w' := by
  have hne := (op_len I.op m.o0 m.o1).2
  refine text_run I m (f := .lit 4) (c := .atom 5) hf rfl (teA_ok I m (.lit 4) (.atom 5) hf rfl) run_text4_v0 ?_ ?_ w hT
  · refine con_ok ?_ (con_ok ?_ (no_ok))
    all_goals simp [Ev.SB.den, Ev.ST.den, Ev.SI.den, Ev.cmpI, txV_i, txV_b, txV_s, insI, insB, tx0 m, hne, hf, hv]
  · simp [Ev.ST.den, txV_s, tx0 m, tx1 m, tx2 m, tx3 m, tx4 m, tx5 m, tx6 m, tx7 m, tx8, textI, partsI, joinB, lastB, hf, hv]
def fl_text4_v1 : List (Ev.SB × Bool) := [(.seq (.app (.lit [66, 76, 32]) (.atom 7)) (.lit []), false), (.atom 1, true)]
theorem run_text4_v1 (φ : Ev.Val → Prop) : Ev.outV ((Ev.evO Tryd.prog ⟨fl_text4_v1, φ, Ev.noG⟩ (Ev.orcL (teA (.lit 4) (.atom 5))) 1000 30 (.fn 9) [insC (.lit 4) (.atom 5)]).go .e 0) = some (.tuple [.txt (.app (.app (.app (.lit [66, 76, 32]) (.atom 7)) (.lit [32])) (.atom 4)), .int .i64 (.lit 0)]) := by kernel_rfl
set_option maxHeartbeats 1000000 in
theorem text4_v1 (I : Ins) (m : MayIs I) (hf : I.form = 4) (hv : I.v = true) (w : World) (hT : Tab w) : Calls Tryd.prog 9 #[.agg (insCells I)] w fun e w' => e = .returned (.tuple #[.string (S (textI I)), .int .i64 0]) ∧ Below w.heap.size w w' := by
  have hne := (op_len I.op m.o0 m.o1).2
  refine text_run I m (f := .lit 4) (c := .atom 5) hf rfl (teA_ok I m (.lit 4) (.atom 5) hf rfl) run_text4_v1 ?_ ?_ w hT
  · refine con_ok ?_ (con_ok ?_ (no_ok))
    all_goals simp [Ev.SB.den, Ev.ST.den, Ev.SI.den, Ev.cmpI, txV_i, txV_b, txV_s, insI, insB, tx0 m, hne, hf, hv]
  · simp [Ev.ST.den, txV_s, tx0 m, tx1 m, tx2 m, tx3 m, tx4 m, tx5 m, tx6 m, tx7 m, tx8, textI, partsI, joinB, lastB, hf, hv]
def fl_text5_v0 : List (Ev.SB × Bool) := [(.seq (.app (.lit [66, 32]) (.atom 7)) (.lit []), false), (.atom 1, false)]
theorem run_text5_v0 (φ : Ev.Val → Prop) : Ev.outV ((Ev.evO Tryd.prog ⟨fl_text5_v0, φ, Ev.noG⟩ (Ev.orcL (teA (.lit 5) (.atom 5))) 1000 30 (.fn 9) [insC (.lit 5) (.atom 5)]).go .e 0) = some (.tuple [.txt (.app (.app (.app (.lit [66, 32]) (.atom 7)) (.lit [32])) (.atom 3)), .int .i64 (.lit 0)]) := by kernel_rfl
set_option maxHeartbeats 1000000 in
theorem text5_v0 (I : Ins) (m : MayIs I) (hf : I.form = 5) (hv : I.v = false) (w : World) (hT : Tab w) : Calls Tryd.prog 9 #[.agg (insCells I)] w fun e w' => e = .returned (.tuple #[.string (S (textI I)), .int .i64 0]) ∧ Below w.heap.size w w' := by
  have hne := (op_len I.op m.o0 m.o1).2
  refine text_run I m (f := .lit 5) (c := .atom 5) hf rfl (teA_ok I m (.lit 5) (.atom 5) hf rfl) run_text5_v0 ?_ ?_ w hT
  · refine con_ok ?_ (con_ok ?_ (no_ok))
    all_goals simp [Ev.SB.den, Ev.ST.den, Ev.SI.den, Ev.cmpI, txV_i, txV_b, txV_s, insI, insB, tx0 m, hne, hf, hv]
  · simp [Ev.ST.den, txV_s, tx0 m, tx1 m, tx2 m, tx3 m, tx4 m, tx5 m, tx6 m, tx7 m, tx8, textI, partsI, joinB, lastB, hf, hv]
def fl_text5_v1 : List (Ev.SB × Bool) := [(.seq (.app (.lit [66, 76, 32]) (.atom 7)) (.lit []), false), (.atom 1, true)]
theorem run_text5_v1 (φ : Ev.Val → Prop) : Ev.outV ((Ev.evO Tryd.prog ⟨fl_text5_v1, φ, Ev.noG⟩ (Ev.orcL (teA (.lit 5) (.atom 5))) 1000 30 (.fn 9) [insC (.lit 5) (.atom 5)]).go .e 0) = some (.tuple [.txt (.app (.app (.app (.lit [66, 76, 32]) (.atom 7)) (.lit [32])) (.atom 3)), .int .i64 (.lit 0)]) := by kernel_rfl
set_option maxHeartbeats 1000000 in
theorem text5_v1 (I : Ins) (m : MayIs I) (hf : I.form = 5) (hv : I.v = true) (w : World) (hT : Tab w) : Calls Tryd.prog 9 #[.agg (insCells I)] w fun e w' => e = .returned (.tuple #[.string (S (textI I)), .int .i64 0]) ∧ Below w.heap.size w w' := by
  have hne := (op_len I.op m.o0 m.o1).2
  refine text_run I m (f := .lit 5) (c := .atom 5) hf rfl (teA_ok I m (.lit 5) (.atom 5) hf rfl) run_text5_v1 ?_ ?_ w hT
  · refine con_ok ?_ (con_ok ?_ (no_ok))
    all_goals simp [Ev.SB.den, Ev.ST.den, Ev.SI.den, Ev.cmpI, txV_i, txV_b, txV_s, insI, insB, tx0 m, hne, hf, hv]
  · simp [Ev.ST.den, txV_s, tx0 m, tx1 m, tx2 m, tx3 m, tx4 m, tx5 m, tx6 m, tx7 m, tx8, textI, partsI, joinB, lastB, hf, hv]
def fl_text6_n0 : List (Ev.SB × Bool) := [(.seq (.app (.lit [83, 89, 83, 32]) (.atom 7)) (.lit []), false), (.cmp .lss (.atom 10) (.lit 16), false)]
theorem run_text6_n0 (φ : Ev.Val → Prop) : Ev.outV ((Ev.evO Tryd.prog ⟨fl_text6_n0, φ, Ev.noG⟩ (Ev.orcL (teA (.lit 6) (.atom 5))) 1000 30 (.fn 9) [insC (.lit 6) (.atom 5)]).go .e 0) = some (.tuple [.txt (.app (.app (.app (.lit [83, 89, 83, 32]) (.atom 7)) (.lit [32])) (.atom 6)), .int .i64 (.lit 0)]) := by kernel_rfl
set_option maxHeartbeats 1000000 in
theorem text6_n0 (I : Ins) (m : MayIs I) (hf : I.form = 6) (hn : ¬ I.n < 16) (w : World) (hT : Tab w) : Calls Tryd.prog 9 #[.agg (insCells I)] w fun e w' => e = .returned (.tuple #[.string (S (textI I)), .int .i64 0]) ∧ Below w.heap.size w w' := by
  have hne := (op_len I.op m.o0 m.o1).2
  refine text_run I m (f := .lit 6) (c := .atom 5) hf rfl (teA_ok I m (.lit 6) (.atom 5) hf rfl) run_text6_n0 ?_ ?_ w hT
  · refine con_ok ?_ (con_ok ?_ (no_ok))
    all_goals simp [Ev.SB.den, Ev.ST.den, Ev.SI.den, Ev.cmpI, txV_i, txV_b, txV_s, insI, insB, tx0 m, hne, hf, hn]
  · simp [Ev.ST.den, txV_s, tx0 m, tx1 m, tx2 m, tx3 m, tx4 m, tx5 m, tx6 m, tx7 m, tx8, textI, partsI, joinB, lastB, hf, hn]
def fl_text6_n1 : List (Ev.SB × Bool) := [(.seq (.app (.lit [84, 82, 65, 80, 32]) (.atom 7)) (.lit []), false), (.cmp .lss (.atom 10) (.lit 16), true)]
theorem run_text6_n1 (φ : Ev.Val → Prop) : Ev.outV ((Ev.evO Tryd.prog ⟨fl_text6_n1, φ, Ev.noG⟩ (Ev.orcL (teA (.lit 6) (.atom 5))) 1000 30 (.fn 9) [insC (.lit 6) (.atom 5)]).go .e 0) = some (.tuple [.txt (.app (.app (.app (.lit [84, 82, 65, 80, 32]) (.atom 7)) (.lit [32])) (.atom 6)), .int .i64 (.lit 0)]) := by kernel_rfl
set_option maxHeartbeats 1000000 in
theorem text6_n1 (I : Ins) (m : MayIs I) (hf : I.form = 6) (hn : I.n < 16) (w : World) (hT : Tab w) : Calls Tryd.prog 9 #[.agg (insCells I)] w fun e w' => e = .returned (.tuple #[.string (S (textI I)), .int .i64 0]) ∧ Below w.heap.size w w' := by
  have hne := (op_len I.op m.o0 m.o1).2
  refine text_run I m (f := .lit 6) (c := .atom 5) hf rfl (teA_ok I m (.lit 6) (.atom 5) hf rfl) run_text6_n1 ?_ ?_ w hT
  · refine con_ok ?_ (con_ok ?_ (no_ok))
    all_goals simp [Ev.SB.den, Ev.ST.den, Ev.SI.den, Ev.cmpI, txV_i, txV_b, txV_s, insI, insB, tx0 m, hne, hf, hn]
  · simp [Ev.ST.den, txV_s, tx0 m, tx1 m, tx2 m, tx3 m, tx4 m, tx5 m, tx6 m, tx7 m, tx8, textI, partsI, joinB, lastB, hf, hn]
theorem text_any (I : Ins) (m : MayIs I) (w : World) (hT : Tab w) : Calls Tryd.prog 9 #[.agg (insCells I)] w fun e w' => e = .returned (.tuple #[.string (S (textI I)), .int .i64 0]) ∧ Below w.heap.size w w' := by
  have h0 := m.f0
  have h6 := m.f1
  rcases (by omega : I.form = 0 ∨ I.form = 1 ∨ I.form = 2 ∨ I.form = 3 ∨ I.form = 4 ∨ I.form = 5 ∨ I.form = 6) with h | h | h | h | h | h | h
  · by_cases ho : I.op = 0 <;> cases hu : I.u
    · exact text0_u0_o1 I m h hu ho w hT
    · obtain ⟨g1, g2, g3, g4, g5, g6⟩ := m.r h
      rw [ho, hu] at g6
      have g9 := ((mov_may g6).2 rfl).2 rfl
      by_cases hc : I.c = 0
      · exact text0_u1_o1_c0 I m h hu ho hc w hT
      · exact text0_u1_o1_c1 I m h hu ho (by have := m.c0; omega) w hT
    · exact text0_u0_o0 I m h hu ho w hT
    · exact text0_u1_o0 I m h hu ho w hT
  · by_cases ho : I.op = 0 <;> cases hu : I.u
    · exact text1_u0_o1 I m h hu ho w hT
    · exact text1_u1_o1 I m h hu ho w hT
    · exact text1_u0_o0 I m h hu ho w hT
    · exact text1_u1_o0 I m h hu ho w hT
  · cases hv : I.v
    · exact text2_v0 I m h hv w hT
    · exact text2_v1 I m h hv w hT
  · cases hv : I.v
    · exact text3_v0 I m h hv w hT
    · exact text3_v1 I m h hv w hT
  · cases hv : I.v
    · exact text4_v0 I m h hv w hT
    · exact text4_v1 I m h hv w hT
  · cases hv : I.v
    · exact text5_v0 I m h hv w hT
    · exact text5_v1 I m h hv w hT
  · by_cases hn : I.n < 16
    · exact text6_n1 I m h hn w hT
    · exact text6_n0 I m h hn w hT
end
end Go.Proofs.YtbhnkfhikjhaoaaDoor

/-
  The contract of the document's answer for an operation: Do of layer 4's reference leaves what package risc's operate leaves.
-/
import Derived.Test.YtgjecfchnokcfaaBoth
import Derived.Test.YtgjecfchnokcfaaRefOf
import Derived.Test.YtgjecfchnokcfaaRiscF
import Derived.Test.YtgjecfchnokcfaaWordR
import Derived.Test.YtgjecfchnokcfaaOpenS
import Derived.Laws.BitsAllLaws
namespace Go.Proofs.Ytgjecfchnokcfaa
open Go.ChangeShapes Go.WideShapes Go.ChangeAt Go.RowKit
set_option linter.unusedVariables false
set_option linter.unusedSimpArgs false
noncomputable section
/-! ### bit by bit -/
theorem both_f (how : Nat) (hh : how < 4) (f : Nat → Nat → Nat) (op : BinOp) (A B : Nat) (hA : A < 4294967296) (hB : B < 4294967296) (hf : ∀ k, (f A B).testBit k = bitF how (A.testBit k) (B.testBit k)) (hl : f A B < 2 ^ 32) (hb : bits op IntKind.u32 (A : Int) (B : Int) = ((f A B : Nat) : Int)) (w : World) :
    Calls Try.prog 58 #[.int .u32 (A : Int), .int .u32 (B : Int), .int .i64 (how : Int)] w fun e w' => e = .returned (.int .u32 (bits op IntKind.u32 (A : Int) (B : Int))) ∧ Below w.heap.size w w' := by
  refine (both_grown how A B hh hA hB w).mono ?_
  rintro e w' ⟨rfl, rfl⟩
  rw [hb, grown_op how A B f hf 32, Nat.mod_eq_of_lt hl]
  exact ⟨rfl, Below.refl _ _⟩
def bitO (how : Nat) : BinOp := if how = 0 then .and else if how = 1 then .andNot else if how = 2 then .or else .xor
theorem both_any (how : Nat) (hh : how < 4) (a b : Int) (a0 : 0 ≤ a) (a1 : a ≤ 4294967295) (b0 : 0 ≤ b) (b1 : b ≤ 4294967295) (w : World) :
    Calls Try.prog 58 #[.int .u32 a, .int .u32 b, .int .i64 (how : Int)] w fun e w' => e = .returned (.int .u32 (bits (bitO how) IntKind.u32 a b)) ∧ Below w.heap.size w w' := by
  obtain ⟨A, rfl⟩ := Int.eq_ofNat_of_zero_le a0
  obtain ⟨B, rfl⟩ := Int.eq_ofNat_of_zero_le b0
  have hA : A < 4294967296 := by omega
  have hB : B < 4294967296 := by omega
  have : how = 0 ∨ how = 1 ∨ how = 2 ∨ how = 3 := by omega
  rcases this with rfl | rfl | rfl | rfl
  · exact both_f 0 (by omega) (· &&& ·) .and A B hA hB (fun k => by simp [bitF]) (Nat.and_lt_two_pow _ hB) (u32_and_nat A B hA hB) w
  · refine both_f 1 (by omega) (fun a b => a &&& (4294967295 - b)) .andNot A B hA hB (fun k => ?_) (Nat.and_lt_two_pow _ (by omega)) (u32_andNot_nat A B hA hB) w
    have e := Nat.testBit_two_pow_sub_succ (n := 32) (x := B) hB k
    rw [show 2 ^ 32 - (B + 1) = 4294967295 - B by omega] at e
    simp only [Nat.testBit_and, e, bitF]
    by_cases hk : k < 32
    · simp [hk]
    · have : A.testBit k = false := Nat.testBit_lt_two_pow (Nat.lt_of_lt_of_le hA (by rw [show 4294967296 = 2 ^ 32 from rfl]; exact Nat.pow_le_pow_right (by omega) (by omega)))
      simp [this]
  · exact both_f 2 (by omega) (· ||| ·) .or A B hA hB (fun k => by simp [bitF]) (Nat.or_lt_two_pow hA hB) (u32_or_nat A B hA hB) w
  · exact both_f 3 (by omega) (· ^^^ ·) .xor A B hA hB (fun k => by simp [bitF]) (Nat.xor_lt_two_pow hA hB) (u32_xor_nat A B hA hB) w
namespace rdo
theorem con_ok {ρ : Ev.Val} {s : Ev.SB} {b : Bool} {m : List (Ev.SB × Bool)} (h : s.den ρ = b) (g : ∀ q ∈ m, q.1.den ρ = q.2) : ∀ q ∈ (s, b) :: m, q.1.den ρ = q.2 := fun q hq => by
  rcases List.mem_cons.1 hq with rfl | hq
  · exact h
  · exact g q hq
theorem no_ok {ρ : Ev.Val} : ∀ q ∈ ([] : List (Ev.SB × Bool)), q.1.den ρ = q.2 := fun q hq => by cases hq
/-! ### the value of a number -/
def insF (f : Nat) : Ev.AV := .agg [.int .i64 (.lit (.ofNat f)), .bool (.atom 0), .bool (.atom 1), .int .i64 (.atom 3), .int .i64 (.atom 4), .int .i64 (.atom 5), .int .i64 (.atom 6), .int .i64 (.atom 7), .int .i64 (.atom 8), .int .i64 (.atom 9), .int .i64 (.atom 10)]
theorem insF_rel (I : Ins) (f : Nat) (hf : I.form = (f : Int)) (μ : Ev.Names) : Ev.rel (insVal I) μ (insF f) (.agg (insCells I)) := ⟨(insCells I).toList, by simp, congrArg (Value.int .i64) hf, rfl, rfl, rfl, rfl, rfl, rfl, rfl, rfl, rfl, rfl, trivial⟩
def rvI (I : Ins) : Int := if I.form = 1 then valI I.u I.v I.op I.im else 0
def nI : Ev.SI := .wrap .u32 (.bin .rem .u64 (.wrap .u64 (.atom 7)) (.lit 4294967296))
theorem val0 (φ : Ev.Val → Prop) : Ev.outV ((Ev.evO Try.prog ⟨[], φ⟩ (Ev.orcL []) 1000 30 (.fn 54) [insF 0]).go .e 0) = some (.int .u32 (.lit 0)) := by kernel_rfl
theorem valM (φ : Ev.Val → Prop) : Ev.outV ((Ev.evO Try.prog ⟨[(.atom 0, true), (.cmp .eql (.atom 6) (.lit 0), true)], φ⟩ (Ev.orcL []) 1000 30 (.fn 54) [insF 1]).go .e 0) = some (.int .u32 (.bin .mul .u32 nI (.lit 65536))) := by kernel_rfl
theorem valUt (φ : Ev.Val → Prop) : Ev.outV ((Ev.evO Try.prog ⟨[(.atom 0, true), (.cmp .eql (.atom 6) (.lit 0), false), (.atom 1, true)], φ⟩ (Ev.orcL []) 1000 30 (.fn 54) [insF 1]).go .e 0) = some (.int .u32 (.bin .or .u32 nI (.lit 4294901760))) := by kernel_rfl
theorem valNt (φ : Ev.Val → Prop) : Ev.outV ((Ev.evO Try.prog ⟨[(.atom 0, false), (.atom 1, true)], φ⟩ (Ev.orcL []) 1000 30 (.fn 54) [insF 1]).go .e 0) = some (.int .u32 (.bin .or .u32 nI (.lit 4294901760))) := by kernel_rfl
theorem valUf (φ : Ev.Val → Prop) : Ev.outV ((Ev.evO Try.prog ⟨[(.atom 0, true), (.cmp .eql (.atom 6) (.lit 0), false), (.atom 1, false)], φ⟩ (Ev.orcL []) 1000 30 (.fn 54) [insF 1]).go .e 0) = some (.int .u32 (nI)) := by kernel_rfl
theorem valNf (φ : Ev.Val → Prop) : Ev.outV ((Ev.evO Try.prog ⟨[(.atom 0, false), (.atom 1, false)], φ⟩ (Ev.orcL []) 1000 30 (.fn 54) [insF 1]).go .e 0) = some (.int .u32 (nI)) := by kernel_rfl
theorem value_run (I : Ins) (f : Nat) (hf : I.form = (f : Int)) (l : List (Ev.SB × Bool)) (s : Ev.SI) (n : Int) (hl : ∀ q ∈ l, q.1.den (insVal I) = q.2) (hs : s.den (insVal I) = n)
    (hrun : ∀ φ, Ev.outV ((Ev.evO Try.prog ⟨l, φ⟩ (Ev.orcL []) 1000 30 (.fn 54) [insF f]).go .e 0) = some (.int .u32 s)) (w : World) :
    Calls Try.prog 54 #[.agg (insCells I)] w fun e w' => e = .returned (.int .u32 n) ∧ Below w.heap.size w w' := by
  refine (Ev.calls_of (A := ⟨l, fun σ => σ = insVal I⟩) (Ev.orcL_ok _ Ev.ents_nil) 1000 30 (hrun _) (insVal I) ⟨hl, rfl⟩ [.agg (insCells I)] w ⟨trivial, Nat.zero_le _⟩ ⟨insF_rel I f hf _, trivial⟩).mono ?_
  rintro e w' ⟨t, μ, rfl, ht, hb⟩
  exact ⟨by rw [show t = .int .u32 (s.den (insVal I)) from ht, hs], hb⟩
theorem nI_den (I : Ins) (m0 : 0 ≤ I.im) (m1 : I.im ≤ 65535) : nI.den (insVal I) = I.im := by
  show IntKind.u32.wrap ((IntKind.u64.wrap I.im).tmod 4294967296) = I.im
  rw [IntKind.wrap_u64, IntKind.wrap_u32, Int.emod_eq_of_lt m0 (by omega), Int.tmod_eq_emod_of_nonneg m0]
  omega
theorem rvalue_any (I : Ins) (hf : I.form = 0 ∨ I.form = 1) (m0 : 0 ≤ I.im) (m1 : I.im ≤ 65535) (w : World) :
    Calls Try.prog 54 #[.agg (insCells I)] w fun e w' => e = .returned (.int .u32 (rvI I)) ∧ Below w.heap.size w w' := by
  have hn := nI_den I m0 m1
  have hO : (Ev.SI.bin .or .u32 nI (.lit 4294901760)).den (insVal I) = I.im + 4294901760 := by
    show bits .or .u32 (nI.den (insVal I)) 4294901760 = _
    rw [hn]; exact orHigh I.im m0 m1
  have hM : (Ev.SI.bin .mul .u32 nI (.lit 65536)).den (insVal I) = I.im * 65536 := by
    show IntKind.u32.wrap (nI.den (insVal I) * 65536) = _
    rw [hn, IntKind.wrap_u32]; omega
  rcases hf with hf | hf
  · exact value_run I 0 hf [] _ _ no_ok (by rw [rvI, if_neg (by omega)]; rfl) val0 w
  · rw [show rvI I = valI I.u I.v I.op I.im from if_pos hf]
    cases hu : I.u with
    | true =>
      by_cases ho : I.op = 0
      · exact value_run I 1 hf _ _ _ (con_ok (by exact hu) (con_ok (by show (I.op == 0) = true; rw [ho]; rfl) no_ok)) (by rw [hM, valI, if_pos ⟨rfl, ho⟩]) valM w
      · have ho' : (I.op == 0) = false := by simpa using ho
        cases hv : I.v with
        | true => exact value_run I 1 hf _ _ _ (con_ok (by exact hu) (con_ok (by exact ho') (con_ok (by exact hv) no_ok))) (by rw [hO, valI, if_neg (fun h => ho h.2), if_pos rfl]) valUt w
        | false => exact value_run I 1 hf _ _ _ (con_ok (by exact hu) (con_ok (by exact ho') (con_ok (by exact hv) no_ok))) (by rw [hn, valI, if_neg (fun h => ho h.2), if_neg (by simp)]) valUf w
    | false =>
      cases hv : I.v with
      | true => exact value_run I 1 hf _ _ _ (con_ok (by exact hu) (con_ok (by exact hv) no_ok)) (by rw [hO, valI, if_neg (fun h => by simp at h), if_pos rfl]) valNt w
      | false => exact value_run I 1 hf _ _ _ (con_ok (by exact hu) (con_ok (by exact hv) no_ok)) (by rw [hn, valI, if_neg (fun h => by simp at h), if_neg (by simp)]) valNf w
/-! ### Do -/
def cpuA : Ev.AV := .agg [.int .u32 (.atom 100), .int .u32 (.atom 101), .int .u32 (.atom 102), .int .u32 (.atom 103), .int .u32 (.atom 104), .int .u32 (.atom 105), .int .u32 (.atom 106), .int .u32 (.atom 107), .int .u32 (.atom 108), .int .u32 (.atom 109), .int .u32 (.atom 110), .int .u32 (.atom 111), .int .u32 (.atom 112), .int .u32 (.atom 113), .int .u32 (.atom 114), .int .u32 (.atom 115), .int .u32 (.atom 116), .bool (.atom 10), .bool (.atom 11), .bool (.atom 12), .bool (.atom 13), .int .u32 (.atom 117)]
def cpuB : Ev.AV := .agg [.int .u32 (.atom 200), .int .u32 (.atom 201), .int .u32 (.atom 202), .int .u32 (.atom 203), .int .u32 (.atom 204), .int .u32 (.atom 205), .int .u32 (.atom 206), .int .u32 (.atom 207), .int .u32 (.atom 208), .int .u32 (.atom 209), .int .u32 (.atom 210), .int .u32 (.atom 211), .int .u32 (.atom 212), .int .u32 (.atom 213), .int .u32 (.atom 214), .int .u32 (.atom 215), .int .u32 (.atom 216), .bool (.atom 60), .bool (.atom 61), .bool (.atom 62), .bool (.atom 63), .int .u32 (.atom 217)]
def cpuC : Ev.AV := .agg [.int .u32 (.atom 100), .int .u32 (.atom 101), .int .u32 (.atom 102), .int .u32 (.atom 103), .int .u32 (.atom 104), .int .u32 (.atom 105), .int .u32 (.atom 106), .int .u32 (.atom 107), .int .u32 (.atom 108), .int .u32 (.atom 109), .int .u32 (.atom 110), .int .u32 (.atom 111), .int .u32 (.atom 112), .int .u32 (.atom 113), .int .u32 (.atom 114), .int .u32 (.atom 115), .int .u32 (.atom 116), .bool (.atom 10), .bool (.atom 11), .bool (.atom 64), .bool (.atom 65), .int .u32 (.atom 117)]
def cpuH : Ev.AV := .agg [.int .u32 (.atom 100), .int .u32 (.atom 101), .int .u32 (.atom 102), .int .u32 (.atom 103), .int .u32 (.atom 104), .int .u32 (.atom 105), .int .u32 (.atom 106), .int .u32 (.atom 107), .int .u32 (.atom 108), .int .u32 (.atom 109), .int .u32 (.atom 110), .int .u32 (.atom 111), .int .u32 (.atom 112), .int .u32 (.atom 113), .int .u32 (.atom 114), .int .u32 (.atom 115), .int .u32 (.atom 154), .bool (.atom 10), .bool (.atom 11), .bool (.atom 12), .bool (.atom 13), .int .u32 (.atom 117)]
def insK (f op : Nat) : Ev.AV := .agg [.int .i64 (.lit (.ofNat f)), .bool (.atom 0), .bool (.atom 1), .int .i64 (.atom 3), .int .i64 (.atom 4), .int .i64 (.atom 5), .int .i64 (.lit (.ofNat op)), .int .i64 (.atom 7), .int .i64 (.atom 8), .int .i64 (.atom 9), .int .i64 (.atom 10)]
def regB : Ev.SI := .sel 100 (.atom 4)
def regC : Ev.SI := .sel 100 (.atom 5)
def crr : Ev.SB := .ite (.atom 0) (.atom 12) (.lit false)
def head (f op : Nat) (l : List Ev.Ent) : List Ev.Ent := ⟨54, [insK f op], .int .u32 (.atom 150)⟩ :: ⟨18, [cpuA], .int .u32 (.atom 151)⟩ :: l
def setE (c : Ev.AV) (n : Ev.SI) : Ev.Ent := ⟨20, [c, .int .i64 (.atom 3), .int .u32 n], cpuB⟩
def es0 (f : Nat) (n : Ev.SI) : List Ev.Ent := head f 0 [setE cpuA n]
def es1 (f : Nat) (n : Ev.SI) : List Ev.Ent := head f 1 [⟨55, [.int .u32 regB, .int .u32 n], .int .u32 (.atom 152)⟩, setE cpuA (.atom 152)]
def es2 (f : Nat) (n : Ev.SI) : List Ev.Ent := head f 2 [⟨56, [.int .u32 regB, .int .u32 n], .int .u32 (.atom 152)⟩, setE cpuA (.atom 152)]
def es3 (f : Nat) (n : Ev.SI) : List Ev.Ent := head f 3 [⟨57, [.int .u32 regB, .int .u32 n], .int .u32 (.atom 152)⟩, setE cpuA (.atom 152)]
def es4 (f : Nat) (n : Ev.SI) : List Ev.Ent := head f 4 [⟨58, [.int .u32 regB, .int .u32 n, .int .i64 (.lit 0)], .int .u32 (.atom 152)⟩, setE cpuA (.atom 152)]
def es5 (f : Nat) (n : Ev.SI) : List Ev.Ent := head f 5 [⟨58, [.int .u32 regB, .int .u32 n, .int .i64 (.lit 1)], .int .u32 (.atom 152)⟩, setE cpuA (.atom 152)]
def es6 (f : Nat) (n : Ev.SI) : List Ev.Ent := head f 6 [⟨58, [.int .u32 regB, .int .u32 n, .int .i64 (.lit 2)], .int .u32 (.atom 152)⟩, setE cpuA (.atom 152)]
def es7 (f : Nat) (n : Ev.SI) : List Ev.Ent := head f 7 [⟨58, [.int .u32 regB, .int .u32 n, .int .i64 (.lit 3)], .int .u32 (.atom 152)⟩, setE cpuA (.atom 152)]
def es8 (f : Nat) (n : Ev.SI) : List Ev.Ent := head f 8 [⟨59, [.int .u32 regB, .int .u32 n, .bool crr], .tuple [.int .u32 (.atom 152), .bool (.atom 64), .bool (.atom 65)]⟩, setE cpuC (.atom 152)]
def es9 (f : Nat) (n : Ev.SI) : List Ev.Ent := head f 9 [⟨60, [.int .u32 regB, .int .u32 n, .bool crr], .tuple [.int .u32 (.atom 152), .bool (.atom 64), .bool (.atom 65)]⟩, setE cpuC (.atom 152)]
def es10 (f : Nat) (n : Ev.SI) : List Ev.Ent := head f 10 [⟨61, [.int .u32 regB, .int .u32 n, .bool (.not (.atom 0))], .tuple [.int .u32 (.atom 152), .int .u32 (.atom 154)]⟩, setE cpuH (.atom 152)]
def es11 (f : Nat) (n : Ev.SI) : List Ev.Ent := head f 11 [⟨24, [.int .u32 n], .int .i64 (.atom 153)⟩, ⟨26, [.int .u32 regB, .int .u32 n], .tuple [.int .u32 (.atom 152), .int .u32 (.atom 154)]⟩, setE cpuH (.atom 152)]
def esN (f : Nat) (n : Ev.SI) : List Ev.Ent := head f 11 [⟨24, [.int .u32 n], .int .i64 (.atom 153)⟩]
def lB : List (Ev.SB × Bool) := [(.cmp .lss (.atom 4) (.lit 0), false), (.cmp .lss (.atom 4) (.lit 16), true)]
def lC : List (Ev.SB × Bool) := (.cmp .lss (.atom 5) (.lit 0), false) :: (.cmp .lss (.atom 5) (.lit 16), true) :: lB
theorem run0n (φ : Ev.Val → Prop) : Ev.outV ((Ev.evO Try.prog ⟨((.atom 0, false) :: lC), φ⟩ (Ev.orcL (es0 0 (regC))) 1000 30 (.fn 34) [cpuA, insK 0 0]).go .e 0) = some (.tuple [cpuB, .bool (.lit true)]) := by kernel_rfl
theorem run0h (φ : Ev.Val → Prop) : Ev.outV ((Ev.evO Try.prog ⟨((.atom 0, true) :: (.cmp .eql (.atom 5) (.lit 1), false) :: lC), φ⟩ (Ev.orcL (es0 0 (.atom 116))) 1000 30 (.fn 34) [cpuA, insK 0 0]).go .e 0) = some (.tuple [cpuB, .bool (.lit true)]) := by kernel_rfl
theorem run0f (φ : Ev.Val → Prop) : Ev.outV ((Ev.evO Try.prog ⟨((.atom 0, true) :: (.cmp .eql (.atom 5) (.lit 1), true) :: lC), φ⟩ (Ev.orcL (es0 0 (.atom 151))) 1000 30 (.fn 34) [cpuA, insK 0 0]).go .e 0) = some (.tuple [cpuB, .bool (.lit true)]) := by kernel_rfl
theorem run0_1 (φ : Ev.Val → Prop) : Ev.outV ((Ev.evO Try.prog ⟨lC, φ⟩ (Ev.orcL (es1 0 (regC))) 1000 30 (.fn 34) [cpuA, insK 0 1]).go .e 0) = some (.tuple [cpuB, .bool (.lit true)]) := by kernel_rfl
theorem run0_2 (φ : Ev.Val → Prop) : Ev.outV ((Ev.evO Try.prog ⟨lC, φ⟩ (Ev.orcL (es2 0 (regC))) 1000 30 (.fn 34) [cpuA, insK 0 2]).go .e 0) = some (.tuple [cpuB, .bool (.lit true)]) := by kernel_rfl
theorem run0_3 (φ : Ev.Val → Prop) : Ev.outV ((Ev.evO Try.prog ⟨lC, φ⟩ (Ev.orcL (es3 0 (regC))) 1000 30 (.fn 34) [cpuA, insK 0 3]).go .e 0) = some (.tuple [cpuB, .bool (.lit true)]) := by kernel_rfl
theorem run0_4 (φ : Ev.Val → Prop) : Ev.outV ((Ev.evO Try.prog ⟨lC, φ⟩ (Ev.orcL (es4 0 (regC))) 1000 30 (.fn 34) [cpuA, insK 0 4]).go .e 0) = some (.tuple [cpuB, .bool (.lit true)]) := by kernel_rfl
theorem run0_5 (φ : Ev.Val → Prop) : Ev.outV ((Ev.evO Try.prog ⟨lC, φ⟩ (Ev.orcL (es5 0 (regC))) 1000 30 (.fn 34) [cpuA, insK 0 5]).go .e 0) = some (.tuple [cpuB, .bool (.lit true)]) := by kernel_rfl
theorem run0_6 (φ : Ev.Val → Prop) : Ev.outV ((Ev.evO Try.prog ⟨lC, φ⟩ (Ev.orcL (es6 0 (regC))) 1000 30 (.fn 34) [cpuA, insK 0 6]).go .e 0) = some (.tuple [cpuB, .bool (.lit true)]) := by kernel_rfl
theorem run0_7 (φ : Ev.Val → Prop) : Ev.outV ((Ev.evO Try.prog ⟨lC, φ⟩ (Ev.orcL (es7 0 (regC))) 1000 30 (.fn 34) [cpuA, insK 0 7]).go .e 0) = some (.tuple [cpuB, .bool (.lit true)]) := by kernel_rfl
theorem run0_8 (φ : Ev.Val → Prop) : Ev.outV ((Ev.evO Try.prog ⟨lC, φ⟩ (Ev.orcL (es8 0 (regC))) 1000 30 (.fn 34) [cpuA, insK 0 8]).go .e 0) = some (.tuple [cpuB, .bool (.lit true)]) := by kernel_rfl
theorem run0_9 (φ : Ev.Val → Prop) : Ev.outV ((Ev.evO Try.prog ⟨lC, φ⟩ (Ev.orcL (es9 0 (regC))) 1000 30 (.fn 34) [cpuA, insK 0 9]).go .e 0) = some (.tuple [cpuB, .bool (.lit true)]) := by kernel_rfl
theorem run0_10 (φ : Ev.Val → Prop) : Ev.outV ((Ev.evO Try.prog ⟨lC, φ⟩ (Ev.orcL (es10 0 (regC))) 1000 30 (.fn 34) [cpuA, insK 0 10]).go .e 0) = some (.tuple [cpuB, .bool (.lit true)]) := by kernel_rfl
theorem run0_11n (φ : Ev.Val → Prop) : Ev.outV ((Ev.evO Try.prog ⟨((.cmp .leq (.atom 153) (.lit 0), true) :: lC), φ⟩ (Ev.orcL (esN 0 (regC))) 1000 30 (.fn 34) [cpuA, insK 0 11]).go .e 0) = some (.tuple [cpuA, .bool (.lit false)]) := by kernel_rfl
theorem run0_11 (φ : Ev.Val → Prop) : Ev.outV ((Ev.evO Try.prog ⟨((.cmp .leq (.atom 153) (.lit 0), false) :: lC), φ⟩ (Ev.orcL (es11 0 (regC))) 1000 30 (.fn 34) [cpuA, insK 0 11]).go .e 0) = some (.tuple [cpuB, .bool (.lit true)]) := by kernel_rfl
theorem run1_0 (φ : Ev.Val → Prop) : Ev.outV ((Ev.evO Try.prog ⟨lB, φ⟩ (Ev.orcL (es0 1 (.atom 150))) 1000 30 (.fn 34) [cpuA, insK 1 0]).go .e 0) = some (.tuple [cpuB, .bool (.lit true)]) := by kernel_rfl
theorem run1_1 (φ : Ev.Val → Prop) : Ev.outV ((Ev.evO Try.prog ⟨lB, φ⟩ (Ev.orcL (es1 1 (.atom 150))) 1000 30 (.fn 34) [cpuA, insK 1 1]).go .e 0) = some (.tuple [cpuB, .bool (.lit true)]) := by kernel_rfl
theorem run1_2 (φ : Ev.Val → Prop) : Ev.outV ((Ev.evO Try.prog ⟨lB, φ⟩ (Ev.orcL (es2 1 (.atom 150))) 1000 30 (.fn 34) [cpuA, insK 1 2]).go .e 0) = some (.tuple [cpuB, .bool (.lit true)]) := by kernel_rfl
theorem run1_3 (φ : Ev.Val → Prop) : Ev.outV ((Ev.evO Try.prog ⟨lB, φ⟩ (Ev.orcL (es3 1 (.atom 150))) 1000 30 (.fn 34) [cpuA, insK 1 3]).go .e 0) = some (.tuple [cpuB, .bool (.lit true)]) := by kernel_rfl
theorem run1_4 (φ : Ev.Val → Prop) : Ev.outV ((Ev.evO Try.prog ⟨lB, φ⟩ (Ev.orcL (es4 1 (.atom 150))) 1000 30 (.fn 34) [cpuA, insK 1 4]).go .e 0) = some (.tuple [cpuB, .bool (.lit true)]) := by kernel_rfl
theorem run1_5 (φ : Ev.Val → Prop) : Ev.outV ((Ev.evO Try.prog ⟨lB, φ⟩ (Ev.orcL (es5 1 (.atom 150))) 1000 30 (.fn 34) [cpuA, insK 1 5]).go .e 0) = some (.tuple [cpuB, .bool (.lit true)]) := by kernel_rfl
theorem run1_6 (φ : Ev.Val → Prop) : Ev.outV ((Ev.evO Try.prog ⟨lB, φ⟩ (Ev.orcL (es6 1 (.atom 150))) 1000 30 (.fn 34) [cpuA, insK 1 6]).go .e 0) = some (.tuple [cpuB, .bool (.lit true)]) := by kernel_rfl
theorem run1_7 (φ : Ev.Val → Prop) : Ev.outV ((Ev.evO Try.prog ⟨lB, φ⟩ (Ev.orcL (es7 1 (.atom 150))) 1000 30 (.fn 34) [cpuA, insK 1 7]).go .e 0) = some (.tuple [cpuB, .bool (.lit true)]) := by kernel_rfl
theorem run1_8 (φ : Ev.Val → Prop) : Ev.outV ((Ev.evO Try.prog ⟨lB, φ⟩ (Ev.orcL (es8 1 (.atom 150))) 1000 30 (.fn 34) [cpuA, insK 1 8]).go .e 0) = some (.tuple [cpuB, .bool (.lit true)]) := by kernel_rfl
theorem run1_9 (φ : Ev.Val → Prop) : Ev.outV ((Ev.evO Try.prog ⟨lB, φ⟩ (Ev.orcL (es9 1 (.atom 150))) 1000 30 (.fn 34) [cpuA, insK 1 9]).go .e 0) = some (.tuple [cpuB, .bool (.lit true)]) := by kernel_rfl
theorem run1_10 (φ : Ev.Val → Prop) : Ev.outV ((Ev.evO Try.prog ⟨lB, φ⟩ (Ev.orcL (es10 1 (.atom 150))) 1000 30 (.fn 34) [cpuA, insK 1 10]).go .e 0) = some (.tuple [cpuB, .bool (.lit true)]) := by kernel_rfl
theorem run1_11n (φ : Ev.Val → Prop) : Ev.outV ((Ev.evO Try.prog ⟨((.cmp .leq (.atom 153) (.lit 0), true) :: lB), φ⟩ (Ev.orcL (esN 1 (.atom 150))) 1000 30 (.fn 34) [cpuA, insK 1 11]).go .e 0) = some (.tuple [cpuA, .bool (.lit false)]) := by kernel_rfl
theorem run1_11 (φ : Ev.Val → Prop) : Ev.outV ((Ev.evO Try.prog ⟨((.cmp .leq (.atom 153) (.lit 0), false) :: lB), φ⟩ (Ev.orcL (es11 1 (.atom 150))) 1000 30 (.fn 34) [cpuA, insK 1 11]).go .e 0) = some (.tuple [cpuB, .bool (.lit true)]) := by kernel_rfl
def doVal (C C' : Cpu) (I : Ins) (X Z H : Int) (p q : Bool) : Ev.Val := Ev.Val.of
  (fun k => if k < 100 then (insVal I).i k else if k < 116 then C.r (k - 100) else if k = 116 then C.h else if k = 117 then C.pc else if k = 150 then rvI I else if k = 151 then flagsI C.n C.z C.c C.v else if k = 152 then X else if k = 153 then Z else if k = 154 then H else if k < 216 then C'.r (k - 200) else if k = 216 then C'.h else C'.pc)
  (fun k => if k < 2 then (insVal I).b k else if k = 10 then C.n else if k = 11 then C.z else if k = 12 then C.c else if k = 13 then C.v else if k = 64 then p else if k = 65 then q else if k = 60 then C'.n else if k = 61 then C'.z else if k = 62 then C'.c else C'.v)
section
variable {C C' : Cpu} {I : Ins} {X Z H : Int} {p q : Bool}
theorem cpuA_rel (μ : Ev.Names) : Ev.rel (doVal C C' I X Z H p q) μ cpuA (.agg (cpuCells C)) := ⟨(cpuCells C).toList, by simp, rfl, rfl, rfl, rfl, rfl, rfl, rfl, rfl, rfl, rfl, rfl, rfl, rfl, rfl, rfl, rfl, rfl, rfl, rfl, rfl, rfl, rfl, trivial⟩
theorem cpuB_rel (μ : Ev.Names) : Ev.rel (doVal C C' I X Z H p q) μ cpuB (.agg (cpuCells C')) := ⟨(cpuCells C').toList, by simp, rfl, rfl, rfl, rfl, rfl, rfl, rfl, rfl, rfl, rfl, rfl, rfl, rfl, rfl, rfl, rfl, rfl, rfl, rfl, rfl, rfl, rfl, trivial⟩
theorem cpuC_rel (μ : Ev.Names) : Ev.rel (doVal C C' I X Z H p q) μ cpuC (.agg (cpuCells { C with c := p, v := q })) := ⟨(cpuCells { C with c := p, v := q }).toList, by simp, rfl, rfl, rfl, rfl, rfl, rfl, rfl, rfl, rfl, rfl, rfl, rfl, rfl, rfl, rfl, rfl, rfl, rfl, rfl, rfl, rfl, rfl, trivial⟩
theorem cpuH_rel (μ : Ev.Names) : Ev.rel (doVal C C' I X Z H p q) μ cpuH (.agg (cpuCells { C with h := H })) := ⟨(cpuCells { C with h := H }).toList, by simp, rfl, rfl, rfl, rfl, rfl, rfl, rfl, rfl, rfl, rfl, rfl, rfl, rfl, rfl, rfl, rfl, rfl, rfl, rfl, rfl, rfl, rfl, trivial⟩
theorem insK_rel (μ : Ev.Names) (f op : Nat) (hf : I.form = (f : Int)) (ho : I.op = (op : Int)) : Ev.rel (doVal C C' I X Z H p q) μ (insK f op) (.agg (insCells I)) := ⟨(insCells I).toList, by simp, congrArg (Value.int .i64) hf, rfl, rfl, rfl, rfl, rfl, congrArg (Value.int .i64) ho, rfl, rfl, rfl, rfl, trivial⟩
theorem sel_den (s : Ev.SI) (k : Nat) (hk : k < 16) (hs : s.den (doVal C C' I X Z H p q) = (k : Int)) : (Ev.SI.sel 100 s).den (doVal C C' I X Z H p q) = C.r k := by
  show (doVal C C' I X Z H p q).i (100 + (s.den (doVal C C' I X Z H p q)).toNat) = C.r k
  rw [hs, Int.toNat_natCast]
  show (if 100 + k < 100 then _ else if 100 + k < 116 then C.r (100 + k - 100) else _) = C.r k
  rw [if_neg (by omega), if_pos (by omega), show 100 + k - 100 = k by omega]
theorem lB_ok (hb : 0 ≤ I.b) (hb' : I.b < 16) : ∀ x ∈ lB, x.1.den (doVal C C' I X Z H p q) = x.2 :=
  con_ok (by show decide (I.b < 0) = false; simpa using hb) (con_ok (by show decide (I.b < 16) = true; simpa using hb') no_ok)
theorem lC_ok (hb : 0 ≤ I.b) (hb' : I.b < 16) (hc : 0 ≤ I.c) (hc' : I.c < 16) : ∀ x ∈ lC, x.1.den (doVal C C' I X Z H p q) = x.2 :=
  con_ok (by show decide (I.c < 0) = false; simpa using hc) (con_ok (by show decide (I.c < 16) = true; simpa using hc') (lB_ok hb hb'))
end
def DoIs (C : Cpu) (o : Option Cpu) (w : World) (e : Ending) (w' : World) : Prop :=
  (match o with
  | some c => e = .returned (.tuple #[.agg (cpuCells c), .bool true])
  | none => e = .returned (.tuple #[.agg (cpuCells C), .bool false])) ∧ Below w.heap.size w w'
theorem do_run {C C' : Cpu} {I : Ins} {X Z H : Int} {p q : Bool} (l : List (Ev.SB × Bool)) (E : List Ev.Ent) (f op : Nat) (v : Ev.AV) (b : Bool) (y : Cpu) (hl : ∀ x ∈ l, x.1.den (doVal C C' I X Z H p q) = x.2) (hE : ∀ e ∈ E, Ev.EntOk Try.prog ⟨l, fun σ => σ = doVal C C' I X Z H p q⟩ e)
    (hf : I.form = (f : Int)) (ho : I.op = (op : Int)) (hp : Ev.plain 4 v = true) (hv : ∀ μ, Ev.rel (doVal C C' I X Z H p q) μ v (.agg (cpuCells y)))
    (hrun : ∀ φ, Ev.outV ((Ev.evO Try.prog ⟨l, φ⟩ (Ev.orcL E) 1000 30 (.fn 34) [cpuA, insK f op]).go .e 0) = some (.tuple [v, .bool (.lit b)])) (w : World) :
    Calls Try.prog 34 #[.agg (cpuCells C), .agg (insCells I)] w fun e w' => e = .returned (.tuple #[.agg (cpuCells y), .bool b]) ∧ Below w.heap.size w w' := by
  refine (Ev.calls_of (A := ⟨l, fun σ => σ = doVal C C' I X Z H p q⟩) (Ev.orcL_ok _ hE) 1000 30 (hrun _) (doVal C C' I X Z H p q) ⟨hl, rfl⟩ [.agg (cpuCells C), .agg (insCells I)] w ⟨trivial, Nat.zero_le _⟩ ⟨cpuA_rel _, insK_rel _ f op hf ho, trivial⟩).mono ?_
  rintro e w' ⟨t, μ, rfl, ht, hb⟩
  refine ⟨?_, hb⟩
  obtain ⟨xs, rfl, hxs⟩ := ht
  obtain ⟨y0, y1, rfl⟩ : ∃ y0 y1, xs = [y0, y1] := by
    rcases xs with _ | ⟨y0, _ | ⟨y1, _ | ⟨y2, l⟩⟩⟩
    · exact hxs.elim
    · exact hxs.2.elim
    · exact ⟨y0, y1, rfl⟩
    · exact hxs.2.2.elim
  have h0 := Ev.rel_fun 4 v y0 _ hp hxs.1 (hv μ)
  have h1 : y1 = .bool b := hxs.2.1
  rw [h0, h1]
theorem head_ok {C C' : Cpu} {I : Ins} {X Z H : Int} {p q : Bool} {l : List (Ev.SB × Bool)} {f op : Nat} {es : List Ev.Ent} (hf : I.form = (f : Int)) (hF : I.form = 0 ∨ I.form = 1) (ho : I.op = (op : Int)) (m0 : 0 ≤ I.im) (m1 : I.im ≤ 65535)
    (h : ∀ e ∈ es, Ev.EntOk Try.prog ⟨l, fun σ => σ = doVal C C' I X Z H p q⟩ e) : ∀ e ∈ head f op es, Ev.EntOk Try.prog ⟨l, fun σ => σ = doVal C C' I X Z H p q⟩ e := by
  refine Ev.ents_cons (Ev.EntOk.of rfl [.agg (insCells I)] ⟨insK_rel _ f op hf ho, trivial⟩ (v := .int .u32 (rvI I)) (fun _ => rfl) (rvalue_any I hF m0 m1)) ?_
  exact Ev.ents_cons (Ev.EntOk.of rfl [.agg (cpuCells C)] ⟨cpuA_rel _, trivial⟩ (v := .int .u32 (flagsI C.n C.z C.c C.v)) (fun _ => rfl) (rflags_any C)) h
structure Are (C : Cpu) (I : Ins) (f A B : Nat) (n : Int) : Prop where
  wf : CpuWf C
  f : I.form = (f : Int)
  F : I.form = 0 ∨ I.form = 1
  m0 : 0 ≤ I.im
  m1 : I.im ≤ 65535
  a : I.a = (A : Int)
  hA : A < 16
  b : I.b = (B : Int)
  hB : B < 16
  n0 : 0 ≤ n
  n1 : n ≤ 4294967295
theorem bits_bd (how : Nat) (a b : Int) (a0 : 0 ≤ a) (a1 : a ≤ 4294967295) (b0 : 0 ≤ b) (b1 : b ≤ 4294967295) : 0 ≤ bits (bitO how) IntKind.u32 a b ∧ bits (bitO how) IntKind.u32 a b ≤ 4294967295 := by
  obtain ⟨A, rfl⟩ := Int.eq_ofNat_of_zero_le a0
  obtain ⟨B, rfl⟩ := Int.eq_ofNat_of_zero_le b0
  have hA : A < 4294967296 := by omega
  have hB : B < 4294967296 := by omega
  unfold bitO
  split
  · rw [u32_and_nat A B hA hB]; have := Nat.and_lt_two_pow (n := 32) A hB; omega
  · split
    · rw [u32_andNot_nat A B hA hB]; have := Nat.and_lt_two_pow (n := 32) A (show 4294967295 - B < 2 ^ 32 by omega); omega
    · split
      · rw [u32_or_nat A B hA hB]; have := Nat.or_lt_two_pow (n := 32) hA hB; omega
      · rw [u32_xor_nat A B hA hB]; have := Nat.xor_lt_two_pow (n := 32) hA hB; omega
theorem do_0 {C : Cpu} {I : Ins} {f A B : Nat} {n : Int} (g : Are C I f A B n) (ho : I.op = 0) (N : Ev.SI) (hN : ∀ C' X Z H p q, N.den (doVal C C' I X Z H p q) = n) (l : List (Ev.SB × Bool)) (hl : ∀ C' X Z H p q, ∀ x ∈ l, x.1.den (doVal C C' I X Z H p q) = x.2)
    (hrun : ∀ φ, Ev.outV ((Ev.evO Try.prog ⟨l, φ⟩ (Ev.orcL (es0 f N)) 1000 30 (.fn 34) [cpuA, insK f 0]).go .e 0) = some (.tuple [cpuB, .bool (.lit true)])) (w : World) :
    Calls Try.prog 34 #[.agg (cpuCells C), .agg (insCells I)] w fun e w' => e = .returned (.tuple #[.agg (cpuCells (ldC C A (n))), .bool true]) ∧ Below w.heap.size w w' := by
  have r0 := (g.wf.r B).1
  have r1 := (g.wf.r B).2
  have n0 := g.n0
  have n1 := g.n1
  refine do_run (C' := (ldC C A (n))) (X := (n)) (Z := 0) (H := 0) (p := false) (q := false) l _ f 0 cpuB true _ (hl _ _ _ _ _ _) (head_ok g.f g.F ho g.m0 g.m1 ?_) g.f ho rfl (fun μ => cpuB_rel μ) hrun w
  exact Ev.ents_cons (Ev.EntOk.of rfl [.agg (cpuCells C), .int .i64 (A : Int), .int .u32 (n)] ⟨cpuA_rel _, congrArg (Value.int .i64) g.a.symm, congrArg (Value.int .u32) (hN _ _ _ _ _ _).symm, trivial⟩ (v := .agg (cpuCells (ldC C A (n)))) (fun μ => cpuB_rel μ) (rset_any C A g.hA (n) (n0) (n1))) Ev.ents_nil
theorem do_1 {C : Cpu} {I : Ins} {f A B : Nat} {n : Int} (g : Are C I f A B n) (ho : I.op = 1) (N : Ev.SI) (hN : ∀ C' X Z H p q, N.den (doVal C C' I X Z H p q) = n) (l : List (Ev.SB × Bool)) (hl : ∀ C' X Z H p q, ∀ x ∈ l, x.1.den (doVal C C' I X Z H p q) = x.2)
    (hrun : ∀ φ, Ev.outV ((Ev.evO Try.prog ⟨l, φ⟩ (Ev.orcL (es1 f N)) 1000 30 (.fn 34) [cpuA, insK f 1]).go .e 0) = some (.tuple [cpuB, .bool (.lit true)])) (w : World) :
    Calls Try.prog 34 #[.agg (cpuCells C), .agg (insCells I)] w fun e w' => e = .returned (.tuple #[.agg (cpuCells (ldC C A (lsh (C.r B) n))), .bool true]) ∧ Below w.heap.size w w' := by
  have r0 := (g.wf.r B).1
  have r1 := (g.wf.r B).2
  have n0 := g.n0
  have n1 := g.n1
  refine do_run (C' := (ldC C A (lsh (C.r B) n))) (X := (lsh (C.r B) n)) (Z := 0) (H := 0) (p := false) (q := false) l _ f 1 cpuB true _ (hl _ _ _ _ _ _) (head_ok g.f g.F ho g.m0 g.m1 ?_) g.f ho rfl (fun μ => cpuB_rel μ) hrun w
  refine Ev.ents_cons (Ev.EntOk.of rfl [.int .u32 (C.r B), .int .u32 n] ⟨congrArg (Value.int .u32) (sel_den (.atom 4) B g.hB g.b).symm, congrArg (Value.int .u32) (hN _ _ _ _ _ _).symm, trivial⟩ (v := .int .u32 (lsh (C.r B) n)) (fun _ => rfl) (fun W => (rleft_any _ _ r0 r1 n0 n1 W).mono fun r W' ⟨h1, h2⟩ => ⟨h1, h2 ▸ Below.refl _ _⟩)) ?_
  exact Ev.ents_cons (Ev.EntOk.of rfl [.agg (cpuCells C), .int .i64 (A : Int), .int .u32 (lsh (C.r B) n)] ⟨cpuA_rel _, congrArg (Value.int .i64) g.a.symm, rfl, trivial⟩ (v := .agg (cpuCells (ldC C A (lsh (C.r B) n)))) (fun μ => cpuB_rel μ) (rset_any C A g.hA (lsh (C.r B) n) ((lsh_bd _ _).1) ((lsh_bd _ _).2))) Ev.ents_nil
theorem do_2 {C : Cpu} {I : Ins} {f A B : Nat} {n : Int} (g : Are C I f A B n) (ho : I.op = 2) (N : Ev.SI) (hN : ∀ C' X Z H p q, N.den (doVal C C' I X Z H p q) = n) (l : List (Ev.SB × Bool)) (hl : ∀ C' X Z H p q, ∀ x ∈ l, x.1.den (doVal C C' I X Z H p q) = x.2)
    (hrun : ∀ φ, Ev.outV ((Ev.evO Try.prog ⟨l, φ⟩ (Ev.orcL (es2 f N)) 1000 30 (.fn 34) [cpuA, insK f 2]).go .e 0) = some (.tuple [cpuB, .bool (.lit true)])) (w : World) :
    Calls Try.prog 34 #[.agg (cpuCells C), .agg (insCells I)] w fun e w' => e = .returned (.tuple #[.agg (cpuCells (ldC C A (ash (C.r B) n))), .bool true]) ∧ Below w.heap.size w w' := by
  have r0 := (g.wf.r B).1
  have r1 := (g.wf.r B).2
  have n0 := g.n0
  have n1 := g.n1
  refine do_run (C' := (ldC C A (ash (C.r B) n))) (X := (ash (C.r B) n)) (Z := 0) (H := 0) (p := false) (q := false) l _ f 2 cpuB true _ (hl _ _ _ _ _ _) (head_ok g.f g.F ho g.m0 g.m1 ?_) g.f ho rfl (fun μ => cpuB_rel μ) hrun w
  refine Ev.ents_cons (Ev.EntOk.of rfl [.int .u32 (C.r B), .int .u32 n] ⟨congrArg (Value.int .u32) (sel_den (.atom 4) B g.hB g.b).symm, congrArg (Value.int .u32) (hN _ _ _ _ _ _).symm, trivial⟩ (v := .int .u32 (ash (C.r B) n)) (fun _ => rfl) (fun W => (rright_any _ _ r0 r1 n0 n1 W).mono fun r W' ⟨h1, h2⟩ => ⟨h1, h2 ▸ Below.refl _ _⟩)) ?_
  exact Ev.ents_cons (Ev.EntOk.of rfl [.agg (cpuCells C), .int .i64 (A : Int), .int .u32 (ash (C.r B) n)] ⟨cpuA_rel _, congrArg (Value.int .i64) g.a.symm, rfl, trivial⟩ (v := .agg (cpuCells (ldC C A (ash (C.r B) n)))) (fun μ => cpuB_rel μ) (rset_any C A g.hA (ash (C.r B) n) ((ash_bd _ _).1) ((ash_bd _ _).2))) Ev.ents_nil
theorem do_3 {C : Cpu} {I : Ins} {f A B : Nat} {n : Int} (g : Are C I f A B n) (ho : I.op = 3) (N : Ev.SI) (hN : ∀ C' X Z H p q, N.den (doVal C C' I X Z H p q) = n) (l : List (Ev.SB × Bool)) (hl : ∀ C' X Z H p q, ∀ x ∈ l, x.1.den (doVal C C' I X Z H p q) = x.2)
    (hrun : ∀ φ, Ev.outV ((Ev.evO Try.prog ⟨l, φ⟩ (Ev.orcL (es3 f N)) 1000 30 (.fn 34) [cpuA, insK f 3]).go .e 0) = some (.tuple [cpuB, .bool (.lit true)])) (w : World) :
    Calls Try.prog 34 #[.agg (cpuCells C), .agg (insCells I)] w fun e w' => e = .returned (.tuple #[.agg (cpuCells (ldC C A (trn (C.r B) n))), .bool true]) ∧ Below w.heap.size w w' := by
  have r0 := (g.wf.r B).1
  have r1 := (g.wf.r B).2
  have n0 := g.n0
  have n1 := g.n1
  refine do_run (C' := (ldC C A (trn (C.r B) n))) (X := (trn (C.r B) n)) (Z := 0) (H := 0) (p := false) (q := false) l _ f 3 cpuB true _ (hl _ _ _ _ _ _) (head_ok g.f g.F ho g.m0 g.m1 ?_) g.f ho rfl (fun μ => cpuB_rel μ) hrun w
  refine Ev.ents_cons (Ev.EntOk.of rfl [.int .u32 (C.r B), .int .u32 n] ⟨congrArg (Value.int .u32) (sel_den (.atom 4) B g.hB g.b).symm, congrArg (Value.int .u32) (hN _ _ _ _ _ _).symm, trivial⟩ (v := .int .u32 (trn (C.r B) n)) (fun _ => rfl) (fun W => (rturn_any _ _ r0 r1 n0 n1 W).mono fun r W' ⟨h1, h2⟩ => ⟨h1, h2 ▸ Below.refl _ _⟩)) ?_
  exact Ev.ents_cons (Ev.EntOk.of rfl [.agg (cpuCells C), .int .i64 (A : Int), .int .u32 (trn (C.r B) n)] ⟨cpuA_rel _, congrArg (Value.int .i64) g.a.symm, rfl, trivial⟩ (v := .agg (cpuCells (ldC C A (trn (C.r B) n)))) (fun μ => cpuB_rel μ) (rset_any C A g.hA (trn (C.r B) n) ((trn_bd _ _ r0 r1).1) ((trn_bd _ _ r0 r1).2))) Ev.ents_nil
theorem do_4 {C : Cpu} {I : Ins} {f A B : Nat} {n : Int} (g : Are C I f A B n) (ho : I.op = 4) (N : Ev.SI) (hN : ∀ C' X Z H p q, N.den (doVal C C' I X Z H p q) = n) (l : List (Ev.SB × Bool)) (hl : ∀ C' X Z H p q, ∀ x ∈ l, x.1.den (doVal C C' I X Z H p q) = x.2)
    (hrun : ∀ φ, Ev.outV ((Ev.evO Try.prog ⟨l, φ⟩ (Ev.orcL (es4 f N)) 1000 30 (.fn 34) [cpuA, insK f 4]).go .e 0) = some (.tuple [cpuB, .bool (.lit true)])) (w : World) :
    Calls Try.prog 34 #[.agg (cpuCells C), .agg (insCells I)] w fun e w' => e = .returned (.tuple #[.agg (cpuCells (ldC C A (bits (bitO 0) IntKind.u32 (C.r B) n))), .bool true]) ∧ Below w.heap.size w w' := by
  have r0 := (g.wf.r B).1
  have r1 := (g.wf.r B).2
  have n0 := g.n0
  have n1 := g.n1
  refine do_run (C' := (ldC C A (bits (bitO 0) IntKind.u32 (C.r B) n))) (X := (bits (bitO 0) IntKind.u32 (C.r B) n)) (Z := 0) (H := 0) (p := false) (q := false) l _ f 4 cpuB true _ (hl _ _ _ _ _ _) (head_ok g.f g.F ho g.m0 g.m1 ?_) g.f ho rfl (fun μ => cpuB_rel μ) hrun w
  refine Ev.ents_cons (Ev.EntOk.of rfl [.int .u32 (C.r B), .int .u32 n, .int .i64 0] ⟨congrArg (Value.int .u32) (sel_den (.atom 4) B g.hB g.b).symm, congrArg (Value.int .u32) (hN _ _ _ _ _ _).symm, rfl, trivial⟩ (v := .int .u32 (bits (bitO 0) IntKind.u32 (C.r B) n)) (fun _ => rfl) (both_any 0 (by omega) _ _ r0 r1 n0 n1)) ?_
  exact Ev.ents_cons (Ev.EntOk.of rfl [.agg (cpuCells C), .int .i64 (A : Int), .int .u32 (bits (bitO 0) IntKind.u32 (C.r B) n)] ⟨cpuA_rel _, congrArg (Value.int .i64) g.a.symm, rfl, trivial⟩ (v := .agg (cpuCells (ldC C A (bits (bitO 0) IntKind.u32 (C.r B) n)))) (fun μ => cpuB_rel μ) (rset_any C A g.hA (bits (bitO 0) IntKind.u32 (C.r B) n) ((bits_bd _ _ _ r0 r1 n0 n1).1) ((bits_bd _ _ _ r0 r1 n0 n1).2))) Ev.ents_nil
theorem do_5 {C : Cpu} {I : Ins} {f A B : Nat} {n : Int} (g : Are C I f A B n) (ho : I.op = 5) (N : Ev.SI) (hN : ∀ C' X Z H p q, N.den (doVal C C' I X Z H p q) = n) (l : List (Ev.SB × Bool)) (hl : ∀ C' X Z H p q, ∀ x ∈ l, x.1.den (doVal C C' I X Z H p q) = x.2)
    (hrun : ∀ φ, Ev.outV ((Ev.evO Try.prog ⟨l, φ⟩ (Ev.orcL (es5 f N)) 1000 30 (.fn 34) [cpuA, insK f 5]).go .e 0) = some (.tuple [cpuB, .bool (.lit true)])) (w : World) :
    Calls Try.prog 34 #[.agg (cpuCells C), .agg (insCells I)] w fun e w' => e = .returned (.tuple #[.agg (cpuCells (ldC C A (bits (bitO 1) IntKind.u32 (C.r B) n))), .bool true]) ∧ Below w.heap.size w w' := by
  have r0 := (g.wf.r B).1
  have r1 := (g.wf.r B).2
  have n0 := g.n0
  have n1 := g.n1
  refine do_run (C' := (ldC C A (bits (bitO 1) IntKind.u32 (C.r B) n))) (X := (bits (bitO 1) IntKind.u32 (C.r B) n)) (Z := 0) (H := 0) (p := false) (q := false) l _ f 5 cpuB true _ (hl _ _ _ _ _ _) (head_ok g.f g.F ho g.m0 g.m1 ?_) g.f ho rfl (fun μ => cpuB_rel μ) hrun w
  refine Ev.ents_cons (Ev.EntOk.of rfl [.int .u32 (C.r B), .int .u32 n, .int .i64 1] ⟨congrArg (Value.int .u32) (sel_den (.atom 4) B g.hB g.b).symm, congrArg (Value.int .u32) (hN _ _ _ _ _ _).symm, rfl, trivial⟩ (v := .int .u32 (bits (bitO 1) IntKind.u32 (C.r B) n)) (fun _ => rfl) (both_any 1 (by omega) _ _ r0 r1 n0 n1)) ?_
  exact Ev.ents_cons (Ev.EntOk.of rfl [.agg (cpuCells C), .int .i64 (A : Int), .int .u32 (bits (bitO 1) IntKind.u32 (C.r B) n)] ⟨cpuA_rel _, congrArg (Value.int .i64) g.a.symm, rfl, trivial⟩ (v := .agg (cpuCells (ldC C A (bits (bitO 1) IntKind.u32 (C.r B) n)))) (fun μ => cpuB_rel μ) (rset_any C A g.hA (bits (bitO 1) IntKind.u32 (C.r B) n) ((bits_bd _ _ _ r0 r1 n0 n1).1) ((bits_bd _ _ _ r0 r1 n0 n1).2))) Ev.ents_nil
theorem do_6 {C : Cpu} {I : Ins} {f A B : Nat} {n : Int} (g : Are C I f A B n) (ho : I.op = 6) (N : Ev.SI) (hN : ∀ C' X Z H p q, N.den (doVal C C' I X Z H p q) = n) (l : List (Ev.SB × Bool)) (hl : ∀ C' X Z H p q, ∀ x ∈ l, x.1.den (doVal C C' I X Z H p q) = x.2)
    (hrun : ∀ φ, Ev.outV ((Ev.evO Try.prog ⟨l, φ⟩ (Ev.orcL (es6 f N)) 1000 30 (.fn 34) [cpuA, insK f 6]).go .e 0) = some (.tuple [cpuB, .bool (.lit true)])) (w : World) :
    Calls Try.prog 34 #[.agg (cpuCells C), .agg (insCells I)] w fun e w' => e = .returned (.tuple #[.agg (cpuCells (ldC C A (bits (bitO 2) IntKind.u32 (C.r B) n))), .bool true]) ∧ Below w.heap.size w w' := by
  have r0 := (g.wf.r B).1
  have r1 := (g.wf.r B).2
  have n0 := g.n0
  have n1 := g.n1
  refine do_run (C' := (ldC C A (bits (bitO 2) IntKind.u32 (C.r B) n))) (X := (bits (bitO 2) IntKind.u32 (C.r B) n)) (Z := 0) (H := 0) (p := false) (q := false) l _ f 6 cpuB true _ (hl _ _ _ _ _ _) (head_ok g.f g.F ho g.m0 g.m1 ?_) g.f ho rfl (fun μ => cpuB_rel μ) hrun w
  refine Ev.ents_cons (Ev.EntOk.of rfl [.int .u32 (C.r B), .int .u32 n, .int .i64 2] ⟨congrArg (Value.int .u32) (sel_den (.atom 4) B g.hB g.b).symm, congrArg (Value.int .u32) (hN _ _ _ _ _ _).symm, rfl, trivial⟩ (v := .int .u32 (bits (bitO 2) IntKind.u32 (C.r B) n)) (fun _ => rfl) (both_any 2 (by omega) _ _ r0 r1 n0 n1)) ?_
  exact Ev.ents_cons (Ev.EntOk.of rfl [.agg (cpuCells C), .int .i64 (A : Int), .int .u32 (bits (bitO 2) IntKind.u32 (C.r B) n)] ⟨cpuA_rel _, congrArg (Value.int .i64) g.a.symm, rfl, trivial⟩ (v := .agg (cpuCells (ldC C A (bits (bitO 2) IntKind.u32 (C.r B) n)))) (fun μ => cpuB_rel μ) (rset_any C A g.hA (bits (bitO 2) IntKind.u32 (C.r B) n) ((bits_bd _ _ _ r0 r1 n0 n1).1) ((bits_bd _ _ _ r0 r1 n0 n1).2))) Ev.ents_nil
theorem do_7 {C : Cpu} {I : Ins} {f A B : Nat} {n : Int} (g : Are C I f A B n) (ho : I.op = 7) (N : Ev.SI) (hN : ∀ C' X Z H p q, N.den (doVal C C' I X Z H p q) = n) (l : List (Ev.SB × Bool)) (hl : ∀ C' X Z H p q, ∀ x ∈ l, x.1.den (doVal C C' I X Z H p q) = x.2)
    (hrun : ∀ φ, Ev.outV ((Ev.evO Try.prog ⟨l, φ⟩ (Ev.orcL (es7 f N)) 1000 30 (.fn 34) [cpuA, insK f 7]).go .e 0) = some (.tuple [cpuB, .bool (.lit true)])) (w : World) :
    Calls Try.prog 34 #[.agg (cpuCells C), .agg (insCells I)] w fun e w' => e = .returned (.tuple #[.agg (cpuCells (ldC C A (bits (bitO 3) IntKind.u32 (C.r B) n))), .bool true]) ∧ Below w.heap.size w w' := by
  have r0 := (g.wf.r B).1
  have r1 := (g.wf.r B).2
  have n0 := g.n0
  have n1 := g.n1
  refine do_run (C' := (ldC C A (bits (bitO 3) IntKind.u32 (C.r B) n))) (X := (bits (bitO 3) IntKind.u32 (C.r B) n)) (Z := 0) (H := 0) (p := false) (q := false) l _ f 7 cpuB true _ (hl _ _ _ _ _ _) (head_ok g.f g.F ho g.m0 g.m1 ?_) g.f ho rfl (fun μ => cpuB_rel μ) hrun w
  refine Ev.ents_cons (Ev.EntOk.of rfl [.int .u32 (C.r B), .int .u32 n, .int .i64 3] ⟨congrArg (Value.int .u32) (sel_den (.atom 4) B g.hB g.b).symm, congrArg (Value.int .u32) (hN _ _ _ _ _ _).symm, rfl, trivial⟩ (v := .int .u32 (bits (bitO 3) IntKind.u32 (C.r B) n)) (fun _ => rfl) (both_any 3 (by omega) _ _ r0 r1 n0 n1)) ?_
  exact Ev.ents_cons (Ev.EntOk.of rfl [.agg (cpuCells C), .int .i64 (A : Int), .int .u32 (bits (bitO 3) IntKind.u32 (C.r B) n)] ⟨cpuA_rel _, congrArg (Value.int .i64) g.a.symm, rfl, trivial⟩ (v := .agg (cpuCells (ldC C A (bits (bitO 3) IntKind.u32 (C.r B) n)))) (fun μ => cpuB_rel μ) (rset_any C A g.hA (bits (bitO 3) IntKind.u32 (C.r B) n) ((bits_bd _ _ _ r0 r1 n0 n1).1) ((bits_bd _ _ _ r0 r1 n0 n1).2))) Ev.ents_nil
theorem do_8 {C : Cpu} {I : Ins} {f A B : Nat} {n : Int} (g : Are C I f A B n) (ho : I.op = 8) (N : Ev.SI) (hN : ∀ C' X Z H p q, N.den (doVal C C' I X Z H p q) = n) (l : List (Ev.SB × Bool)) (hl : ∀ C' X Z H p q, ∀ x ∈ l, x.1.den (doVal C C' I X Z H p q) = x.2)
    (hrun : ∀ φ, Ev.outV ((Ev.evO Try.prog ⟨l, φ⟩ (Ev.orcL (es8 f N)) 1000 30 (.fn 34) [cpuA, insK f 8]).go .e 0) = some (.tuple [cpuB, .bool (.lit true)])) (w : World) :
    Calls Try.prog 34 #[.agg (cpuCells C), .agg (insCells I)] w fun e w' => e = .returned (.tuple #[.agg (cpuCells (ldC { C with c := decide (4294967296 ≤ C.r B + n + bit (I.u && C.c)), v := out32 (wrap32 (C.r B) + wrap32 n + bit (I.u && C.c)) } A (w32 (C.r B + n + bit (I.u && C.c))))), .bool true]) ∧ Below w.heap.size w w' := by
  have r0 := (g.wf.r B).1
  have r1 := (g.wf.r B).2
  have n0 := g.n0
  have n1 := g.n1
  refine do_run (C' := (ldC { C with c := decide (4294967296 ≤ C.r B + n + bit (I.u && C.c)), v := out32 (wrap32 (C.r B) + wrap32 n + bit (I.u && C.c)) } A (w32 (C.r B + n + bit (I.u && C.c))))) (X := (w32 (C.r B + n + bit (I.u && C.c)))) (Z := 0) (H := 0) (p := (decide (4294967296 ≤ C.r B + n + bit (I.u && C.c)))) (q := (out32 (wrap32 (C.r B) + wrap32 n + bit (I.u && C.c)))) l _ f 8 cpuB true _ (hl _ _ _ _ _ _) (head_ok g.f g.F ho g.m0 g.m1 ?_) g.f ho rfl (fun μ => cpuB_rel μ) hrun w
  refine Ev.ents_cons (Ev.EntOk.of rfl [.int .u32 (C.r B), .int .u32 n, .bool (I.u && C.c)] ⟨congrArg (Value.int .u32) (sel_den (.atom 4) B g.hB g.b).symm, congrArg (Value.int .u32) (hN _ _ _ _ _ _).symm, congrArg Value.bool (by show (I.u && C.c) = bif I.u then C.c else false; cases I.u <;> rfl), trivial⟩ (v := .tuple #[.int .u32 (w32 (C.r B + n + bit (I.u && C.c))), .bool (decide (4294967296 ≤ C.r B + n + bit (I.u && C.c))), .bool (out32 (wrap32 (C.r B) + wrap32 n + bit (I.u && C.c)))]) (fun _ => ⟨[_, _, _], rfl, rfl, rfl, rfl, trivial⟩) (fun W => (radd_any _ _ _ r0 r1 n0 n1 W).mono fun r W' ⟨h1, h2⟩ => ⟨h1, h2 ▸ Below.refl _ _⟩)) ?_
  exact Ev.ents_cons (Ev.EntOk.of rfl [.agg (cpuCells { C with c := decide (4294967296 ≤ C.r B + n + bit (I.u && C.c)), v := out32 (wrap32 (C.r B) + wrap32 n + bit (I.u && C.c)) }), .int .i64 (A : Int), .int .u32 (w32 (C.r B + n + bit (I.u && C.c)))] ⟨cpuC_rel _, congrArg (Value.int .i64) g.a.symm, rfl, trivial⟩ (v := .agg (cpuCells (ldC { C with c := decide (4294967296 ≤ C.r B + n + bit (I.u && C.c)), v := out32 (wrap32 (C.r B) + wrap32 n + bit (I.u && C.c)) } A (w32 (C.r B + n + bit (I.u && C.c)))))) (fun μ => cpuB_rel μ) (rset_any { C with c := decide (4294967296 ≤ C.r B + n + bit (I.u && C.c)), v := out32 (wrap32 (C.r B) + wrap32 n + bit (I.u && C.c)) } A g.hA (w32 (C.r B + n + bit (I.u && C.c))) ((w32_bd _).1) ((w32_bd _).2))) Ev.ents_nil
theorem do_9 {C : Cpu} {I : Ins} {f A B : Nat} {n : Int} (g : Are C I f A B n) (ho : I.op = 9) (N : Ev.SI) (hN : ∀ C' X Z H p q, N.den (doVal C C' I X Z H p q) = n) (l : List (Ev.SB × Bool)) (hl : ∀ C' X Z H p q, ∀ x ∈ l, x.1.den (doVal C C' I X Z H p q) = x.2)
    (hrun : ∀ φ, Ev.outV ((Ev.evO Try.prog ⟨l, φ⟩ (Ev.orcL (es9 f N)) 1000 30 (.fn 34) [cpuA, insK f 9]).go .e 0) = some (.tuple [cpuB, .bool (.lit true)])) (w : World) :
    Calls Try.prog 34 #[.agg (cpuCells C), .agg (insCells I)] w fun e w' => e = .returned (.tuple #[.agg (cpuCells (ldC { C with c := decide (C.r B - n - bit (I.u && C.c) < 0), v := out32 (wrap32 (C.r B) - wrap32 n - bit (I.u && C.c)) } A (w32 (C.r B - n - bit (I.u && C.c))))), .bool true]) ∧ Below w.heap.size w w' := by
  have r0 := (g.wf.r B).1
  have r1 := (g.wf.r B).2
  have n0 := g.n0
  have n1 := g.n1
  refine do_run (C' := (ldC { C with c := decide (C.r B - n - bit (I.u && C.c) < 0), v := out32 (wrap32 (C.r B) - wrap32 n - bit (I.u && C.c)) } A (w32 (C.r B - n - bit (I.u && C.c))))) (X := (w32 (C.r B - n - bit (I.u && C.c)))) (Z := 0) (H := 0) (p := (decide (C.r B - n - bit (I.u && C.c) < 0))) (q := (out32 (wrap32 (C.r B) - wrap32 n - bit (I.u && C.c)))) l _ f 9 cpuB true _ (hl _ _ _ _ _ _) (head_ok g.f g.F ho g.m0 g.m1 ?_) g.f ho rfl (fun μ => cpuB_rel μ) hrun w
  refine Ev.ents_cons (Ev.EntOk.of rfl [.int .u32 (C.r B), .int .u32 n, .bool (I.u && C.c)] ⟨congrArg (Value.int .u32) (sel_den (.atom 4) B g.hB g.b).symm, congrArg (Value.int .u32) (hN _ _ _ _ _ _).symm, congrArg Value.bool (by show (I.u && C.c) = bif I.u then C.c else false; cases I.u <;> rfl), trivial⟩ (v := .tuple #[.int .u32 (w32 (C.r B - n - bit (I.u && C.c))), .bool (decide (C.r B - n - bit (I.u && C.c) < 0)), .bool (out32 (wrap32 (C.r B) - wrap32 n - bit (I.u && C.c)))]) (fun _ => ⟨[_, _, _], rfl, rfl, rfl, rfl, trivial⟩) (fun W => (rsub_any _ _ _ r0 r1 n0 n1 W).mono fun r W' ⟨h1, h2⟩ => ⟨h1, h2 ▸ Below.refl _ _⟩)) ?_
  exact Ev.ents_cons (Ev.EntOk.of rfl [.agg (cpuCells { C with c := decide (C.r B - n - bit (I.u && C.c) < 0), v := out32 (wrap32 (C.r B) - wrap32 n - bit (I.u && C.c)) }), .int .i64 (A : Int), .int .u32 (w32 (C.r B - n - bit (I.u && C.c)))] ⟨cpuC_rel _, congrArg (Value.int .i64) g.a.symm, rfl, trivial⟩ (v := .agg (cpuCells (ldC { C with c := decide (C.r B - n - bit (I.u && C.c) < 0), v := out32 (wrap32 (C.r B) - wrap32 n - bit (I.u && C.c)) } A (w32 (C.r B - n - bit (I.u && C.c)))))) (fun μ => cpuB_rel μ) (rset_any { C with c := decide (C.r B - n - bit (I.u && C.c) < 0), v := out32 (wrap32 (C.r B) - wrap32 n - bit (I.u && C.c)) } A g.hA (w32 (C.r B - n - bit (I.u && C.c))) ((w32_bd _).1) ((w32_bd _).2))) Ev.ents_nil
theorem do_10t {C : Cpu} {I : Ins} {f A B : Nat} {n : Int} (g : Are C I f A B n) (ho : I.op = 10) (N : Ev.SI) (hN : ∀ C' X Z H p q, N.den (doVal C C' I X Z H p q) = n) (l : List (Ev.SB × Bool)) (hl : ∀ C' X Z H p q, ∀ x ∈ l, x.1.den (doVal C C' I X Z H p q) = x.2) (hu : I.u = true)
    (hrun : ∀ φ, Ev.outV ((Ev.evO Try.prog ⟨l, φ⟩ (Ev.orcL (es10 f N)) 1000 30 (.fn 34) [cpuA, insK f 10]).go .e 0) = some (.tuple [cpuB, .bool (.lit true)])) (w : World) :
    Calls Try.prog 34 #[.agg (cpuCells C), .agg (insCells I)] w fun e w' => e = .returned (.tuple #[.agg (cpuCells (ldC { C with h := C.r B * n / 4294967296 } A (w32 (C.r B * n)))), .bool true]) ∧ Below w.heap.size w w' := by
  have r0 := (g.wf.r B).1
  have r1 := (g.wf.r B).2
  have n0 := g.n0
  have n1 := g.n1
  refine do_run (C' := (ldC { C with h := C.r B * n / 4294967296 } A (w32 (C.r B * n)))) (X := (w32 (C.r B * n))) (Z := 0) (H := (C.r B * n / 4294967296)) (p := false) (q := false) l _ f 10 cpuB true _ (hl _ _ _ _ _ _) (head_ok g.f g.F ho g.m0 g.m1 ?_) g.f ho rfl (fun μ => cpuB_rel μ) hrun w
  refine Ev.ents_cons (Ev.EntOk.of rfl [.int .u32 (C.r B), .int .u32 n, .bool false] ⟨congrArg (Value.int .u32) (sel_den (.atom 4) B g.hB g.b).symm, congrArg (Value.int .u32) (hN _ _ _ _ _ _).symm, by show Value.bool false = .bool (!I.u); rw [hu]; rfl, trivial⟩ (v := .tuple #[.int .u32 (w32 (C.r B * n)), .int .u32 (C.r B * n / 4294967296)]) (fun _ => ⟨[_, _], rfl, rfl, rfl, trivial⟩) (fun W => (rmul_no _ _ r0 r1 n0 n1 W).mono fun r W' ⟨h1, h2⟩ => ⟨h1, h2 ▸ Below.refl _ _⟩)) ?_
  exact Ev.ents_cons (Ev.EntOk.of rfl [.agg (cpuCells { C with h := C.r B * n / 4294967296 }), .int .i64 (A : Int), .int .u32 (w32 (C.r B * n))] ⟨cpuH_rel _, congrArg (Value.int .i64) g.a.symm, rfl, trivial⟩ (v := .agg (cpuCells (ldC { C with h := C.r B * n / 4294967296 } A (w32 (C.r B * n))))) (fun μ => cpuB_rel μ) (rset_any { C with h := C.r B * n / 4294967296 } A g.hA (w32 (C.r B * n)) ((w32_bd _).1) ((w32_bd _).2))) Ev.ents_nil
theorem do_10f {C : Cpu} {I : Ins} {f A B : Nat} {n : Int} (g : Are C I f A B n) (ho : I.op = 10) (N : Ev.SI) (hN : ∀ C' X Z H p q, N.den (doVal C C' I X Z H p q) = n) (l : List (Ev.SB × Bool)) (hl : ∀ C' X Z H p q, ∀ x ∈ l, x.1.den (doVal C C' I X Z H p q) = x.2) (hu : I.u = false)
    (hrun : ∀ φ, Ev.outV ((Ev.evO Try.prog ⟨l, φ⟩ (Ev.orcL (es10 f N)) 1000 30 (.fn 34) [cpuA, insK f 10]).go .e 0) = some (.tuple [cpuB, .bool (.lit true)])) (w : World) :
    Calls Try.prog 34 #[.agg (cpuCells C), .agg (insCells I)] w fun e w' => e = .returned (.tuple #[.agg (cpuCells (ldC { C with h := w32 (wrap32 (C.r B) * wrap32 n / 4294967296) } A (w32 (wrap32 (C.r B) * wrap32 n)))), .bool true]) ∧ Below w.heap.size w w' := by
  have r0 := (g.wf.r B).1
  have r1 := (g.wf.r B).2
  have n0 := g.n0
  have n1 := g.n1
  refine do_run (C' := (ldC { C with h := w32 (wrap32 (C.r B) * wrap32 n / 4294967296) } A (w32 (wrap32 (C.r B) * wrap32 n)))) (X := (w32 (wrap32 (C.r B) * wrap32 n))) (Z := 0) (H := (w32 (wrap32 (C.r B) * wrap32 n / 4294967296))) (p := false) (q := false) l _ f 10 cpuB true _ (hl _ _ _ _ _ _) (head_ok g.f g.F ho g.m0 g.m1 ?_) g.f ho rfl (fun μ => cpuB_rel μ) hrun w
  refine Ev.ents_cons (Ev.EntOk.of rfl [.int .u32 (C.r B), .int .u32 n, .bool true] ⟨congrArg (Value.int .u32) (sel_den (.atom 4) B g.hB g.b).symm, congrArg (Value.int .u32) (hN _ _ _ _ _ _).symm, by show Value.bool true = .bool (!I.u); rw [hu]; rfl, trivial⟩ (v := .tuple #[.int .u32 (w32 (wrap32 (C.r B) * wrap32 n)), .int .u32 (w32 (wrap32 (C.r B) * wrap32 n / 4294967296))]) (fun _ => ⟨[_, _], rfl, rfl, rfl, trivial⟩) (fun W => (rmul_yes _ _ r0 r1 n0 n1 W).mono fun r W' ⟨h1, h2⟩ => ⟨h1, h2 ▸ Below.refl _ _⟩)) ?_
  exact Ev.ents_cons (Ev.EntOk.of rfl [.agg (cpuCells { C with h := w32 (wrap32 (C.r B) * wrap32 n / 4294967296) }), .int .i64 (A : Int), .int .u32 (w32 (wrap32 (C.r B) * wrap32 n))] ⟨cpuH_rel _, congrArg (Value.int .i64) g.a.symm, rfl, trivial⟩ (v := .agg (cpuCells (ldC { C with h := w32 (wrap32 (C.r B) * wrap32 n / 4294967296) } A (w32 (wrap32 (C.r B) * wrap32 n))))) (fun μ => cpuB_rel μ) (rset_any { C with h := w32 (wrap32 (C.r B) * wrap32 n / 4294967296) } A g.hA (w32 (wrap32 (C.r B) * wrap32 n)) ((w32_bd _).1) ((w32_bd _).2))) Ev.ents_nil
theorem do_11n {C : Cpu} {I : Ins} {f A B : Nat} {n : Int} (g : Are C I f A B n) (ho : I.op = 11) (N : Ev.SI) (hN : ∀ C' X Z H p q, N.den (doVal C C' I X Z H p q) = n) (l : List (Ev.SB × Bool)) (hl : ∀ C' X Z H p q, ∀ x ∈ l, x.1.den (doVal C C' I X Z H p q) = x.2) (hz : wrap32 n ≤ 0)
    (hrun : ∀ φ, Ev.outV ((Ev.evO Try.prog ⟨((.cmp .leq (.atom 153) (.lit 0), true) :: l), φ⟩ (Ev.orcL (esN f N)) 1000 30 (.fn 34) [cpuA, insK f 11]).go .e 0) = some (.tuple [cpuA, .bool (.lit false)])) (w : World) :
    Calls Try.prog 34 #[.agg (cpuCells C), .agg (insCells I)] w fun e w' => e = .returned (.tuple #[.agg (cpuCells C), .bool false]) ∧ Below w.heap.size w w' := by
  have r0 := (g.wf.r B).1
  have r1 := (g.wf.r B).2
  have n0 := g.n0
  have n1 := g.n1
  refine do_run (C' := C) (X := 0) (Z := wrap32 n) (H := 0) (p := false) (q := false) _ _ f 11 cpuA false _ (con_ok (by show decide (wrap32 n ≤ 0) = true; simpa using hz) (hl _ _ _ _ _ _)) (head_ok g.f g.F ho g.m0 g.m1 ?_) g.f ho rfl (fun μ => cpuA_rel μ) hrun w
  exact Ev.ents_cons (Ev.EntOk.of rfl [.int .u32 n] ⟨congrArg (Value.int .u32) (hN _ _ _ _ _ _).symm, trivial⟩ (v := .int .i64 (wrap32 n)) (fun _ => rfl) (fun W => (signed_any _ n0 n1 W).mono fun r W' ⟨h1, h2⟩ => ⟨h1, h2 ▸ Below.refl _ _⟩)) Ev.ents_nil
theorem do_11 {C : Cpu} {I : Ins} {f A B : Nat} {n : Int} (g : Are C I f A B n) (ho : I.op = 11) (N : Ev.SI) (hN : ∀ C' X Z H p q, N.den (doVal C C' I X Z H p q) = n) (l : List (Ev.SB × Bool)) (hl : ∀ C' X Z H p q, ∀ x ∈ l, x.1.den (doVal C C' I X Z H p q) = x.2) (hz : ¬ wrap32 n ≤ 0)
    (hrun : ∀ φ, Ev.outV ((Ev.evO Try.prog ⟨((.cmp .leq (.atom 153) (.lit 0), false) :: l), φ⟩ (Ev.orcL (es11 f N)) 1000 30 (.fn 34) [cpuA, insK f 11]).go .e 0) = some (.tuple [cpuB, .bool (.lit true)])) (w : World) :
    Calls Try.prog 34 #[.agg (cpuCells C), .agg (insCells I)] w fun e w' => e = .returned (.tuple #[.agg (cpuCells (ldC { C with h := wrap32 (C.r B) % wrap32 n } A (w32 (wrap32 (C.r B) / wrap32 n)))), .bool true]) ∧ Below w.heap.size w w' := by
  have r0 := (g.wf.r B).1
  have r1 := (g.wf.r B).2
  have n0 := g.n0
  have n1 := g.n1
  refine do_run (C' := (ldC { C with h := wrap32 (C.r B) % wrap32 n } A (w32 (wrap32 (C.r B) / wrap32 n)))) (X := (w32 (wrap32 (C.r B) / wrap32 n))) (Z := (wrap32 n)) (H := (wrap32 (C.r B) % wrap32 n)) (p := false) (q := false) _ _ f 11 cpuB true _ (con_ok (by show decide (wrap32 n ≤ 0) = false; simpa using hz) (hl _ _ _ _ _ _)) (head_ok g.f g.F ho g.m0 g.m1 ?_) g.f ho rfl (fun μ => cpuB_rel μ) hrun w
  refine Ev.ents_cons (Ev.EntOk.of rfl [.int .u32 n] ⟨congrArg (Value.int .u32) (hN _ _ _ _ _ _).symm, trivial⟩ (v := .int .i64 (wrap32 n)) (fun _ => rfl) (fun W => (signed_any _ n0 n1 W).mono fun r W' ⟨h1, h2⟩ => ⟨h1, h2 ▸ Below.refl _ _⟩)) ?_
  refine Ev.ents_cons (Ev.EntOk.of rfl [.int .u32 (C.r B), .int .u32 n] ⟨congrArg (Value.int .u32) (sel_den (.atom 4) B g.hB g.b).symm, congrArg (Value.int .u32) (hN _ _ _ _ _ _).symm, trivial⟩ (v := .tuple #[.int .u32 (w32 (wrap32 (C.r B) / wrap32 n)), .int .u32 (wrap32 (C.r B) % wrap32 n)]) (fun _ => ⟨[_, _], rfl, rfl, rfl, trivial⟩) (fun W => (rdiv_any _ _ r0 r1 n0 n1 (by omega) W).mono fun r W' ⟨h1, h2⟩ => ⟨h1, h2 ▸ Below.refl _ _⟩)) ?_
  exact Ev.ents_cons (Ev.EntOk.of rfl [.agg (cpuCells { C with h := wrap32 (C.r B) % wrap32 n }), .int .i64 (A : Int), .int .u32 (w32 (wrap32 (C.r B) / wrap32 n))] ⟨cpuH_rel _, congrArg (Value.int .i64) g.a.symm, rfl, trivial⟩ (v := .agg (cpuCells (ldC { C with h := wrap32 (C.r B) % wrap32 n } A (w32 (wrap32 (C.r B) / wrap32 n))))) (fun μ => cpuB_rel μ) (rset_any { C with h := wrap32 (C.r B) % wrap32 n } A g.hA (w32 (wrap32 (C.r B) / wrap32 n)) ((w32_bd _).1) ((w32_bd _).2))) Ev.ents_nil
/-- an operation of a register or of a number, as operate has it -/
theorem op_all {C : Cpu} {I : Ins} {f A B : Nat} {n : Int} (g : Are C I f A B n) (h0 : 1 ≤ I.op) (h1 : I.op ≤ 11) (N : Ev.SI) (hN : ∀ C' X Z H p q, N.den (doVal C C' I X Z H p q) = n) (l : List (Ev.SB × Bool)) (hl : ∀ C' X Z H p q, ∀ x ∈ l, x.1.den (doVal C C' I X Z H p q) = x.2)
    (r1 : ∀ φ, Ev.outV ((Ev.evO Try.prog ⟨l, φ⟩ (Ev.orcL (es1 f N)) 1000 30 (.fn 34) [cpuA, insK f 1]).go .e 0) = some (.tuple [cpuB, .bool (.lit true)]))
    (r2 : ∀ φ, Ev.outV ((Ev.evO Try.prog ⟨l, φ⟩ (Ev.orcL (es2 f N)) 1000 30 (.fn 34) [cpuA, insK f 2]).go .e 0) = some (.tuple [cpuB, .bool (.lit true)]))
    (r3 : ∀ φ, Ev.outV ((Ev.evO Try.prog ⟨l, φ⟩ (Ev.orcL (es3 f N)) 1000 30 (.fn 34) [cpuA, insK f 3]).go .e 0) = some (.tuple [cpuB, .bool (.lit true)]))
    (r4 : ∀ φ, Ev.outV ((Ev.evO Try.prog ⟨l, φ⟩ (Ev.orcL (es4 f N)) 1000 30 (.fn 34) [cpuA, insK f 4]).go .e 0) = some (.tuple [cpuB, .bool (.lit true)]))
    (r5 : ∀ φ, Ev.outV ((Ev.evO Try.prog ⟨l, φ⟩ (Ev.orcL (es5 f N)) 1000 30 (.fn 34) [cpuA, insK f 5]).go .e 0) = some (.tuple [cpuB, .bool (.lit true)]))
    (r6 : ∀ φ, Ev.outV ((Ev.evO Try.prog ⟨l, φ⟩ (Ev.orcL (es6 f N)) 1000 30 (.fn 34) [cpuA, insK f 6]).go .e 0) = some (.tuple [cpuB, .bool (.lit true)]))
    (r7 : ∀ φ, Ev.outV ((Ev.evO Try.prog ⟨l, φ⟩ (Ev.orcL (es7 f N)) 1000 30 (.fn 34) [cpuA, insK f 7]).go .e 0) = some (.tuple [cpuB, .bool (.lit true)]))
    (r8 : ∀ φ, Ev.outV ((Ev.evO Try.prog ⟨l, φ⟩ (Ev.orcL (es8 f N)) 1000 30 (.fn 34) [cpuA, insK f 8]).go .e 0) = some (.tuple [cpuB, .bool (.lit true)]))
    (r9 : ∀ φ, Ev.outV ((Ev.evO Try.prog ⟨l, φ⟩ (Ev.orcL (es9 f N)) 1000 30 (.fn 34) [cpuA, insK f 9]).go .e 0) = some (.tuple [cpuB, .bool (.lit true)]))
    (r10 : ∀ φ, Ev.outV ((Ev.evO Try.prog ⟨l, φ⟩ (Ev.orcL (es10 f N)) 1000 30 (.fn 34) [cpuA, insK f 10]).go .e 0) = some (.tuple [cpuB, .bool (.lit true)]))
    (r11 : ∀ φ, Ev.outV ((Ev.evO Try.prog ⟨((.cmp .leq (.atom 153) (.lit 0), false) :: l), φ⟩ (Ev.orcL (es11 f N)) 1000 30 (.fn 34) [cpuA, insK f 11]).go .e 0) = some (.tuple [cpuB, .bool (.lit true)]))
    (rn : ∀ φ, Ev.outV ((Ev.evO Try.prog ⟨((.cmp .leq (.atom 153) (.lit 0), true) :: l), φ⟩ (Ev.orcL (esN f N)) 1000 30 (.fn 34) [cpuA, insK f 11]).go .e 0) = some (.tuple [cpuA, .bool (.lit false)])) (w : World) :
    Calls Try.prog 34 #[.agg (cpuCells C), .agg (insCells I)] w (DoIs C (oprC C I.op I.u A B n) w) := by
  have hc : I.op = 1 ∨ I.op = 2 ∨ I.op = 3 ∨ I.op = 4 ∨ I.op = 5 ∨ I.op = 6 ∨ I.op = 7 ∨ I.op = 8 ∨ I.op = 9 ∨ I.op = 10 ∨ I.op = 11 := by omega
  rcases hc with ho | ho | ho | ho | ho | ho | ho | ho | ho | ho | ho
  · rw [ho]; exact do_1 g ho N hN l hl r1 w
  · rw [ho]; exact do_2 g ho N hN l hl r2 w
  · rw [ho]; exact do_3 g ho N hN l hl r3 w
  · rw [ho]; exact do_4 g ho N hN l hl r4 w
  · rw [ho]; exact do_5 g ho N hN l hl r5 w
  · rw [ho]; exact do_6 g ho N hN l hl r6 w
  · rw [ho]; exact do_7 g ho N hN l hl r7 w
  · rw [ho]; exact do_8 g ho N hN l hl r8 w
  · rw [ho]; exact do_9 g ho N hN l hl r9 w
  · rw [ho]
    cases hu : I.u with
    | true => exact do_10t g ho N hN l hl hu r10 w
    | false => exact do_10f g ho N hN l hl hu r10 w
  · rw [ho]
    by_cases hz : wrap32 n ≤ 0
    · rw [show oprC C 11 I.u A B n = none by unfold oprC; simp [hz]]
      exact do_11n g ho N hN l hl hz rn w
    · rw [show oprC C 11 I.u A B n = some (ldC { C with h := wrap32 (C.r B) % wrap32 n } A (w32 (wrap32 (C.r B) / wrap32 n))) by unfold oprC; simp [hz]]
      exact do_11 g ho N hN l hl hz r11 w
theorem do_reg (C : Cpu) (I : Ins) (hC : CpuWf C) (m : MayIs I) (hf : I.form = 0) (w : World) :
    Calls Try.prog 34 #[.agg (cpuCells C), .agg (insCells I)] w (DoIs C (oprC C I.op I.u I.a.toNat I.b.toNat (srcI C I.u I.op I.c.toNat)) w) := by
  obtain ⟨f0, f1, a0, a1, b0, b1, c0, c1, o0, o1, m0, m1, k0, k1, n0, n1, hr, _, _, _, _, _⟩ := m
  have hM := (hr hf).2.2.2.2.2
  have sb := srcI_bd C I.u I.op I.c.toNat hC.r hC.h
  have g : Are C I 0 I.a.toNat I.b.toNat (srcI C I.u I.op I.c.toNat) := ⟨hC, hf, .inl hf, m0, m1, by omega, by omega, by omega, by omega, sb.1, sb.2⟩
  have hl : ∀ C' X Z H p q, ∀ x ∈ lC, x.1.den (doVal C C' I X Z H p q) = x.2 := fun C' X Z H p q => lC_ok b0 (by omega) c0 (by omega)
  have hcd : ∀ C' X Z H p q, regC.den (doVal C C' I X Z H p q) = C.r I.c.toNat := fun C' X Z H p q => sel_den (.atom 5) I.c.toNat (by omega) (by show I.c = _; omega)
  by_cases ho : I.op = 0
  · rw [ho] at sb g ⊢
    cases hu : I.u with
    | false =>
      rw [hu] at g
      rw [show oprC C 0 false I.a.toNat I.b.toNat (srcI C false 0 I.c.toNat) = some (ldC C I.a.toNat (srcI C false 0 I.c.toNat)) from rfl]
      exact do_0 g ho regC (fun C' X Z H p q => (hcd C' X Z H p q).trans (by unfold srcI; rw [if_pos (.inl rfl)])) _ (fun C' X Z H p q => con_ok (by exact hu) (hl C' X Z H p q)) run0n w
    | true =>
      rw [hu] at g
      rw [show oprC C 0 true I.a.toNat I.b.toNat (srcI C true 0 I.c.toNat) = some (ldC C I.a.toNat (srcI C true 0 I.c.toNat)) from rfl]
      by_cases h1 : I.c = 1
      · exact do_0 g ho (.atom 151) (fun C' X Z H p q => by show flagsI C.n C.z C.c C.v = _; unfold srcI; rw [if_neg (by simp), if_neg (by omega)]) _ (fun C' X Z H p q => con_ok (by exact hu) (con_ok (by show (I.c == 1) = true; simpa using h1) (hl C' X Z H p q))) run0f w
      · have hz : I.c = 0 := by
          unfold mayOpB at hM
          rw [if_pos ho, hu] at hM
          simp at hM
          omega
        exact do_0 g ho (.atom 116) (fun C' X Z H p q => by show C.h = _; unfold srcI; rw [if_neg (by simp), if_pos (by omega)]) _ (fun C' X Z H p q => con_ok (by exact hu) (con_ok (by show (I.c == 1) = false; simpa using h1) (hl C' X Z H p q))) run0h w
  · exact op_all g (by omega) o1 regC (fun C' X Z H p q => (hcd C' X Z H p q).trans (by unfold srcI; rw [if_pos (.inr ho)])) lC hl run0_1 run0_2 run0_3 run0_4 run0_5 run0_6 run0_7 run0_8 run0_9 run0_10 run0_11 run0_11n w
theorem do_im (C : Cpu) (I : Ins) (hC : CpuWf C) (m : MayIs I) (hf : I.form = 1) (w : World) :
    Calls Try.prog 34 #[.agg (cpuCells C), .agg (insCells I)] w (DoIs C (oprC C I.op I.u I.a.toNat I.b.toNat (valI I.u I.v I.op I.im)) w) := by
  obtain ⟨f0, f1, a0, a1, b0, b1, c0, c1, o0, o1, m0, m1, k0, k1, n0, n1, _, _, _, _, _, _⟩ := m
  have sb := valI_bd I.u I.v I.op I.im m0 m1
  have g : Are C I 1 I.a.toNat I.b.toNat (valI I.u I.v I.op I.im) := ⟨hC, hf, .inr hf, m0, m1, by omega, by omega, by omega, by omega, sb.1, sb.2⟩
  have hl : ∀ C' X Z H p q, ∀ x ∈ lB, x.1.den (doVal C C' I X Z H p q) = x.2 := fun C' X Z H p q => lB_ok b0 (by omega)
  have hN : ∀ C' X Z H p q, (Ev.SI.atom 150).den (doVal C C' I X Z H p q) = valI I.u I.v I.op I.im := fun C' X Z H p q => by show rvI I = _; exact if_pos hf
  by_cases ho : I.op = 0
  · have e : oprC C I.op I.u I.a.toNat I.b.toNat (valI I.u I.v I.op I.im) = some (ldC C I.a.toNat (valI I.u I.v I.op I.im)) := if_pos ho
    rw [e]
    exact do_0 g ho (.atom 150) hN lB hl run1_0 w
  · exact op_all g (by omega) o1 (.atom 150) hN lB hl run1_1 run1_2 run1_3 run1_4 run1_5 run1_6 run1_7 run1_8 run1_9 run1_10 run1_11 run1_11n w
end rdo
end
end Go.Proofs.Ytgjecfchnokcfaa

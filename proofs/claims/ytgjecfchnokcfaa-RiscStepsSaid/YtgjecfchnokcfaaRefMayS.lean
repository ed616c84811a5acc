/-
  Which instructions may be, by the document (layer 3's reference): what the call yields, form by form, as a Boolean of the instruction's parts: reckoned by the kernel.
-/
import Derived.Test.YtgjecfchnokcfaaRiscB
import Derived.Test.YtgjecfchnokcfaaEvD
import Derived.KernelRfl
namespace Go.Proofs.Ytgjecfchnokcfaa
open Go.ChangeShapes Go.WideShapes Go.ChangeAt Go.RowKit
set_option linter.unusedVariables false
noncomputable section
/-- an instruction's parts, by number -/
def insVal (I : Ins) : Ev.Val := Ev.Val.of (fun k => if k = 3 then I.a else if k = 4 then I.b else if k = 5 then I.c else if k = 6 then I.op else if k = 7 then I.im else if k = 8 then I.off else if k = 9 then I.cond else if k = 10 then I.n else I.form) (fun k => if k = 0 then I.u else I.v)
def insAV (f : Ev.SI) : Ev.AV := .agg [.int .i64 f, .bool (.atom 0), .bool (.atom 1), .int .i64 (.atom 3), .int .i64 (.atom 4), .int .i64 (.atom 5), .int .i64 (.atom 6), .int .i64 (.atom 7), .int .i64 (.atom 8), .int .i64 (.atom 9), .int .i64 (.atom 10)]
theorem insAV_rel (I : Ins) (f : Ev.SI) (hf : I.form = f.den (insVal I)) : Ev.relL (insVal I) Ev.Names.none [insAV f] [.agg (insCells I)] := by
  refine ⟨⟨(insCells I).toList, by simp, ?_⟩, trivial⟩
  simp [insCells, insVal, Ev.Val.of, Ev.relL, Ev.rel, Ev.SI.den, Ev.SB.den]
  exact hf
def mayS0_0 : Ev.SB := .ite (.ite (.ite (.ite (.atom 1) (.lit true) (.cmp .neq (.atom 7) (.lit 0))) (.lit true) (.cmp .neq (.atom 8) (.lit 0))) (.lit true) (.cmp .neq (.atom 9) (.lit 0))) (.lit true) (.cmp .neq (.atom 10) (.lit 0))
def mayS0_1 : Ev.SB := .ite (.ite (.ite (.ite (.ite (.ite (.not (.ite (.cmp .geq (.atom 3) (.lit 0)) (.cmp .leq (.atom 3) (.lit 15)) (.lit false))) (.lit true) (.not (.ite (.cmp .geq (.atom 4) (.lit 0)) (.cmp .leq (.atom 4) (.lit 15)) (.lit false)))) (.lit true) (.not (.ite (.cmp .geq (.atom 5) (.lit 0)) (.cmp .leq (.atom 5) (.lit 15)) (.lit false)))) (.lit true) (.not (.ite (.cmp .geq (.atom 6) (.lit 0)) (.cmp .leq (.atom 6) (.lit 11)) (.lit false)))) (.lit true) (.not (.ite (.cmp .geq (.atom 7) (.lit 0)) (.cmp .leq (.atom 7) (.lit 65535)) (.lit false)))) (.lit true) (.not (.ite (.cmp .geq (.atom 9) (.lit 0)) (.cmp .leq (.atom 9) (.lit 15)) (.lit false)))) (.lit true) (.not (.ite (.cmp .geq (.atom 10) (.lit 0)) (.cmp .leq (.atom 10) (.lit 255)) (.lit false)))
def mayS0_2 : Ev.SB := .ite (.ite (.ite (.ite (.atom 0) (.cmp .neq (.atom 6) (.lit 0)) (.lit false)) (.cmp .neq (.atom 6) (.lit 8)) (.lit false)) (.cmp .neq (.atom 6) (.lit 9)) (.lit false)) (.cmp .neq (.atom 6) (.lit 10)) (.lit false)
def mayS0_3 : Ev.SB := .cmp .neq (.atom 6) (.lit 0)
def mayL0 : Ev.SB := .ite (.cmp .eql (.atom 4) (.lit 0)) (.ite (.not (.atom 0)) (.lit true) (.cmp .lss (.atom 5) (.lit 2))) (.lit false)
def mayT0 : Ev.SpT := .node mayS0_0 (.leaf (.lit false)) (.node mayS0_1 (.leaf (.lit false)) (.node mayS0_2 (.leaf (.lit false)) (.node mayS0_3 (.leaf (.lit true)) (.leaf mayL0))))
theorem may0_0 (φ : Ev.Val → Prop) : Ev.outV ((Ev.evO Try.prog ⟨[(mayS0_0, true)], φ⟩ Ev.noOrc 1000 30 (.fn 21) [insAV (.lit 0)]).go .e 0) = some (.bool (.lit false)) := by kernel_rfl
theorem may0_1 (φ : Ev.Val → Prop) : Ev.outV ((Ev.evO Try.prog ⟨[(mayS0_1, true), (mayS0_0, false)], φ⟩ Ev.noOrc 1000 30 (.fn 21) [insAV (.lit 0)]).go .e 0) = some (.bool (.lit false)) := by kernel_rfl
theorem may0_2 (φ : Ev.Val → Prop) : Ev.outV ((Ev.evO Try.prog ⟨[(mayS0_2, true), (mayS0_1, false), (mayS0_0, false)], φ⟩ Ev.noOrc 1000 30 (.fn 21) [insAV (.lit 0)]).go .e 0) = some (.bool (.lit false)) := by kernel_rfl
theorem may0_3 (φ : Ev.Val → Prop) : Ev.outV ((Ev.evO Try.prog ⟨[(mayS0_3, true), (mayS0_2, false), (mayS0_1, false), (mayS0_0, false)], φ⟩ Ev.noOrc 1000 30 (.fn 21) [insAV (.lit 0)]).go .e 0) = some (.bool (.lit true)) := by kernel_rfl
theorem may0_4 (φ : Ev.Val → Prop) : Ev.outV ((Ev.evO Try.prog ⟨[(mayS0_3, false), (mayS0_2, false), (mayS0_1, false), (mayS0_0, false)], φ⟩ Ev.noOrc 1000 30 (.fn 21) [insAV (.lit 0)]).go .e 0) = some (.bool mayL0) := by kernel_rfl
theorem rmay0 (I : Ins) (hf : I.form = 0) (w : World) : Calls Try.prog 21 #[.agg (insCells I)] w fun e w' => e = .returned (.bool (mayT0.sb.den (insVal I))) ∧ Below w.heap.size w w' :=
  Ev.calls_tree 1000 30 (insVal I) [.agg (insCells I)] w ⟨trivial, Nat.zero_le _⟩ (insAV_rel I (.lit 0) hf) mayT0 Ev.Ass.none (Ev.noOrc_ok _ _) (Ev.Ass.has_none _) ⟨may0_0 _, may0_1 _, may0_2 _, may0_3 _, may0_4 _⟩
def mayS1_0 : Ev.SB := .ite (.ite (.ite (.cmp .neq (.atom 5) (.lit 0)) (.lit true) (.cmp .neq (.atom 8) (.lit 0))) (.lit true) (.cmp .neq (.atom 9) (.lit 0))) (.lit true) (.cmp .neq (.atom 10) (.lit 0))
def mayS1_1 : Ev.SB := .ite (.ite (.ite (.ite (.ite (.ite (.not (.ite (.cmp .geq (.atom 3) (.lit 0)) (.cmp .leq (.atom 3) (.lit 15)) (.lit false))) (.lit true) (.not (.ite (.cmp .geq (.atom 4) (.lit 0)) (.cmp .leq (.atom 4) (.lit 15)) (.lit false)))) (.lit true) (.not (.ite (.cmp .geq (.atom 5) (.lit 0)) (.cmp .leq (.atom 5) (.lit 15)) (.lit false)))) (.lit true) (.not (.ite (.cmp .geq (.atom 6) (.lit 0)) (.cmp .leq (.atom 6) (.lit 11)) (.lit false)))) (.lit true) (.not (.ite (.cmp .geq (.atom 7) (.lit 0)) (.cmp .leq (.atom 7) (.lit 65535)) (.lit false)))) (.lit true) (.not (.ite (.cmp .geq (.atom 9) (.lit 0)) (.cmp .leq (.atom 9) (.lit 15)) (.lit false)))) (.lit true) (.not (.ite (.cmp .geq (.atom 10) (.lit 0)) (.cmp .leq (.atom 10) (.lit 255)) (.lit false)))
def mayS1_2 : Ev.SB := .ite (.ite (.ite (.ite (.atom 0) (.cmp .neq (.atom 6) (.lit 0)) (.lit false)) (.cmp .neq (.atom 6) (.lit 8)) (.lit false)) (.cmp .neq (.atom 6) (.lit 9)) (.lit false)) (.cmp .neq (.atom 6) (.lit 10)) (.lit false)
def mayS1_3 : Ev.SB := .cmp .neq (.atom 6) (.lit 0)
def mayL1 : Ev.SB := .ite (.cmp .eql (.atom 4) (.lit 0)) (.ite (.not (.atom 0)) (.lit true) (.not (.atom 1))) (.lit false)
def mayT1 : Ev.SpT := .node mayS1_0 (.leaf (.lit false)) (.node mayS1_1 (.leaf (.lit false)) (.node mayS1_2 (.leaf (.lit false)) (.node mayS1_3 (.leaf (.lit true)) (.leaf mayL1))))
theorem may1_0 (φ : Ev.Val → Prop) : Ev.outV ((Ev.evO Try.prog ⟨[(mayS1_0, true)], φ⟩ Ev.noOrc 1000 30 (.fn 21) [insAV (.lit 1)]).go .e 0) = some (.bool (.lit false)) := by kernel_rfl
theorem may1_1 (φ : Ev.Val → Prop) : Ev.outV ((Ev.evO Try.prog ⟨[(mayS1_1, true), (mayS1_0, false)], φ⟩ Ev.noOrc 1000 30 (.fn 21) [insAV (.lit 1)]).go .e 0) = some (.bool (.lit false)) := by kernel_rfl
theorem may1_2 (φ : Ev.Val → Prop) : Ev.outV ((Ev.evO Try.prog ⟨[(mayS1_2, true), (mayS1_1, false), (mayS1_0, false)], φ⟩ Ev.noOrc 1000 30 (.fn 21) [insAV (.lit 1)]).go .e 0) = some (.bool (.lit false)) := by kernel_rfl
theorem may1_3 (φ : Ev.Val → Prop) : Ev.outV ((Ev.evO Try.prog ⟨[(mayS1_3, true), (mayS1_2, false), (mayS1_1, false), (mayS1_0, false)], φ⟩ Ev.noOrc 1000 30 (.fn 21) [insAV (.lit 1)]).go .e 0) = some (.bool (.lit true)) := by kernel_rfl
theorem may1_4 (φ : Ev.Val → Prop) : Ev.outV ((Ev.evO Try.prog ⟨[(mayS1_3, false), (mayS1_2, false), (mayS1_1, false), (mayS1_0, false)], φ⟩ Ev.noOrc 1000 30 (.fn 21) [insAV (.lit 1)]).go .e 0) = some (.bool mayL1) := by kernel_rfl
theorem rmay1 (I : Ins) (hf : I.form = 1) (w : World) : Calls Try.prog 21 #[.agg (insCells I)] w fun e w' => e = .returned (.bool (mayT1.sb.den (insVal I))) ∧ Below w.heap.size w w' :=
  Ev.calls_tree 1000 30 (insVal I) [.agg (insCells I)] w ⟨trivial, Nat.zero_le _⟩ (insAV_rel I (.lit 1) hf) mayT1 Ev.Ass.none (Ev.noOrc_ok _ _) (Ev.Ass.has_none _) ⟨may1_0 _, may1_1 _, may1_2 _, may1_3 _, may1_4 _⟩
def mayS2_0 : Ev.SB := .ite (.ite (.ite (.ite (.ite (.atom 0) (.lit true) (.cmp .neq (.atom 5) (.lit 0))) (.lit true) (.cmp .neq (.atom 6) (.lit 0))) (.lit true) (.cmp .neq (.atom 7) (.lit 0))) (.lit true) (.cmp .neq (.atom 9) (.lit 0))) (.lit true) (.cmp .neq (.atom 10) (.lit 0))
def mayS2_1 : Ev.SB := .ite (.ite (.ite (.ite (.ite (.ite (.not (.ite (.cmp .geq (.atom 3) (.lit 0)) (.cmp .leq (.atom 3) (.lit 15)) (.lit false))) (.lit true) (.not (.ite (.cmp .geq (.atom 4) (.lit 0)) (.cmp .leq (.atom 4) (.lit 15)) (.lit false)))) (.lit true) (.not (.ite (.cmp .geq (.atom 5) (.lit 0)) (.cmp .leq (.atom 5) (.lit 15)) (.lit false)))) (.lit true) (.not (.ite (.cmp .geq (.atom 6) (.lit 0)) (.cmp .leq (.atom 6) (.lit 11)) (.lit false)))) (.lit true) (.not (.ite (.cmp .geq (.atom 7) (.lit 0)) (.cmp .leq (.atom 7) (.lit 65535)) (.lit false)))) (.lit true) (.not (.ite (.cmp .geq (.atom 9) (.lit 0)) (.cmp .leq (.atom 9) (.lit 15)) (.lit false)))) (.lit true) (.not (.ite (.cmp .geq (.atom 10) (.lit 0)) (.cmp .leq (.atom 10) (.lit 255)) (.lit false)))
def mayS2_2 : Ev.SB := .not (.ite (.cmp .geq (.atom 8) (.lit (-524288))) (.cmp .leq (.atom 8) (.lit 524287)) (.lit false))
def mayL2 : Ev.SB := .lit true
def mayT2 : Ev.SpT := .node mayS2_0 (.leaf (.lit false)) (.node mayS2_1 (.leaf (.lit false)) (.node mayS2_2 (.leaf (.lit false)) (.leaf mayL2)))
theorem may2_0 (φ : Ev.Val → Prop) : Ev.outV ((Ev.evO Try.prog ⟨[(mayS2_0, true)], φ⟩ Ev.noOrc 1000 30 (.fn 21) [insAV (.lit 2)]).go .e 0) = some (.bool (.lit false)) := by kernel_rfl
theorem may2_1 (φ : Ev.Val → Prop) : Ev.outV ((Ev.evO Try.prog ⟨[(mayS2_1, true), (mayS2_0, false)], φ⟩ Ev.noOrc 1000 30 (.fn 21) [insAV (.lit 2)]).go .e 0) = some (.bool (.lit false)) := by kernel_rfl
theorem may2_2 (φ : Ev.Val → Prop) : Ev.outV ((Ev.evO Try.prog ⟨[(mayS2_2, true), (mayS2_1, false), (mayS2_0, false)], φ⟩ Ev.noOrc 1000 30 (.fn 21) [insAV (.lit 2)]).go .e 0) = some (.bool (.lit false)) := by kernel_rfl
theorem may2_3 (φ : Ev.Val → Prop) : Ev.outV ((Ev.evO Try.prog ⟨[(mayS2_2, false), (mayS2_1, false), (mayS2_0, false)], φ⟩ Ev.noOrc 1000 30 (.fn 21) [insAV (.lit 2)]).go .e 0) = some (.bool mayL2) := by kernel_rfl
theorem rmay2 (I : Ins) (hf : I.form = 2) (w : World) : Calls Try.prog 21 #[.agg (insCells I)] w fun e w' => e = .returned (.bool (mayT2.sb.den (insVal I))) ∧ Below w.heap.size w w' :=
  Ev.calls_tree 1000 30 (insVal I) [.agg (insCells I)] w ⟨trivial, Nat.zero_le _⟩ (insAV_rel I (.lit 2) hf) mayT2 Ev.Ass.none (Ev.noOrc_ok _ _) (Ev.Ass.has_none _) ⟨may2_0 _, may2_1 _, may2_2 _, may2_3 _⟩
def mayS3_0 : Ev.SB := .ite (.ite (.ite (.ite (.ite (.atom 0) (.lit true) (.cmp .neq (.atom 5) (.lit 0))) (.lit true) (.cmp .neq (.atom 6) (.lit 0))) (.lit true) (.cmp .neq (.atom 7) (.lit 0))) (.lit true) (.cmp .neq (.atom 9) (.lit 0))) (.lit true) (.cmp .neq (.atom 10) (.lit 0))
def mayS3_1 : Ev.SB := .ite (.ite (.ite (.ite (.ite (.ite (.not (.ite (.cmp .geq (.atom 3) (.lit 0)) (.cmp .leq (.atom 3) (.lit 15)) (.lit false))) (.lit true) (.not (.ite (.cmp .geq (.atom 4) (.lit 0)) (.cmp .leq (.atom 4) (.lit 15)) (.lit false)))) (.lit true) (.not (.ite (.cmp .geq (.atom 5) (.lit 0)) (.cmp .leq (.atom 5) (.lit 15)) (.lit false)))) (.lit true) (.not (.ite (.cmp .geq (.atom 6) (.lit 0)) (.cmp .leq (.atom 6) (.lit 11)) (.lit false)))) (.lit true) (.not (.ite (.cmp .geq (.atom 7) (.lit 0)) (.cmp .leq (.atom 7) (.lit 65535)) (.lit false)))) (.lit true) (.not (.ite (.cmp .geq (.atom 9) (.lit 0)) (.cmp .leq (.atom 9) (.lit 15)) (.lit false)))) (.lit true) (.not (.ite (.cmp .geq (.atom 10) (.lit 0)) (.cmp .leq (.atom 10) (.lit 255)) (.lit false)))
def mayS3_2 : Ev.SB := .not (.ite (.cmp .geq (.atom 8) (.lit (-524288))) (.cmp .leq (.atom 8) (.lit 524287)) (.lit false))
def mayL3 : Ev.SB := .lit true
def mayT3 : Ev.SpT := .node mayS3_0 (.leaf (.lit false)) (.node mayS3_1 (.leaf (.lit false)) (.node mayS3_2 (.leaf (.lit false)) (.leaf mayL3)))
theorem may3_0 (φ : Ev.Val → Prop) : Ev.outV ((Ev.evO Try.prog ⟨[(mayS3_0, true)], φ⟩ Ev.noOrc 1000 30 (.fn 21) [insAV (.lit 3)]).go .e 0) = some (.bool (.lit false)) := by kernel_rfl
theorem may3_1 (φ : Ev.Val → Prop) : Ev.outV ((Ev.evO Try.prog ⟨[(mayS3_1, true), (mayS3_0, false)], φ⟩ Ev.noOrc 1000 30 (.fn 21) [insAV (.lit 3)]).go .e 0) = some (.bool (.lit false)) := by kernel_rfl
theorem may3_2 (φ : Ev.Val → Prop) : Ev.outV ((Ev.evO Try.prog ⟨[(mayS3_2, true), (mayS3_1, false), (mayS3_0, false)], φ⟩ Ev.noOrc 1000 30 (.fn 21) [insAV (.lit 3)]).go .e 0) = some (.bool (.lit false)) := by kernel_rfl
theorem may3_3 (φ : Ev.Val → Prop) : Ev.outV ((Ev.evO Try.prog ⟨[(mayS3_2, false), (mayS3_1, false), (mayS3_0, false)], φ⟩ Ev.noOrc 1000 30 (.fn 21) [insAV (.lit 3)]).go .e 0) = some (.bool mayL3) := by kernel_rfl
theorem rmay3 (I : Ins) (hf : I.form = 3) (w : World) : Calls Try.prog 21 #[.agg (insCells I)] w fun e w' => e = .returned (.bool (mayT3.sb.den (insVal I))) ∧ Below w.heap.size w w' :=
  Ev.calls_tree 1000 30 (insVal I) [.agg (insCells I)] w ⟨trivial, Nat.zero_le _⟩ (insAV_rel I (.lit 3) hf) mayT3 Ev.Ass.none (Ev.noOrc_ok _ _) (Ev.Ass.has_none _) ⟨may3_0 _, may3_1 _, may3_2 _, may3_3 _⟩
def mayS4_0 : Ev.SB := .ite (.ite (.ite (.ite (.ite (.ite (.atom 0) (.lit true) (.cmp .neq (.atom 3) (.lit 0))) (.lit true) (.cmp .neq (.atom 4) (.lit 0))) (.lit true) (.cmp .neq (.atom 5) (.lit 0))) (.lit true) (.cmp .neq (.atom 6) (.lit 0))) (.lit true) (.cmp .neq (.atom 7) (.lit 0))) (.lit true) (.cmp .neq (.atom 10) (.lit 0))
def mayS4_1 : Ev.SB := .ite (.ite (.ite (.ite (.ite (.ite (.not (.ite (.cmp .geq (.atom 3) (.lit 0)) (.cmp .leq (.atom 3) (.lit 15)) (.lit false))) (.lit true) (.not (.ite (.cmp .geq (.atom 4) (.lit 0)) (.cmp .leq (.atom 4) (.lit 15)) (.lit false)))) (.lit true) (.not (.ite (.cmp .geq (.atom 5) (.lit 0)) (.cmp .leq (.atom 5) (.lit 15)) (.lit false)))) (.lit true) (.not (.ite (.cmp .geq (.atom 6) (.lit 0)) (.cmp .leq (.atom 6) (.lit 11)) (.lit false)))) (.lit true) (.not (.ite (.cmp .geq (.atom 7) (.lit 0)) (.cmp .leq (.atom 7) (.lit 65535)) (.lit false)))) (.lit true) (.not (.ite (.cmp .geq (.atom 9) (.lit 0)) (.cmp .leq (.atom 9) (.lit 15)) (.lit false)))) (.lit true) (.not (.ite (.cmp .geq (.atom 10) (.lit 0)) (.cmp .leq (.atom 10) (.lit 255)) (.lit false)))
def mayS4_2 : Ev.SB := .not (.ite (.cmp .geq (.atom 8) (.lit (-8388608))) (.cmp .leq (.atom 8) (.lit 8388607)) (.lit false))
def mayL4 : Ev.SB := .lit true
def mayT4 : Ev.SpT := .node mayS4_0 (.leaf (.lit false)) (.node mayS4_1 (.leaf (.lit false)) (.node mayS4_2 (.leaf (.lit false)) (.leaf mayL4)))
theorem may4_0 (φ : Ev.Val → Prop) : Ev.outV ((Ev.evO Try.prog ⟨[(mayS4_0, true)], φ⟩ Ev.noOrc 1000 30 (.fn 21) [insAV (.lit 4)]).go .e 0) = some (.bool (.lit false)) := by kernel_rfl
theorem may4_1 (φ : Ev.Val → Prop) : Ev.outV ((Ev.evO Try.prog ⟨[(mayS4_1, true), (mayS4_0, false)], φ⟩ Ev.noOrc 1000 30 (.fn 21) [insAV (.lit 4)]).go .e 0) = some (.bool (.lit false)) := by kernel_rfl
theorem may4_2 (φ : Ev.Val → Prop) : Ev.outV ((Ev.evO Try.prog ⟨[(mayS4_2, true), (mayS4_1, false), (mayS4_0, false)], φ⟩ Ev.noOrc 1000 30 (.fn 21) [insAV (.lit 4)]).go .e 0) = some (.bool (.lit false)) := by kernel_rfl
theorem may4_3 (φ : Ev.Val → Prop) : Ev.outV ((Ev.evO Try.prog ⟨[(mayS4_2, false), (mayS4_1, false), (mayS4_0, false)], φ⟩ Ev.noOrc 1000 30 (.fn 21) [insAV (.lit 4)]).go .e 0) = some (.bool mayL4) := by kernel_rfl
theorem rmay4 (I : Ins) (hf : I.form = 4) (w : World) : Calls Try.prog 21 #[.agg (insCells I)] w fun e w' => e = .returned (.bool (mayT4.sb.den (insVal I))) ∧ Below w.heap.size w w' :=
  Ev.calls_tree 1000 30 (insVal I) [.agg (insCells I)] w ⟨trivial, Nat.zero_le _⟩ (insAV_rel I (.lit 4) hf) mayT4 Ev.Ass.none (Ev.noOrc_ok _ _) (Ev.Ass.has_none _) ⟨may4_0 _, may4_1 _, may4_2 _, may4_3 _⟩
def mayS5_0 : Ev.SB := .ite (.ite (.ite (.ite (.ite (.ite (.atom 0) (.lit true) (.cmp .neq (.atom 3) (.lit 0))) (.lit true) (.cmp .neq (.atom 4) (.lit 0))) (.lit true) (.cmp .neq (.atom 6) (.lit 0))) (.lit true) (.cmp .neq (.atom 7) (.lit 0))) (.lit true) (.cmp .neq (.atom 8) (.lit 0))) (.lit true) (.cmp .neq (.atom 10) (.lit 0))
def mayS5_1 : Ev.SB := .ite (.ite (.ite (.ite (.ite (.ite (.not (.ite (.cmp .geq (.atom 3) (.lit 0)) (.cmp .leq (.atom 3) (.lit 15)) (.lit false))) (.lit true) (.not (.ite (.cmp .geq (.atom 4) (.lit 0)) (.cmp .leq (.atom 4) (.lit 15)) (.lit false)))) (.lit true) (.not (.ite (.cmp .geq (.atom 5) (.lit 0)) (.cmp .leq (.atom 5) (.lit 15)) (.lit false)))) (.lit true) (.not (.ite (.cmp .geq (.atom 6) (.lit 0)) (.cmp .leq (.atom 6) (.lit 11)) (.lit false)))) (.lit true) (.not (.ite (.cmp .geq (.atom 7) (.lit 0)) (.cmp .leq (.atom 7) (.lit 65535)) (.lit false)))) (.lit true) (.not (.ite (.cmp .geq (.atom 9) (.lit 0)) (.cmp .leq (.atom 9) (.lit 15)) (.lit false)))) (.lit true) (.not (.ite (.cmp .geq (.atom 10) (.lit 0)) (.cmp .leq (.atom 10) (.lit 255)) (.lit false)))
def mayS5_2 : Ev.SB := .ite (.atom 1) (.cmp .eql (.atom 5) (.lit 12)) (.lit false)
def mayL5 : Ev.SB := .lit true
def mayT5 : Ev.SpT := .node mayS5_0 (.leaf (.lit false)) (.node mayS5_1 (.leaf (.lit false)) (.node mayS5_2 (.leaf (.lit false)) (.leaf mayL5)))
theorem may5_0 (φ : Ev.Val → Prop) : Ev.outV ((Ev.evO Try.prog ⟨[(mayS5_0, true)], φ⟩ Ev.noOrc 1000 30 (.fn 21) [insAV (.lit 5)]).go .e 0) = some (.bool (.lit false)) := by kernel_rfl
theorem may5_1 (φ : Ev.Val → Prop) : Ev.outV ((Ev.evO Try.prog ⟨[(mayS5_1, true), (mayS5_0, false)], φ⟩ Ev.noOrc 1000 30 (.fn 21) [insAV (.lit 5)]).go .e 0) = some (.bool (.lit false)) := by kernel_rfl
theorem may5_2 (φ : Ev.Val → Prop) : Ev.outV ((Ev.evO Try.prog ⟨[(mayS5_2, true), (mayS5_1, false), (mayS5_0, false)], φ⟩ Ev.noOrc 1000 30 (.fn 21) [insAV (.lit 5)]).go .e 0) = some (.bool (.lit false)) := by kernel_rfl
theorem may5_3 (φ : Ev.Val → Prop) : Ev.outV ((Ev.evO Try.prog ⟨[(mayS5_2, false), (mayS5_1, false), (mayS5_0, false)], φ⟩ Ev.noOrc 1000 30 (.fn 21) [insAV (.lit 5)]).go .e 0) = some (.bool mayL5) := by kernel_rfl
theorem rmay5 (I : Ins) (hf : I.form = 5) (w : World) : Calls Try.prog 21 #[.agg (insCells I)] w fun e w' => e = .returned (.bool (mayT5.sb.den (insVal I))) ∧ Below w.heap.size w w' :=
  Ev.calls_tree 1000 30 (insVal I) [.agg (insCells I)] w ⟨trivial, Nat.zero_le _⟩ (insAV_rel I (.lit 5) hf) mayT5 Ev.Ass.none (Ev.noOrc_ok _ _) (Ev.Ass.has_none _) ⟨may5_0 _, may5_1 _, may5_2 _, may5_3 _⟩
def mayS6_0 : Ev.SB := .ite (.ite (.ite (.ite (.ite (.ite (.ite (.atom 0) (.lit true) (.atom 1)) (.lit true) (.cmp .neq (.atom 3) (.lit 0))) (.lit true) (.cmp .neq (.atom 4) (.lit 0))) (.lit true) (.cmp .neq (.atom 5) (.lit 0))) (.lit true) (.cmp .neq (.atom 6) (.lit 0))) (.lit true) (.cmp .neq (.atom 7) (.lit 0))) (.lit true) (.cmp .neq (.atom 8) (.lit 0))
def mayS6_1 : Ev.SB := .ite (.ite (.ite (.ite (.ite (.ite (.not (.ite (.cmp .geq (.atom 3) (.lit 0)) (.cmp .leq (.atom 3) (.lit 15)) (.lit false))) (.lit true) (.not (.ite (.cmp .geq (.atom 4) (.lit 0)) (.cmp .leq (.atom 4) (.lit 15)) (.lit false)))) (.lit true) (.not (.ite (.cmp .geq (.atom 5) (.lit 0)) (.cmp .leq (.atom 5) (.lit 15)) (.lit false)))) (.lit true) (.not (.ite (.cmp .geq (.atom 6) (.lit 0)) (.cmp .leq (.atom 6) (.lit 11)) (.lit false)))) (.lit true) (.not (.ite (.cmp .geq (.atom 7) (.lit 0)) (.cmp .leq (.atom 7) (.lit 65535)) (.lit false)))) (.lit true) (.not (.ite (.cmp .geq (.atom 9) (.lit 0)) (.cmp .leq (.atom 9) (.lit 15)) (.lit false)))) (.lit true) (.not (.ite (.cmp .geq (.atom 10) (.lit 0)) (.cmp .leq (.atom 10) (.lit 255)) (.lit false)))
def mayL6 : Ev.SB := .lit true
def mayT6 : Ev.SpT := .node mayS6_0 (.leaf (.lit false)) (.node mayS6_1 (.leaf (.lit false)) (.leaf mayL6))
theorem may6_0 (φ : Ev.Val → Prop) : Ev.outV ((Ev.evO Try.prog ⟨[(mayS6_0, true)], φ⟩ Ev.noOrc 1000 30 (.fn 21) [insAV (.lit 6)]).go .e 0) = some (.bool (.lit false)) := by kernel_rfl
theorem may6_1 (φ : Ev.Val → Prop) : Ev.outV ((Ev.evO Try.prog ⟨[(mayS6_1, true), (mayS6_0, false)], φ⟩ Ev.noOrc 1000 30 (.fn 21) [insAV (.lit 6)]).go .e 0) = some (.bool (.lit false)) := by kernel_rfl
theorem may6_2 (φ : Ev.Val → Prop) : Ev.outV ((Ev.evO Try.prog ⟨[(mayS6_1, false), (mayS6_0, false)], φ⟩ Ev.noOrc 1000 30 (.fn 21) [insAV (.lit 6)]).go .e 0) = some (.bool mayL6) := by kernel_rfl
theorem rmay6 (I : Ins) (hf : I.form = 6) (w : World) : Calls Try.prog 21 #[.agg (insCells I)] w fun e w' => e = .returned (.bool (mayT6.sb.den (insVal I))) ∧ Below w.heap.size w w' :=
  Ev.calls_tree 1000 30 (insVal I) [.agg (insCells I)] w ⟨trivial, Nat.zero_le _⟩ (insAV_rel I (.lit 6) hf) mayT6 Ev.Ass.none (Ev.noOrc_ok _ _) (Ev.Ass.has_none _) ⟨may6_0 _, may6_1 _, may6_2 _⟩
def mayO : Ev.SB := .ite (.cmp .lss (.atom 11) (.lit 0)) (.lit true) (.cmp .gtr (.atom 11) (.lit 6))
theorem mayO_1 (φ : Ev.Val → Prop) : Ev.outV ((Ev.evO Try.prog ⟨[(mayO, true)], φ⟩ Ev.noOrc 1000 30 (.fn 21) [insAV (.atom 11)]).go .e 0) = some (.bool (.lit false)) := by kernel_rfl
theorem rmayO (I : Ins) (hf : I.form < 0 ∨ 6 < I.form) (w : World) : Calls Try.prog 21 #[.agg (insCells I)] w fun e w' => e = .returned (.bool false) ∧ Below w.heap.size w w' :=
  Ev.calls_bool (A := Ev.Ass.none.add (mayO, true)) (Ev.noOrc_ok _ _) 1000 30 (mayO_1 _) (insVal I) ((Ev.Ass.has_none _).add (by
    simp only [mayO, Ev.SB.den, Ev.SI.den, insVal, Ev.Val.of, Ev.cmpI]
    rcases hf with h | h
    · simp [h]
    · by_cases h0 : I.form < 0 <;> simp [h, h0])) [.agg (insCells I)] w ⟨trivial, Nat.zero_le _⟩ (insAV_rel I (.atom 11) rfl)
/-- may it be? -/
def mayE (I : Ins) : Bool := if I.form = 0 then mayT0.sb.den (insVal I) else if I.form = 1 then mayT1.sb.den (insVal I) else if I.form = 2 then mayT2.sb.den (insVal I) else if I.form = 3 then mayT3.sb.den (insVal I) else if I.form = 4 then mayT4.sb.den (insVal I) else if I.form = 5 then mayT5.sb.den (insVal I) else if I.form = 6 then mayT6.sb.den (insVal I) else false
theorem rmay_any (I : Ins) (w : World) : Calls Try.prog 21 #[.agg (insCells I)] w fun e w' => e = .returned (.bool (mayE I)) ∧ Below w.heap.size w w' := by
  unfold mayE
  split
  · exact rmay0 I (by assumption) w
  · split
    · exact rmay1 I (by assumption) w
    · split
      · exact rmay2 I (by assumption) w
      · split
        · exact rmay3 I (by assumption) w
        · split
          · exact rmay4 I (by assumption) w
          · split
            · exact rmay5 I (by assumption) w
            · split
              · exact rmay6 I (by assumption) w
              · exact rmayO I (by omega) w
/-- what an instruction that may be is -/
structure MayIs (I : Ins) : Prop where
  f0 : 0 ≤ I.form
  f1 : I.form ≤ 6
  a0 : 0 ≤ I.a
  a1 : I.a ≤ 15
  b0 : 0 ≤ I.b
  b1 : I.b ≤ 15
  c0 : 0 ≤ I.c
  c1 : I.c ≤ 15
  o0 : 0 ≤ I.op
  o1 : I.op ≤ 11
  m0 : 0 ≤ I.im
  m1 : I.im ≤ 65535
  k0 : 0 ≤ I.cond
  k1 : I.cond ≤ 15
  n0 : 0 ≤ I.n
  n1 : I.n ≤ 255
  r : I.form = 0 → I.v = false ∧ I.im = 0 ∧ I.off = 0 ∧ I.cond = 0 ∧ I.n = 0 ∧ mayOpB 0 I.u false I.b I.c I.op = true
  i : I.form = 1 → I.c = 0 ∧ I.off = 0 ∧ I.cond = 0 ∧ I.n = 0 ∧ mayOpB 1 I.u I.v I.b 0 I.op = true
  l : I.form = 2 ∨ I.form = 3 → I.u = false ∧ I.c = 0 ∧ I.op = 0 ∧ I.im = 0 ∧ I.cond = 0 ∧ I.n = 0 ∧ -524288 ≤ I.off ∧ I.off ≤ 524287
  j : I.form = 4 → I.u = false ∧ I.a = 0 ∧ I.b = 0 ∧ I.c = 0 ∧ I.op = 0 ∧ I.im = 0 ∧ I.n = 0 ∧ -8388608 ≤ I.off ∧ I.off ≤ 8388607
  t : I.form = 5 → I.u = false ∧ I.a = 0 ∧ I.b = 0 ∧ I.op = 0 ∧ I.im = 0 ∧ I.off = 0 ∧ I.n = 0 ∧ ¬ (I.v = true ∧ I.c = 12)
  s : I.form = 6 → I.u = false ∧ I.v = false ∧ I.a = 0 ∧ I.b = 0 ∧ I.c = 0 ∧ I.op = 0 ∧ I.im = 0 ∧ I.off = 0
end
end Go.Proofs.Ytgjecfchnokcfaa

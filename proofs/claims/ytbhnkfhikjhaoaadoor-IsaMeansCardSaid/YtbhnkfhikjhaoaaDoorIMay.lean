/-
  Which instructions may be, by the code (layer 3's isa.May): what the call yields, form by form: reckoned by the kernel; it is what MayIs says.
-/
import Derived.Test.YtbhnkfhikjhaoaaDoorMeansN
import Derived.Test.YtbhnkfhikjhaoaaDoorIsaB
import Derived.Test.YtbhnkfhikjhaoaaDoorOpenS
import Derived.Test.YtbhnkfhikjhaoaaDoorEvD
import Derived.KernelRfl
namespace Go.Proofs.YtbhnkfhikjhaoaaDoor
open Go.ChangeShapes Go.WideShapes Go.ChangeAt Go.RowKit
set_option linter.unusedVariables false
set_option linter.unusedSimpArgs false
noncomputable section
def insI (I : Ins) (k : Nat) : Int := if k = 3 then I.a else if k = 4 then I.b else if k = 5 then I.c else if k = 6 then I.op else if k = 7 then I.im else if k = 8 then I.off else if k = 9 then I.cond else if k = 10 then I.n else if k = 61 then bit I.u else if k = 62 then bit I.v else if k = 70 then valI I.u I.v I.op I.im else I.form
def insB (I : Ins) (k : Nat) : Bool := if k = 0 then I.u else if k = 1 then I.v else mayOpB I.form I.u I.v I.b I.c I.op
def insV0 (I : Ins) : Ev.Val := Ev.Val.of (insI I) (insB I)
def insC (f c : Ev.SI) : Ev.AV := .agg [.int .i64 f, .bool (.atom 0), .bool (.atom 1), .int .i64 (.atom 3), .int .i64 (.atom 4), .int .i64 c, .int .i64 (.atom 6), .int .i64 (.atom 7), .int .i64 (.atom 8), .int .i64 (.atom 9), .int .i64 (.atom 10)]
def insAV (f : Ev.SI) : Ev.AV := insC f (.atom 5)
theorem insC_rel (I : Ins) (ρ : Ev.Val) (hi : ρ.i = insI I) (hb : ρ.b = insB I) (f c : Ev.SI) (hf : I.form = f.den ρ) (hc : I.c = c.den ρ) (μ : Ev.Names) : Ev.rel ρ μ (insC f c) (.agg (insCells I)) := by
  refine ⟨(insCells I).toList, by simp, ?_⟩
  simp [insCells, Ev.relL, Ev.rel, Ev.SI.den, Ev.SB.den, hi, hb, insI, insB]
  exact ⟨hf, hc⟩
theorem insAV_rel (I : Ins) (f : Ev.SI) (hf : I.form = f.den (insV0 I)) : Ev.relL (insV0 I) Ev.Names.none [insAV f] [.agg (insCells I)] := ⟨insC_rel I (insV0 I) rfl rfl f (.atom 5) hf rfl _, trivial⟩
def moE (f : Ev.SI) : List Ev.Ent := [⟨12, [insAV f], .bool (.atom 60)⟩]
theorem moE_ok (I : Ins) (f : Ev.SI) (hf : I.form = f.den (insV0 I)) {l : List (Ev.SB × Bool)} : ∀ e ∈ moE f, Ev.EntOk Tryd.prog ⟨l, fun σ => σ = insV0 I, Ev.noG⟩ e :=
  Ev.ents_cons (Ev.EntOk.of rfl [.agg (insCells I)] (insAV_rel I f hf) (v := .bool (mayOpB I.form I.u I.v I.b I.c I.op)) (fun _ => rfl) fun W => (mayOp_any I.form I.u I.v I.a I.b I.c I.op I.im I.off I.cond I.n W).mono fun e w' h => ⟨h.1, by rw [← h.2]; exact below1 _ _⟩) Ev.ents_nil
theorem op_ge {form : Int} {u v : Bool} {b c op : Int} (h : mayOpB form u v b c op = true) : 0 ≤ op := by
  unfold mayOpB at h
  split at h
  · omega
  · simp at h; omega
theorem shr4 (n : Int) : Ev.binI .shr .i64 n 4 = n / 16 := by simp only [Ev.binI]; exact Int.fdiv_eq_ediv_of_nonneg _ (by decide)
theorem shr8 (n : Int) : Ev.binI .shr .i64 n 8 = n / 256 := by simp only [Ev.binI]; exact Int.fdiv_eq_ediv_of_nonneg _ (by decide)
theorem shr16 (n : Int) : Ev.binI .shr .i64 n 16 = n / 65536 := by simp only [Ev.binI]; exact Int.fdiv_eq_ediv_of_nonneg _ (by decide)
theorem shr20 (n : Int) : Ev.binI .shr .i64 n 20 = n / 1048576 := by simp only [Ev.binI]; exact Int.fdiv_eq_ediv_of_nonneg _ (by decide)
theorem shr24 (n : Int) : Ev.binI .shr .i64 n 24 = n / 16777216 := by simp only [Ev.binI]; exact Int.fdiv_eq_ediv_of_nonneg _ (by decide)
theorem addw (n m : Int) : Ev.binI .add .i64 n m = (n + m + 9223372036854775808) % 18446744073709551616 - 9223372036854775808 := by
  simp [Ev.binI, IntKind.wrap, IntKind.bits, IntKind.signed]; omega
def mayL0 : Ev.SB := .ite (.ite (.ite (.ite (.ite (.ite (.ite (.beq (.atom 0) (.atom 0)) (.ite (.not (.atom 1)) (.ite (.cmp .eql (.atom 3) (.atom 3)) (.ite (.cmp .eql (.atom 4) (.atom 4)) (.ite (.cmp .eql (.atom 5) (.atom 5)) (.ite (.cmp .eql (.atom 6) (.atom 6)) (.ite (.cmp .eql (.lit 0) (.atom 7)) (.ite (.cmp .eql (.lit 0) (.atom 8)) (.ite (.cmp .eql (.lit 0) (.atom 9)) (.cmp .eql (.lit 0) (.atom 10)) (.lit false)) (.lit false)) (.lit false)) (.lit false)) (.lit false)) (.lit false)) (.lit false)) (.lit false)) (.lit false)) (.ite (.cmp .geq (.atom 3) (.lit 0)) (.cmp .eql (.bin .shr .i64 (.atom 3) (.lit 4)) (.lit 0)) (.lit false)) (.lit false)) (.ite (.cmp .geq (.atom 4) (.lit 0)) (.cmp .eql (.bin .shr .i64 (.atom 4) (.lit 4)) (.lit 0)) (.lit false)) (.lit false)) (.ite (.cmp .geq (.atom 5) (.lit 0)) (.cmp .eql (.bin .shr .i64 (.atom 5) (.lit 4)) (.lit 0)) (.lit false)) (.lit false)) (.ite (.cmp .geq (.atom 9) (.lit 0)) (.cmp .eql (.bin .shr .i64 (.atom 9) (.lit 4)) (.lit 0)) (.lit false)) (.lit false)) (.ite (.cmp .geq (.atom 7) (.lit 0)) (.cmp .eql (.bin .shr .i64 (.atom 7) (.lit 16)) (.lit 0)) (.lit false)) (.lit false)) (.ite (.cmp .geq (.atom 10) (.lit 0)) (.cmp .eql (.bin .shr .i64 (.atom 10) (.lit 8)) (.lit 0)) (.lit false)) (.lit false)
def mayL1 : Ev.SB := .ite (.ite (.ite (.ite (.ite (.ite (.ite (.beq (.atom 0) (.atom 0)) (.ite (.beq (.atom 1) (.atom 1)) (.ite (.cmp .eql (.atom 3) (.atom 3)) (.ite (.cmp .eql (.atom 4) (.atom 4)) (.ite (.cmp .eql (.lit 0) (.atom 5)) (.ite (.cmp .eql (.atom 6) (.atom 6)) (.ite (.cmp .eql (.atom 7) (.atom 7)) (.ite (.cmp .eql (.lit 0) (.atom 8)) (.ite (.cmp .eql (.lit 0) (.atom 9)) (.cmp .eql (.lit 0) (.atom 10)) (.lit false)) (.lit false)) (.lit false)) (.lit false)) (.lit false)) (.lit false)) (.lit false)) (.lit false)) (.lit false)) (.ite (.cmp .geq (.atom 3) (.lit 0)) (.cmp .eql (.bin .shr .i64 (.atom 3) (.lit 4)) (.lit 0)) (.lit false)) (.lit false)) (.ite (.cmp .geq (.atom 4) (.lit 0)) (.cmp .eql (.bin .shr .i64 (.atom 4) (.lit 4)) (.lit 0)) (.lit false)) (.lit false)) (.ite (.cmp .geq (.atom 5) (.lit 0)) (.cmp .eql (.bin .shr .i64 (.atom 5) (.lit 4)) (.lit 0)) (.lit false)) (.lit false)) (.ite (.cmp .geq (.atom 9) (.lit 0)) (.cmp .eql (.bin .shr .i64 (.atom 9) (.lit 4)) (.lit 0)) (.lit false)) (.lit false)) (.ite (.cmp .geq (.atom 7) (.lit 0)) (.cmp .eql (.bin .shr .i64 (.atom 7) (.lit 16)) (.lit 0)) (.lit false)) (.lit false)) (.ite (.cmp .geq (.atom 10) (.lit 0)) (.cmp .eql (.bin .shr .i64 (.atom 10) (.lit 8)) (.lit 0)) (.lit false)) (.lit false)
def mayL2 : Ev.SB := .ite (.ite (.ite (.ite (.ite (.ite (.ite (.not (.atom 0)) (.ite (.beq (.atom 1) (.atom 1)) (.ite (.cmp .eql (.atom 3) (.atom 3)) (.ite (.cmp .eql (.atom 4) (.atom 4)) (.ite (.cmp .eql (.lit 0) (.atom 5)) (.ite (.cmp .eql (.lit 0) (.atom 6)) (.ite (.cmp .eql (.lit 0) (.atom 7)) (.ite (.cmp .eql (.atom 8) (.atom 8)) (.ite (.cmp .eql (.lit 0) (.atom 9)) (.cmp .eql (.lit 0) (.atom 10)) (.lit false)) (.lit false)) (.lit false)) (.lit false)) (.lit false)) (.lit false)) (.lit false)) (.lit false)) (.lit false)) (.ite (.cmp .geq (.atom 3) (.lit 0)) (.cmp .eql (.bin .shr .i64 (.atom 3) (.lit 4)) (.lit 0)) (.lit false)) (.lit false)) (.ite (.cmp .geq (.atom 4) (.lit 0)) (.cmp .eql (.bin .shr .i64 (.atom 4) (.lit 4)) (.lit 0)) (.lit false)) (.lit false)) (.ite (.cmp .geq (.atom 5) (.lit 0)) (.cmp .eql (.bin .shr .i64 (.atom 5) (.lit 4)) (.lit 0)) (.lit false)) (.lit false)) (.ite (.cmp .geq (.atom 9) (.lit 0)) (.cmp .eql (.bin .shr .i64 (.atom 9) (.lit 4)) (.lit 0)) (.lit false)) (.lit false)) (.ite (.cmp .geq (.atom 7) (.lit 0)) (.cmp .eql (.bin .shr .i64 (.atom 7) (.lit 16)) (.lit 0)) (.lit false)) (.lit false)) (.ite (.cmp .geq (.atom 10) (.lit 0)) (.cmp .eql (.bin .shr .i64 (.atom 10) (.lit 8)) (.lit 0)) (.lit false)) (.lit false)
def mayL3 : Ev.SB := .ite (.ite (.ite (.ite (.ite (.ite (.ite (.not (.atom 0)) (.ite (.beq (.atom 1) (.atom 1)) (.ite (.cmp .eql (.atom 3) (.atom 3)) (.ite (.cmp .eql (.atom 4) (.atom 4)) (.ite (.cmp .eql (.lit 0) (.atom 5)) (.ite (.cmp .eql (.lit 0) (.atom 6)) (.ite (.cmp .eql (.lit 0) (.atom 7)) (.ite (.cmp .eql (.atom 8) (.atom 8)) (.ite (.cmp .eql (.lit 0) (.atom 9)) (.cmp .eql (.lit 0) (.atom 10)) (.lit false)) (.lit false)) (.lit false)) (.lit false)) (.lit false)) (.lit false)) (.lit false)) (.lit false)) (.lit false)) (.ite (.cmp .geq (.atom 3) (.lit 0)) (.cmp .eql (.bin .shr .i64 (.atom 3) (.lit 4)) (.lit 0)) (.lit false)) (.lit false)) (.ite (.cmp .geq (.atom 4) (.lit 0)) (.cmp .eql (.bin .shr .i64 (.atom 4) (.lit 4)) (.lit 0)) (.lit false)) (.lit false)) (.ite (.cmp .geq (.atom 5) (.lit 0)) (.cmp .eql (.bin .shr .i64 (.atom 5) (.lit 4)) (.lit 0)) (.lit false)) (.lit false)) (.ite (.cmp .geq (.atom 9) (.lit 0)) (.cmp .eql (.bin .shr .i64 (.atom 9) (.lit 4)) (.lit 0)) (.lit false)) (.lit false)) (.ite (.cmp .geq (.atom 7) (.lit 0)) (.cmp .eql (.bin .shr .i64 (.atom 7) (.lit 16)) (.lit 0)) (.lit false)) (.lit false)) (.ite (.cmp .geq (.atom 10) (.lit 0)) (.cmp .eql (.bin .shr .i64 (.atom 10) (.lit 8)) (.lit 0)) (.lit false)) (.lit false)
def mayL4 : Ev.SB := .ite (.ite (.ite (.ite (.ite (.ite (.ite (.not (.atom 0)) (.ite (.beq (.atom 1) (.atom 1)) (.ite (.cmp .eql (.lit 0) (.atom 3)) (.ite (.cmp .eql (.lit 0) (.atom 4)) (.ite (.cmp .eql (.lit 0) (.atom 5)) (.ite (.cmp .eql (.lit 0) (.atom 6)) (.ite (.cmp .eql (.lit 0) (.atom 7)) (.ite (.cmp .eql (.atom 8) (.atom 8)) (.ite (.cmp .eql (.atom 9) (.atom 9)) (.cmp .eql (.lit 0) (.atom 10)) (.lit false)) (.lit false)) (.lit false)) (.lit false)) (.lit false)) (.lit false)) (.lit false)) (.lit false)) (.lit false)) (.ite (.cmp .geq (.atom 3) (.lit 0)) (.cmp .eql (.bin .shr .i64 (.atom 3) (.lit 4)) (.lit 0)) (.lit false)) (.lit false)) (.ite (.cmp .geq (.atom 4) (.lit 0)) (.cmp .eql (.bin .shr .i64 (.atom 4) (.lit 4)) (.lit 0)) (.lit false)) (.lit false)) (.ite (.cmp .geq (.atom 5) (.lit 0)) (.cmp .eql (.bin .shr .i64 (.atom 5) (.lit 4)) (.lit 0)) (.lit false)) (.lit false)) (.ite (.cmp .geq (.atom 9) (.lit 0)) (.cmp .eql (.bin .shr .i64 (.atom 9) (.lit 4)) (.lit 0)) (.lit false)) (.lit false)) (.ite (.cmp .geq (.atom 7) (.lit 0)) (.cmp .eql (.bin .shr .i64 (.atom 7) (.lit 16)) (.lit 0)) (.lit false)) (.lit false)) (.ite (.cmp .geq (.atom 10) (.lit 0)) (.cmp .eql (.bin .shr .i64 (.atom 10) (.lit 8)) (.lit 0)) (.lit false)) (.lit false)
def mayL5 : Ev.SB := .ite (.ite (.ite (.ite (.ite (.ite (.ite (.not (.atom 0)) (.ite (.beq (.atom 1) (.atom 1)) (.ite (.cmp .eql (.lit 0) (.atom 3)) (.ite (.cmp .eql (.lit 0) (.atom 4)) (.ite (.cmp .eql (.atom 5) (.atom 5)) (.ite (.cmp .eql (.lit 0) (.atom 6)) (.ite (.cmp .eql (.lit 0) (.atom 7)) (.ite (.cmp .eql (.lit 0) (.atom 8)) (.ite (.cmp .eql (.atom 9) (.atom 9)) (.cmp .eql (.lit 0) (.atom 10)) (.lit false)) (.lit false)) (.lit false)) (.lit false)) (.lit false)) (.lit false)) (.lit false)) (.lit false)) (.lit false)) (.ite (.cmp .geq (.atom 3) (.lit 0)) (.cmp .eql (.bin .shr .i64 (.atom 3) (.lit 4)) (.lit 0)) (.lit false)) (.lit false)) (.ite (.cmp .geq (.atom 4) (.lit 0)) (.cmp .eql (.bin .shr .i64 (.atom 4) (.lit 4)) (.lit 0)) (.lit false)) (.lit false)) (.ite (.cmp .geq (.atom 5) (.lit 0)) (.cmp .eql (.bin .shr .i64 (.atom 5) (.lit 4)) (.lit 0)) (.lit false)) (.lit false)) (.ite (.cmp .geq (.atom 9) (.lit 0)) (.cmp .eql (.bin .shr .i64 (.atom 9) (.lit 4)) (.lit 0)) (.lit false)) (.lit false)) (.ite (.cmp .geq (.atom 7) (.lit 0)) (.cmp .eql (.bin .shr .i64 (.atom 7) (.lit 16)) (.lit 0)) (.lit false)) (.lit false)) (.ite (.cmp .geq (.atom 10) (.lit 0)) (.cmp .eql (.bin .shr .i64 (.atom 10) (.lit 8)) (.lit 0)) (.lit false)) (.lit false)
def mayL6 : Ev.SB := .ite (.ite (.ite (.ite (.ite (.ite (.ite (.not (.atom 0)) (.ite (.not (.atom 1)) (.ite (.cmp .eql (.lit 0) (.atom 3)) (.ite (.cmp .eql (.lit 0) (.atom 4)) (.ite (.cmp .eql (.lit 0) (.atom 5)) (.ite (.cmp .eql (.lit 0) (.atom 6)) (.ite (.cmp .eql (.lit 0) (.atom 7)) (.ite (.cmp .eql (.lit 0) (.atom 8)) (.ite (.cmp .eql (.atom 9) (.atom 9)) (.cmp .eql (.atom 10) (.atom 10)) (.lit false)) (.lit false)) (.lit false)) (.lit false)) (.lit false)) (.lit false)) (.lit false)) (.lit false)) (.lit false)) (.ite (.cmp .geq (.atom 3) (.lit 0)) (.cmp .eql (.bin .shr .i64 (.atom 3) (.lit 4)) (.lit 0)) (.lit false)) (.lit false)) (.ite (.cmp .geq (.atom 4) (.lit 0)) (.cmp .eql (.bin .shr .i64 (.atom 4) (.lit 4)) (.lit 0)) (.lit false)) (.lit false)) (.ite (.cmp .geq (.atom 5) (.lit 0)) (.cmp .eql (.bin .shr .i64 (.atom 5) (.lit 4)) (.lit 0)) (.lit false)) (.lit false)) (.ite (.cmp .geq (.atom 9) (.lit 0)) (.cmp .eql (.bin .shr .i64 (.atom 9) (.lit 4)) (.lit 0)) (.lit false)) (.lit false)) (.ite (.cmp .geq (.atom 7) (.lit 0)) (.cmp .eql (.bin .shr .i64 (.atom 7) (.lit 16)) (.lit 0)) (.lit false)) (.lit false)) (.ite (.cmp .geq (.atom 10) (.lit 0)) (.cmp .eql (.bin .shr .i64 (.atom 10) (.lit 8)) (.lit 0)) (.lit false)) (.lit false)
theorem mayr0_1 (φ : Ev.Val → Prop) : Ev.outV ((Ev.evO Tryd.prog ⟨[(.atom 60, true)], φ, Ev.noG⟩ (Ev.orcL (moE (.lit 0))) 1000 30 (.fn 8) [insAV (.lit 0)]).go .e 0) = some (.bool mayL0) := by kernel_rfl
theorem mayr0_0 (φ : Ev.Val → Prop) : Ev.outV ((Ev.evO Tryd.prog ⟨[(.atom 60, false)], φ, Ev.noG⟩ (Ev.orcL (moE (.lit 0))) 1000 30 (.fn 8) [insAV (.lit 0)]).go .e 0) = some (.bool (.lit false)) := by kernel_rfl
def mayT0 : Ev.SpT := .node (.atom 60) (.leaf mayL0) (.leaf (.lit false))
theorem may_0 (I : Ins) (hf : I.form = 0) (w : World) : Calls Tryd.prog 8 #[.agg (insCells I)] w fun e w' => e = .returned (.bool (mayT0.sb.den (insV0 I))) ∧ Below w.heap.size w w' :=
  Ev.calls_tree (o := Ev.orcL (moE (.lit 0))) 1000 30 (insV0 I) [.agg (insCells I)] w ⟨trivial, Nat.zero_le _⟩ (insAV_rel I (.lit 0) hf) mayT0 ⟨[], fun σ => σ = insV0 I, Ev.noG⟩ (Ev.orcL_ok _ (moE_ok I (.lit 0) hf)) ⟨fun p hp => (by cases hp), rfl, Ev.noG_ok _⟩ ⟨mayr0_1 _, mayr0_0 _⟩
theorem mayr1_1 (φ : Ev.Val → Prop) : Ev.outV ((Ev.evO Tryd.prog ⟨[(.atom 60, true)], φ, Ev.noG⟩ (Ev.orcL (moE (.lit 1))) 1000 30 (.fn 8) [insAV (.lit 1)]).go .e 0) = some (.bool mayL1) := by kernel_rfl
theorem mayr1_0 (φ : Ev.Val → Prop) : Ev.outV ((Ev.evO Tryd.prog ⟨[(.atom 60, false)], φ, Ev.noG⟩ (Ev.orcL (moE (.lit 1))) 1000 30 (.fn 8) [insAV (.lit 1)]).go .e 0) = some (.bool (.lit false)) := by kernel_rfl
def mayT1 : Ev.SpT := .node (.atom 60) (.leaf mayL1) (.leaf (.lit false))
theorem may_1 (I : Ins) (hf : I.form = 1) (w : World) : Calls Tryd.prog 8 #[.agg (insCells I)] w fun e w' => e = .returned (.bool (mayT1.sb.den (insV0 I))) ∧ Below w.heap.size w w' :=
  Ev.calls_tree (o := Ev.orcL (moE (.lit 1))) 1000 30 (insV0 I) [.agg (insCells I)] w ⟨trivial, Nat.zero_le _⟩ (insAV_rel I (.lit 1) hf) mayT1 ⟨[], fun σ => σ = insV0 I, Ev.noG⟩ (Ev.orcL_ok _ (moE_ok I (.lit 1) hf)) ⟨fun p hp => (by cases hp), rfl, Ev.noG_ok _⟩ ⟨mayr1_1 _, mayr1_0 _⟩
def mayS2 : Ev.SB := .not (.ite (.cmp .geq (.bin .add .i64 (.atom 8) (.lit 524288)) (.lit 0)) (.cmp .eql (.bin .shr .i64 (.bin .add .i64 (.atom 8) (.lit 524288)) (.lit 20)) (.lit 0)) (.lit false))
theorem mayr2_t (φ : Ev.Val → Prop) : Ev.outV ((Ev.evO Tryd.prog ⟨[(mayS2, true)], φ, Ev.noG⟩ (Ev.orcL (moE (.lit 2))) 1000 30 (.fn 8) [insAV (.lit 2)]).go .e 0) = some (.bool (.lit false)) := by kernel_rfl
theorem mayr2_f (φ : Ev.Val → Prop) : Ev.outV ((Ev.evO Tryd.prog ⟨[(mayS2, false)], φ, Ev.noG⟩ (Ev.orcL (moE (.lit 2))) 1000 30 (.fn 8) [insAV (.lit 2)]).go .e 0) = some (.bool mayL2) := by kernel_rfl
def mayT2 : Ev.SpT := .node mayS2 (.leaf (.lit false)) (.leaf mayL2)
theorem may_2 (I : Ins) (hf : I.form = 2) (w : World) : Calls Tryd.prog 8 #[.agg (insCells I)] w fun e w' => e = .returned (.bool (mayT2.sb.den (insV0 I))) ∧ Below w.heap.size w w' :=
  Ev.calls_tree (o := Ev.orcL (moE (.lit 2))) 1000 30 (insV0 I) [.agg (insCells I)] w ⟨trivial, Nat.zero_le _⟩ (insAV_rel I (.lit 2) hf) mayT2 ⟨[], fun σ => σ = insV0 I, Ev.noG⟩ (Ev.orcL_ok _ (moE_ok I (.lit 2) hf)) ⟨fun p hp => (by cases hp), rfl, Ev.noG_ok _⟩ ⟨mayr2_t _, mayr2_f _⟩
def mayS3 : Ev.SB := .not (.ite (.cmp .geq (.bin .add .i64 (.atom 8) (.lit 524288)) (.lit 0)) (.cmp .eql (.bin .shr .i64 (.bin .add .i64 (.atom 8) (.lit 524288)) (.lit 20)) (.lit 0)) (.lit false))
theorem mayr3_t (φ : Ev.Val → Prop) : Ev.outV ((Ev.evO Tryd.prog ⟨[(mayS3, true)], φ, Ev.noG⟩ (Ev.orcL (moE (.lit 3))) 1000 30 (.fn 8) [insAV (.lit 3)]).go .e 0) = some (.bool (.lit false)) := by kernel_rfl
theorem mayr3_f (φ : Ev.Val → Prop) : Ev.outV ((Ev.evO Tryd.prog ⟨[(mayS3, false)], φ, Ev.noG⟩ (Ev.orcL (moE (.lit 3))) 1000 30 (.fn 8) [insAV (.lit 3)]).go .e 0) = some (.bool mayL3) := by kernel_rfl
def mayT3 : Ev.SpT := .node mayS3 (.leaf (.lit false)) (.leaf mayL3)
theorem may_3 (I : Ins) (hf : I.form = 3) (w : World) : Calls Tryd.prog 8 #[.agg (insCells I)] w fun e w' => e = .returned (.bool (mayT3.sb.den (insV0 I))) ∧ Below w.heap.size w w' :=
  Ev.calls_tree (o := Ev.orcL (moE (.lit 3))) 1000 30 (insV0 I) [.agg (insCells I)] w ⟨trivial, Nat.zero_le _⟩ (insAV_rel I (.lit 3) hf) mayT3 ⟨[], fun σ => σ = insV0 I, Ev.noG⟩ (Ev.orcL_ok _ (moE_ok I (.lit 3) hf)) ⟨fun p hp => (by cases hp), rfl, Ev.noG_ok _⟩ ⟨mayr3_t _, mayr3_f _⟩
def mayS4 : Ev.SB := .not (.ite (.cmp .geq (.bin .add .i64 (.atom 8) (.lit 8388608)) (.lit 0)) (.cmp .eql (.bin .shr .i64 (.bin .add .i64 (.atom 8) (.lit 8388608)) (.lit 24)) (.lit 0)) (.lit false))
theorem mayr4_t (φ : Ev.Val → Prop) : Ev.outV ((Ev.evO Tryd.prog ⟨[(mayS4, true)], φ, Ev.noG⟩ (Ev.orcL (moE (.lit 4))) 1000 30 (.fn 8) [insAV (.lit 4)]).go .e 0) = some (.bool (.lit false)) := by kernel_rfl
theorem mayr4_f (φ : Ev.Val → Prop) : Ev.outV ((Ev.evO Tryd.prog ⟨[(mayS4, false)], φ, Ev.noG⟩ (Ev.orcL (moE (.lit 4))) 1000 30 (.fn 8) [insAV (.lit 4)]).go .e 0) = some (.bool mayL4) := by kernel_rfl
def mayT4 : Ev.SpT := .node mayS4 (.leaf (.lit false)) (.leaf mayL4)
theorem may_4 (I : Ins) (hf : I.form = 4) (w : World) : Calls Tryd.prog 8 #[.agg (insCells I)] w fun e w' => e = .returned (.bool (mayT4.sb.den (insV0 I))) ∧ Below w.heap.size w w' :=
  Ev.calls_tree (o := Ev.orcL (moE (.lit 4))) 1000 30 (insV0 I) [.agg (insCells I)] w ⟨trivial, Nat.zero_le _⟩ (insAV_rel I (.lit 4) hf) mayT4 ⟨[], fun σ => σ = insV0 I, Ev.noG⟩ (Ev.orcL_ok _ (moE_ok I (.lit 4) hf)) ⟨fun p hp => (by cases hp), rfl, Ev.noG_ok _⟩ ⟨mayr4_t _, mayr4_f _⟩
def mayS5 : Ev.SB := .ite (.atom 1) (.cmp .eql (.atom 5) (.lit 12)) (.lit false)
theorem mayr5_t (φ : Ev.Val → Prop) : Ev.outV ((Ev.evO Tryd.prog ⟨[(mayS5, true)], φ, Ev.noG⟩ (Ev.orcL (moE (.lit 5))) 1000 30 (.fn 8) [insAV (.lit 5)]).go .e 0) = some (.bool (.lit false)) := by kernel_rfl
theorem mayr5_f (φ : Ev.Val → Prop) : Ev.outV ((Ev.evO Tryd.prog ⟨[(mayS5, false)], φ, Ev.noG⟩ (Ev.orcL (moE (.lit 5))) 1000 30 (.fn 8) [insAV (.lit 5)]).go .e 0) = some (.bool mayL5) := by kernel_rfl
def mayT5 : Ev.SpT := .node mayS5 (.leaf (.lit false)) (.leaf mayL5)
theorem may_5 (I : Ins) (hf : I.form = 5) (w : World) : Calls Tryd.prog 8 #[.agg (insCells I)] w fun e w' => e = .returned (.bool (mayT5.sb.den (insV0 I))) ∧ Below w.heap.size w w' :=
  Ev.calls_tree (o := Ev.orcL (moE (.lit 5))) 1000 30 (insV0 I) [.agg (insCells I)] w ⟨trivial, Nat.zero_le _⟩ (insAV_rel I (.lit 5) hf) mayT5 ⟨[], fun σ => σ = insV0 I, Ev.noG⟩ (Ev.orcL_ok _ (moE_ok I (.lit 5) hf)) ⟨fun p hp => (by cases hp), rfl, Ev.noG_ok _⟩ ⟨mayr5_t _, mayr5_f _⟩
theorem mayr6 (φ : Ev.Val → Prop) : Ev.outV ((Ev.evO Tryd.prog ⟨[], φ, Ev.noG⟩ (Ev.orcL (moE (.lit 6))) 1000 30 (.fn 8) [insAV (.lit 6)]).go .e 0) = some (.bool mayL6) := by kernel_rfl
def mayT6 : Ev.SpT := .leaf mayL6
theorem may_6 (I : Ins) (hf : I.form = 6) (w : World) : Calls Tryd.prog 8 #[.agg (insCells I)] w fun e w' => e = .returned (.bool (mayT6.sb.den (insV0 I))) ∧ Below w.heap.size w w' :=
  Ev.calls_tree (o := Ev.orcL (moE (.lit 6))) 1000 30 (insV0 I) [.agg (insCells I)] w ⟨trivial, Nat.zero_le _⟩ (insAV_rel I (.lit 6) hf) mayT6 ⟨[], fun σ => σ = insV0 I, Ev.noG⟩ (Ev.orcL_ok _ (moE_ok I (.lit 6) hf)) ⟨fun p hp => (by cases hp), rfl, Ev.noG_ok _⟩ (mayr6 _)
def mayF : List (Ev.SB × Bool) := [(.cmp .eql (.atom 11) (.lit 6), false), (.cmp .eql (.atom 11) (.lit 5), false), (.cmp .eql (.atom 11) (.lit 4), false), (.cmp .eql (.atom 11) (.lit 3), false), (.cmp .eql (.atom 11) (.lit 2), false), (.cmp .eql (.atom 11) (.lit 0), false), (.cmp .eql (.atom 11) (.lit 1), false)]
theorem mayrO (φ : Ev.Val → Prop) : Ev.outV ((Ev.evO Tryd.prog ⟨mayF, φ, Ev.noG⟩ Ev.noOrc 1000 30 (.fn 8) [insAV (.atom 11)]).go .e 0) = some (.bool (.lit false)) := by kernel_rfl
theorem may_O (I : Ins) (hf : I.form < 0 ∨ 6 < I.form) (w : World) : Calls Tryd.prog 8 #[.agg (insCells I)] w fun e w' => e = .returned (.bool false) ∧ Below w.heap.size w w' :=
  Ev.calls_bool (A := ⟨mayF, fun _ => True, Ev.noG⟩) (Ev.noOrc_ok _ _) 1000 30 (mayrO _) (insV0 I) ⟨fun p hp => (by
    simp only [mayF, List.mem_cons, List.not_mem_nil, or_false] at hp
    rcases hp with rfl | rfl | rfl | rfl | rfl | rfl | rfl <;> simp [Ev.SB.den, Ev.SI.den, insV0, Ev.Val.of, insI, Ev.cmpI] <;> omega), trivial, Ev.noG_ok _⟩ [.agg (insCells I)] w ⟨trivial, Nat.zero_le _⟩ (insAV_rel I (.atom 11) rfl)
set_option maxHeartbeats 4000000 in
theorem mayT0_is (I : Ins) (hf : I.form = 0) (hw : InsWf I) : mayT0.sb.den (insV0 I) = true ↔ MayIs I := by
  obtain ⟨wf, wa, wb, wc, wop, wim, woff, wco, wn⟩ := hw
  constructor
  · intro h
    simp [mayT0, Ev.SpT.sb, mayL0, Ev.SB.den, Ev.SI.den, insV0, Ev.Val.of, insI, insB, Ev.cmpI, shr4, shr8, shr16, shr20, shr24, addw, hf] at h
    obtain ⟨hM, ⟨⟨⟨⟨⟨⟨hv, e1, e2, e3, e4⟩, a0, a1⟩, b0, b1⟩, c0, c1⟩, k0, k1⟩, m0, m1⟩, n0, n1⟩ := h
    rw [hv] at hM
    have ho := op_le hM
    have hp := op_ge hM
    exact { f0 := by omega, f1 := by omega, a0 := by omega, a1 := by omega, b0 := by omega, b1 := by omega, c0 := by omega, c1 := by omega, o0 := by omega, o1 := by omega, m0 := by omega, m1 := by omega, k0 := by omega, k1 := by omega, n0 := by omega, n1 := by omega, r := fun _ => ⟨hv, by omega, by omega, by omega, by omega, hM⟩, i := fun e => by omega, l := fun e => by omega, j := fun e => by omega, t := fun e => by omega, s := fun e => by omega }
  · intro m
    obtain ⟨f0, f1, a0, a1, b0, b1, c0, c1, o0, o1, m0, m1, k0, k1, n0, n1, hr, hi, hl, hj, ht, hs⟩ := m
    simp [mayT0, Ev.SpT.sb, mayL0, Ev.SB.den, Ev.SI.den, insV0, Ev.Val.of, insI, insB, Ev.cmpI, shr4, shr8, shr16, shr20, shr24, addw, hf]
    obtain ⟨g1, g2, g3, g4, g5, g6⟩ := hr hf
    have g7 : mayOpB 0 I.u I.v I.b I.c I.op = true := by rw [g1]; exact g6
    repeat' apply And.intro
    all_goals first | assumption | omega
set_option maxHeartbeats 4000000 in
theorem mayT1_is (I : Ins) (hf : I.form = 1) (hw : InsWf I) : mayT1.sb.den (insV0 I) = true ↔ MayIs I := by
  obtain ⟨wf, wa, wb, wc, wop, wim, woff, wco, wn⟩ := hw
  constructor
  · intro h
    simp [mayT1, Ev.SpT.sb, mayL1, Ev.SB.den, Ev.SI.den, insV0, Ev.Val.of, insI, insB, Ev.cmpI, shr4, shr8, shr16, shr20, shr24, addw, hf] at h
    obtain ⟨hM, ⟨⟨⟨⟨⟨⟨e1, e2, e3, e4⟩, a0, a1⟩, b0, b1⟩, c0, c1⟩, k0, k1⟩, m0, m1⟩, n0, n1⟩ := h
    rw [← e1] at hM
    have ho := op_le hM
    have hp := op_ge hM
    exact { f0 := by omega, f1 := by omega, a0 := by omega, a1 := by omega, b0 := by omega, b1 := by omega, c0 := by omega, c1 := by omega, o0 := by omega, o1 := by omega, m0 := by omega, m1 := by omega, k0 := by omega, k1 := by omega, n0 := by omega, n1 := by omega, r := fun e => by omega, i := fun _ => ⟨by omega, by omega, by omega, by omega, hM⟩, l := fun e => by omega, j := fun e => by omega, t := fun e => by omega, s := fun e => by omega }
  · intro m
    obtain ⟨f0, f1, a0, a1, b0, b1, c0, c1, o0, o1, m0, m1, k0, k1, n0, n1, hr, hi, hl, hj, ht, hs⟩ := m
    simp [mayT1, Ev.SpT.sb, mayL1, Ev.SB.den, Ev.SI.den, insV0, Ev.Val.of, insI, insB, Ev.cmpI, shr4, shr8, shr16, shr20, shr24, addw, hf]
    obtain ⟨g1, g2, g3, g4, g6⟩ := hi hf
    have g7 : mayOpB 1 I.u I.v I.b I.c I.op = true := by rw [g1]; exact g6
    repeat' apply And.intro
    all_goals first | assumption | omega
set_option maxHeartbeats 4000000 in
theorem mayT2_is (I : Ins) (hf : I.form = 2) (hw : InsWf I) : mayT2.sb.den (insV0 I) = true ↔ MayIs I := by
  obtain ⟨wf, wa, wb, wc, wop, wim, woff, wco, wn⟩ := hw
  constructor
  · intro h
    simp [mayT2, Ev.SpT.sb, mayL2, mayS2, Ev.SB.den, Ev.SI.den, insV0, Ev.Val.of, insI, insB, Ev.cmpI, shr4, shr8, shr16, shr20, shr24, addw, hf] at h
    obtain ⟨⟨s0, s1⟩, ⟨⟨⟨⟨⟨⟨hu, e1, e2, e3, e4, e5⟩, a0, a1⟩, b0, b1⟩, c0, c1⟩, k0, k1⟩, m0, m1⟩, n0, n1⟩ := h
    exact { f0 := by omega, f1 := by omega, a0 := by omega, a1 := by omega, b0 := by omega, b1 := by omega, c0 := by omega, c1 := by omega, o0 := by omega, o1 := by omega, m0 := by omega, m1 := by omega, k0 := by omega, k1 := by omega, n0 := by omega, n1 := by omega, r := fun e => by omega, i := fun e => by omega, l := fun _ => ⟨hu, by omega, by omega, by omega, by omega, by omega, by omega, by omega⟩, j := fun e => by omega, t := fun e => by omega, s := fun e => by omega }
  · intro m
    obtain ⟨f0, f1, a0, a1, b0, b1, c0, c1, o0, o1, m0, m1, k0, k1, n0, n1, hr, hi, hl, hj, ht, hs⟩ := m
    simp [mayT2, Ev.SpT.sb, mayL2, mayS2, Ev.SB.den, Ev.SI.den, insV0, Ev.Val.of, insI, insB, Ev.cmpI, shr4, shr8, shr16, shr20, shr24, addw, hf]
    obtain ⟨g1, g2, g3, g4, g5, g6, g7, g8⟩ := hl (by omega)
    repeat' apply And.intro
    all_goals first | assumption | omega
set_option maxHeartbeats 4000000 in
theorem mayT3_is (I : Ins) (hf : I.form = 3) (hw : InsWf I) : mayT3.sb.den (insV0 I) = true ↔ MayIs I := by
  obtain ⟨wf, wa, wb, wc, wop, wim, woff, wco, wn⟩ := hw
  constructor
  · intro h
    simp [mayT3, Ev.SpT.sb, mayL3, mayS3, Ev.SB.den, Ev.SI.den, insV0, Ev.Val.of, insI, insB, Ev.cmpI, shr4, shr8, shr16, shr20, shr24, addw, hf] at h
    obtain ⟨⟨s0, s1⟩, ⟨⟨⟨⟨⟨⟨hu, e1, e2, e3, e4, e5⟩, a0, a1⟩, b0, b1⟩, c0, c1⟩, k0, k1⟩, m0, m1⟩, n0, n1⟩ := h
    exact { f0 := by omega, f1 := by omega, a0 := by omega, a1 := by omega, b0 := by omega, b1 := by omega, c0 := by omega, c1 := by omega, o0 := by omega, o1 := by omega, m0 := by omega, m1 := by omega, k0 := by omega, k1 := by omega, n0 := by omega, n1 := by omega, r := fun e => by omega, i := fun e => by omega, l := fun _ => ⟨hu, by omega, by omega, by omega, by omega, by omega, by omega, by omega⟩, j := fun e => by omega, t := fun e => by omega, s := fun e => by omega }
  · intro m
    obtain ⟨f0, f1, a0, a1, b0, b1, c0, c1, o0, o1, m0, m1, k0, k1, n0, n1, hr, hi, hl, hj, ht, hs⟩ := m
    simp [mayT3, Ev.SpT.sb, mayL3, mayS3, Ev.SB.den, Ev.SI.den, insV0, Ev.Val.of, insI, insB, Ev.cmpI, shr4, shr8, shr16, shr20, shr24, addw, hf]
    obtain ⟨g1, g2, g3, g4, g5, g6, g7, g8⟩ := hl (by omega)
    repeat' apply And.intro
    all_goals first | assumption | omega
set_option maxHeartbeats 4000000 in
theorem mayT4_is (I : Ins) (hf : I.form = 4) (hw : InsWf I) : mayT4.sb.den (insV0 I) = true ↔ MayIs I := by
  obtain ⟨wf, wa, wb, wc, wop, wim, woff, wco, wn⟩ := hw
  constructor
  · intro h
    simp [mayT4, Ev.SpT.sb, mayL4, mayS4, Ev.SB.den, Ev.SI.den, insV0, Ev.Val.of, insI, insB, Ev.cmpI, shr4, shr8, shr16, shr20, shr24, addw, hf] at h
    obtain ⟨⟨s0, s1⟩, ⟨⟨⟨⟨⟨⟨hu, e1, e2, e3, e4, e5, e6⟩, a0, a1⟩, b0, b1⟩, c0, c1⟩, k0, k1⟩, m0, m1⟩, n0, n1⟩ := h
    exact { f0 := by omega, f1 := by omega, a0 := by omega, a1 := by omega, b0 := by omega, b1 := by omega, c0 := by omega, c1 := by omega, o0 := by omega, o1 := by omega, m0 := by omega, m1 := by omega, k0 := by omega, k1 := by omega, n0 := by omega, n1 := by omega, r := fun e => by omega, i := fun e => by omega, l := fun e => by omega, j := fun _ => ⟨hu, by omega, by omega, by omega, by omega, by omega, by omega, by omega, by omega⟩, t := fun e => by omega, s := fun e => by omega }
  · intro m
    obtain ⟨f0, f1, a0, a1, b0, b1, c0, c1, o0, o1, m0, m1, k0, k1, n0, n1, hr, hi, hl, hj, ht, hs⟩ := m
    simp [mayT4, Ev.SpT.sb, mayL4, mayS4, Ev.SB.den, Ev.SI.den, insV0, Ev.Val.of, insI, insB, Ev.cmpI, shr4, shr8, shr16, shr20, shr24, addw, hf]
    obtain ⟨g1, g2, g3, g4, g5, g6, g7, g8, g9⟩ := hj hf
    repeat' apply And.intro
    all_goals first | assumption | omega
set_option maxHeartbeats 4000000 in
theorem mayT5_is (I : Ins) (hf : I.form = 5) (hw : InsWf I) : mayT5.sb.den (insV0 I) = true ↔ MayIs I := by
  obtain ⟨wf, wa, wb, wc, wop, wim, woff, wco, wn⟩ := hw
  constructor
  · intro h
    simp [mayT5, Ev.SpT.sb, mayL5, mayS5, Ev.SB.den, Ev.SI.den, insV0, Ev.Val.of, insI, insB, Ev.cmpI, shr4, shr8, shr16, shr20, shr24, addw, hf] at h
    obtain ⟨hS, ⟨⟨⟨⟨⟨⟨hu, e1, e2, e3, e4, e5, e6⟩, a0, a1⟩, b0, b1⟩, c0, c1⟩, k0, k1⟩, m0, m1⟩, n0, n1⟩ := h
    exact { f0 := by omega, f1 := by omega, a0 := by omega, a1 := by omega, b0 := by omega, b1 := by omega, c0 := by omega, c1 := by omega, o0 := by omega, o1 := by omega, m0 := by omega, m1 := by omega, k0 := by omega, k1 := by omega, n0 := by omega, n1 := by omega, r := fun e => by omega, i := fun e => by omega, l := fun e => by omega, j := fun e => by omega, t := fun _ => ⟨hu, by omega, by omega, by omega, by omega, by omega, by omega, fun ⟨e1, e2⟩ => hS.elim (fun h => by rw [h] at e1; cases e1) fun h => h e2⟩, s := fun e => by omega }
  · intro m
    obtain ⟨f0, f1, a0, a1, b0, b1, c0, c1, o0, o1, m0, m1, k0, k1, n0, n1, hr, hi, hl, hj, ht, hs⟩ := m
    simp [mayT5, Ev.SpT.sb, mayL5, mayS5, Ev.SB.den, Ev.SI.den, insV0, Ev.Val.of, insI, insB, Ev.cmpI, shr4, shr8, shr16, shr20, shr24, addw, hf]
    obtain ⟨g1, g2, g3, g4, g5, g6, g7, g8⟩ := ht hf
    have g9 : I.v = false ∨ ¬ I.c = 12 := by cases hv : I.v with
      | false => exact .inl rfl
      | true => exact .inr fun e2 => g8 ⟨hv, e2⟩
    repeat' apply And.intro
    all_goals first | assumption | omega
set_option maxHeartbeats 4000000 in
theorem mayT6_is (I : Ins) (hf : I.form = 6) (hw : InsWf I) : mayT6.sb.den (insV0 I) = true ↔ MayIs I := by
  obtain ⟨wf, wa, wb, wc, wop, wim, woff, wco, wn⟩ := hw
  constructor
  · intro h
    simp [mayT6, Ev.SpT.sb, mayL6, Ev.SB.den, Ev.SI.den, insV0, Ev.Val.of, insI, insB, Ev.cmpI, shr4, shr8, shr16, shr20, shr24, addw, hf] at h
    obtain ⟨⟨⟨⟨⟨⟨⟨hu, hv, e1, e2, e3, e4, e5, e6⟩, a0, a1⟩, b0, b1⟩, c0, c1⟩, k0, k1⟩, m0, m1⟩, n0, n1⟩ := h
    exact { f0 := by omega, f1 := by omega, a0 := by omega, a1 := by omega, b0 := by omega, b1 := by omega, c0 := by omega, c1 := by omega, o0 := by omega, o1 := by omega, m0 := by omega, m1 := by omega, k0 := by omega, k1 := by omega, n0 := by omega, n1 := by omega, r := fun e => by omega, i := fun e => by omega, l := fun e => by omega, j := fun e => by omega, t := fun e => by omega, s := fun _ => ⟨hu, hv, by omega, by omega, by omega, by omega, by omega, by omega⟩ }
  · intro m
    obtain ⟨f0, f1, a0, a1, b0, b1, c0, c1, o0, o1, m0, m1, k0, k1, n0, n1, hr, hi, hl, hj, ht, hs⟩ := m
    simp [mayT6, Ev.SpT.sb, mayL6, Ev.SB.den, Ev.SI.den, insV0, Ev.Val.of, insI, insB, Ev.cmpI, shr4, shr8, shr16, shr20, shr24, addw, hf]
    obtain ⟨g1, g2, g3, g4, g5, g6, g7, g8⟩ := hs hf
    repeat' apply And.intro
    all_goals first | assumption | omega
/-- the code's own May says what MayIs says -/
theorem may_any (I : Ins) (hw : InsWf I) : ∃ b, (b = true ↔ MayIs I) ∧ ∀ w, Calls Tryd.prog 8 #[.agg (insCells I)] w fun e w' => e = .returned (.bool b) ∧ Below w.heap.size w w' := by
  by_cases h0 : I.form = 0
  · exact ⟨_, mayT0_is I h0 hw, fun w => may_0 I h0 w⟩
  by_cases h1 : I.form = 1
  · exact ⟨_, mayT1_is I h1 hw, fun w => may_1 I h1 w⟩
  by_cases h2 : I.form = 2
  · exact ⟨_, mayT2_is I h2 hw, fun w => may_2 I h2 w⟩
  by_cases h3 : I.form = 3
  · exact ⟨_, mayT3_is I h3 hw, fun w => may_3 I h3 w⟩
  by_cases h4 : I.form = 4
  · exact ⟨_, mayT4_is I h4 hw, fun w => may_4 I h4 w⟩
  by_cases h5 : I.form = 5
  · exact ⟨_, mayT5_is I h5 hw, fun w => may_5 I h5 w⟩
  by_cases h6 : I.form = 6
  · exact ⟨_, mayT6_is I h6 hw, fun w => may_6 I h6 w⟩
  exact ⟨false, ⟨fun e => (by cases e), fun m => (by have := m.f0; have := m.f1; omega)⟩, fun w => may_O I (by omega) w⟩
theorem may_yes (I : Ins) (hw : InsWf I) (m : MayIs I) (w : World) : Calls Tryd.prog 8 #[.agg (insCells I)] w fun e w' => e = .returned (.bool true) ∧ Below w.heap.size w w' := by
  obtain ⟨b, hb, h⟩ := may_any I hw
  rw [hb.2 m] at h
  exact h w
theorem MayIs.wf {I : Ins} (m : MayIs I) : InsWf I := by
  obtain ⟨f0, f1, a0, a1, b0, b1, c0, c1, o0, o1, m0, m1, k0, k1, n0, n1, hr, hi, hl, hj, ht, hs⟩ := m
  refine ⟨by omega, by omega, by omega, by omega, by omega, by omega, ?_, by omega, by omega⟩
  by_cases h0 : I.form = 0
  · have := hr h0; omega
  by_cases h1 : I.form = 1
  · have := hi h1; omega
  by_cases h2 : I.form = 2 ∨ I.form = 3
  · have := hl h2; omega
  by_cases h4 : I.form = 4
  · have := hj h4; omega
  by_cases h5 : I.form = 5
  · have := ht h5; omega
  · have := hs (by omega); omega
end
end Go.Proofs.YtbhnkfhikjhaoaaDoor

/-
  RiscMeans: for every processor and every instruction: what an instruction leaves of the processor, and the conditions. No condition.
-/
import Derived.Test.YtgjecfchnokcfaaMayIs
import Derived.Test.YtgjecfchnokcfaaRiscF
import Derived.Test.YtgjecfchnokcfaaRiscS
import Derived.Test.YtgjecfchnokcfaaWordR
import Derived.Test.YtgjecfchnokcfaaOpenS
import Derived.Deep.DeepHandedRow
namespace Go.Proofs.Ytgjecfchnokcfaa.riscMeans
open Go.ChangeShapes Go.WideShapes Go.ChangeAt Go.RowKit
open Go.ChangeMaps (open_string shut_string)
set_option linter.unusedVariables false
set_option linter.unusedSimpArgs false
noncomputable section
def cpuA : Ev.AV := .agg [.int .u32 (.atom 100), .int .u32 (.atom 101), .int .u32 (.atom 102), .int .u32 (.atom 103), .int .u32 (.atom 104), .int .u32 (.atom 105), .int .u32 (.atom 106), .int .u32 (.atom 107), .int .u32 (.atom 108), .int .u32 (.atom 109), .int .u32 (.atom 110), .int .u32 (.atom 111), .int .u32 (.atom 112), .int .u32 (.atom 113), .int .u32 (.atom 114), .int .u32 (.atom 115), .int .u32 (.atom 116), .bool (.atom 10), .bool (.atom 11), .bool (.atom 12), .bool (.atom 13), .int .u32 (.atom 117)]
def cpuB : Ev.AV := .agg [.int .u32 (.atom 200), .int .u32 (.atom 201), .int .u32 (.atom 202), .int .u32 (.atom 203), .int .u32 (.atom 204), .int .u32 (.atom 205), .int .u32 (.atom 206), .int .u32 (.atom 207), .int .u32 (.atom 208), .int .u32 (.atom 209), .int .u32 (.atom 210), .int .u32 (.atom 211), .int .u32 (.atom 212), .int .u32 (.atom 213), .int .u32 (.atom 214), .int .u32 (.atom 215), .int .u32 (.atom 216), .bool (.atom 60), .bool (.atom 61), .bool (.atom 62), .bool (.atom 63), .int .u32 (.atom 217)]
def evA : Ev.AV := .agg [.int .i64 (.atom 300), .int .u32 (.atom 301), .bool (.atom 64), .int .i64 (.atom 302), .int .u32 (.atom 303), .int .i64 (.atom 304)]
def insT (f : Nat) (a : Ev.SI) : Ev.AV := .agg [.int .i64 (.lit (.ofNat f)), .bool (.atom 0), .bool (.atom 1), .int .i64 a, .int .i64 (.atom 4), .int .i64 (.atom 5), .int .i64 (.atom 6), .int .i64 (.atom 7), .int .i64 (.atom 8), .int .i64 (.atom 9), .int .i64 (.atom 10)]
def pcI : Ev.SI := .bin .add .i64 (.wrap .i64 (.atom 117)) (.lit 1)
def lawOrc (i : Ev.AV) : List Ev.Ent := [⟨12, [], .bool (.lit true)⟩, ⟨21, [i], .bool (.atom 50)⟩, ⟨22, [i], .int .u32 (.atom 160)⟩, ⟨10, [cpuA, .int .u32 (.atom 160)], .tuple [cpuB, evA]⟩, ⟨15, [cpuA, .int .i64 (.atom 9)], .bool (.atom 90)⟩, ⟨23, [.int .i64 pcI], .int .u32 (.atom 161)⟩, ⟨15, [cpuA, .int .i64 (.lit 0)], .bool (.atom 70)⟩, ⟨15, [cpuA, .int .i64 (.lit 1)], .bool (.atom 71)⟩, ⟨15, [cpuA, .int .i64 (.lit 2)], .bool (.atom 72)⟩, ⟨15, [cpuA, .int .i64 (.lit 3)], .bool (.atom 73)⟩, ⟨15, [cpuA, .int .i64 (.lit 4)], .bool (.atom 74)⟩, ⟨15, [cpuA, .int .i64 (.lit 5)], .bool (.atom 75)⟩, ⟨15, [cpuA, .int .i64 (.lit 6)], .bool (.atom 76)⟩, ⟨15, [cpuA, .int .i64 (.lit 7)], .bool (.atom 77)⟩, ⟨15, [cpuA, .int .i64 (.lit 8)], .bool (.atom 78)⟩, ⟨15, [cpuA, .int .i64 (.lit 9)], .bool (.atom 79)⟩, ⟨15, [cpuA, .int .i64 (.lit 10)], .bool (.atom 80)⟩, ⟨15, [cpuA, .int .i64 (.lit 11)], .bool (.atom 81)⟩, ⟨15, [cpuA, .int .i64 (.lit 12)], .bool (.atom 82)⟩, ⟨15, [cpuA, .int .i64 (.lit 13)], .bool (.atom 83)⟩, ⟨15, [cpuA, .int .i64 (.lit 14)], .bool (.atom 84)⟩, ⟨15, [cpuA, .int .i64 (.lit 15)], .bool (.atom 85)⟩]
def hol : List (Ev.SB × Bool) := [(.beq (.atom 70) (.atom 78), false), (.beq (.atom 71) (.atom 79), false), (.beq (.atom 72) (.atom 80), false), (.beq (.atom 73) (.atom 81), false), (.beq (.atom 74) (.atom 82), false), (.beq (.atom 75) (.atom 83), false), (.beq (.atom 76) (.atom 84), false), (.beq (.atom 77) (.atom 85), false)]
def regAll : List (Ev.SB × Bool) := [(.cmp .neq (.atom 200) (.atom 100), false), (.cmp .neq (.atom 201) (.atom 101), false), (.cmp .neq (.atom 202) (.atom 102), false), (.cmp .neq (.atom 203) (.atom 103), false), (.cmp .neq (.atom 204) (.atom 104), false), (.cmp .neq (.atom 205) (.atom 105), false), (.cmp .neq (.atom 206) (.atom 106), false), (.cmp .neq (.atom 207) (.atom 107), false), (.cmp .neq (.atom 208) (.atom 108), false), (.cmp .neq (.atom 209) (.atom 109), false), (.cmp .neq (.atom 210) (.atom 110), false), (.cmp .neq (.atom 211) (.atom 111), false), (.cmp .neq (.atom 212) (.atom 112), false), (.cmp .neq (.atom 213) (.atom 113), false), (.cmp .neq (.atom 214) (.atom 114), false), (.cmp .neq (.atom 215) (.atom 115), false)]
def pcF : List (Ev.SB × Bool) := [(.cmp .neq (.atom 217) (.atom 161), false)]
def facts (ext pcs : List (Ev.SB × Bool)) (own : Nat) : List (Ev.SB × Bool) := (.atom 50, true) :: (ext ++ (hol ++ (pcs ++ regAll.eraseIdx own)))
def endOp : Ev.SB := .ite (.cmp .eql (.atom 300) (.lit 0)) (.lit true) (.ite (.cmp .eql (.atom 300) (.lit 5)) (.cmp .eql (.atom 6) (.lit 11)) (.lit false))
def endNo : Ev.SB := .ite (.ite (.ite (.ite (.beq (.atom 60) (.atom 10)) (.beq (.atom 61) (.atom 11)) (.lit false)) (.beq (.atom 62) (.atom 12)) (.lit false)) (.beq (.atom 63) (.atom 13)) (.lit false)) (.cmp .eql (.atom 216) (.atom 116)) (.lit false)
theorem run0_0 (φ : Ev.Val → Prop) : Ev.outV ((Ev.evO Try.prog ⟨facts [] pcF 0, φ⟩ (Ev.orcL (lawOrc (insT 0 (.lit 0)))) 1000 30 (.fn 5) [cpuA, insT 0 (.lit 0)]).go .e 0) = some (.bool endOp) := by kernel_rfl
theorem run0_1 (φ : Ev.Val → Prop) : Ev.outV ((Ev.evO Try.prog ⟨facts [] pcF 1, φ⟩ (Ev.orcL (lawOrc (insT 0 (.lit 1)))) 1000 30 (.fn 5) [cpuA, insT 0 (.lit 1)]).go .e 0) = some (.bool endOp) := by kernel_rfl
theorem run0_2 (φ : Ev.Val → Prop) : Ev.outV ((Ev.evO Try.prog ⟨facts [] pcF 2, φ⟩ (Ev.orcL (lawOrc (insT 0 (.lit 2)))) 1000 30 (.fn 5) [cpuA, insT 0 (.lit 2)]).go .e 0) = some (.bool endOp) := by kernel_rfl
theorem run0_3 (φ : Ev.Val → Prop) : Ev.outV ((Ev.evO Try.prog ⟨facts [] pcF 3, φ⟩ (Ev.orcL (lawOrc (insT 0 (.lit 3)))) 1000 30 (.fn 5) [cpuA, insT 0 (.lit 3)]).go .e 0) = some (.bool endOp) := by kernel_rfl
theorem run0_4 (φ : Ev.Val → Prop) : Ev.outV ((Ev.evO Try.prog ⟨facts [] pcF 4, φ⟩ (Ev.orcL (lawOrc (insT 0 (.lit 4)))) 1000 30 (.fn 5) [cpuA, insT 0 (.lit 4)]).go .e 0) = some (.bool endOp) := by kernel_rfl
theorem run0_5 (φ : Ev.Val → Prop) : Ev.outV ((Ev.evO Try.prog ⟨facts [] pcF 5, φ⟩ (Ev.orcL (lawOrc (insT 0 (.lit 5)))) 1000 30 (.fn 5) [cpuA, insT 0 (.lit 5)]).go .e 0) = some (.bool endOp) := by kernel_rfl
theorem run0_6 (φ : Ev.Val → Prop) : Ev.outV ((Ev.evO Try.prog ⟨facts [] pcF 6, φ⟩ (Ev.orcL (lawOrc (insT 0 (.lit 6)))) 1000 30 (.fn 5) [cpuA, insT 0 (.lit 6)]).go .e 0) = some (.bool endOp) := by kernel_rfl
theorem run0_7 (φ : Ev.Val → Prop) : Ev.outV ((Ev.evO Try.prog ⟨facts [] pcF 7, φ⟩ (Ev.orcL (lawOrc (insT 0 (.lit 7)))) 1000 30 (.fn 5) [cpuA, insT 0 (.lit 7)]).go .e 0) = some (.bool endOp) := by kernel_rfl
theorem run0_8 (φ : Ev.Val → Prop) : Ev.outV ((Ev.evO Try.prog ⟨facts [] pcF 8, φ⟩ (Ev.orcL (lawOrc (insT 0 (.lit 8)))) 1000 30 (.fn 5) [cpuA, insT 0 (.lit 8)]).go .e 0) = some (.bool endOp) := by kernel_rfl
theorem run0_9 (φ : Ev.Val → Prop) : Ev.outV ((Ev.evO Try.prog ⟨facts [] pcF 9, φ⟩ (Ev.orcL (lawOrc (insT 0 (.lit 9)))) 1000 30 (.fn 5) [cpuA, insT 0 (.lit 9)]).go .e 0) = some (.bool endOp) := by kernel_rfl
theorem run0_10 (φ : Ev.Val → Prop) : Ev.outV ((Ev.evO Try.prog ⟨facts [] pcF 10, φ⟩ (Ev.orcL (lawOrc (insT 0 (.lit 10)))) 1000 30 (.fn 5) [cpuA, insT 0 (.lit 10)]).go .e 0) = some (.bool endOp) := by kernel_rfl
theorem run0_11 (φ : Ev.Val → Prop) : Ev.outV ((Ev.evO Try.prog ⟨facts [] pcF 11, φ⟩ (Ev.orcL (lawOrc (insT 0 (.lit 11)))) 1000 30 (.fn 5) [cpuA, insT 0 (.lit 11)]).go .e 0) = some (.bool endOp) := by kernel_rfl
theorem run0_12 (φ : Ev.Val → Prop) : Ev.outV ((Ev.evO Try.prog ⟨facts [] pcF 12, φ⟩ (Ev.orcL (lawOrc (insT 0 (.lit 12)))) 1000 30 (.fn 5) [cpuA, insT 0 (.lit 12)]).go .e 0) = some (.bool endOp) := by kernel_rfl
theorem run0_13 (φ : Ev.Val → Prop) : Ev.outV ((Ev.evO Try.prog ⟨facts [] pcF 13, φ⟩ (Ev.orcL (lawOrc (insT 0 (.lit 13)))) 1000 30 (.fn 5) [cpuA, insT 0 (.lit 13)]).go .e 0) = some (.bool endOp) := by kernel_rfl
theorem run0_14 (φ : Ev.Val → Prop) : Ev.outV ((Ev.evO Try.prog ⟨facts [] pcF 14, φ⟩ (Ev.orcL (lawOrc (insT 0 (.lit 14)))) 1000 30 (.fn 5) [cpuA, insT 0 (.lit 14)]).go .e 0) = some (.bool endOp) := by kernel_rfl
theorem run0_15 (φ : Ev.Val → Prop) : Ev.outV ((Ev.evO Try.prog ⟨facts [] pcF 15, φ⟩ (Ev.orcL (lawOrc (insT 0 (.lit 15)))) 1000 30 (.fn 5) [cpuA, insT 0 (.lit 15)]).go .e 0) = some (.bool endOp) := by kernel_rfl
theorem run1_0 (φ : Ev.Val → Prop) : Ev.outV ((Ev.evO Try.prog ⟨facts [] pcF 0, φ⟩ (Ev.orcL (lawOrc (insT 1 (.lit 0)))) 1000 30 (.fn 5) [cpuA, insT 1 (.lit 0)]).go .e 0) = some (.bool endOp) := by kernel_rfl
theorem run1_1 (φ : Ev.Val → Prop) : Ev.outV ((Ev.evO Try.prog ⟨facts [] pcF 1, φ⟩ (Ev.orcL (lawOrc (insT 1 (.lit 1)))) 1000 30 (.fn 5) [cpuA, insT 1 (.lit 1)]).go .e 0) = some (.bool endOp) := by kernel_rfl
theorem run1_2 (φ : Ev.Val → Prop) : Ev.outV ((Ev.evO Try.prog ⟨facts [] pcF 2, φ⟩ (Ev.orcL (lawOrc (insT 1 (.lit 2)))) 1000 30 (.fn 5) [cpuA, insT 1 (.lit 2)]).go .e 0) = some (.bool endOp) := by kernel_rfl
theorem run1_3 (φ : Ev.Val → Prop) : Ev.outV ((Ev.evO Try.prog ⟨facts [] pcF 3, φ⟩ (Ev.orcL (lawOrc (insT 1 (.lit 3)))) 1000 30 (.fn 5) [cpuA, insT 1 (.lit 3)]).go .e 0) = some (.bool endOp) := by kernel_rfl
theorem run1_4 (φ : Ev.Val → Prop) : Ev.outV ((Ev.evO Try.prog ⟨facts [] pcF 4, φ⟩ (Ev.orcL (lawOrc (insT 1 (.lit 4)))) 1000 30 (.fn 5) [cpuA, insT 1 (.lit 4)]).go .e 0) = some (.bool endOp) := by kernel_rfl
theorem run1_5 (φ : Ev.Val → Prop) : Ev.outV ((Ev.evO Try.prog ⟨facts [] pcF 5, φ⟩ (Ev.orcL (lawOrc (insT 1 (.lit 5)))) 1000 30 (.fn 5) [cpuA, insT 1 (.lit 5)]).go .e 0) = some (.bool endOp) := by kernel_rfl
theorem run1_6 (φ : Ev.Val → Prop) : Ev.outV ((Ev.evO Try.prog ⟨facts [] pcF 6, φ⟩ (Ev.orcL (lawOrc (insT 1 (.lit 6)))) 1000 30 (.fn 5) [cpuA, insT 1 (.lit 6)]).go .e 0) = some (.bool endOp) := by kernel_rfl
theorem run1_7 (φ : Ev.Val → Prop) : Ev.outV ((Ev.evO Try.prog ⟨facts [] pcF 7, φ⟩ (Ev.orcL (lawOrc (insT 1 (.lit 7)))) 1000 30 (.fn 5) [cpuA, insT 1 (.lit 7)]).go .e 0) = some (.bool endOp) := by kernel_rfl
theorem run1_8 (φ : Ev.Val → Prop) : Ev.outV ((Ev.evO Try.prog ⟨facts [] pcF 8, φ⟩ (Ev.orcL (lawOrc (insT 1 (.lit 8)))) 1000 30 (.fn 5) [cpuA, insT 1 (.lit 8)]).go .e 0) = some (.bool endOp) := by kernel_rfl
theorem run1_9 (φ : Ev.Val → Prop) : Ev.outV ((Ev.evO Try.prog ⟨facts [] pcF 9, φ⟩ (Ev.orcL (lawOrc (insT 1 (.lit 9)))) 1000 30 (.fn 5) [cpuA, insT 1 (.lit 9)]).go .e 0) = some (.bool endOp) := by kernel_rfl
theorem run1_10 (φ : Ev.Val → Prop) : Ev.outV ((Ev.evO Try.prog ⟨facts [] pcF 10, φ⟩ (Ev.orcL (lawOrc (insT 1 (.lit 10)))) 1000 30 (.fn 5) [cpuA, insT 1 (.lit 10)]).go .e 0) = some (.bool endOp) := by kernel_rfl
theorem run1_11 (φ : Ev.Val → Prop) : Ev.outV ((Ev.evO Try.prog ⟨facts [] pcF 11, φ⟩ (Ev.orcL (lawOrc (insT 1 (.lit 11)))) 1000 30 (.fn 5) [cpuA, insT 1 (.lit 11)]).go .e 0) = some (.bool endOp) := by kernel_rfl
theorem run1_12 (φ : Ev.Val → Prop) : Ev.outV ((Ev.evO Try.prog ⟨facts [] pcF 12, φ⟩ (Ev.orcL (lawOrc (insT 1 (.lit 12)))) 1000 30 (.fn 5) [cpuA, insT 1 (.lit 12)]).go .e 0) = some (.bool endOp) := by kernel_rfl
theorem run1_13 (φ : Ev.Val → Prop) : Ev.outV ((Ev.evO Try.prog ⟨facts [] pcF 13, φ⟩ (Ev.orcL (lawOrc (insT 1 (.lit 13)))) 1000 30 (.fn 5) [cpuA, insT 1 (.lit 13)]).go .e 0) = some (.bool endOp) := by kernel_rfl
theorem run1_14 (φ : Ev.Val → Prop) : Ev.outV ((Ev.evO Try.prog ⟨facts [] pcF 14, φ⟩ (Ev.orcL (lawOrc (insT 1 (.lit 14)))) 1000 30 (.fn 5) [cpuA, insT 1 (.lit 14)]).go .e 0) = some (.bool endOp) := by kernel_rfl
theorem run1_15 (φ : Ev.Val → Prop) : Ev.outV ((Ev.evO Try.prog ⟨facts [] pcF 15, φ⟩ (Ev.orcL (lawOrc (insT 1 (.lit 15)))) 1000 30 (.fn 5) [cpuA, insT 1 (.lit 15)]).go .e 0) = some (.bool endOp) := by kernel_rfl
theorem run2 (φ : Ev.Val → Prop) : Ev.outV ((Ev.evO Try.prog ⟨facts [] pcF 16, φ⟩ (Ev.orcL (lawOrc (insT 2 (.atom 3)))) 1000 30 (.fn 5) [cpuA, insT 2 (.atom 3)]).go .e 0) = some (.bool endNo) := by kernel_rfl
theorem run3 (φ : Ev.Val → Prop) : Ev.outV ((Ev.evO Try.prog ⟨facts [] pcF 16, φ⟩ (Ev.orcL (lawOrc (insT 3 (.atom 3)))) 1000 30 (.fn 5) [cpuA, insT 3 (.atom 3)]).go .e 0) = some (.bool endNo) := by kernel_rfl
theorem run6 (φ : Ev.Val → Prop) : Ev.outV ((Ev.evO Try.prog ⟨facts [] pcF 16, φ⟩ (Ev.orcL (lawOrc (insT 6 (.atom 3)))) 1000 30 (.fn 5) [cpuA, insT 6 (.atom 3)]).go .e 0) = some (.bool endNo) := by kernel_rfl
theorem run4_0_0 (φ : Ev.Val → Prop) : Ev.outV ((Ev.evO Try.prog ⟨facts [(.atom 90, false), (.atom 1, false)] pcF 16, φ⟩ (Ev.orcL (lawOrc (insT 4 (.atom 3)))) 1000 30 (.fn 5) [cpuA, insT 4 (.atom 3)]).go .e 0) = some (.bool endNo) := by kernel_rfl
theorem run4_1_0 (φ : Ev.Val → Prop) : Ev.outV ((Ev.evO Try.prog ⟨facts [(.atom 90, true), (.atom 1, false)] [] 16, φ⟩ (Ev.orcL (lawOrc (insT 4 (.atom 3)))) 1000 30 (.fn 5) [cpuA, insT 4 (.atom 3)]).go .e 0) = some (.bool endNo) := by kernel_rfl
theorem run4_0_1 (φ : Ev.Val → Prop) : Ev.outV ((Ev.evO Try.prog ⟨facts [(.atom 90, false), (.atom 1, true)] pcF 16, φ⟩ (Ev.orcL (lawOrc (insT 4 (.atom 3)))) 1000 30 (.fn 5) [cpuA, insT 4 (.atom 3)]).go .e 0) = some (.bool endNo) := by kernel_rfl
theorem run4_1_1 (φ : Ev.Val → Prop) : Ev.outV ((Ev.evO Try.prog ⟨facts [(.atom 90, true), (.atom 1, true)] [] 15, φ⟩ (Ev.orcL (lawOrc (insT 4 (.atom 3)))) 1000 30 (.fn 5) [cpuA, insT 4 (.atom 3)]).go .e 0) = some (.bool endNo) := by kernel_rfl
theorem run5_0_0 (φ : Ev.Val → Prop) : Ev.outV ((Ev.evO Try.prog ⟨facts [(.atom 90, false), (.atom 1, false)] pcF 16, φ⟩ (Ev.orcL (lawOrc (insT 5 (.atom 3)))) 1000 30 (.fn 5) [cpuA, insT 5 (.atom 3)]).go .e 0) = some (.bool endNo) := by kernel_rfl
theorem run5_1_0 (φ : Ev.Val → Prop) : Ev.outV ((Ev.evO Try.prog ⟨facts [(.atom 90, true), (.atom 1, false)] [] 16, φ⟩ (Ev.orcL (lawOrc (insT 5 (.atom 3)))) 1000 30 (.fn 5) [cpuA, insT 5 (.atom 3)]).go .e 0) = some (.bool endNo) := by kernel_rfl
theorem run5_0_1 (φ : Ev.Val → Prop) : Ev.outV ((Ev.evO Try.prog ⟨facts [(.atom 90, false), (.atom 1, true)] pcF 16, φ⟩ (Ev.orcL (lawOrc (insT 5 (.atom 3)))) 1000 30 (.fn 5) [cpuA, insT 5 (.atom 3)]).go .e 0) = some (.bool endNo) := by kernel_rfl
theorem run5_1_1 (φ : Ev.Val → Prop) : Ev.outV ((Ev.evO Try.prog ⟨facts [(.atom 90, true), (.atom 1, true)] [] 15, φ⟩ (Ev.orcL (lawOrc (insT 5 (.atom 3)))) 1000 30 (.fn 5) [cpuA, insT 5 (.atom 3)]).go .e 0) = some (.bool endNo) := by kernel_rfl
theorem runNo (φ : Ev.Val → Prop) : Ev.outV ((Ev.evO Try.prog ⟨[(.atom 50, false)], φ⟩ (Ev.orcL [⟨12, [], .bool (.lit true)⟩, ⟨21, [insAV (.atom 11)], .bool (.atom 50)⟩]) 1000 30 (.fn 5) [cpuA, insAV (.atom 11)]).go .e 0) = some (.bool (.lit true)) := by kernel_rfl
def lawVal (C C' : Cpu) (I : Ins) (may : Bool) (x p : Int) (e : Nat → Int) (by_ : Bool) : Ev.Val := Ev.Val.of
  (fun k => if k < 100 then (insVal I).i k else if k < 116 then C.r (k - 100) else if k = 116 then C.h else if k = 117 then C.pc else if k = 160 then x else if k = 161 then p else if k < 216 then C'.r (k - 200) else if k = 216 then C'.h else if k = 217 then C'.pc else e k)
   (fun k => if k < 2 then (insVal I).b k else if k = 10 then C.n else if k = 11 then C.z else if k = 12 then C.c else if k = 13 then C.v else if k = 50 then may else if k = 60 then C'.n else if k = 61 then C'.z else if k = 62 then C'.c else if k = 63 then C'.v else if k = 64 then by_ else if k = 90 then holdB C (I.cond % 16).toNat else holdB C (k - 70))
section
variable {C C' : Cpu} {I : Ins} {may : Bool} {x p : Int} {e : Nat → Int} {by_ : Bool}
theorem cpuA_rel (μ : Ev.Names) : Ev.rel (lawVal C C' I may x p e by_) μ cpuA (.agg (cpuCells C)) := ⟨(cpuCells C).toList, by simp, rfl, rfl, rfl, rfl, rfl, rfl, rfl, rfl, rfl, rfl, rfl, rfl, rfl, rfl, rfl, rfl, rfl, rfl, rfl, rfl, rfl, rfl, trivial⟩
theorem cpuB_rel (μ : Ev.Names) : Ev.rel (lawVal C C' I may x p e by_) μ cpuB (.agg (cpuCells C')) := ⟨(cpuCells C').toList, by simp, rfl, rfl, rfl, rfl, rfl, rfl, rfl, rfl, rfl, rfl, rfl, rfl, rfl, rfl, rfl, rfl, rfl, rfl, rfl, rfl, rfl, rfl, trivial⟩
theorem evA_rel (μ : Ev.Names) : Ev.rel (lawVal C C' I may x p e by_) μ evA (.agg (evCells (e 300) (e 301) by_ (e 302) (e 303) (e 304))) := ⟨(evCells (e 300) (e 301) by_ (e 302) (e 303) (e 304)).toList, by simp, rfl, rfl, rfl, rfl, rfl, rfl, trivial⟩
theorem insT_rel (μ : Ev.Names) (f : Nat) (a : Ev.SI) (hf : I.form = (f : Int)) (ha : I.a = a.den (lawVal C C' I may x p e by_)) : Ev.rel (lawVal C C' I may x p e by_) μ (insT f a) (.agg (insCells I)) := ⟨(insCells I).toList, by simp, congrArg (Value.int .i64) hf, rfl, rfl, congrArg (Value.int .i64) ha, rfl, rfl, rfl, rfl, rfl, rfl, rfl, trivial⟩
theorem insN_rel (μ : Ev.Names) : Ev.rel (lawVal C C' I may x p e by_) μ (insAV (.atom 11)) (.agg (insCells I)) := ⟨(insCells I).toList, by simp, rfl, rfl, rfl, rfl, rfl, rfl, rfl, rfl, rfl, rfl, rfl, trivial⟩
theorem hol_ok : ∀ q ∈ hol, q.1.den (lawVal C C' I may x p e by_) = q.2 := by
  intro q hq
  simp only [hol, List.mem_cons, List.not_mem_nil, or_false] at hq
  rcases hq with rfl | rfl | rfl | rfl | rfl | rfl | rfl | rfl <;> simp [Ev.SB.den, lawVal, Ev.Val.of, holdB]
theorem reg_ok (own : Nat) (h : ∀ n, n < 16 → n ≠ own → C'.r n = C.r n) : ∀ q ∈ regAll.eraseIdx own, q.1.den (lawVal C C' I may x p e by_) = q.2 := by
  intro q hq
  rw [List.mem_eraseIdx_iff_getElem?] at hq
  obtain ⟨i, hne, hi⟩ := hq
  have hl : i < 16 := by
    have := (List.getElem?_eq_some_iff.1 hi).1
    simpa [regAll] using this
  have he := h i hl hne
  have : i = 0 ∨ i = 1 ∨ i = 2 ∨ i = 3 ∨ i = 4 ∨ i = 5 ∨ i = 6 ∨ i = 7 ∨ i = 8 ∨ i = 9 ∨ i = 10 ∨ i = 11 ∨ i = 12 ∨ i = 13 ∨ i = 14 ∨ i = 15 := by omega
  rcases this with rfl | rfl | rfl | rfl | rfl | rfl | rfl | rfl | rfl | rfl | rfl | rfl | rfl | rfl | rfl | rfl <;> (cases hi; simp [Ev.SB.den, Ev.SI.den, Ev.cmpI, lawVal, Ev.Val.of, he])
theorem pc_ok (h : C'.pc = p) : ∀ q ∈ pcF, q.1.den (lawVal C C' I may x p e by_) = q.2 := by
  intro q hq
  simp only [pcF, List.mem_cons, List.not_mem_nil, or_false] at hq
  subst hq
  simp [Ev.SB.den, Ev.SI.den, Ev.cmpI, lawVal, Ev.Val.of, h]
theorem no_ok {ρ : Ev.Val} : ∀ q ∈ ([] : List (Ev.SB × Bool)), q.1.den ρ = q.2 := fun q hq => by cases hq
theorem app_ok {ρ : Ev.Val} {l m : List (Ev.SB × Bool)} (h : ∀ q ∈ l, q.1.den ρ = q.2) (g : ∀ q ∈ m, q.1.den ρ = q.2) : ∀ q ∈ l ++ m, q.1.den ρ = q.2 := fun q hq => (List.mem_append.1 hq).elim (h q) (g q)
theorem con_ok {ρ : Ev.Val} {s : Ev.SB} {b : Bool} {m : List (Ev.SB × Bool)} (h : s.den ρ = b) (g : ∀ q ∈ m, q.1.den ρ = q.2) : ∀ q ∈ (s, b) :: m, q.1.den ρ = q.2 := fun q hq => by
  rcases List.mem_cons.1 hq with rfl | hq
  · exact h
  · exact g q hq
theorem pcI_den (h0 : 0 ≤ C.pc) (h1 : C.pc ≤ 4294967295) : pcI.den (lawVal C C' I may x p e by_) = C.pc + 1 := by
  show IntKind.i64.wrap (IntKind.i64.wrap C.pc + 1) = _
  rw [wi64 C.pc (by omega) (by omega), wi64 _ (by omega) (by omega)]
end
/-- the law over its calls -/
theorem means_of (C C' : Cpu) (I : Ins) (x : Int) (e : Nat → Int) (by_ : Bool) (hC : CpuWf C) (hm : mayE I = true) (k0 : 0 ≤ I.cond) (k1 : I.cond ≤ 15)
    (hw : ∀ W, Calls Try.prog 22 #[.agg (insCells I)] W fun r W' => r = .returned (.int .u32 x) ∧ Below W.heap.size W W')
    (hs : ∀ W, Calls Try.prog 10 #[.agg (cpuCells C), .int .u32 x] W (StepIs C' (e 300) (e 301) by_ (e 302) (e 303) (e 304) W))
    (f : Nat) (a : Ev.SI) (hf : I.form = (f : Int)) (ha : ∀ ρ : Ev.Val, ρ.i 3 = I.a → I.a = a.den ρ) (ext pcs : List (Ev.SB × Bool)) (own : Nat) (b : Ev.SB)
    (hx : ∀ q ∈ ext, q.1.den (lawVal C C' I true x (w32 (C.pc + 1)) e by_) = q.2) (hp : ∀ q ∈ pcs, q.1.den (lawVal C C' I true x (w32 (C.pc + 1)) e by_) = q.2) (hr : ∀ n, n < 16 → n ≠ own → C'.r n = C.r n)
    (hb : b.den (lawVal C C' I true x (w32 (C.pc + 1)) e by_) = true)
    (hrun : ∀ φ, Ev.outV ((Ev.evO Try.prog ⟨facts ext pcs own, φ⟩ (Ev.orcL (lawOrc (insT f a))) 1000 30 (.fn 5) [cpuA, insT f a]).go .e 0) = some (.bool b)) (w : World) :
    Calls Try.prog 5 #[.agg (cpuCells C), .agg (insCells I)] w fun e w' => e = .returned (.bool true) ∧ Below w.heap.size w w' := by
  have hA := ha (lawVal C C' I true x (w32 (C.pc + 1)) e by_) rfl
  have iR := fun μ => insT_rel (C := C) (C' := C') (I := I) (may := true) (x := x) (p := w32 (C.pc + 1)) (e := e) (by_ := by_) μ f a hf hA
  have cR := fun μ => cpuA_rel (C := C) (C' := C') (I := I) (may := true) (x := x) (p := w32 (C.pc + 1)) (e := e) (by_ := by_) μ
  have pd := pcI_den (C := C) (C' := C') (I := I) (may := true) (x := x) (p := w32 (C.pc + 1)) (e := e) (by_ := by_) hC.pc.1 hC.pc.2
  have p0 := hC.pc.1
  have p1 := hC.pc.2
  have H : ∀ n : Nat, n < 16 → ∀ W, Calls Try.prog 15 #[.agg (cpuCells C), .int .i64 (n : Int)] W fun r W' => r = .returned (.bool (holdB C n)) ∧ Below W.heap.size W W' := fun n hn W => by
    have := holdsV_all C (n : Int) (by omega) (by omega) W
    rwa [show ((n : Int) % 16).toNat = n by omega] at this
  refine Ev.law_true 1000 30 hrun (lawVal C C' I true x (w32 (C.pc + 1)) e by_) (con_ok rfl (app_ok hx (app_ok hol_ok (app_ok hp (reg_ok own hr))))) ?_ hb [.agg (cpuCells C), .agg (insCells I)] w ⟨trivial, Nat.zero_le _⟩ ⟨cR _, iR _, trivial⟩
  refine Ev.ents_cons (Ev.EntOk.of rfl [] trivial (v := .bool true) (fun _ => rfl) known4_any) ?_
  refine Ev.ents_cons (Ev.EntOk.of rfl [.agg (insCells I)] ⟨iR _, trivial⟩ (v := .bool true) (fun _ => rfl) fun W => hm ▸ rmay_any I W) ?_
  refine Ev.ents_cons (Ev.EntOk.of rfl [.agg (insCells I)] ⟨iR _, trivial⟩ (v := .int .u32 x) (fun _ => rfl) hw) ?_
  refine Ev.ents_cons (Ev.EntOk.of rfl [.agg (cpuCells C), .int .u32 x] ⟨cR _, rfl, trivial⟩ (v := .tuple #[.agg (cpuCells C'), .agg (evCells (e 300) (e 301) by_ (e 302) (e 303) (e 304))]) (fun μ => ⟨[_, _], rfl, cpuB_rel μ, evA_rel μ, trivial⟩) hs) ?_
  refine Ev.ents_cons (Ev.EntOk.of rfl [.agg (cpuCells C), .int .i64 I.cond] ⟨cR _, rfl, trivial⟩ (v := .bool (holdB C (I.cond % 16).toNat)) (fun _ => rfl) fun W => holdsV_all C I.cond (by omega) (by omega) W) ?_
  refine Ev.ents_cons (Ev.EntOk.of rfl [.int .i64 (C.pc + 1)] ⟨congrArg (Value.int .i64) pd.symm, trivial⟩ (v := .int .u32 (w32 (C.pc + 1))) (fun _ => rfl) fun W => (rword_any (C.pc + 1) (by omega) (by omega) W).mono fun r W' ⟨h1, h2⟩ => ⟨h1, h2 ▸ Below.refl _ _⟩) ?_
  refine Ev.ents_cons (Ev.EntOk.of rfl [.agg (cpuCells C), .int .i64 0] ⟨cR _, rfl, trivial⟩ (v := .bool (holdB C 0)) (fun _ => rfl) (H 0 (by omega))) ?_
  refine Ev.ents_cons (Ev.EntOk.of rfl [.agg (cpuCells C), .int .i64 1] ⟨cR _, rfl, trivial⟩ (v := .bool (holdB C 1)) (fun _ => rfl) (H 1 (by omega))) ?_
  refine Ev.ents_cons (Ev.EntOk.of rfl [.agg (cpuCells C), .int .i64 2] ⟨cR _, rfl, trivial⟩ (v := .bool (holdB C 2)) (fun _ => rfl) (H 2 (by omega))) ?_
  refine Ev.ents_cons (Ev.EntOk.of rfl [.agg (cpuCells C), .int .i64 3] ⟨cR _, rfl, trivial⟩ (v := .bool (holdB C 3)) (fun _ => rfl) (H 3 (by omega))) ?_
  refine Ev.ents_cons (Ev.EntOk.of rfl [.agg (cpuCells C), .int .i64 4] ⟨cR _, rfl, trivial⟩ (v := .bool (holdB C 4)) (fun _ => rfl) (H 4 (by omega))) ?_
  refine Ev.ents_cons (Ev.EntOk.of rfl [.agg (cpuCells C), .int .i64 5] ⟨cR _, rfl, trivial⟩ (v := .bool (holdB C 5)) (fun _ => rfl) (H 5 (by omega))) ?_
  refine Ev.ents_cons (Ev.EntOk.of rfl [.agg (cpuCells C), .int .i64 6] ⟨cR _, rfl, trivial⟩ (v := .bool (holdB C 6)) (fun _ => rfl) (H 6 (by omega))) ?_
  refine Ev.ents_cons (Ev.EntOk.of rfl [.agg (cpuCells C), .int .i64 7] ⟨cR _, rfl, trivial⟩ (v := .bool (holdB C 7)) (fun _ => rfl) (H 7 (by omega))) ?_
  refine Ev.ents_cons (Ev.EntOk.of rfl [.agg (cpuCells C), .int .i64 8] ⟨cR _, rfl, trivial⟩ (v := .bool (holdB C 8)) (fun _ => rfl) (H 8 (by omega))) ?_
  refine Ev.ents_cons (Ev.EntOk.of rfl [.agg (cpuCells C), .int .i64 9] ⟨cR _, rfl, trivial⟩ (v := .bool (holdB C 9)) (fun _ => rfl) (H 9 (by omega))) ?_
  refine Ev.ents_cons (Ev.EntOk.of rfl [.agg (cpuCells C), .int .i64 10] ⟨cR _, rfl, trivial⟩ (v := .bool (holdB C 10)) (fun _ => rfl) (H 10 (by omega))) ?_
  refine Ev.ents_cons (Ev.EntOk.of rfl [.agg (cpuCells C), .int .i64 11] ⟨cR _, rfl, trivial⟩ (v := .bool (holdB C 11)) (fun _ => rfl) (H 11 (by omega))) ?_
  refine Ev.ents_cons (Ev.EntOk.of rfl [.agg (cpuCells C), .int .i64 12] ⟨cR _, rfl, trivial⟩ (v := .bool (holdB C 12)) (fun _ => rfl) (H 12 (by omega))) ?_
  refine Ev.ents_cons (Ev.EntOk.of rfl [.agg (cpuCells C), .int .i64 13] ⟨cR _, rfl, trivial⟩ (v := .bool (holdB C 13)) (fun _ => rfl) (H 13 (by omega))) ?_
  refine Ev.ents_cons (Ev.EntOk.of rfl [.agg (cpuCells C), .int .i64 14] ⟨cR _, rfl, trivial⟩ (v := .bool (holdB C 14)) (fun _ => rfl) (H 14 (by omega))) ?_
  refine Ev.ents_cons (Ev.EntOk.of rfl [.agg (cpuCells C), .int .i64 15] ⟨cR _, rfl, trivial⟩ (v := .bool (holdB C 15)) (fun _ => rfl) (H 15 (by omega))) ?_
  exact Ev.ents_nil
theorem means_no (C : Cpu) (I : Ins) (hm : mayE I = false) (w : World) :
    Calls Try.prog 5 #[.agg (cpuCells C), .agg (insCells I)] w fun e w' => e = .returned (.bool true) ∧ Below w.heap.size w w' := by
  refine Ev.law_true 1000 30 runNo (lawVal C C I false 0 0 (fun _ => 0) false) (con_ok rfl no_ok) ?_ rfl [.agg (cpuCells C), .agg (insCells I)] w ⟨trivial, Nat.zero_le _⟩ ⟨cpuA_rel _, insN_rel _, trivial⟩
  refine Ev.ents_cons (Ev.EntOk.of rfl [] trivial (v := .bool true) (fun _ => rfl) known4_any) ?_
  refine Ev.ents_cons (Ev.EntOk.of rfl [.agg (insCells I)] ⟨insN_rel _, trivial⟩ (v := .bool false) (fun _ => rfl) fun W => hm ▸ rmay_any I W) ?_
  exact Ev.ents_nil
theorem ite_some {p : Prop} [Decidable p] {a b : Option Cpu} {Q : Cpu → Prop} (ha : ∀ c, a = some c → Q c) (hb : ∀ c, b = some c → Q c) : ∀ c, (if p then a else b) = some c → Q c := by
  intro c h
  by_cases hp : p
  · rw [if_pos hp] at h; exact ha c h
  · rw [if_neg hp] at h; exact hb c h
theorem ite_none {p : Prop} [Decidable p] {a b : Option Cpu} {Q : Prop} (ha : a = none → Q) (hb : ¬ p → b = none → Q) : (if p then a else b) = none → Q := by
  intro h
  by_cases hp : p
  · rw [if_pos hp] at h; exact ha h
  · rw [if_neg hp] at h; exact hb hp h
theorem opr_some {c : Cpu} {op : Int} {u : Bool} {A B : Nat} {n : Int} : ∀ c', oprC c op u A B n = some c' → c'.pc = c.pc ∧ ∀ k, k ≠ A → c'.r k = c.r k := by
  unfold oprC
  repeat' refine ite_some ?_ ?_
  all_goals
    intro c' h
    cases h
    try exact ⟨rfl, fun k hk => upd_other _ _ _ _ hk⟩
theorem opr_none {c : Cpu} {op : Int} {u : Bool} {A B : Nat} {n : Int} (o0 : 0 ≤ op) (o1 : op ≤ 11) : oprC c op u A B n = none → op = 11 := by
  unfold oprC
  refine ite_none (fun h => by cases h) fun h0 => ite_none (fun h => by cases h) fun h1 => ite_none (fun h => by cases h) fun h2 => ite_none (fun h => by cases h) fun h3 => ite_none (fun h => by cases h) fun h4 => ite_none (fun h => by cases h) fun h5 => ite_none (fun h => by cases h) fun h6 => ite_none (fun h => by cases h) fun h7 => ite_none (fun h => by cases h) fun h8 => ite_none (fun h => by cases h) fun h9 => ite_none (fun h => ?_) fun h10 h => by omega
  cases u <;> cases h
theorem run0_all (A : Nat) (hA : A < 16) (φ : Ev.Val → Prop) : Ev.outV ((Ev.evO Try.prog ⟨facts [] pcF A, φ⟩ (Ev.orcL (lawOrc (insT 0 (.lit (A : Int))))) 1000 30 (.fn 5) [cpuA, insT 0 (.lit (A : Int))]).go .e 0) = some (.bool endOp) := by
  have : A = 0 ∨ A = 1 ∨ A = 2 ∨ A = 3 ∨ A = 4 ∨ A = 5 ∨ A = 6 ∨ A = 7 ∨ A = 8 ∨ A = 9 ∨ A = 10 ∨ A = 11 ∨ A = 12 ∨ A = 13 ∨ A = 14 ∨ A = 15 := by omega
  rcases this with rfl | rfl | rfl | rfl | rfl | rfl | rfl | rfl | rfl | rfl | rfl | rfl | rfl | rfl | rfl | rfl
  · exact run0_0 φ
  · exact run0_1 φ
  · exact run0_2 φ
  · exact run0_3 φ
  · exact run0_4 φ
  · exact run0_5 φ
  · exact run0_6 φ
  · exact run0_7 φ
  · exact run0_8 φ
  · exact run0_9 φ
  · exact run0_10 φ
  · exact run0_11 φ
  · exact run0_12 φ
  · exact run0_13 φ
  · exact run0_14 φ
  · exact run0_15 φ
theorem run1_all (A : Nat) (hA : A < 16) (φ : Ev.Val → Prop) : Ev.outV ((Ev.evO Try.prog ⟨facts [] pcF A, φ⟩ (Ev.orcL (lawOrc (insT 1 (.lit (A : Int))))) 1000 30 (.fn 5) [cpuA, insT 1 (.lit (A : Int))]).go .e 0) = some (.bool endOp) := by
  have : A = 0 ∨ A = 1 ∨ A = 2 ∨ A = 3 ∨ A = 4 ∨ A = 5 ∨ A = 6 ∨ A = 7 ∨ A = 8 ∨ A = 9 ∨ A = 10 ∨ A = 11 ∨ A = 12 ∨ A = 13 ∨ A = 14 ∨ A = 15 := by omega
  rcases this with rfl | rfl | rfl | rfl | rfl | rfl | rfl | rfl | rfl | rfl | rfl | rfl | rfl | rfl | rfl | rfl
  · exact run1_0 φ
  · exact run1_1 φ
  · exact run1_2 φ
  · exact run1_3 φ
  · exact run1_4 φ
  · exact run1_5 φ
  · exact run1_6 φ
  · exact run1_7 φ
  · exact run1_8 φ
  · exact run1_9 φ
  · exact run1_10 φ
  · exact run1_11 φ
  · exact run1_12 φ
  · exact run1_13 φ
  · exact run1_14 φ
  · exact run1_15 φ
def e5 : Nat → Int := fun k => if k = 300 then 5 else 0
/-- an operation -/
theorem means_op (C : Cpu) (I : Ins) (x : Int) (hC : CpuWf C) (m : MayIs I) (hm : mayE I = true) (o : Option Cpu) (f : Nat) (hf : I.form = (f : Int))
    (hw : ∀ W, Calls Try.prog 22 #[.agg (insCells I)] W fun r W' => r = .returned (.int .u32 x) ∧ Below W.heap.size W W')
    (hs : ∀ W, Calls Try.prog 10 #[.agg (cpuCells C), .int .u32 x] W (OpIs (nextC C) o W))
    (ho : ∀ c', o = some c' → c'.pc = (nextC C).pc ∧ ∀ k, k ≠ I.a.toNat → c'.r k = (nextC C).r k) (hn : o = none → I.op = 11)
    (hrun : ∀ A : Nat, A < 16 → ∀ φ, Ev.outV ((Ev.evO Try.prog ⟨facts [] pcF A, φ⟩ (Ev.orcL (lawOrc (insT f (.lit (A : Int))))) 1000 30 (.fn 5) [cpuA, insT f (.lit (A : Int))]).go .e 0) = some (.bool endOp)) (w : World) :
    Calls Try.prog 5 #[.agg (cpuCells C), .agg (insCells I)] w fun e w' => e = .returned (.bool true) ∧ Below w.heap.size w w' := by
  have a0 := m.a0
  have a1 := m.a1
  have hA : ∀ ρ : Ev.Val, ρ.i 3 = I.a → I.a = (Ev.SI.lit ((I.a.toNat : Nat) : Int)).den ρ := fun ρ _ => by
    show I.a = ((I.a.toNat : Nat) : Int)
    omega
  cases o with
  | some c' =>
    obtain ⟨h1, h2⟩ := ho c' rfl
    exact means_of C c' I x (fun _ => 0) false hC hm m.k0 m.k1 hw hs f _ hf hA [] pcF I.a.toNat endOp no_ok (pc_ok h1) (fun n _ hne => h2 n hne) rfl (hrun _ (by omega)) w
  | none =>
    have h11 := hn rfl
    refine means_of C (nextC C) I x e5 false hC hm m.k0 m.k1 hw hs f _ hf hA [] pcF I.a.toNat endOp no_ok (pc_ok rfl) (fun n _ _ => rfl) ?_ (hrun _ (by omega)) w
    simp [endOp, Ev.SB.den, Ev.SI.den, Ev.cmpI, lawVal, Ev.Val.of, e5, insVal, h11]
theorem end_next {C : Cpu} {I : Ins} {x p : Int} {e : Nat → Int} {by_ : Bool} : endNo.den (lawVal C (nextC C) I true x p e by_) = true := by
  simp [endNo, Ev.SB.den, Ev.SI.den, Ev.cmpI, lawVal, Ev.Val.of, nextC]
theorem end_jump {C : Cpu} {I : Ins} {x p : Int} {e : Nat → Int} {by_ : Bool} {f off : Int} {v : Bool} {k : Nat} : endNo.den (lawVal C (jumpC (nextC C) f v off k) I true x p e by_) = true := by
  simp [endNo, Ev.SB.den, Ev.SI.den, Ev.cmpI, lawVal, Ev.Val.of, nextC, jumpC]
def ev6 (k pl rg vl n : Int) : Nat → Int := fun j => if j = 300 then k else if j = 301 then pl else if j = 302 then rg else if j = 303 then vl else n
theorem wd01_bd (f : Int) (u v : Bool) (a b op k : Int) : 0 ≤ wd01 f u v a b op k ∧ wd01 f u v a b op k ≤ 4294967295 := by unfold wd01; exact w32_bd _
theorem wd23_bd (k : Int) (v : Bool) (a b off : Int) : 0 ≤ wd23 k v a b off ∧ wd23 k v a b off ≤ 4294967295 := by unfold wd23; exact w32_bd _
theorem wd4_bd (v : Bool) (k off : Int) : 0 ≤ wd4 v k off ∧ wd4 v k off ≤ 4294967295 := by unfold wd4; exact w32_bd _
theorem wd5_bd (v : Bool) (k c : Int) : 0 ≤ wd5 v k c ∧ wd5 v k c ≤ 4294967295 := by unfold wd5; exact w32_bd _
theorem wd6_bd (k n : Int) : 0 ≤ wd6 k n ∧ wd6 k n ≤ 4294967295 := by unfold wd6; exact w32_bd _
/-- jumps -/
theorem means_jump (C : Cpu) (I : Ins) (x : Int) (hC : CpuWf C) (m : MayIs I) (hm : mayE I = true) (f : Nat) (hf : I.form = (f : Int)) (k : Nat)
    (hw : ∀ W, Calls Try.prog 22 #[.agg (insCells I)] W fun r W' => r = .returned (.int .u32 x) ∧ Below W.heap.size W W')
    (hs : ∀ W, Calls Try.prog 10 #[.agg (cpuCells C), .int .u32 x] W (StepIs (jmpC (nextC C) I k I.cond.toNat) 0 0 false 0 0 0 W))
    (r00 : ∀ φ, Ev.outV ((Ev.evO Try.prog ⟨facts [(.atom 90, false), (.atom 1, false)] pcF 16, φ⟩ (Ev.orcL (lawOrc (insT f (.atom 3)))) 1000 30 (.fn 5) [cpuA, insT f (.atom 3)]).go .e 0) = some (.bool endNo))
    (r01 : ∀ φ, Ev.outV ((Ev.evO Try.prog ⟨facts [(.atom 90, false), (.atom 1, true)] pcF 16, φ⟩ (Ev.orcL (lawOrc (insT f (.atom 3)))) 1000 30 (.fn 5) [cpuA, insT f (.atom 3)]).go .e 0) = some (.bool endNo))
    (r10 : ∀ φ, Ev.outV ((Ev.evO Try.prog ⟨facts [(.atom 90, true), (.atom 1, false)] [] 16, φ⟩ (Ev.orcL (lawOrc (insT f (.atom 3)))) 1000 30 (.fn 5) [cpuA, insT f (.atom 3)]).go .e 0) = some (.bool endNo))
    (r11 : ∀ φ, Ev.outV ((Ev.evO Try.prog ⟨facts [(.atom 90, true), (.atom 1, true)] [] 15, φ⟩ (Ev.orcL (lawOrc (insT f (.atom 3)))) 1000 30 (.fn 5) [cpuA, insT f (.atom 3)]).go .e 0) = some (.bool endNo)) (w : World) :
    Calls Try.prog 5 #[.agg (cpuCells C), .agg (insCells I)] w fun e w' => e = .returned (.bool true) ∧ Below w.heap.size w w' := by
  have hA : ∀ ρ : Ev.Val, ρ.i 3 = I.a → I.a = (Ev.SI.atom 3).den ρ := fun ρ h => h.symm
  have hk : (I.cond % 16).toNat = I.cond.toNat := by
    have := m.k0
    have := m.k1
    omega
  have hN : holdB (nextC C) I.cond.toNat = holdB C I.cond.toNat := rfl
  unfold jmpC at hs
  rw [hN] at hs
  cases hj : holdB C I.cond.toNat with
  | false =>
    rw [hj] at hs
    have ext : ∀ b, I.v = b → ∀ C' e by_, ∀ q ∈ [((.atom 90 : Ev.SB), false), (.atom 1, b)], q.1.den (lawVal C C' I true x (w32 (C.pc + 1)) e by_) = q.2 := fun b hb C' e by_ =>
      con_ok (by show holdB C (I.cond % 16).toNat = false; rw [hk, hj]) (con_ok hb no_ok)
    cases hv : I.v with
    | false => exact means_of C (nextC C) I x (fun _ => 0) false hC hm m.k0 m.k1 hw hs f _ hf hA _ pcF 16 endNo (ext _ hv _ _ _) (pc_ok rfl) (fun n _ _ => rfl) end_next r00 w
    | true => exact means_of C (nextC C) I x (fun _ => 0) false hC hm m.k0 m.k1 hw hs f _ hf hA _ pcF 16 endNo (ext _ hv _ _ _) (pc_ok rfl) (fun n _ _ => rfl) end_next r01 w
  | true =>
    rw [hj] at hs
    have ext : ∀ b, I.v = b → ∀ C' e by_, ∀ q ∈ [((.atom 90 : Ev.SB), true), (.atom 1, b)], q.1.den (lawVal C C' I true x (w32 (C.pc + 1)) e by_) = q.2 := fun b hb C' e by_ =>
      con_ok (by show holdB C (I.cond % 16).toNat = true; rw [hk, hj]) (con_ok hb no_ok)
    cases hv : I.v with
    | false =>
      refine means_of C (jumpC (nextC C) I.form I.v I.off k) I x (fun _ => 0) false hC hm m.k0 m.k1 hw hs f _ hf hA _ [] 16 endNo (ext _ hv _ _ _) no_ok (fun n _ _ => ?_) end_jump r10 w
      rw [hv]; rfl
    | true =>
      refine means_of C (jumpC (nextC C) I.form I.v I.off k) I x (fun _ => 0) false hC hm m.k0 m.k1 hw hs f _ hf hA _ [] 15 endNo (ext _ hv _ _ _) no_ok (fun n _ hne => ?_) end_jump r11 w
      rw [hv]
      exact upd_other _ _ _ _ hne
theorem walk (a0 : Cpu) (a1 : Ins) (w : World) (w0 : CpuWf a0) (w1 : InsWf a1) :
    Calls Try.prog 5 #[.agg (cpuCells a0), .agg (insCells a1)] w fun e w' => e = .returned (.bool true) ∧ Below w.heap.size w w' := by
  cases hm : mayE a1 with
  | false => exact means_no a0 a1 hm w
  | true =>
    have m := may_is a1 hm
    obtain ⟨form, u, v, a, b, c, op, im, off, cond, n⟩ := a1
    obtain ⟨f0, f1, a0', a1', b0, b1, c0, c1, o0, o1, m0, m1, k0, k1, n0, n1, hr, hi, hl, hj, ht, hs⟩ := id m
    dsimp only at f0 f1 a0' a1' b0 b1 c0 c1 o0 o1 m0 m1 k0 k1 n0 n1 hr hi hl hj ht hs
    have hAa : a = ((a.toNat : Nat) : Int) := by omega
    have hBb : b = ((b.toNat : Nat) : Int) := by omega
    have hCc : c = ((c.toNat : Nat) : Int) := by omega
    have hKk : cond = ((cond.toNat : Nat) : Int) := by omega
    have hcase : form = 0 ∨ form = 1 ∨ form = 2 ∨ form = 3 ∨ form = 4 ∨ form = 5 ∨ form = 6 := by omega
    rcases hcase with rfl | rfl | rfl | rfl | rfl | rfl | rfl
    · obtain ⟨rfl, rfl, rfl, rfl, rfl, hM⟩ := hr rfl
      have hd := dec_wd0 u a b op c a0' a1' b0 b1 o0 (by omega) c0 c1 hM
      refine means_op a0 _ (wd01 0 u false a b op c) w0 m hm _ 0 rfl (fun W => ?_) (fun W => step_reg a0 _ _ (wd01_bd ..).1 (wd01_bd ..).2 hd w0.r w0.h a.toNat b.toNat c.toNat (by omega) (by omega) (by omega) hAa hBb hCc o0 o1 rfl W) opr_some (opr_none o0 o1) run0_all w
      have := rw0 u false a b c op 0 0 0 0 (by omega) (by omega) c0 c1 W
      rwa [Int.zero_add] at this
    · obtain ⟨rfl, rfl, rfl, rfl, hM⟩ := hi rfl
      have hd := dec_wd1 u v a b op im a0' a1' b0 b1 o0 (by omega) m0 m1 hM
      refine means_op a0 _ (wd01 1 u v a b op im) w0 m hm _ 1 rfl (fun W => ?_) (fun W => step_im a0 _ _ (wd01_bd ..).1 (wd01_bd ..).2 hd w0.r a.toNat b.toNat (by omega) (by omega) hAa hBb m0 m1 o0 o1 rfl W) opr_some (opr_none o0 o1) run1_all w
      have := rw1 u v a b 0 op im 0 0 0 m0 m1 (by omega) (by omega) W
      rwa [Int.add_zero] at this
    · obtain ⟨rfl, rfl, rfl, rfl, rfl, rfl, l0, l1⟩ := hl (.inl rfl)
      have hd := dec_wd23 0 v a b off (by omega) (by omega) a0' a1' b0 b1 l0 l1
      exact means_of a0 (nextC a0) _ (wd23 0 v a b off) (ev6 1 (w32 (a0.r b.toNat + off)) a 0 0) v w0 hm k0 k1 (fun W => rw2 false v a b 0 0 0 off 0 0 W) (fun W => step_load a0 _ false v a b 0 0 0 off 0 0 (wd23_bd ..).1 (wd23_bd ..).2 hd w0.r b.toNat (by omega) hBb l0 l1 W) 2 (.atom 3) rfl (fun ρ h => h.symm) [] pcF 16 endNo no_ok (pc_ok rfl) (fun n _ _ => rfl) end_next run2 w
    · obtain ⟨rfl, rfl, rfl, rfl, rfl, rfl, l0, l1⟩ := hl (.inr rfl)
      have hd := dec_wd23 1 v a b off (by omega) (by omega) a0' a1' b0 b1 l0 l1
      exact means_of a0 (nextC a0) _ (wd23 1 v a b off) (ev6 2 (w32 (a0.r b.toNat + off)) b (stV v (a0.r a.toNat)) 0) v w0 hm k0 k1 (fun W => rw3 false v a b 0 0 0 off 0 0 W) (fun W => step_store a0 _ false v a b 0 0 0 off 0 0 (wd23_bd ..).1 (wd23_bd ..).2 hd w0.r a.toNat b.toNat (by omega) (by omega) hAa hBb W) 3 (.atom 3) rfl (fun ρ h => h.symm) [] pcF 16 endNo no_ok (pc_ok rfl) (fun n _ _ => rfl) end_next run3 w
    · obtain ⟨rfl, rfl, rfl, rfl, rfl, rfl, rfl, l0, l1⟩ := hj rfl
      have hd := dec_wd4 v cond off k0 k1 l0 l1
      exact means_jump a0 _ (wd4 v cond off) w0 m hm 4 rfl 0 (fun W => rw4 false v 0 0 0 0 0 off cond 0 W) (fun W => step_jump4 a0 _ _ (wd4_bd ..).1 (wd4_bd ..).2 hd w0.r 0 cond.toNat (by omega) (by omega) rfl hKk l0 l1 rfl W) run4_0_0 run4_0_1 run4_1_0 run4_1_1 w
    · obtain ⟨rfl, rfl, rfl, rfl, rfl, rfl, rfl, hx⟩ := ht rfl
      have hd := dec_wd5 v cond c k0 k1 c0 c1 hx
      exact means_jump a0 _ (wd5 v cond c) w0 m hm 5 rfl c.toNat (fun W => rw5 false v 0 0 c 0 0 0 cond 0 W) (fun W => step_jump5 a0 _ _ (wd5_bd ..).1 (wd5_bd ..).2 hd w0.r c.toNat cond.toNat (by omega) (by omega) hCc hKk (by simp) (by simp) rfl W) run5_0_0 run5_0_1 run5_1_0 run5_1_1 w
    · obtain ⟨rfl, rfl, rfl, rfl, rfl, rfl, rfl, rfl⟩ := hs rfl
      have hd := dec_wd6 cond n k0 k1 n0 n1
      exact means_of a0 (nextC a0) _ (wd6 cond n) (ev6 (sysE (holdB (nextC a0) cond.toNat) n) 0 0 0 (sysN (holdB (nextC a0) cond.toNat) n)) false w0 hm k0 k1 (fun W => rw6 false false 0 0 0 0 0 0 cond n W) (fun W => step_sys a0 _ _ (wd6_bd ..).1 (wd6_bd ..).2 hd cond.toNat (by omega) hKk rfl W) 6 (.atom 3) rfl (fun ρ h => h.symm) [] pcF 16 endNo no_ok (pc_ok rfl) (fun n _ _ => rfl) end_next run6 w
end
theorem own : ownKnob Try.prog.godebug = none := by kernel_rfl
theorem laidOut : laidOutB Try.prog = true := by kernel_rfl
theorem contract (H : Type) (enc : TypeId × Value → H) (W : World) (base : Nat) (args : Array Value) (ds gs : List (DataW H)) (before : List MemPlace)
    (hval : ∀ (j : Nat) t v, Try.f5.params[j]? = some t → args[j]? = some v → Value.okWide Try.prog W .any base t v)
    (hW : DataW.Whole enc Try.prog Try.f5.params.toList Rows.riscMeansSpec.vars false W args.toList ds gs before) :
    Calls Try.prog 5 args W fun e W' => ∃ v, e = .returned v ∧ Rows.riscMeansSpec.post enc Try.prog Try.f5 false true false false W args v W' := by
  have hW' := hW
  obtain ⟨p, q, hA0, hV, rfl, hfz, hnd⟩ := hW
  have hA : DataW.TrodAll enc Try.prog W 0 (fun _ => true) true Try.f5.params.toList args.toList ds p := hA0
  rw [Try.params5] at hA hval
  obtain ⟨v0, vs0, d0, ds0, p0, q0, hargs, rfl, rfl, h0, r0⟩ := trodAll_cons hA
  obtain ⟨v1, vs1, d1, ds1, p1, q1, rfl, rfl, rfl, h1, r1⟩ := trodAll_cons r0
  obtain ⟨rfl, rfl, rfl⟩ := trodAll_nil r1
  obtain rfl : args = #[v0, v1] := by cases args; simp_all
  obtain ⟨rfl, rfl⟩ := trodVars_none hV
  obtain ⟨a0, rfl, w0⟩ := open_cpu (hval 0 25 v0 rfl rfl)
  have k0 := h0
  have lt0 : ∀ x ∈ p0, x.block < W.heap.size := by obtain ⟨m, hm⟩ := k0; exact DataW.trod_lt m _ _ _ hm
  obtain ⟨a1, rfl, w1⟩ := open_ins (hval 1 44 v1 rfl rfl)
  have k1 := h1
  have lt1 : ∀ x ∈ p1, x.block < W.heap.size := by obtain ⟨m, hm⟩ := k1; exact DataW.trod_lt m _ _ _ hm
  clear hA0
  refine (walk a0 a1 W w0 w1).mono fun e W' ⟨he, bel⟩ => ?_
  subst he
  exact ⟨_, rfl, _, _, _, [], _, [], hW', trodAll_mk1 (shut_bool Try.underlying4 _), (trodAll_cons_mk (Below.trod laidOut (by kernel_rfl) (of_decide_eq_true (by kernel_rfl)) k0 bel lt0) (trodAll_cons_mk (Below.trod laidOut (by kernel_rfl) (of_decide_eq_true (by kernel_rfl)) k1 bel lt1) trodAll_mk0)), rfl, bel.frame _, fun h => by cases h⟩
set_option maxRecDepth 100000 in
theorem lifted (os : Os) (started : os.Started) (H : Type) (enc : TypeId × Value → H) :
    ReturnsInHanded {} Try.checked os 5 .any (Rows.riscMeansSpec.pre6 enc Try.prog Try.f5 Rows.riscMeansRow.domain false) (Rows.riscMeansSpec.post enc Try.prog Try.f5 false true false false) := by
  refine returnsInHanded_of_change (C := Try.checked) own started (by kernel_rfl) Try.func5
    (ChangeSpec.witness6 (enc := enc) (C := Try.checked) false ⟨#[], #[.agg #[.int .u32 0, .int .u32 0, .int .u32 0, .int .u32 0, .int .u32 0, .int .u32 0, .int .u32 0, .int .u32 0, .int .u32 0, .int .u32 0, .int .u32 0, .int .u32 0, .int .u32 0, .int .u32 0, .int .u32 0, .int .u32 0, .int .u32 0, .bool false, .bool false, .bool false, .bool false, .int .u32 0], .agg #[.int .i64 0, .bool false, .bool false, .int .i64 0, .int .i64 0, .int .i64 0, .int .i64 0, .int .i64 0, .int .i64 0, .int .i64 0, .int .i64 0]], []⟩ 8 (by kernel_rfl) (by kernel_rfl) (by kernel_rfl) (by kernel_rfl)) ?_
  intro W base args ds gs before hval hW hcnd _
  exact contract H enc W base args ds gs before hval hW
theorem said : Rows.RiscMeansSaid :=
  OpenClaim.holds_of_wide 5 Try.f5 rfl rfl rfl rfl rfl rfl rfl ⟨rfl, rfl, rfl, rfl, rfl⟩ rfl rfl rfl rfl rfl (by kernel_rfl) Try.func5 (by kernel_rfl)
    (of_decide_eq_true (by kernel_rfl)) (by unfold Func.isWrapper; first | (rw [if_pos (by decide +kernel)]; kernel_rfl) | (rw [if_neg (by decide +kernel)]; exact ⟨rfl, rfl⟩))
    (fun os started H enc _ => lifted os started H enc)
theorem proved : Rows.RiscMeansSaid := said
end Go.Proofs.Ytgjecfchnokcfaa.riscMeans

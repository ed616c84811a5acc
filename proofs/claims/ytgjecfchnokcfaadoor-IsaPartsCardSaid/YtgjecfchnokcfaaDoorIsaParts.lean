/-
  IsaParts: of two words that differ in one bit, and are both instructions of one form, all parts but the one that has the bit are the same. No condition.
-/
import Derived.Test.YtgjecfchnokcfaaDoorKnownC
import Derived.Test.YtgjecfchnokcfaaDoorPartsN
import Derived.Test.YtgjecfchnokcfaaDoorCards
import Derived.Test.YtgjecfchnokcfaaDoorTie
import Derived.Deep.DeepHandedRow
import Derived.Lib.LaidTab
import Derived.Stop.LaidErr
namespace Go.Proofs.YtgjecfchnokcfaaDoor.isaParts
open Go.ChangeShapes Go.WideShapes Go.ChangeAt Go.RowKit
open Go.ChangeMaps (open_string shut_string)
open rof
set_option linter.unusedVariables false
set_option linter.unusedSimpArgs false
noncomputable section
def i0 : Ev.AV := .agg [.int .i64 (.atom 11), .bool (.atom 0), .bool (.atom 1), .int .i64 (.atom 3), .int .i64 (.atom 4), .int .i64 (.atom 5), .int .i64 (.atom 6), .int .i64 (.atom 7), .int .i64 (.atom 8), .int .i64 (.atom 9), .int .i64 (.atom 10)]
def j0 : Ev.AV := .agg [.int .i64 (.atom 31), .bool (.atom 20), .bool (.atom 21), .int .i64 (.atom 23), .int .i64 (.atom 24), .int .i64 (.atom 25), .int .i64 (.atom 26), .int .i64 (.atom 27), .int .i64 (.atom 28), .int .i64 (.atom 29), .int .i64 (.atom 30)]
def yI : Ev.SI := .bin .xor .u32 (.atom 60) (.bin .shl .u32 (.lit 1) (.wrap .u64 (.atom 61)))
def orcA : List Ev.Ent := [⟨11, [], .bool (.lit true)⟩]
def orcB : List Ev.Ent := ⟨8, [.int .u32 (.atom 60)], .tuple [i0, .int .i64 (.atom 70)]⟩ :: ⟨8, [.int .u32 yI], .tuple [j0, .int .i64 (.atom 71)]⟩ :: orcA
def orcP : List Ev.Ent := [⟨21, [i0, .int .i64 (.lit 0)], .int .i64 (.atom 100)⟩, ⟨21, [j0, .int .i64 (.lit 0)], .int .i64 (.atom 200)⟩, ⟨21, [i0, .int .i64 (.lit 1)], .int .i64 (.atom 101)⟩, ⟨21, [j0, .int .i64 (.lit 1)], .int .i64 (.atom 201)⟩, ⟨21, [i0, .int .i64 (.lit 2)], .int .i64 (.atom 102)⟩, ⟨21, [j0, .int .i64 (.lit 2)], .int .i64 (.atom 202)⟩, ⟨21, [i0, .int .i64 (.lit 3)], .int .i64 (.atom 103)⟩, ⟨21, [j0, .int .i64 (.lit 3)], .int .i64 (.atom 203)⟩, ⟨21, [i0, .int .i64 (.lit 4)], .int .i64 (.atom 104)⟩, ⟨21, [j0, .int .i64 (.lit 4)], .int .i64 (.atom 204)⟩, ⟨21, [i0, .int .i64 (.lit 5)], .int .i64 (.atom 105)⟩, ⟨21, [j0, .int .i64 (.lit 5)], .int .i64 (.atom 205)⟩, ⟨21, [i0, .int .i64 (.lit 6)], .int .i64 (.atom 106)⟩, ⟨21, [j0, .int .i64 (.lit 6)], .int .i64 (.atom 206)⟩, ⟨21, [i0, .int .i64 (.lit 7)], .int .i64 (.atom 107)⟩, ⟨21, [j0, .int .i64 (.lit 7)], .int .i64 (.atom 207)⟩, ⟨21, [i0, .int .i64 (.lit 8)], .int .i64 (.atom 108)⟩, ⟨21, [j0, .int .i64 (.lit 8)], .int .i64 (.atom 208)⟩]
def orcC : List Ev.Ent := ⟨8, [.int .u32 (.atom 60)], .tuple [i0, .int .i64 (.atom 70)]⟩ :: ⟨8, [.int .u32 yI], .tuple [j0, .int .i64 (.atom 71)]⟩ :: ⟨11, [], .bool (.lit true)⟩ :: orcP
def s1 : Ev.SB := .ite (.cmp .lss (.atom 61) (.lit 0)) (.lit true) (.cmp .gtr (.atom 61) (.lit 31))
def s2 : Ev.SB := .ite (.cmp .neq (.bin .add .i64 (.atom 70) (.atom 71)) (.lit 0)) (.lit true) (.cmp .neq (.atom 11) (.atom 31))
def same : Ev.SB := .ite (.cmp .eql (.atom 11) (.atom 31)) (.ite (.beq (.atom 0) (.atom 20)) (.ite (.beq (.atom 1) (.atom 21)) (.ite (.cmp .eql (.atom 3) (.atom 23)) (.ite (.cmp .eql (.atom 4) (.atom 24)) (.ite (.cmp .eql (.atom 5) (.atom 25)) (.ite (.cmp .eql (.atom 6) (.atom 26)) (.ite (.cmp .eql (.atom 7) (.atom 27)) (.ite (.cmp .eql (.atom 8) (.atom 28)) (.ite (.cmp .eql (.atom 9) (.atom 29)) (.cmp .eql (.atom 10) (.atom 30)) (.lit false)) (.lit false)) (.lit false)) (.lit false)) (.lit false)) (.lit false)) (.lit false)) (.lit false)) (.lit false)) (.lit false)
theorem runA (φ : Ev.Val → Prop) : Ev.outV ((Ev.evO Tryd.prog ⟨[(s1, true)], φ⟩ (Ev.orcL orcA) 1000 30 (.fn 7) [.int .u32 (.atom 60), .int .i64 (.atom 61)]).go .e 0) = some (.bool (.lit true)) := by kernel_rfl
theorem runB (φ : Ev.Val → Prop) : Ev.outV ((Ev.evO Tryd.prog ⟨[(s1, false), (s2, true)], φ⟩ (Ev.orcL orcB) 1000 30 (.fn 7) [.int .u32 (.atom 60), .int .i64 (.atom 61)]).go .e 0) = some (.bool (.lit true)) := by kernel_rfl
def f0 : List (Ev.SB × Bool) := [(s1, false), (s2, false), (.cmp .neq (.atom 100) (.atom 200), true), (.cmp .neq (.atom 101) (.atom 201), false), (.cmp .neq (.atom 102) (.atom 202), false), (.cmp .neq (.atom 103) (.atom 203), false), (.cmp .neq (.atom 104) (.atom 204), false), (.cmp .neq (.atom 105) (.atom 205), false), (.cmp .neq (.atom 106) (.atom 206), false), (.cmp .neq (.atom 107) (.atom 207), false), (.cmp .neq (.atom 108) (.atom 208), false)]
theorem runC0 (φ : Ev.Val → Prop) : Ev.outV ((Ev.evO Tryd.prog ⟨f0, φ⟩ (Ev.orcL orcC) 1000 30 (.fn 7) [.int .u32 (.atom 60), .int .i64 (.atom 61)]).go .e 0) = some (.bool (.not same)) := by kernel_rfl
def f1 : List (Ev.SB × Bool) := [(s1, false), (s2, false), (.cmp .neq (.atom 100) (.atom 200), false), (.cmp .neq (.atom 101) (.atom 201), true), (.cmp .neq (.atom 102) (.atom 202), false), (.cmp .neq (.atom 103) (.atom 203), false), (.cmp .neq (.atom 104) (.atom 204), false), (.cmp .neq (.atom 105) (.atom 205), false), (.cmp .neq (.atom 106) (.atom 206), false), (.cmp .neq (.atom 107) (.atom 207), false), (.cmp .neq (.atom 108) (.atom 208), false)]
theorem runC1 (φ : Ev.Val → Prop) : Ev.outV ((Ev.evO Tryd.prog ⟨f1, φ⟩ (Ev.orcL orcC) 1000 30 (.fn 7) [.int .u32 (.atom 60), .int .i64 (.atom 61)]).go .e 0) = some (.bool (.not same)) := by kernel_rfl
def f2 : List (Ev.SB × Bool) := [(s1, false), (s2, false), (.cmp .neq (.atom 100) (.atom 200), false), (.cmp .neq (.atom 101) (.atom 201), false), (.cmp .neq (.atom 102) (.atom 202), true), (.cmp .neq (.atom 103) (.atom 203), false), (.cmp .neq (.atom 104) (.atom 204), false), (.cmp .neq (.atom 105) (.atom 205), false), (.cmp .neq (.atom 106) (.atom 206), false), (.cmp .neq (.atom 107) (.atom 207), false), (.cmp .neq (.atom 108) (.atom 208), false)]
theorem runC2 (φ : Ev.Val → Prop) : Ev.outV ((Ev.evO Tryd.prog ⟨f2, φ⟩ (Ev.orcL orcC) 1000 30 (.fn 7) [.int .u32 (.atom 60), .int .i64 (.atom 61)]).go .e 0) = some (.bool (.not same)) := by kernel_rfl
def f3 : List (Ev.SB × Bool) := [(s1, false), (s2, false), (.cmp .neq (.atom 100) (.atom 200), false), (.cmp .neq (.atom 101) (.atom 201), false), (.cmp .neq (.atom 102) (.atom 202), false), (.cmp .neq (.atom 103) (.atom 203), true), (.cmp .neq (.atom 104) (.atom 204), false), (.cmp .neq (.atom 105) (.atom 205), false), (.cmp .neq (.atom 106) (.atom 206), false), (.cmp .neq (.atom 107) (.atom 207), false), (.cmp .neq (.atom 108) (.atom 208), false)]
theorem runC3 (φ : Ev.Val → Prop) : Ev.outV ((Ev.evO Tryd.prog ⟨f3, φ⟩ (Ev.orcL orcC) 1000 30 (.fn 7) [.int .u32 (.atom 60), .int .i64 (.atom 61)]).go .e 0) = some (.bool (.not same)) := by kernel_rfl
def f4 : List (Ev.SB × Bool) := [(s1, false), (s2, false), (.cmp .neq (.atom 100) (.atom 200), false), (.cmp .neq (.atom 101) (.atom 201), false), (.cmp .neq (.atom 102) (.atom 202), false), (.cmp .neq (.atom 103) (.atom 203), false), (.cmp .neq (.atom 104) (.atom 204), true), (.cmp .neq (.atom 105) (.atom 205), false), (.cmp .neq (.atom 106) (.atom 206), false), (.cmp .neq (.atom 107) (.atom 207), false), (.cmp .neq (.atom 108) (.atom 208), false)]
theorem runC4 (φ : Ev.Val → Prop) : Ev.outV ((Ev.evO Tryd.prog ⟨f4, φ⟩ (Ev.orcL orcC) 1000 30 (.fn 7) [.int .u32 (.atom 60), .int .i64 (.atom 61)]).go .e 0) = some (.bool (.not same)) := by kernel_rfl
def f5 : List (Ev.SB × Bool) := [(s1, false), (s2, false), (.cmp .neq (.atom 100) (.atom 200), false), (.cmp .neq (.atom 101) (.atom 201), false), (.cmp .neq (.atom 102) (.atom 202), false), (.cmp .neq (.atom 103) (.atom 203), false), (.cmp .neq (.atom 104) (.atom 204), false), (.cmp .neq (.atom 105) (.atom 205), true), (.cmp .neq (.atom 106) (.atom 206), false), (.cmp .neq (.atom 107) (.atom 207), false), (.cmp .neq (.atom 108) (.atom 208), false)]
theorem runC5 (φ : Ev.Val → Prop) : Ev.outV ((Ev.evO Tryd.prog ⟨f5, φ⟩ (Ev.orcL orcC) 1000 30 (.fn 7) [.int .u32 (.atom 60), .int .i64 (.atom 61)]).go .e 0) = some (.bool (.not same)) := by kernel_rfl
def f6 : List (Ev.SB × Bool) := [(s1, false), (s2, false), (.cmp .neq (.atom 100) (.atom 200), false), (.cmp .neq (.atom 101) (.atom 201), false), (.cmp .neq (.atom 102) (.atom 202), false), (.cmp .neq (.atom 103) (.atom 203), false), (.cmp .neq (.atom 104) (.atom 204), false), (.cmp .neq (.atom 105) (.atom 205), false), (.cmp .neq (.atom 106) (.atom 206), true), (.cmp .neq (.atom 107) (.atom 207), false), (.cmp .neq (.atom 108) (.atom 208), false)]
theorem runC6 (φ : Ev.Val → Prop) : Ev.outV ((Ev.evO Tryd.prog ⟨f6, φ⟩ (Ev.orcL orcC) 1000 30 (.fn 7) [.int .u32 (.atom 60), .int .i64 (.atom 61)]).go .e 0) = some (.bool (.not same)) := by kernel_rfl
def f7 : List (Ev.SB × Bool) := [(s1, false), (s2, false), (.cmp .neq (.atom 100) (.atom 200), false), (.cmp .neq (.atom 101) (.atom 201), false), (.cmp .neq (.atom 102) (.atom 202), false), (.cmp .neq (.atom 103) (.atom 203), false), (.cmp .neq (.atom 104) (.atom 204), false), (.cmp .neq (.atom 105) (.atom 205), false), (.cmp .neq (.atom 106) (.atom 206), false), (.cmp .neq (.atom 107) (.atom 207), true), (.cmp .neq (.atom 108) (.atom 208), false)]
theorem runC7 (φ : Ev.Val → Prop) : Ev.outV ((Ev.evO Tryd.prog ⟨f7, φ⟩ (Ev.orcL orcC) 1000 30 (.fn 7) [.int .u32 (.atom 60), .int .i64 (.atom 61)]).go .e 0) = some (.bool (.not same)) := by kernel_rfl
def f8 : List (Ev.SB × Bool) := [(s1, false), (s2, false), (.cmp .neq (.atom 100) (.atom 200), false), (.cmp .neq (.atom 101) (.atom 201), false), (.cmp .neq (.atom 102) (.atom 202), false), (.cmp .neq (.atom 103) (.atom 203), false), (.cmp .neq (.atom 104) (.atom 204), false), (.cmp .neq (.atom 105) (.atom 205), false), (.cmp .neq (.atom 106) (.atom 206), false), (.cmp .neq (.atom 107) (.atom 207), false), (.cmp .neq (.atom 108) (.atom 208), true)]
theorem runC8 (φ : Ev.Val → Prop) : Ev.outV ((Ev.evO Tryd.prog ⟨f8, φ⟩ (Ev.orcL orcC) 1000 30 (.fn 7) [.int .u32 (.atom 60), .int .i64 (.atom 61)]).go .e 0) = some (.bool (.not same)) := by kernel_rfl
def lawVal (x t e f : Int) (I J : Ins) : Ev.Val := tabVal (fun k => if k = 60 then x else if k = 61 then t else if k = 70 then e else if k = 71 then f else if 20 ≤ k ∧ k ≤ 31 then (insVal J).i (k - 20) else if 100 ≤ k ∧ k ≤ 108 then prt I (k - 100) else if 200 ≤ k ∧ k ≤ 208 then prt J (k - 200) else (insVal I).i k) (fun k => if 20 ≤ k then (insVal J).b (k - 20) else (insVal I).b k)
section
variable {x t e f : Int} {I J : Ins}
theorem i_rel (μ : Ev.Names) : Ev.rel (lawVal x t e f I J) μ i0 (insV I) := ⟨(insCells I).toList, by simp [insCells, insV], rfl, rfl, rfl, rfl, rfl, rfl, rfl, rfl, rfl, rfl, rfl, trivial⟩
theorem j_rel (μ : Ev.Names) : Ev.rel (lawVal x t e f I J) μ j0 (insV J) := ⟨(insCells J).toList, by simp [insCells, insV], rfl, rfl, rfl, rfl, rfl, rfl, rfl, rfl, rfl, rfl, rfl, trivial⟩
end
theorem con_ok {ρ : Ev.Val} {s : Ev.SB} {b : Bool} {m : List (Ev.SB × Bool)} (h : s.den ρ = b) (g : ∀ q ∈ m, q.1.den ρ = q.2) : ∀ q ∈ (s, b) :: m, q.1.den ρ = q.2 := fun q hq => by
  rcases List.mem_cons.1 hq with rfl | hq
  · exact h
  · exact g q hq
theorem no_ok {ρ : Ev.Val} : ∀ q ∈ ([] : List (Ev.SB × Bool)), q.1.den ρ = q.2 := fun q hq => by cases hq
theorem part_0 (I : Ins) (w : World) : Calls Tryd.prog 21 #[insV I, .int .i64 0] w fun e w' => e = .returned (.int .i64 (prt I 0)) ∧ Below w.heap.size w w' := by
  cases h : I.u with
  | false =>
    refine (Ev.calls_of (A := Ev.Ass.none.add (.atom 0, false)) (args := [insAV (.atom 11), .int .i64 (.lit 0)]) (v := .int .i64 (.lit 0)) (Ev.noOrc_ok _ _) 1000 30 (by kernel_rfl) (insVal I) ((Ev.Ass.has_none _).add h) [insV I, .int .i64 0] w ⟨trivial, Nat.zero_le _⟩ ⟨(insAV_rel I (.atom 11) rfl).1, rfl, trivial⟩).mono fun e w' ⟨y, μ, he, hy, hb⟩ => ⟨?_, hb⟩
    rw [he]
    refine congrArg Ending.returned (Eq.trans hy (congrArg (Value.int .i64) ?_))
    show (0 : Int) = bit I.u
    rw [h]; rfl
  | true =>
    refine (Ev.calls_of (A := Ev.Ass.none.add (.atom 0, true)) (args := [insAV (.atom 11), .int .i64 (.lit 0)]) (v := .int .i64 (.lit 1)) (Ev.noOrc_ok _ _) 1000 30 (by kernel_rfl) (insVal I) ((Ev.Ass.has_none _).add h) [insV I, .int .i64 0] w ⟨trivial, Nat.zero_le _⟩ ⟨(insAV_rel I (.atom 11) rfl).1, rfl, trivial⟩).mono fun e w' ⟨y, μ, he, hy, hb⟩ => ⟨?_, hb⟩
    rw [he]
    refine congrArg Ending.returned (Eq.trans hy (congrArg (Value.int .i64) ?_))
    show (1 : Int) = bit I.u
    rw [h]; rfl
theorem part_1 (I : Ins) (w : World) : Calls Tryd.prog 21 #[insV I, .int .i64 1] w fun e w' => e = .returned (.int .i64 (prt I 1)) ∧ Below w.heap.size w w' := by
  cases h : I.v with
  | false =>
    refine (Ev.calls_of (A := Ev.Ass.none.add (.atom 1, false)) (args := [insAV (.atom 11), .int .i64 (.lit 1)]) (v := .int .i64 (.lit 0)) (Ev.noOrc_ok _ _) 1000 30 (by kernel_rfl) (insVal I) ((Ev.Ass.has_none _).add h) [insV I, .int .i64 1] w ⟨trivial, Nat.zero_le _⟩ ⟨(insAV_rel I (.atom 11) rfl).1, rfl, trivial⟩).mono fun e w' ⟨y, μ, he, hy, hb⟩ => ⟨?_, hb⟩
    rw [he]
    refine congrArg Ending.returned (Eq.trans hy (congrArg (Value.int .i64) ?_))
    show (0 : Int) = bit I.v
    rw [h]; rfl
  | true =>
    refine (Ev.calls_of (A := Ev.Ass.none.add (.atom 1, true)) (args := [insAV (.atom 11), .int .i64 (.lit 1)]) (v := .int .i64 (.lit 1)) (Ev.noOrc_ok _ _) 1000 30 (by kernel_rfl) (insVal I) ((Ev.Ass.has_none _).add h) [insV I, .int .i64 1] w ⟨trivial, Nat.zero_le _⟩ ⟨(insAV_rel I (.atom 11) rfl).1, rfl, trivial⟩).mono fun e w' ⟨y, μ, he, hy, hb⟩ => ⟨?_, hb⟩
    rw [he]
    refine congrArg Ending.returned (Eq.trans hy (congrArg (Value.int .i64) ?_))
    show (1 : Int) = bit I.v
    rw [h]; rfl
theorem part_2 (I : Ins) (w : World) : Calls Tryd.prog 21 #[insV I, .int .i64 2] w fun e w' => e = .returned (.int .i64 (prt I 2)) ∧ Below w.heap.size w w' := by
  refine (Ev.calls_of (A := Ev.Ass.none) (args := [insAV (.atom 11), .int .i64 (.lit 2)]) (v := .int .i64 (.atom 3)) (Ev.noOrc_ok _ _) 1000 30 (by kernel_rfl) (insVal I) (Ev.Ass.has_none _) [insV I, .int .i64 2] w ⟨trivial, Nat.zero_le _⟩ ⟨(insAV_rel I (.atom 11) rfl).1, rfl, trivial⟩).mono fun e w' ⟨y, μ, he, hy, hb⟩ => ⟨?_, hb⟩
  rw [he]
  exact congrArg Ending.returned (Eq.trans hy (congrArg (Value.int .i64) rfl))
theorem part_3 (I : Ins) (w : World) : Calls Tryd.prog 21 #[insV I, .int .i64 3] w fun e w' => e = .returned (.int .i64 (prt I 3)) ∧ Below w.heap.size w w' := by
  refine (Ev.calls_of (A := Ev.Ass.none) (args := [insAV (.atom 11), .int .i64 (.lit 3)]) (v := .int .i64 (.atom 4)) (Ev.noOrc_ok _ _) 1000 30 (by kernel_rfl) (insVal I) (Ev.Ass.has_none _) [insV I, .int .i64 3] w ⟨trivial, Nat.zero_le _⟩ ⟨(insAV_rel I (.atom 11) rfl).1, rfl, trivial⟩).mono fun e w' ⟨y, μ, he, hy, hb⟩ => ⟨?_, hb⟩
  rw [he]
  exact congrArg Ending.returned (Eq.trans hy (congrArg (Value.int .i64) rfl))
theorem part_4 (I : Ins) (w : World) : Calls Tryd.prog 21 #[insV I, .int .i64 4] w fun e w' => e = .returned (.int .i64 (prt I 4)) ∧ Below w.heap.size w w' := by
  refine (Ev.calls_of (A := Ev.Ass.none) (args := [insAV (.atom 11), .int .i64 (.lit 4)]) (v := .int .i64 (.atom 5)) (Ev.noOrc_ok _ _) 1000 30 (by kernel_rfl) (insVal I) (Ev.Ass.has_none _) [insV I, .int .i64 4] w ⟨trivial, Nat.zero_le _⟩ ⟨(insAV_rel I (.atom 11) rfl).1, rfl, trivial⟩).mono fun e w' ⟨y, μ, he, hy, hb⟩ => ⟨?_, hb⟩
  rw [he]
  exact congrArg Ending.returned (Eq.trans hy (congrArg (Value.int .i64) rfl))
theorem part_5 (I : Ins) (w : World) : Calls Tryd.prog 21 #[insV I, .int .i64 5] w fun e w' => e = .returned (.int .i64 (prt I 5)) ∧ Below w.heap.size w w' := by
  refine (Ev.calls_of (A := Ev.Ass.none) (args := [insAV (.atom 11), .int .i64 (.lit 5)]) (v := .int .i64 (.atom 6)) (Ev.noOrc_ok _ _) 1000 30 (by kernel_rfl) (insVal I) (Ev.Ass.has_none _) [insV I, .int .i64 5] w ⟨trivial, Nat.zero_le _⟩ ⟨(insAV_rel I (.atom 11) rfl).1, rfl, trivial⟩).mono fun e w' ⟨y, μ, he, hy, hb⟩ => ⟨?_, hb⟩
  rw [he]
  exact congrArg Ending.returned (Eq.trans hy (congrArg (Value.int .i64) rfl))
theorem part_6 (I : Ins) (w : World) : Calls Tryd.prog 21 #[insV I, .int .i64 6] w fun e w' => e = .returned (.int .i64 (prt I 6)) ∧ Below w.heap.size w w' := by
  refine (Ev.calls_of (A := Ev.Ass.none) (args := [insAV (.atom 11), .int .i64 (.lit 6)]) (v := .int .i64 (.atom 7)) (Ev.noOrc_ok _ _) 1000 30 (by kernel_rfl) (insVal I) (Ev.Ass.has_none _) [insV I, .int .i64 6] w ⟨trivial, Nat.zero_le _⟩ ⟨(insAV_rel I (.atom 11) rfl).1, rfl, trivial⟩).mono fun e w' ⟨y, μ, he, hy, hb⟩ => ⟨?_, hb⟩
  rw [he]
  exact congrArg Ending.returned (Eq.trans hy (congrArg (Value.int .i64) rfl))
theorem part_7 (I : Ins) (w : World) : Calls Tryd.prog 21 #[insV I, .int .i64 7] w fun e w' => e = .returned (.int .i64 (prt I 7)) ∧ Below w.heap.size w w' := by
  refine (Ev.calls_of (A := Ev.Ass.none) (args := [insAV (.atom 11), .int .i64 (.lit 7)]) (v := .int .i64 (.atom 8)) (Ev.noOrc_ok _ _) 1000 30 (by kernel_rfl) (insVal I) (Ev.Ass.has_none _) [insV I, .int .i64 7] w ⟨trivial, Nat.zero_le _⟩ ⟨(insAV_rel I (.atom 11) rfl).1, rfl, trivial⟩).mono fun e w' ⟨y, μ, he, hy, hb⟩ => ⟨?_, hb⟩
  rw [he]
  exact congrArg Ending.returned (Eq.trans hy (congrArg (Value.int .i64) rfl))
theorem part_8 (I : Ins) (k0 : 0 ≤ I.cond) (k1 : I.cond ≤ 15) (n0 : 0 ≤ I.n) (n1 : I.n ≤ 255) (w : World) : Calls Tryd.prog 21 #[insV I, .int .i64 8] w fun e w' => e = .returned (.int .i64 (prt I 8)) ∧ Below w.heap.size w w' := by
  refine (Ev.calls_of (A := Ev.Ass.none) (args := [insAV (.atom 11), .int .i64 (.lit 8)]) (v := .int .i64 (.bin .add .i64 (.atom 9) (.bin .mul .i64 (.lit 16) (.atom 10)))) (Ev.noOrc_ok _ _) 1000 30 (by kernel_rfl) (insVal I) (Ev.Ass.has_none _) [insV I, .int .i64 8] w ⟨trivial, Nat.zero_le _⟩ ⟨(insAV_rel I (.atom 11) rfl).1, rfl, trivial⟩).mono fun e w' ⟨y, μ, he, hy, hb⟩ => ⟨?_, hb⟩
  rw [he]
  exact congrArg Ending.returned (Eq.trans hy (congrArg (Value.int .i64) (by show IntKind.i64.wrap (I.cond + IntKind.i64.wrap (16 * I.n)) = I.cond + 16 * I.n; rw [IntWalk.i64_in (16 * I.n) ⟨by omega, by omega⟩, IntWalk.i64_in _ ⟨by omega, by omega⟩])))
theorem bounds (x : Int) (x0 : 0 ≤ x) (x1 : x ≤ 4294967295) (I : Ins) (h : dec x = (I, false)) : MayIs I := by
  obtain ⟨k, hk, hh⟩ := dec_hit x x0 x1 (by rw [h])
  have h2 := hit_dec x k hk hh
  rw [h] at h2
  obtain ⟨rfl, _⟩ := Prod.mk.inj h2
  unfold hit at hh
  rw [Bool.and_eq_true] at hh
  exact may_is _ hh.1
theorem not_same {x t e f : Int} {I J : Ins} {k : Nat} (h : (prt I k != prt J k) = true) : (Ev.SB.not same).den (lawVal x t e f I J) = true := by
  show (!same.den (lawVal x t e f I J)) = true
  cases hs : same.den (lawVal x t e f I J) with
  | false => rfl
  | true =>
    exfalso
    simp [same, Ev.SB.den, Ev.SI.den, Ev.cmpI, lawVal, tabVal, insVal, Ev.Val.of] at hs
    have : prt I k = prt J k := by
      unfold prt
      split <;> simp_all
    rw [this] at h
    simp at h
theorem y_den {x t e f : Int} {I J : Ins} (n b : Nat) (hn : n < 4294967296) (hb : b < 32) (hx : x = n) (ht : t = b) : yI.den (lawVal x t e f I J) = ((n ^^^ 2 ^ b : Nat) : Int) := by
  show bits BinOp.xor .u32 x (IntKind.u32.wrap (1 * 2 ^ min (IntKind.u64.wrap t).toNat 32)) = _
  have e1 : IntKind.u64.wrap t = (b : Int) := by rw [IntKind.wrap_u64]; omega
  have hp : 2 ^ b < 4294967296 := Nat.pow_lt_pow_right (n := 32) (by omega) hb
  have e2 : IntKind.u32.wrap (1 * 2 ^ min (IntKind.u64.wrap t).toNat 32) = ((2 ^ b : Nat) : Int) := by
    rw [e1, Int.toNat_natCast, Nat.min_eq_left (by omega), IntKind.wrap_u32, Int.one_mul]
    have : ((2 : Int) ^ b) = ((2 ^ b : Nat) : Int) := by push_cast; rfl
    rw [this]
    have h3 : ((2 ^ b : Nat) : Int) < 4294967296 := Int.ofNat_lt.2 hp
    exact Int.emod_eq_of_lt (Int.natCast_nonneg _) h3
  rw [e2, hx, u32_xor_nat _ _ hn hp]
theorem walk (a0 : Int) (a1 : Int) (w : World) (w0 : (Lit.int .u32 a0).wf = true) (w1 : (Lit.int .i64 a1).wf = true) (hT : Tab w) :
    Calls Tryd.prog 7 #[.int .u32 a0, .int .i64 a1] w fun e w' => e = .returned (.bool true) ∧ Below w.heap.size w w' := by
  obtain ⟨x0, x1⟩ := bd_u32 w0
  by_cases hr : a1 < 0 ∨ 31 < a1
  · refine Ev.law_true 1000 30 runA (lawVal a0 a1 0 0 ins0 ins0) (con_ok ?_ no_ok) (Ev.ents_cons (Ev.EntOk.ofJ rfl [] trivial (v := .bool true) (fun _ => rfl) fun w hJ => known3_any w hJ) Ev.ents_nil) rfl [.int .u32 a0, .int .i64 a1] w (tab_base hT _ _) ⟨rfl, rfl, trivial⟩
    show (bif decide (a1 < 0) then true else decide (a1 > 31)) = true
    rcases hr with h | h
    · simp [h]
    · by_cases h2 : a1 < 0 <;> simp [h, h2]
  have f1 : ∀ {x e f : Int} {I J : Ins}, s1.den (lawVal x a1 e f I J) = false := by
    intro x e f I J
    show (bif decide (a1 < 0) then true else decide (a1 > 31)) = false
    have h1 : ¬ a1 < 0 := by omega
    have h2 : ¬ a1 > 31 := by omega
    simp [h1, h2]
  obtain ⟨n, rfl⟩ := Int.eq_ofNat_of_zero_le x0
  obtain ⟨b, rfl⟩ := Int.eq_ofNat_of_zero_le (show 0 ≤ a1 by omega)
  have hn : n < 4294967296 := by omega
  have hb : b < 32 := by omega
  have hy : n ^^^ 2 ^ b < 4294967296 := Nat.xor_lt_two_pow (n := 32) hn (Nat.pow_lt_pow_right (by omega) hb)
  obtain ⟨p, hp⟩ : ∃ p, (dec (n : Int)).2 = p := ⟨_, rfl⟩
  obtain ⟨I, hI⟩ : ∃ I, (if p then ins0 else (dec (n : Int)).1) = I := ⟨_, rfl⟩
  obtain ⟨q, hq⟩ : ∃ q, (dec ((n ^^^ 2 ^ b : Nat) : Int)).2 = q := ⟨_, rfl⟩
  obtain ⟨J, hJ⟩ : ∃ J, (if q then ins0 else (dec ((n ^^^ 2 ^ b : Nat) : Int)).1) = J := ⟨_, rfl⟩
  have cI : ∀ W, Calls Tryd.prog 8 #[.int .u32 (n : Int)] W fun e w' => e = .returned (.tuple #[insV I, .int .i64 (if p then 4 else 0)]) ∧ Below W.heap.size W w' := fun W => by
    have := of_any (n : Int) x0 x1 W
    rw [hp] at this
    unfold OfIs at this
    rw [hI] at this
    exact this
  have cJ : ∀ W, Calls Tryd.prog 8 #[.int .u32 ((n ^^^ 2 ^ b : Nat) : Int)] W fun e w' => e = .returned (.tuple #[insV J, .int .i64 (if q then 4 else 0)]) ∧ Below W.heap.size W w' := fun W => by
    have := of_any ((n ^^^ 2 ^ b : Nat) : Int) (by omega) (by omega) W
    rw [hq] at this
    unfold OfIs at this
    rw [hJ] at this
    exact this
  have yd := y_den (x := (n : Int)) (t := (b : Int)) (e := if p then 4 else 0) (f := if q then 4 else 0) (I := I) (J := J) n b hn hb rfl rfl
  have eI : ∀ {l : List (Ev.SB × Bool)}, Ev.EntOk Tryd.prog ⟨l, fun σ => σ = lawVal (n : Int) (b : Int) (if p then 4 else 0) (if q then 4 else 0) I J⟩ ⟨8, [.int .u32 (.atom 60)], .tuple [i0, .int .i64 (.atom 70)]⟩ := fun {l} =>
    Ev.EntOk.of rfl [.int .u32 (n : Int)] ⟨rfl, trivial⟩ (v := .tuple #[insV I, .int .i64 (if p then 4 else 0)]) (fun μ => ⟨[_, _], rfl, i_rel μ, rfl, trivial⟩) cI
  have eJ : ∀ {l : List (Ev.SB × Bool)}, Ev.EntOk Tryd.prog ⟨l, fun σ => σ = lawVal (n : Int) (b : Int) (if p then 4 else 0) (if q then 4 else 0) I J⟩ ⟨8, [.int .u32 yI], .tuple [j0, .int .i64 (.atom 71)]⟩ := fun {l} =>
    Ev.EntOk.of rfl [.int .u32 ((n ^^^ 2 ^ b : Nat) : Int)] ⟨congrArg (Value.int .u32) yd.symm, trivial⟩ (v := .tuple #[insV J, .int .i64 (if q then 4 else 0)]) (fun μ => ⟨[_, _], rfl, j_rel μ, rfl, trivial⟩) cJ
  have eK : ∀ {l : List (Ev.SB × Bool)}, Ev.EntOk Tryd.prog ⟨l, fun σ => σ = lawVal (n : Int) (b : Int) (if p then 4 else 0) (if q then 4 else 0) I J⟩ ⟨11, [], .bool (.lit true)⟩ := fun {l} =>
    Ev.EntOk.ofJ rfl [] trivial (v := .bool true) (fun _ => rfl) fun w hJ => known3_any w hJ
  by_cases h2 : p = true ∨ q = true ∨ I.form ≠ J.form
  · refine Ev.law_true 1000 30 runB (lawVal (n : Int) (b : Int) (if p then 4 else 0) (if q then 4 else 0) I J) (con_ok f1 (con_ok ?_ no_ok)) (Ev.ents_cons eI (Ev.ents_cons eJ (Ev.ents_cons eK Ev.ents_nil))) rfl [.int .u32 (n : Int), .int .i64 (b : Int)] w (tab_base hT _ _) ⟨rfl, rfl, trivial⟩
    show (bif (IntKind.i64.wrap ((if p then 4 else 0) + (if q then 4 else 0)) != 0) then true else (I.form != J.form)) = true
    rcases h2 with h | h | h
    · subst h; cases q <;> rfl
    · subst h; cases p <;> rfl
    · have : (I.form != J.form) = true := by simpa using h
      rw [this]
      cases (IntKind.i64.wrap ((if p then 4 else 0) + (if q then 4 else 0)) != 0) <;> rfl
  have hp0 : p = false := by cases p <;> simp_all
  have hq0 : q = false := by cases q <;> simp_all
  have hf : I.form = J.form := by
    rcases Classical.em (I.form = J.form) with h | h
    · exact h
    · exact absurd (.inr (.inr h)) h2
  subst hp0 hq0
  have dI : dec (n : Int) = (I, false) := Prod.ext (by simpa using hI) hp
  have dJ : dec ((n ^^^ 2 ^ b : Nat) : Int) = (J, false) := Prod.ext (by simpa using hJ) hq
  obtain ⟨k0, hk0, hk⟩ := parts_one n b hn hb I J dI dJ hf
  have mI := bounds (n : Int) x0 x1 I dI
  have mJ := bounds ((n ^^^ 2 ^ b : Nat) : Int) (by omega) (by omega) J dJ
  have f2 : s2.den (lawVal (n : Int) (b : Int) 0 0 I J) = false := by
    show (bif (IntKind.i64.wrap (0 + 0) != 0) then true else (I.form != J.form)) = false
    rw [hf]
    simp [IntKind.wrap]
    decide
  have ents : ∀ {l : List (Ev.SB × Bool)}, ∀ e ∈ orcC, Ev.EntOk Tryd.prog ⟨l, fun σ => σ = lawVal (n : Int) (b : Int) 0 0 I J⟩ e := by
    intro l
    refine Ev.ents_cons eI (Ev.ents_cons eJ (Ev.ents_cons eK ?_))
    refine Ev.ents_cons (Ev.EntOk.of rfl [insV I, .int .i64 0] ⟨i_rel _, rfl, trivial⟩ (v := .int .i64 (prt I 0)) (fun _ => rfl) fun W => part_0 I W) ?_
    refine Ev.ents_cons (Ev.EntOk.of rfl [insV J, .int .i64 0] ⟨j_rel _, rfl, trivial⟩ (v := .int .i64 (prt J 0)) (fun _ => rfl) fun W => part_0 J W) ?_
    refine Ev.ents_cons (Ev.EntOk.of rfl [insV I, .int .i64 1] ⟨i_rel _, rfl, trivial⟩ (v := .int .i64 (prt I 1)) (fun _ => rfl) fun W => part_1 I W) ?_
    refine Ev.ents_cons (Ev.EntOk.of rfl [insV J, .int .i64 1] ⟨j_rel _, rfl, trivial⟩ (v := .int .i64 (prt J 1)) (fun _ => rfl) fun W => part_1 J W) ?_
    refine Ev.ents_cons (Ev.EntOk.of rfl [insV I, .int .i64 2] ⟨i_rel _, rfl, trivial⟩ (v := .int .i64 (prt I 2)) (fun _ => rfl) fun W => part_2 I W) ?_
    refine Ev.ents_cons (Ev.EntOk.of rfl [insV J, .int .i64 2] ⟨j_rel _, rfl, trivial⟩ (v := .int .i64 (prt J 2)) (fun _ => rfl) fun W => part_2 J W) ?_
    refine Ev.ents_cons (Ev.EntOk.of rfl [insV I, .int .i64 3] ⟨i_rel _, rfl, trivial⟩ (v := .int .i64 (prt I 3)) (fun _ => rfl) fun W => part_3 I W) ?_
    refine Ev.ents_cons (Ev.EntOk.of rfl [insV J, .int .i64 3] ⟨j_rel _, rfl, trivial⟩ (v := .int .i64 (prt J 3)) (fun _ => rfl) fun W => part_3 J W) ?_
    refine Ev.ents_cons (Ev.EntOk.of rfl [insV I, .int .i64 4] ⟨i_rel _, rfl, trivial⟩ (v := .int .i64 (prt I 4)) (fun _ => rfl) fun W => part_4 I W) ?_
    refine Ev.ents_cons (Ev.EntOk.of rfl [insV J, .int .i64 4] ⟨j_rel _, rfl, trivial⟩ (v := .int .i64 (prt J 4)) (fun _ => rfl) fun W => part_4 J W) ?_
    refine Ev.ents_cons (Ev.EntOk.of rfl [insV I, .int .i64 5] ⟨i_rel _, rfl, trivial⟩ (v := .int .i64 (prt I 5)) (fun _ => rfl) fun W => part_5 I W) ?_
    refine Ev.ents_cons (Ev.EntOk.of rfl [insV J, .int .i64 5] ⟨j_rel _, rfl, trivial⟩ (v := .int .i64 (prt J 5)) (fun _ => rfl) fun W => part_5 J W) ?_
    refine Ev.ents_cons (Ev.EntOk.of rfl [insV I, .int .i64 6] ⟨i_rel _, rfl, trivial⟩ (v := .int .i64 (prt I 6)) (fun _ => rfl) fun W => part_6 I W) ?_
    refine Ev.ents_cons (Ev.EntOk.of rfl [insV J, .int .i64 6] ⟨j_rel _, rfl, trivial⟩ (v := .int .i64 (prt J 6)) (fun _ => rfl) fun W => part_6 J W) ?_
    refine Ev.ents_cons (Ev.EntOk.of rfl [insV I, .int .i64 7] ⟨i_rel _, rfl, trivial⟩ (v := .int .i64 (prt I 7)) (fun _ => rfl) fun W => part_7 I W) ?_
    refine Ev.ents_cons (Ev.EntOk.of rfl [insV J, .int .i64 7] ⟨j_rel _, rfl, trivial⟩ (v := .int .i64 (prt J 7)) (fun _ => rfl) fun W => part_7 J W) ?_
    refine Ev.ents_cons (Ev.EntOk.of rfl [insV I, .int .i64 8] ⟨i_rel _, rfl, trivial⟩ (v := .int .i64 (prt I 8)) (fun _ => rfl) fun W => part_8 I mI.k0 mI.k1 mI.n0 mI.n1 W) ?_
    refine Ev.ents_cons (Ev.EntOk.of rfl [insV J, .int .i64 8] ⟨j_rel _, rfl, trivial⟩ (v := .int .i64 (prt J 8)) (fun _ => rfl) fun W => part_8 J mJ.k0 mJ.k1 mJ.n0 mJ.n1 W) ?_
    exact Ev.ents_nil
  have hd : (prt I k0 != prt J k0) = true := by rw [hk k0 hk0]; simp
  have : k0 = 0 ∨ k0 = 1 ∨ k0 = 2 ∨ k0 = 3 ∨ k0 = 4 ∨ k0 = 5 ∨ k0 = 6 ∨ k0 = 7 ∨ k0 = 8 := by omega
  rcases this with rfl | rfl | rfl | rfl | rfl | rfl | rfl | rfl | rfl
  · exact Ev.law_true 1000 30 runC0 (lawVal (n : Int) (b : Int) 0 0 I J) (con_ok f1 (con_ok f2 (con_ok (hk 0 (by omega)) (con_ok (hk 1 (by omega)) (con_ok (hk 2 (by omega)) (con_ok (hk 3 (by omega)) (con_ok (hk 4 (by omega)) (con_ok (hk 5 (by omega)) (con_ok (hk 6 (by omega)) (con_ok (hk 7 (by omega)) (con_ok (hk 8 (by omega)) no_ok))))))))))) ents (not_same hd) [.int .u32 (n : Int), .int .i64 (b : Int)] w (tab_base hT _ _) ⟨rfl, rfl, trivial⟩
  · exact Ev.law_true 1000 30 runC1 (lawVal (n : Int) (b : Int) 0 0 I J) (con_ok f1 (con_ok f2 (con_ok (hk 0 (by omega)) (con_ok (hk 1 (by omega)) (con_ok (hk 2 (by omega)) (con_ok (hk 3 (by omega)) (con_ok (hk 4 (by omega)) (con_ok (hk 5 (by omega)) (con_ok (hk 6 (by omega)) (con_ok (hk 7 (by omega)) (con_ok (hk 8 (by omega)) no_ok))))))))))) ents (not_same hd) [.int .u32 (n : Int), .int .i64 (b : Int)] w (tab_base hT _ _) ⟨rfl, rfl, trivial⟩
  · exact Ev.law_true 1000 30 runC2 (lawVal (n : Int) (b : Int) 0 0 I J) (con_ok f1 (con_ok f2 (con_ok (hk 0 (by omega)) (con_ok (hk 1 (by omega)) (con_ok (hk 2 (by omega)) (con_ok (hk 3 (by omega)) (con_ok (hk 4 (by omega)) (con_ok (hk 5 (by omega)) (con_ok (hk 6 (by omega)) (con_ok (hk 7 (by omega)) (con_ok (hk 8 (by omega)) no_ok))))))))))) ents (not_same hd) [.int .u32 (n : Int), .int .i64 (b : Int)] w (tab_base hT _ _) ⟨rfl, rfl, trivial⟩
  · exact Ev.law_true 1000 30 runC3 (lawVal (n : Int) (b : Int) 0 0 I J) (con_ok f1 (con_ok f2 (con_ok (hk 0 (by omega)) (con_ok (hk 1 (by omega)) (con_ok (hk 2 (by omega)) (con_ok (hk 3 (by omega)) (con_ok (hk 4 (by omega)) (con_ok (hk 5 (by omega)) (con_ok (hk 6 (by omega)) (con_ok (hk 7 (by omega)) (con_ok (hk 8 (by omega)) no_ok))))))))))) ents (not_same hd) [.int .u32 (n : Int), .int .i64 (b : Int)] w (tab_base hT _ _) ⟨rfl, rfl, trivial⟩
  · exact Ev.law_true 1000 30 runC4 (lawVal (n : Int) (b : Int) 0 0 I J) (con_ok f1 (con_ok f2 (con_ok (hk 0 (by omega)) (con_ok (hk 1 (by omega)) (con_ok (hk 2 (by omega)) (con_ok (hk 3 (by omega)) (con_ok (hk 4 (by omega)) (con_ok (hk 5 (by omega)) (con_ok (hk 6 (by omega)) (con_ok (hk 7 (by omega)) (con_ok (hk 8 (by omega)) no_ok))))))))))) ents (not_same hd) [.int .u32 (n : Int), .int .i64 (b : Int)] w (tab_base hT _ _) ⟨rfl, rfl, trivial⟩
  · exact Ev.law_true 1000 30 runC5 (lawVal (n : Int) (b : Int) 0 0 I J) (con_ok f1 (con_ok f2 (con_ok (hk 0 (by omega)) (con_ok (hk 1 (by omega)) (con_ok (hk 2 (by omega)) (con_ok (hk 3 (by omega)) (con_ok (hk 4 (by omega)) (con_ok (hk 5 (by omega)) (con_ok (hk 6 (by omega)) (con_ok (hk 7 (by omega)) (con_ok (hk 8 (by omega)) no_ok))))))))))) ents (not_same hd) [.int .u32 (n : Int), .int .i64 (b : Int)] w (tab_base hT _ _) ⟨rfl, rfl, trivial⟩
  · exact Ev.law_true 1000 30 runC6 (lawVal (n : Int) (b : Int) 0 0 I J) (con_ok f1 (con_ok f2 (con_ok (hk 0 (by omega)) (con_ok (hk 1 (by omega)) (con_ok (hk 2 (by omega)) (con_ok (hk 3 (by omega)) (con_ok (hk 4 (by omega)) (con_ok (hk 5 (by omega)) (con_ok (hk 6 (by omega)) (con_ok (hk 7 (by omega)) (con_ok (hk 8 (by omega)) no_ok))))))))))) ents (not_same hd) [.int .u32 (n : Int), .int .i64 (b : Int)] w (tab_base hT _ _) ⟨rfl, rfl, trivial⟩
  · exact Ev.law_true 1000 30 runC7 (lawVal (n : Int) (b : Int) 0 0 I J) (con_ok f1 (con_ok f2 (con_ok (hk 0 (by omega)) (con_ok (hk 1 (by omega)) (con_ok (hk 2 (by omega)) (con_ok (hk 3 (by omega)) (con_ok (hk 4 (by omega)) (con_ok (hk 5 (by omega)) (con_ok (hk 6 (by omega)) (con_ok (hk 7 (by omega)) (con_ok (hk 8 (by omega)) no_ok))))))))))) ents (not_same hd) [.int .u32 (n : Int), .int .i64 (b : Int)] w (tab_base hT _ _) ⟨rfl, rfl, trivial⟩
  · exact Ev.law_true 1000 30 runC8 (lawVal (n : Int) (b : Int) 0 0 I J) (con_ok f1 (con_ok f2 (con_ok (hk 0 (by omega)) (con_ok (hk 1 (by omega)) (con_ok (hk 2 (by omega)) (con_ok (hk 3 (by omega)) (con_ok (hk 4 (by omega)) (con_ok (hk 5 (by omega)) (con_ok (hk 6 (by omega)) (con_ok (hk 7 (by omega)) (con_ok (hk 8 (by omega)) no_ok))))))))))) ents (not_same hd) [.int .u32 (n : Int), .int .i64 (b : Int)] w (tab_base hT _ _) ⟨rfl, rfl, trivial⟩
end
theorem own : ownKnob Tryd.prog.godebug = none := by kernel_rfl
theorem laidOut : laidOutB Tryd.prog = true := by kernel_rfl
theorem gTab0 : Tryd.prog.globalNamed "math/bits.deBruijn32tab" = some 1 := by kernel_rfl
theorem gTab1 : Tryd.prog.globalNamed "math/bits.deBruijn64tab" = some 2 := by kernel_rfl
theorem gTab2 : Tryd.prog.globalNamed "internal/strconv.uint64pow10" = some 0 := by kernel_rfl
theorem tables {W : World} (h0 : laidMetH Tryd.prog Rows.isaPartsRow.laid W) : Tab W := by
  have h : laidMet Tryd.prog Rows.isaPartsRow.laid W := h0
  exact Lib.tabIs_of_head (rest := _) gTab2 (by kernel_rfl) Tryd.underlying77 Tryd.underlying67 (by kernel_rfl) (by kernel_rfl) (laidMet.tail (laidMet.tail h))
def lay (l : Array Value) : Obj → Obj
  | .cells _ t frozen => .cells l t frozen
  | o => o
noncomputable def laidWorld (os : Os) : World := { World.holding Tryd.prog os ⟨#[], #[], []⟩ with heap := ((((World.holding Tryd.prog os ⟨#[], #[], []⟩).heap.modify 1 (lay #[.int .u8 0, .int .u8 1, .int .u8 28, .int .u8 2, .int .u8 29, .int .u8 14, .int .u8 24, .int .u8 3, .int .u8 30, .int .u8 22, .int .u8 20, .int .u8 15, .int .u8 25, .int .u8 17, .int .u8 4, .int .u8 8, .int .u8 31, .int .u8 27, .int .u8 13, .int .u8 23, .int .u8 21, .int .u8 19, .int .u8 16, .int .u8 7, .int .u8 26, .int .u8 12, .int .u8 18, .int .u8 6, .int .u8 11, .int .u8 5, .int .u8 10, .int .u8 9])).modify 2 (lay #[.int .u8 0, .int .u8 1, .int .u8 56, .int .u8 2, .int .u8 57, .int .u8 49, .int .u8 28, .int .u8 3, .int .u8 61, .int .u8 58, .int .u8 42, .int .u8 50, .int .u8 38, .int .u8 29, .int .u8 17, .int .u8 4, .int .u8 62, .int .u8 47, .int .u8 59, .int .u8 36, .int .u8 45, .int .u8 43, .int .u8 51, .int .u8 22, .int .u8 53, .int .u8 39, .int .u8 33, .int .u8 30, .int .u8 24, .int .u8 18, .int .u8 12, .int .u8 5, .int .u8 63, .int .u8 55, .int .u8 48, .int .u8 27, .int .u8 60, .int .u8 41, .int .u8 37, .int .u8 16, .int .u8 46, .int .u8 35, .int .u8 44, .int .u8 21, .int .u8 52, .int .u8 32, .int .u8 23, .int .u8 11, .int .u8 54, .int .u8 26, .int .u8 40, .int .u8 15, .int .u8 34, .int .u8 20, .int .u8 31, .int .u8 10, .int .u8 25, .int .u8 14, .int .u8 19, .int .u8 9, .int .u8 13, .int .u8 8, .int .u8 7, .int .u8 6])).modify 0 (lay #[.int .u64 1, .int .u64 10, .int .u64 100, .int .u64 1000, .int .u64 10000, .int .u64 100000, .int .u64 1000000, .int .u64 10000000, .int .u64 100000000, .int .u64 1000000000, .int .u64 10000000000, .int .u64 100000000000, .int .u64 1000000000000, .int .u64 10000000000000, .int .u64 100000000000000, .int .u64 1000000000000000, .int .u64 10000000000000000, .int .u64 100000000000000000, .int .u64 1000000000000000000, .int .u64 10000000000000000000])) }
theorem laid_met (os : Os) : laidMet Tryd.prog Rows.isaPartsRow.laid ((laidWorld os).forCall (fun _ _ => 0) ⟨#[], #[.int .u32 0, .int .i64 0], []⟩).memory := laidMet_of_run' 8 (by kernel_rfl) (by kernel_rfl)
theorem reads (os : Os) {H : Type} (enc : TypeId × Value → H) : ∃ places, DataW.whole enc Tryd.prog ((laidWorld os).forCall (fun _ _ => 0) ⟨#[], #[.int .u32 0, .int .i64 0], []⟩).memory Tryd.f7.params.toList Rows.isaPartsSpec.vars false (#[.int .u32 0, .int .i64 0] : Array Value).toList 8 = some ([.lit (.int .u32 0), .lit (.int .i64 0)], [], places) := ⟨[], by kernel_rfl⟩
theorem contract (H : Type) (enc : TypeId × Value → H) (W : World) (base : Nat) (args : Array Value) (ds gs : List (DataW H)) (before : List MemPlace)
    (hval : ∀ (j : Nat) t v, Tryd.f7.params[j]? = some t → args[j]? = some v → Value.okWide Tryd.prog W .any base t v)
    (hW : DataW.Whole enc Tryd.prog Tryd.f7.params.toList Rows.isaPartsSpec.vars false W args.toList ds gs before) (hL : laidMetH Tryd.prog Rows.isaPartsRow.laid W) :
    Calls Tryd.prog 7 args W fun e W' => ∃ v, e = .returned v ∧ Rows.isaPartsSpec.post enc Tryd.prog Tryd.f7 false true false false W args v W' := by
  have hW' := hW
  obtain ⟨p, q, hA0, hV, rfl, hfz, hnd⟩ := hW
  have hA : DataW.TrodAll enc Tryd.prog W 0 (fun _ => true) true Tryd.f7.params.toList args.toList ds p := hA0
  rw [Tryd.params7] at hA hval
  obtain ⟨v0, vs0, d0, ds0, p0, q0, hargs, rfl, rfl, h0, r0⟩ := trodAll_cons hA
  obtain ⟨v1, vs1, d1, ds1, p1, q1, rfl, rfl, rfl, h1, r1⟩ := trodAll_cons r0
  obtain ⟨rfl, rfl, rfl⟩ := trodAll_nil r1
  obtain rfl : args = #[v0, v1] := by cases args; simp_all
  obtain ⟨rfl, rfl⟩ := trodVars_none hV
  obtain ⟨a0, rfl, rfl, rfl, w0⟩ := open_int Tryd.underlying22 (hval 0 22 v0 rfl rfl) h0
  obtain ⟨a1, rfl, rfl, rfl, w1⟩ := open_int Tryd.underlying3 (hval 1 3 v1 rfl rfl) h1
  clear hA0
  have hT := tables hL
  refine (walk a0 a1 W w0 w1 hT).mono fun e W' ⟨he, bel⟩ => ?_
  subst he
  exact ⟨_, rfl, _, _, _, [], _, [], hW', trodAll_mk1 (shut_bool Tryd.underlying4 _), (trodAll_cons_mk (shut_int Tryd.underlying22 w0) (trodAll_cons_mk (shut_int Tryd.underlying3 w1) trodAll_mk0)), rfl, bel.frame _, fun h => by cases h⟩
set_option maxRecDepth 100000 in
theorem lifted (os : Os) (started : os.Started) (H : Type) (enc : TypeId × Value → H) (F : Stop.Interp) :
    ReturnsInHanded {} Tryd.checked os 7 .any ((OpenSpec.ofChange Rows.isaPartsSpec).preRow enc Tryd.prog Tryd.f7 Rows.isaPartsRow.domain false Rows.isaPartsRow.laid) (((OpenSpec.ofChange Rows.isaPartsSpec).at F).post enc Tryd.prog Tryd.f7 false true false false) := by
  obtain ⟨places, hx⟩ := reads os enc
  refine returnsInHanded_of_row (C := Tryd.checked) (s := OpenSpec.ofChange Rows.isaPartsSpec) own started (by kernel_rfl) Tryd.func7
    (witness_row_at (enc := enc) (C := Tryd.checked) false (laidWorld os) #[.int .u32 0, .int .i64 0] rfl (by kernel_rfl) (by kernel_rfl) (by kernel_rfl)
      (OpenSpec.preRow_of_cond 8 hx (by kernel_rfl) (fun k hk => by cases hk) (by kernel_rfl) (laid_met os))) ?_
  intro W base args ds gs before hval hW _ _ _ hL _ _
  exact contract H enc W base args ds gs before hval hW hL
theorem said : Rows.IsaPartsSaid :=
  OpenClaim.holds_of_cond 7 Tryd.f7 rfl rfl rfl rfl rfl rfl rfl ⟨rfl, rfl, rfl, rfl, rfl⟩ rfl rfl rfl rfl rfl (by kernel_rfl) Tryd.func7 (by kernel_rfl)
    (of_decide_eq_true (by kernel_rfl)) (by unfold Func.isWrapper; first | (rw [if_pos (by decide +kernel)]; kernel_rfl) | (rw [if_neg (by decide +kernel)]; exact ⟨rfl, rfl⟩))
    (fun os started H enc _ F => by rw [OpenClaim.pre_eq_preRow]; exact lifted os started H enc F)
theorem plain (f : FuncId) (fn : Func) (hf : Tryd.pinned.checked.prog.funcNamed "selfsame/selfsamelaw03.IsaParts" = some f) (hfn : Tryd.pinned.checked.prog.funcs[f]? = some fn) :
    false = Tryd.pinned.checked.prog.looks [] ∧ ∀ (j : Nat) t, fn.params[j]? = some t → Tryd.pinned.checked.prog.wantsStandIn t = false := by
  obtain rfl : f = 7 := Option.some.inj ((show Tryd.prog.funcNamed "selfsame/selfsamelaw03.IsaParts" = some 7 by kernel_rfl).symm.trans hf) |>.symm
  obtain rfl : fn = Tryd.f7 := (Option.some.inj (Tryd.func7.symm.trans hfn)).symm
  refine ⟨by kernel_rfl, fun j t ht => ?_⟩
  rw [Tryd.params7] at ht
  have hm := Array.mem_of_getElem? ht
  simp only [List.mem_toArray, List.mem_cons, List.not_mem_nil, or_false] at hm
  rcases hm with rfl | rfl
  · exact (show Tryd.prog.wantsStandIn 22 = false by kernel_rfl)
  · exact (show Tryd.prog.wantsStandIn 3 = false by kernel_rfl)
theorem proved : Rows.IsaPartsCardSaid :=
  Claim7.holds_tied_plain_at .later [] _ _ _ _ said (fun _ h => by cases h) (by kernel_rfl) (fun _ h => by cases h) isaParts_row_tie rfl ⟨rfl, rfl⟩ (by kernel_rfl) rfl plain (by kernel_rfl)
end Go.Proofs.YtgjecfchnokcfaaDoor.isaParts

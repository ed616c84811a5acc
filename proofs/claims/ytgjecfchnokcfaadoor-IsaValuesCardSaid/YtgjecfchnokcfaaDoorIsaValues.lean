/-
  IsaValues: for every instruction: the value of a number that it has ahead is the one that its text says, and goes on with the sign's bits; other forms have none. No condition.
-/
import Derived.Test.YtgjecfchnokcfaaDoorKnownC
import Derived.Test.YtgjecfchnokcfaaDoorMayIs
import Derived.Test.YtgjecfchnokcfaaDoorOpenS
import Derived.Test.YtgjecfchnokcfaaDoorCards
import Derived.Test.YtgjecfchnokcfaaDoorTie
import Derived.Deep.DeepHandedRow
import Derived.Lib.LaidTab
import Derived.Stop.LaidErr
namespace Go.Proofs.YtgjecfchnokcfaaDoor.isaValues
open Go.ChangeShapes Go.WideShapes Go.ChangeAt Go.RowKit
open Go.ChangeMaps (open_string shut_string)
set_option linter.unusedVariables false
set_option linter.unusedSimpArgs false
noncomputable section
def orc (f : Ev.SI) : List Ev.Ent := [⟨11, [], .bool (.lit true)⟩, ⟨19, [insAV f], .bool (.atom 50)⟩]
def wI : Ev.SI := .bin .and .u32 (.wrap .u32 (.atom 7)) (.lit 65535)
def oI : Ev.SI := .bin .or .u32 wI (.lit 4294901760)
def sI : Ev.SI := .bin .shl .u32 wI (.lit 16)
def end0 : Ev.SB := .ite (.cmp .eql (.bin .rem .u32 wI (.lit 65536)) (.wrap .u32 (.atom 7))) (.cmp .eql (.bin .quo .u32 wI (.lit 65536)) (.lit 0)) (.lit false)
def end1 : Ev.SB := .ite (.cmp .eql (.bin .rem .u32 oI (.lit 65536)) (.wrap .u32 (.atom 7))) (.cmp .eql (.bin .quo .u32 oI (.lit 65536)) (.lit 65535)) (.lit false)
def end2 : Ev.SB := .ite (.cmp .eql (.bin .quo .u32 sI (.lit 65536)) (.wrap .u32 (.atom 7))) (.cmp .eql (.bin .rem .u32 sI (.lit 65536)) (.lit 0)) (.lit false)
theorem runNo (φ : Ev.Val → Prop) : Ev.outV ((Ev.evO Tryd.prog ⟨[(.atom 50, false)], φ⟩ (Ev.orcL (orc (.atom 11))) 1000 30 (.fn 6) [insAV (.atom 11)]).go .e 0) = some (.bool (.lit true)) := by kernel_rfl
theorem run0 (φ : Ev.Val → Prop) : Ev.outV ((Ev.evO Tryd.prog ⟨[(.atom 50, true)], φ⟩ (Ev.orcL (orc (.lit 0))) 1000 30 (.fn 6) [insAV (.lit 0)]).go .e 0) = some (.bool (.lit true)) := by kernel_rfl
theorem run2 (φ : Ev.Val → Prop) : Ev.outV ((Ev.evO Tryd.prog ⟨[(.atom 50, true)], φ⟩ (Ev.orcL (orc (.lit 2))) 1000 30 (.fn 6) [insAV (.lit 2)]).go .e 0) = some (.bool (.lit true)) := by kernel_rfl
theorem run3 (φ : Ev.Val → Prop) : Ev.outV ((Ev.evO Tryd.prog ⟨[(.atom 50, true)], φ⟩ (Ev.orcL (orc (.lit 3))) 1000 30 (.fn 6) [insAV (.lit 3)]).go .e 0) = some (.bool (.lit true)) := by kernel_rfl
theorem run4 (φ : Ev.Val → Prop) : Ev.outV ((Ev.evO Tryd.prog ⟨[(.atom 50, true)], φ⟩ (Ev.orcL (orc (.lit 4))) 1000 30 (.fn 6) [insAV (.lit 4)]).go .e 0) = some (.bool (.lit true)) := by kernel_rfl
theorem run5 (φ : Ev.Val → Prop) : Ev.outV ((Ev.evO Tryd.prog ⟨[(.atom 50, true)], φ⟩ (Ev.orcL (orc (.lit 5))) 1000 30 (.fn 6) [insAV (.lit 5)]).go .e 0) = some (.bool (.lit true)) := by kernel_rfl
theorem run6 (φ : Ev.Val → Prop) : Ev.outV ((Ev.evO Tryd.prog ⟨[(.atom 50, true)], φ⟩ (Ev.orcL (orc (.lit 6))) 1000 30 (.fn 6) [insAV (.lit 6)]).go .e 0) = some (.bool (.lit true)) := by kernel_rfl
theorem run1_000 (φ : Ev.Val → Prop) : Ev.outV ((Ev.evO Tryd.prog ⟨[(.atom 50, true), (.atom 0, false), (.cmp .eql (.atom 6) (.lit 0), false), (.atom 1, false)], φ⟩ (Ev.orcL (orc (.lit 1))) 1000 30 (.fn 6) [insAV (.lit 1)]).go .e 0) = some (.bool (end0)) := by kernel_rfl
theorem run1_001 (φ : Ev.Val → Prop) : Ev.outV ((Ev.evO Tryd.prog ⟨[(.atom 50, true), (.atom 0, false), (.cmp .eql (.atom 6) (.lit 0), false), (.atom 1, true)], φ⟩ (Ev.orcL (orc (.lit 1))) 1000 30 (.fn 6) [insAV (.lit 1)]).go .e 0) = some (.bool (end1)) := by kernel_rfl
theorem run1_010 (φ : Ev.Val → Prop) : Ev.outV ((Ev.evO Tryd.prog ⟨[(.atom 50, true), (.atom 0, false), (.cmp .eql (.atom 6) (.lit 0), true), (.atom 1, false)], φ⟩ (Ev.orcL (orc (.lit 1))) 1000 30 (.fn 6) [insAV (.lit 1)]).go .e 0) = some (.bool (end0)) := by kernel_rfl
theorem run1_011 (φ : Ev.Val → Prop) : Ev.outV ((Ev.evO Tryd.prog ⟨[(.atom 50, true), (.atom 0, false), (.cmp .eql (.atom 6) (.lit 0), true), (.atom 1, true)], φ⟩ (Ev.orcL (orc (.lit 1))) 1000 30 (.fn 6) [insAV (.lit 1)]).go .e 0) = some (.bool (end1)) := by kernel_rfl
theorem run1_100 (φ : Ev.Val → Prop) : Ev.outV ((Ev.evO Tryd.prog ⟨[(.atom 50, true), (.atom 0, true), (.cmp .eql (.atom 6) (.lit 0), false), (.atom 1, false)], φ⟩ (Ev.orcL (orc (.lit 1))) 1000 30 (.fn 6) [insAV (.lit 1)]).go .e 0) = some (.bool (end0)) := by kernel_rfl
theorem run1_101 (φ : Ev.Val → Prop) : Ev.outV ((Ev.evO Tryd.prog ⟨[(.atom 50, true), (.atom 0, true), (.cmp .eql (.atom 6) (.lit 0), false), (.atom 1, true)], φ⟩ (Ev.orcL (orc (.lit 1))) 1000 30 (.fn 6) [insAV (.lit 1)]).go .e 0) = some (.bool (end1)) := by kernel_rfl
theorem run1_110 (φ : Ev.Val → Prop) : Ev.outV ((Ev.evO Tryd.prog ⟨[(.atom 50, true), (.atom 0, true), (.cmp .eql (.atom 6) (.lit 0), true), (.atom 1, false)], φ⟩ (Ev.orcL (orc (.lit 1))) 1000 30 (.fn 6) [insAV (.lit 1)]).go .e 0) = some (.bool (end2)) := by kernel_rfl
theorem run1_111 (φ : Ev.Val → Prop) : Ev.outV ((Ev.evO Tryd.prog ⟨[(.atom 50, true), (.atom 0, true), (.cmp .eql (.atom 6) (.lit 0), true), (.atom 1, true)], φ⟩ (Ev.orcL (orc (.lit 1))) 1000 30 (.fn 6) [insAV (.lit 1)]).go .e 0) = some (.bool (end2)) := by kernel_rfl
def lawVal (I : Ins) : Ev.Val := tabVal (insVal I).i fun k => if k = 50 then mayE I else (insVal I).b k
theorem ins_rel (I : Ins) (f : Ev.SI) (hf : I.form = f.den (lawVal I)) (μ : Ev.Names) : Ev.rel (lawVal I) μ (insAV f) (.agg (insCells I)) := ⟨(insCells I).toList, by simp, congrArg (Value.int .i64) hf, rfl, rfl, rfl, rfl, rfl, rfl, rfl, rfl, rfl, rfl, trivial⟩
theorem con_ok {ρ : Ev.Val} {s : Ev.SB} {b : Bool} {m : List (Ev.SB × Bool)} (h : s.den ρ = b) (g : ∀ q ∈ m, q.1.den ρ = q.2) : ∀ q ∈ (s, b) :: m, q.1.den ρ = q.2 := fun q hq => by
  rcases List.mem_cons.1 hq with rfl | hq
  · exact h
  · exact g q hq
theorem no_ok {ρ : Ev.Val} : ∀ q ∈ ([] : List (Ev.SB × Bool)), q.1.den ρ = q.2 := fun q hq => by cases hq
theorem law_of (I : Ins) (f : Ev.SI) (hf : I.form = f.den (lawVal I)) (l : List (Ev.SB × Bool)) (b : Ev.SB) (hl : ∀ q ∈ l, q.1.den (lawVal I) = q.2) (hb : b.den (lawVal I) = true)
    (hrun : ∀ φ, Ev.outV ((Ev.evO Tryd.prog ⟨l, φ⟩ (Ev.orcL (orc f)) 1000 30 (.fn 6) [insAV f]).go .e 0) = some (.bool b)) (w : World) (hT : Tab w) :
    Calls Tryd.prog 6 #[.agg (insCells I)] w fun e w' => e = .returned (.bool true) ∧ Below w.heap.size w w' :=
  Ev.law_true 1000 30 hrun (lawVal I) hl
    (Ev.ents_cons (Ev.EntOk.ofJ rfl [] trivial (v := .bool true) (fun _ => rfl) fun w hJ => known3_any w hJ) (Ev.ents_cons (Ev.EntOk.of rfl [.agg (insCells I)] ⟨ins_rel I f hf _, trivial⟩ (v := .bool (mayE I)) (fun _ => rfl) fun W => rmay_any I W) Ev.ents_nil))
    hb [.agg (insCells I)] w (tab_base hT _ _) ⟨ins_rel I f hf _, trivial⟩
theorem and65535 (b : Int) (h0 : 0 ≤ b) (h1 : b ≤ 65535) : bits BinOp.and IntKind.u32 b 65535 = b := by
  obtain ⟨n, rfl⟩ := Int.eq_ofNat_of_zero_le h0
  rw [show (65535 : Int) = ((65535 : Nat) : Int) from rfl, u32_and_nat n 65535 (by omega) (by omega)]
  rw [show (65535 : Nat) = 2 ^ 16 - 1 from rfl, Nat.and_two_pow_sub_one_eq_mod]
  omega
theorem orHigh (b : Int) (h0 : 0 ≤ b) (h1 : b ≤ 65535) : bits BinOp.or IntKind.u32 b 4294901760 = b + 4294901760 := by
  obtain ⟨n, rfl⟩ := Int.eq_ofNat_of_zero_le h0
  rw [show (4294901760 : Int) = ((4294901760 : Nat) : Int) from rfl, u32_or_nat n 4294901760 (by omega) (by omega)]
  have h2 : n < 2 ^ 16 := by omega
  have := Nat.shiftLeft_add_eq_or_of_lt h2 65535
  have e : (65535 : Nat) <<< 16 = 4294901760 := by decide
  rw [e] at this
  rw [Nat.or_comm, ← this]
  omega
theorem w_den (I : Ins) (h0 : 0 ≤ I.im) (h1 : I.im ≤ 65535) : wI.den (lawVal I) = I.im ∧ (Ev.SI.wrap .u32 (.atom 7)).den (lawVal I) = I.im := by
  have h2 : (Ev.SI.wrap .u32 (.atom 7)).den (lawVal I) = I.im := by
    show IntKind.u32.wrap I.im = I.im
    rw [IntKind.wrap_u32]; omega
  refine ⟨?_, h2⟩
  show bits BinOp.and .u32 ((Ev.SI.wrap .u32 (.atom 7)).den (lawVal I)) 65535 = I.im
  rw [h2, and65535 _ h0 h1]
theorem cmp_den {ρ : Ev.Val} {x y : Ev.SI} (h : x.den ρ = y.den ρ) : (Ev.SB.cmp .eql x y).den ρ = true := by
  show (x.den ρ == y.den ρ) = true
  rw [h]; simp
theorem both_den {ρ : Ev.Val} {a b : Ev.SB} (h : a.den ρ = true) (g : b.den ρ = true) : (Ev.SB.ite a b (.lit false)).den ρ = true := by
  show (bif a.den ρ then b.den ρ else false) = true
  rw [h, g]; rfl
theorem rem_den {ρ : Ev.Val} {x : Ev.SI} {n : Int} (h : x.den ρ = n) (h0 : 0 ≤ n) : (Ev.SI.bin .rem .u32 x (.lit 65536)).den ρ = n % 65536 := by
  show (x.den ρ).tmod 65536 = _
  rw [h, Int.tmod_eq_emod_of_nonneg h0]
theorem quo_den {ρ : Ev.Val} {x : Ev.SI} {n : Int} (h : x.den ρ = n) (h0 : 0 ≤ n) (h1 : n ≤ 4294967295) : (Ev.SI.bin .quo .u32 x (.lit 65536)).den ρ = n / 65536 := by
  show IntKind.u32.wrap ((x.den ρ).tdiv 65536) = _
  rw [h, Int.tdiv_eq_ediv_of_nonneg h0, IntKind.wrap_u32]
  omega
theorem end0_ok (I : Ins) (h0 : 0 ≤ I.im) (h1 : I.im ≤ 65535) : end0.den (lawVal I) = true := by
  obtain ⟨a, b⟩ := w_den I h0 h1
  exact both_den (cmp_den (by rw [rem_den a h0, b]; omega)) (cmp_den (by rw [quo_den a h0 (by omega)]; show I.im / 65536 = 0; omega))
theorem end1_ok (I : Ins) (h0 : 0 ≤ I.im) (h1 : I.im ≤ 65535) : end1.den (lawVal I) = true := by
  obtain ⟨a, b⟩ := w_den I h0 h1
  have c : oI.den (lawVal I) = I.im + 4294901760 := by
    show bits BinOp.or .u32 (wI.den (lawVal I)) 4294901760 = _
    rw [a, orHigh _ h0 h1]
  exact both_den (cmp_den (by rw [rem_den c (by omega), b]; omega)) (cmp_den (by rw [quo_den c (by omega) (by omega)]; show (I.im + 4294901760) / 65536 = 65535; omega))
theorem end2_ok (I : Ins) (h0 : 0 ≤ I.im) (h1 : I.im ≤ 65535) : end2.den (lawVal I) = true := by
  obtain ⟨a, b⟩ := w_den I h0 h1
  have c : sI.den (lawVal I) = I.im * 65536 := by
    show IntKind.u32.wrap (wI.den (lawVal I) * 2 ^ min (Int.toNat 16) IntKind.u32.bits) = _
    rw [a, IntKind.wrap_u32]
    show I.im * 65536 % 4294967296 = _
    omega
  exact both_den (cmp_den (by rw [quo_den c (by omega) (by omega), b]; omega)) (cmp_den (by rw [rem_den c (by omega)]; show I.im * 65536 % 65536 = 0; omega))
theorem walk (a0 : Ins) (w : World) (w0 : InsWf a0) (hT : Tab w) :
    Calls Tryd.prog 6 #[.agg (insCells a0)] w fun e w' => e = .returned (.bool true) ∧ Below w.heap.size w w' := by
  cases hm : mayE a0 with
  | false => exact law_of a0 (.atom 11) rfl _ _ (con_ok (by show mayE a0 = false; exact hm) no_ok) rfl runNo w hT
  | true =>
    have m := may_is a0 hm
    have f0 := m.f0
    have f1 := m.f1
    have hM : (Ev.SB.atom 50).den (lawVal a0) = true := hm
    have hc : a0.form = 0 ∨ a0.form = 1 ∨ a0.form = 2 ∨ a0.form = 3 ∨ a0.form = 4 ∨ a0.form = 5 ∨ a0.form = 6 := by omega
    rcases hc with h | h | h | h | h | h | h
    · exact law_of a0 (.lit 0) h _ _ (con_ok hM no_ok) rfl run0 w hT
    · have key : ∀ (u o v : Bool) (b : Ev.SB), a0.u = u → (a0.op == 0) = o → a0.v = v → b.den (lawVal a0) = true → (∀ φ, Ev.outV ((Ev.evO Tryd.prog ⟨[(.atom 50, true), (.atom 0, u), (.cmp .eql (.atom 6) (.lit 0), o), (.atom 1, v)], φ⟩ (Ev.orcL (orc (.lit 1))) 1000 30 (.fn 6) [insAV (.lit 1)]).go .e 0) = some (.bool b)) → Calls Tryd.prog 6 #[.agg (insCells a0)] w fun e w' => e = .returned (.bool true) ∧ Below w.heap.size w w' :=
        fun u o v b hu ho hv hb hr => law_of a0 (.lit 1) h [(.atom 50, true), (.atom 0, u), (.cmp .eql (.atom 6) (.lit 0), o), (.atom 1, v)] b (con_ok hM (con_ok (by exact hu) (con_ok (by exact ho) (con_ok (by exact hv) no_ok)))) hb hr w hT
      have e0 := end0_ok a0 m.m0 m.m1
      have e1 := end1_ok a0 m.m0 m.m1
      have e2 := end2_ok a0 m.m0 m.m1
      cases hu : a0.u <;> cases ho : (a0.op == 0) <;> cases hv : a0.v
      · exact key _ _ _ _ hu ho hv e0 run1_000
      · exact key _ _ _ _ hu ho hv e1 run1_001
      · exact key _ _ _ _ hu ho hv e0 run1_010
      · exact key _ _ _ _ hu ho hv e1 run1_011
      · exact key _ _ _ _ hu ho hv e0 run1_100
      · exact key _ _ _ _ hu ho hv e1 run1_101
      · exact key _ _ _ _ hu ho hv e2 run1_110
      · exact key _ _ _ _ hu ho hv e2 run1_111
    · exact law_of a0 (.lit 2) h _ _ (con_ok hM no_ok) rfl run2 w hT
    · exact law_of a0 (.lit 3) h _ _ (con_ok hM no_ok) rfl run3 w hT
    · exact law_of a0 (.lit 4) h _ _ (con_ok hM no_ok) rfl run4 w hT
    · exact law_of a0 (.lit 5) h _ _ (con_ok hM no_ok) rfl run5 w hT
    · exact law_of a0 (.lit 6) h _ _ (con_ok hM no_ok) rfl run6 w hT
end
theorem own : ownKnob Tryd.prog.godebug = none := by kernel_rfl
theorem laidOut : laidOutB Tryd.prog = true := by kernel_rfl
theorem gTab0 : Tryd.prog.globalNamed "math/bits.deBruijn32tab" = some 1 := by kernel_rfl
theorem gTab1 : Tryd.prog.globalNamed "math/bits.deBruijn64tab" = some 2 := by kernel_rfl
theorem gTab2 : Tryd.prog.globalNamed "internal/strconv.uint64pow10" = some 0 := by kernel_rfl
theorem tables {W : World} (h0 : laidMetH Tryd.prog Rows.isaValuesRow.laid W) : Tab W := by
  have h : laidMet Tryd.prog Rows.isaValuesRow.laid W := h0
  exact Lib.tabIs_of_head (rest := _) gTab2 (by kernel_rfl) Tryd.underlying77 Tryd.underlying67 (by kernel_rfl) (by kernel_rfl) (laidMet.tail (laidMet.tail h))
def lay (l : Array Value) : Obj → Obj
  | .cells _ t frozen => .cells l t frozen
  | o => o
noncomputable def laidWorld (os : Os) : World := { World.holding Tryd.prog os ⟨#[], #[], []⟩ with heap := ((((World.holding Tryd.prog os ⟨#[], #[], []⟩).heap.modify 1 (lay #[.int .u8 0, .int .u8 1, .int .u8 28, .int .u8 2, .int .u8 29, .int .u8 14, .int .u8 24, .int .u8 3, .int .u8 30, .int .u8 22, .int .u8 20, .int .u8 15, .int .u8 25, .int .u8 17, .int .u8 4, .int .u8 8, .int .u8 31, .int .u8 27, .int .u8 13, .int .u8 23, .int .u8 21, .int .u8 19, .int .u8 16, .int .u8 7, .int .u8 26, .int .u8 12, .int .u8 18, .int .u8 6, .int .u8 11, .int .u8 5, .int .u8 10, .int .u8 9])).modify 2 (lay #[.int .u8 0, .int .u8 1, .int .u8 56, .int .u8 2, .int .u8 57, .int .u8 49, .int .u8 28, .int .u8 3, .int .u8 61, .int .u8 58, .int .u8 42, .int .u8 50, .int .u8 38, .int .u8 29, .int .u8 17, .int .u8 4, .int .u8 62, .int .u8 47, .int .u8 59, .int .u8 36, .int .u8 45, .int .u8 43, .int .u8 51, .int .u8 22, .int .u8 53, .int .u8 39, .int .u8 33, .int .u8 30, .int .u8 24, .int .u8 18, .int .u8 12, .int .u8 5, .int .u8 63, .int .u8 55, .int .u8 48, .int .u8 27, .int .u8 60, .int .u8 41, .int .u8 37, .int .u8 16, .int .u8 46, .int .u8 35, .int .u8 44, .int .u8 21, .int .u8 52, .int .u8 32, .int .u8 23, .int .u8 11, .int .u8 54, .int .u8 26, .int .u8 40, .int .u8 15, .int .u8 34, .int .u8 20, .int .u8 31, .int .u8 10, .int .u8 25, .int .u8 14, .int .u8 19, .int .u8 9, .int .u8 13, .int .u8 8, .int .u8 7, .int .u8 6])).modify 0 (lay #[.int .u64 1, .int .u64 10, .int .u64 100, .int .u64 1000, .int .u64 10000, .int .u64 100000, .int .u64 1000000, .int .u64 10000000, .int .u64 100000000, .int .u64 1000000000, .int .u64 10000000000, .int .u64 100000000000, .int .u64 1000000000000, .int .u64 10000000000000, .int .u64 100000000000000, .int .u64 1000000000000000, .int .u64 10000000000000000, .int .u64 100000000000000000, .int .u64 1000000000000000000, .int .u64 10000000000000000000])) }
theorem laid_met (os : Os) : laidMet Tryd.prog Rows.isaValuesRow.laid ((laidWorld os).forCall (fun _ _ => 0) ⟨#[], #[.agg #[.int .i64 0, .bool false, .bool false, .int .i64 0, .int .i64 0, .int .i64 0, .int .i64 0, .int .i64 0, .int .i64 0, .int .i64 0, .int .i64 0]], []⟩).memory := laidMet_of_run' 8 (by kernel_rfl) (by kernel_rfl)
theorem reads (os : Os) {H : Type} (enc : TypeId × Value → H) : ∃ places, DataW.whole enc Tryd.prog ((laidWorld os).forCall (fun _ _ => 0) ⟨#[], #[.agg #[.int .i64 0, .bool false, .bool false, .int .i64 0, .int .i64 0, .int .i64 0, .int .i64 0, .int .i64 0, .int .i64 0, .int .i64 0, .int .i64 0]], []⟩).memory Tryd.f6.params.toList Rows.isaValuesSpec.vars false (#[.agg #[.int .i64 0, .bool false, .bool false, .int .i64 0, .int .i64 0, .int .i64 0, .int .i64 0, .int .i64 0, .int .i64 0, .int .i64 0, .int .i64 0]] : Array Value).toList 8 = some ([.agg [.lit (.int .i64 0), .lit (.bool false), .lit (.bool false), .lit (.int .i64 0), .lit (.int .i64 0), .lit (.int .i64 0), .lit (.int .i64 0), .lit (.int .i64 0), .lit (.int .i64 0), .lit (.int .i64 0), .lit (.int .i64 0)]], [], places) := ⟨[], by kernel_rfl⟩
theorem contract (H : Type) (enc : TypeId × Value → H) (W : World) (base : Nat) (args : Array Value) (ds gs : List (DataW H)) (before : List MemPlace)
    (hval : ∀ (j : Nat) t v, Tryd.f6.params[j]? = some t → args[j]? = some v → Value.okWide Tryd.prog W .any base t v)
    (hW : DataW.Whole enc Tryd.prog Tryd.f6.params.toList Rows.isaValuesSpec.vars false W args.toList ds gs before) (hL : laidMetH Tryd.prog Rows.isaValuesRow.laid W) :
    Calls Tryd.prog 6 args W fun e W' => ∃ v, e = .returned v ∧ Rows.isaValuesSpec.post enc Tryd.prog Tryd.f6 false true false false W args v W' := by
  have hW' := hW
  obtain ⟨p, q, hA0, hV, rfl, hfz, hnd⟩ := hW
  have hA : DataW.TrodAll enc Tryd.prog W 0 (fun _ => true) true Tryd.f6.params.toList args.toList ds p := hA0
  rw [Tryd.params6] at hA hval
  obtain ⟨v0, vs0, d0, ds0, p0, q0, hargs, rfl, rfl, h0, r0⟩ := trodAll_cons hA
  obtain ⟨rfl, rfl, rfl⟩ := trodAll_nil r0
  obtain rfl : args = #[v0] := by cases args; simp_all
  obtain ⟨rfl, rfl⟩ := trodVars_none hV
  obtain ⟨a0, rfl, w0⟩ := open_ins (hval 0 25 v0 rfl rfl)
  have k0 := h0
  have lt0 : ∀ x ∈ p0, x.block < W.heap.size := by obtain ⟨m, hm⟩ := k0; exact DataW.trod_lt m _ _ _ hm
  clear hA0
  have hT := tables hL
  refine (walk a0 W w0 hT).mono fun e W' ⟨he, bel⟩ => ?_
  subst he
  exact ⟨_, rfl, _, _, _, [], _, [], hW', trodAll_mk1 (shut_bool Tryd.underlying4 _), (trodAll_cons_mk (Below.trod laidOut (by kernel_rfl) (of_decide_eq_true (by kernel_rfl)) k0 bel lt0) trodAll_mk0), rfl, bel.frame _, fun h => by cases h⟩
set_option maxRecDepth 100000 in
theorem lifted (os : Os) (started : os.Started) (H : Type) (enc : TypeId × Value → H) (F : Stop.Interp) :
    ReturnsInHanded {} Tryd.checked os 6 .any ((OpenSpec.ofChange Rows.isaValuesSpec).preRow enc Tryd.prog Tryd.f6 Rows.isaValuesRow.domain false Rows.isaValuesRow.laid) (((OpenSpec.ofChange Rows.isaValuesSpec).at F).post enc Tryd.prog Tryd.f6 false true false false) := by
  obtain ⟨places, hx⟩ := reads os enc
  refine returnsInHanded_of_row (C := Tryd.checked) (s := OpenSpec.ofChange Rows.isaValuesSpec) own started (by kernel_rfl) Tryd.func6
    (witness_row_at (enc := enc) (C := Tryd.checked) false (laidWorld os) #[.agg #[.int .i64 0, .bool false, .bool false, .int .i64 0, .int .i64 0, .int .i64 0, .int .i64 0, .int .i64 0, .int .i64 0, .int .i64 0, .int .i64 0]] rfl (by kernel_rfl) (by kernel_rfl) (by kernel_rfl)
      (OpenSpec.preRow_of_cond 8 hx (by kernel_rfl) (fun k hk => by cases hk) (by kernel_rfl) (laid_met os))) ?_
  intro W base args ds gs before hval hW _ _ _ hL _ _
  exact contract H enc W base args ds gs before hval hW hL
theorem said : Rows.IsaValuesSaid :=
  OpenClaim.holds_of_cond 6 Tryd.f6 rfl rfl rfl rfl rfl rfl rfl ⟨rfl, rfl, rfl, rfl, rfl⟩ rfl rfl rfl rfl rfl (by kernel_rfl) Tryd.func6 (by kernel_rfl)
    (of_decide_eq_true (by kernel_rfl)) (by unfold Func.isWrapper; first | (rw [if_pos (by decide +kernel)]; kernel_rfl) | (rw [if_neg (by decide +kernel)]; exact ⟨rfl, rfl⟩))
    (fun os started H enc _ F => by rw [OpenClaim.pre_eq_preRow]; exact lifted os started H enc F)
theorem plain (f : FuncId) (fn : Func) (hf : Tryd.pinned.checked.prog.funcNamed "selfsame/selfsamelaw03.IsaValues" = some f) (hfn : Tryd.pinned.checked.prog.funcs[f]? = some fn) :
    false = Tryd.pinned.checked.prog.looks [] ∧ ∀ (j : Nat) t, fn.params[j]? = some t → Tryd.pinned.checked.prog.wantsStandIn t = false := by
  obtain rfl : f = 6 := Option.some.inj ((show Tryd.prog.funcNamed "selfsame/selfsamelaw03.IsaValues" = some 6 by kernel_rfl).symm.trans hf) |>.symm
  obtain rfl : fn = Tryd.f6 := (Option.some.inj (Tryd.func6.symm.trans hfn)).symm
  refine ⟨by kernel_rfl, fun j t ht => ?_⟩
  rw [Tryd.params6] at ht
  have hm := Array.mem_of_getElem? ht
  simp only [List.mem_toArray, List.mem_cons, List.not_mem_nil, or_false] at hm
  rcases hm with rfl
  · exact (show Tryd.prog.wantsStandIn 25 = false by kernel_rfl)
theorem proved : Rows.IsaValuesCardSaid :=
  Claim7.holds_tied_plain_at .later [] _ _ _ _ said (fun _ h => by cases h) (by kernel_rfl) (fun _ h => by cases h) isaValues_row_tie rfl ⟨rfl, rfl⟩ (by kernel_rfl) rfl plain (by kernel_rfl)
end Go.Proofs.YtgjecfchnokcfaaDoor.isaValues

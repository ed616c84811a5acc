/-
  IsaNames: for every number: conditions and operations have the chapter's names, others none. No condition.
-/
import Derived.Test.YtgjecfchnokcfaaDoorKnownC
import Derived.Test.YtgjecfchnokcfaaDoorCards
import Derived.Test.YtgjecfchnokcfaaDoorTie
import Derived.Deep.DeepHandedRow
import Derived.Lib.LaidTab
import Derived.Stop.LaidErr
namespace Go.Proofs.YtgjecfchnokcfaaDoor.isaNames
open Go.ChangeShapes Go.WideShapes Go.ChangeAt Go.RowKit
open Go.ChangeMaps (open_string shut_string)
set_option linter.unusedVariables false
set_option linter.unusedSimpArgs false
noncomputable section
def orc : List Ev.Ent := [⟨11, [], .bool (.lit true)⟩]
def eqF : List (Ev.SB × Bool) := [(.cmp .eql (.atom 1) (.lit 0), false), (.cmp .eql (.atom 1) (.lit 1), false), (.cmp .eql (.atom 1) (.lit 2), false), (.cmp .eql (.atom 1) (.lit 3), false), (.cmp .eql (.atom 1) (.lit 4), false), (.cmp .eql (.atom 1) (.lit 5), false), (.cmp .eql (.atom 1) (.lit 6), false), (.cmp .eql (.atom 1) (.lit 7), false), (.cmp .eql (.atom 1) (.lit 8), false), (.cmp .eql (.atom 1) (.lit 9), false), (.cmp .eql (.atom 1) (.lit 10), false), (.cmp .eql (.atom 1) (.lit 11), false), (.cmp .eql (.atom 1) (.lit 12), false), (.cmp .eql (.atom 1) (.lit 13), false), (.cmp .eql (.atom 1) (.lit 14), false), (.cmp .eql (.atom 1) (.lit 15), false)]
theorem run0 (φ : Ev.Val → Prop) : Ev.outV ((Ev.evO Tryd.prog ⟨[], φ⟩ (Ev.orcL orc) 1000 30 (.fn 4) [.int .i64 (.lit 0)]).go .e 0) = some (.bool (.lit true)) := by kernel_rfl
theorem run1 (φ : Ev.Val → Prop) : Ev.outV ((Ev.evO Tryd.prog ⟨[], φ⟩ (Ev.orcL orc) 1000 30 (.fn 4) [.int .i64 (.lit 1)]).go .e 0) = some (.bool (.lit true)) := by kernel_rfl
theorem run2 (φ : Ev.Val → Prop) : Ev.outV ((Ev.evO Tryd.prog ⟨[], φ⟩ (Ev.orcL orc) 1000 30 (.fn 4) [.int .i64 (.lit 2)]).go .e 0) = some (.bool (.lit true)) := by kernel_rfl
theorem run3 (φ : Ev.Val → Prop) : Ev.outV ((Ev.evO Tryd.prog ⟨[], φ⟩ (Ev.orcL orc) 1000 30 (.fn 4) [.int .i64 (.lit 3)]).go .e 0) = some (.bool (.lit true)) := by kernel_rfl
theorem run4 (φ : Ev.Val → Prop) : Ev.outV ((Ev.evO Tryd.prog ⟨[], φ⟩ (Ev.orcL orc) 1000 30 (.fn 4) [.int .i64 (.lit 4)]).go .e 0) = some (.bool (.lit true)) := by kernel_rfl
theorem run5 (φ : Ev.Val → Prop) : Ev.outV ((Ev.evO Tryd.prog ⟨[], φ⟩ (Ev.orcL orc) 1000 30 (.fn 4) [.int .i64 (.lit 5)]).go .e 0) = some (.bool (.lit true)) := by kernel_rfl
theorem run6 (φ : Ev.Val → Prop) : Ev.outV ((Ev.evO Tryd.prog ⟨[], φ⟩ (Ev.orcL orc) 1000 30 (.fn 4) [.int .i64 (.lit 6)]).go .e 0) = some (.bool (.lit true)) := by kernel_rfl
theorem run7 (φ : Ev.Val → Prop) : Ev.outV ((Ev.evO Tryd.prog ⟨[], φ⟩ (Ev.orcL orc) 1000 30 (.fn 4) [.int .i64 (.lit 7)]).go .e 0) = some (.bool (.lit true)) := by kernel_rfl
theorem run8 (φ : Ev.Val → Prop) : Ev.outV ((Ev.evO Tryd.prog ⟨[], φ⟩ (Ev.orcL orc) 1000 30 (.fn 4) [.int .i64 (.lit 8)]).go .e 0) = some (.bool (.lit true)) := by kernel_rfl
theorem run9 (φ : Ev.Val → Prop) : Ev.outV ((Ev.evO Tryd.prog ⟨[], φ⟩ (Ev.orcL orc) 1000 30 (.fn 4) [.int .i64 (.lit 9)]).go .e 0) = some (.bool (.lit true)) := by kernel_rfl
theorem run10 (φ : Ev.Val → Prop) : Ev.outV ((Ev.evO Tryd.prog ⟨[], φ⟩ (Ev.orcL orc) 1000 30 (.fn 4) [.int .i64 (.lit 10)]).go .e 0) = some (.bool (.lit true)) := by kernel_rfl
theorem run11 (φ : Ev.Val → Prop) : Ev.outV ((Ev.evO Tryd.prog ⟨[], φ⟩ (Ev.orcL orc) 1000 30 (.fn 4) [.int .i64 (.lit 11)]).go .e 0) = some (.bool (.lit true)) := by kernel_rfl
theorem run12 (φ : Ev.Val → Prop) : Ev.outV ((Ev.evO Tryd.prog ⟨[], φ⟩ (Ev.orcL orc) 1000 30 (.fn 4) [.int .i64 (.lit 12)]).go .e 0) = some (.bool (.lit true)) := by kernel_rfl
theorem run13 (φ : Ev.Val → Prop) : Ev.outV ((Ev.evO Tryd.prog ⟨[], φ⟩ (Ev.orcL orc) 1000 30 (.fn 4) [.int .i64 (.lit 13)]).go .e 0) = some (.bool (.lit true)) := by kernel_rfl
theorem run14 (φ : Ev.Val → Prop) : Ev.outV ((Ev.evO Tryd.prog ⟨[], φ⟩ (Ev.orcL orc) 1000 30 (.fn 4) [.int .i64 (.lit 14)]).go .e 0) = some (.bool (.lit true)) := by kernel_rfl
theorem run15 (φ : Ev.Val → Prop) : Ev.outV ((Ev.evO Tryd.prog ⟨[], φ⟩ (Ev.orcL orc) 1000 30 (.fn 4) [.int .i64 (.lit 15)]).go .e 0) = some (.bool (.lit true)) := by kernel_rfl
theorem runNeg (φ : Ev.Val → Prop) : Ev.outV ((Ev.evO Tryd.prog ⟨(.cmp .geq (.atom 1) (.lit 0), false) :: eqF, φ⟩ (Ev.orcL orc) 1000 30 (.fn 4) [.int .i64 (.atom 1)]).go .e 0) = some (.bool (.lit true)) := by kernel_rfl
theorem runBig (φ : Ev.Val → Prop) : Ev.outV ((Ev.evO Tryd.prog ⟨(.cmp .geq (.atom 1) (.lit 0), true) :: (.cmp .lss (.atom 1) (.lit 16), false) :: (.cmp .lss (.atom 1) (.lit 12), false) :: eqF, φ⟩ (Ev.orcL orc) 1000 30 (.fn 4) [.int .i64 (.atom 1)]).go .e 0) = some (.bool (.lit true)) := by kernel_rfl
theorem eq_ok (n : Int) (h : n < 0 ∨ 16 ≤ n) : ∀ q ∈ eqF, q.1.den (tabVal (fun _ => n) fun _ => false) = q.2 := by
  intro q hq
  simp only [eqF, List.mem_cons, List.not_mem_nil, or_false] at hq
  rcases hq with rfl | rfl | rfl | rfl | rfl | rfl | rfl | rfl | rfl | rfl | rfl | rfl | rfl | rfl | rfl | rfl <;> simp [Ev.SB.den, Ev.SI.den, Ev.cmpI, tabVal] <;> omega
theorem con_ok {ρ : Ev.Val} {s : Ev.SB} {b : Bool} {m : List (Ev.SB × Bool)} (h : s.den ρ = b) (g : ∀ q ∈ m, q.1.den ρ = q.2) : ∀ q ∈ (s, b) :: m, q.1.den ρ = q.2 := fun q hq => by
  rcases List.mem_cons.1 hq with rfl | hq
  · exact h
  · exact g q hq
theorem orc_ok {l : List (Ev.SB × Bool)} {i : Nat → Int} {b : Nat → Bool} : ∀ e ∈ orc, Ev.EntOk Tryd.prog ⟨l, fun σ => σ = tabVal i b⟩ e :=
  Ev.ents_cons (Ev.EntOk.ofJ rfl [] trivial (v := .bool true) (fun _ => rfl) fun w hJ => known3_any w hJ) Ev.ents_nil
theorem walk (a0 : Int) (w : World) (w0 : (Lit.int .i64 a0).wf = true) (hT : Tab w) :
    Calls Tryd.prog 4 #[.int .i64 a0] w fun e w' => e = .returned (.bool true) ∧ Below w.heap.size w w' := by
  by_cases h0 : a0 < 0
  · exact Ev.law_true 1000 30 runNeg (tabVal (fun _ => a0) fun _ => false) (con_ok (by simp [Ev.SB.den, Ev.SI.den, Ev.cmpI, tabVal]; omega) (eq_ok a0 (.inl h0))) orc_ok rfl [.int .i64 a0] w (tab_base hT _ _) ⟨rfl, trivial⟩
  · by_cases h1 : 16 ≤ a0
    · exact Ev.law_true 1000 30 runBig (tabVal (fun _ => a0) fun _ => false) (con_ok (by simp [Ev.SB.den, Ev.SI.den, Ev.cmpI, tabVal]; omega) (con_ok (by simp [Ev.SB.den, Ev.SI.den, Ev.cmpI, tabVal]; omega) (con_ok (by simp [Ev.SB.den, Ev.SI.den, Ev.cmpI, tabVal]; omega) (eq_ok a0 (.inr h1))))) orc_ok rfl [.int .i64 a0] w (tab_base hT _ _) ⟨rfl, trivial⟩
    · have : a0 = 0 ∨ a0 = 1 ∨ a0 = 2 ∨ a0 = 3 ∨ a0 = 4 ∨ a0 = 5 ∨ a0 = 6 ∨ a0 = 7 ∨ a0 = 8 ∨ a0 = 9 ∨ a0 = 10 ∨ a0 = 11 ∨ a0 = 12 ∨ a0 = 13 ∨ a0 = 14 ∨ a0 = 15 := by omega
      rcases this with rfl | rfl | rfl | rfl | rfl | rfl | rfl | rfl | rfl | rfl | rfl | rfl | rfl | rfl | rfl | rfl
      · exact Ev.law_true 1000 30 run0 (tabVal (fun _ => 0) fun _ => false) (fun q hq => by cases hq) orc_ok rfl [.int .i64 0] w (tab_base hT _ _) ⟨rfl, trivial⟩
      · exact Ev.law_true 1000 30 run1 (tabVal (fun _ => 0) fun _ => false) (fun q hq => by cases hq) orc_ok rfl [.int .i64 1] w (tab_base hT _ _) ⟨rfl, trivial⟩
      · exact Ev.law_true 1000 30 run2 (tabVal (fun _ => 0) fun _ => false) (fun q hq => by cases hq) orc_ok rfl [.int .i64 2] w (tab_base hT _ _) ⟨rfl, trivial⟩
      · exact Ev.law_true 1000 30 run3 (tabVal (fun _ => 0) fun _ => false) (fun q hq => by cases hq) orc_ok rfl [.int .i64 3] w (tab_base hT _ _) ⟨rfl, trivial⟩
      · exact Ev.law_true 1000 30 run4 (tabVal (fun _ => 0) fun _ => false) (fun q hq => by cases hq) orc_ok rfl [.int .i64 4] w (tab_base hT _ _) ⟨rfl, trivial⟩
      · exact Ev.law_true 1000 30 run5 (tabVal (fun _ => 0) fun _ => false) (fun q hq => by cases hq) orc_ok rfl [.int .i64 5] w (tab_base hT _ _) ⟨rfl, trivial⟩
      · exact Ev.law_true 1000 30 run6 (tabVal (fun _ => 0) fun _ => false) (fun q hq => by cases hq) orc_ok rfl [.int .i64 6] w (tab_base hT _ _) ⟨rfl, trivial⟩
      · exact Ev.law_true 1000 30 run7 (tabVal (fun _ => 0) fun _ => false) (fun q hq => by cases hq) orc_ok rfl [.int .i64 7] w (tab_base hT _ _) ⟨rfl, trivial⟩
      · exact Ev.law_true 1000 30 run8 (tabVal (fun _ => 0) fun _ => false) (fun q hq => by cases hq) orc_ok rfl [.int .i64 8] w (tab_base hT _ _) ⟨rfl, trivial⟩
      · exact Ev.law_true 1000 30 run9 (tabVal (fun _ => 0) fun _ => false) (fun q hq => by cases hq) orc_ok rfl [.int .i64 9] w (tab_base hT _ _) ⟨rfl, trivial⟩
      · exact Ev.law_true 1000 30 run10 (tabVal (fun _ => 0) fun _ => false) (fun q hq => by cases hq) orc_ok rfl [.int .i64 10] w (tab_base hT _ _) ⟨rfl, trivial⟩
      · exact Ev.law_true 1000 30 run11 (tabVal (fun _ => 0) fun _ => false) (fun q hq => by cases hq) orc_ok rfl [.int .i64 11] w (tab_base hT _ _) ⟨rfl, trivial⟩
      · exact Ev.law_true 1000 30 run12 (tabVal (fun _ => 0) fun _ => false) (fun q hq => by cases hq) orc_ok rfl [.int .i64 12] w (tab_base hT _ _) ⟨rfl, trivial⟩
      · exact Ev.law_true 1000 30 run13 (tabVal (fun _ => 0) fun _ => false) (fun q hq => by cases hq) orc_ok rfl [.int .i64 13] w (tab_base hT _ _) ⟨rfl, trivial⟩
      · exact Ev.law_true 1000 30 run14 (tabVal (fun _ => 0) fun _ => false) (fun q hq => by cases hq) orc_ok rfl [.int .i64 14] w (tab_base hT _ _) ⟨rfl, trivial⟩
      · exact Ev.law_true 1000 30 run15 (tabVal (fun _ => 0) fun _ => false) (fun q hq => by cases hq) orc_ok rfl [.int .i64 15] w (tab_base hT _ _) ⟨rfl, trivial⟩
end
theorem own : ownKnob Tryd.prog.godebug = none := by kernel_rfl
theorem laidOut : laidOutB Tryd.prog = true := by kernel_rfl
theorem gTab0 : Tryd.prog.globalNamed "math/bits.deBruijn32tab" = some 1 := by kernel_rfl
theorem gTab1 : Tryd.prog.globalNamed "math/bits.deBruijn64tab" = some 2 := by kernel_rfl
theorem gTab2 : Tryd.prog.globalNamed "internal/strconv.uint64pow10" = some 0 := by kernel_rfl
theorem tables {W : World} (h0 : laidMetH Tryd.prog Rows.isaNamesRow.laid W) : Tab W := by
  have h : laidMet Tryd.prog Rows.isaNamesRow.laid W := h0
  exact Lib.tabIs_of_head (rest := _) gTab2 (by kernel_rfl) Tryd.underlying77 Tryd.underlying67 (by kernel_rfl) (by kernel_rfl) (laidMet.tail (laidMet.tail h))
def lay (l : Array Value) : Obj → Obj
  | .cells _ t frozen => .cells l t frozen
  | o => o
noncomputable def laidWorld (os : Os) : World := { World.holding Tryd.prog os ⟨#[], #[], []⟩ with heap := ((((World.holding Tryd.prog os ⟨#[], #[], []⟩).heap.modify 1 (lay #[.int .u8 0, .int .u8 1, .int .u8 28, .int .u8 2, .int .u8 29, .int .u8 14, .int .u8 24, .int .u8 3, .int .u8 30, .int .u8 22, .int .u8 20, .int .u8 15, .int .u8 25, .int .u8 17, .int .u8 4, .int .u8 8, .int .u8 31, .int .u8 27, .int .u8 13, .int .u8 23, .int .u8 21, .int .u8 19, .int .u8 16, .int .u8 7, .int .u8 26, .int .u8 12, .int .u8 18, .int .u8 6, .int .u8 11, .int .u8 5, .int .u8 10, .int .u8 9])).modify 2 (lay #[.int .u8 0, .int .u8 1, .int .u8 56, .int .u8 2, .int .u8 57, .int .u8 49, .int .u8 28, .int .u8 3, .int .u8 61, .int .u8 58, .int .u8 42, .int .u8 50, .int .u8 38, .int .u8 29, .int .u8 17, .int .u8 4, .int .u8 62, .int .u8 47, .int .u8 59, .int .u8 36, .int .u8 45, .int .u8 43, .int .u8 51, .int .u8 22, .int .u8 53, .int .u8 39, .int .u8 33, .int .u8 30, .int .u8 24, .int .u8 18, .int .u8 12, .int .u8 5, .int .u8 63, .int .u8 55, .int .u8 48, .int .u8 27, .int .u8 60, .int .u8 41, .int .u8 37, .int .u8 16, .int .u8 46, .int .u8 35, .int .u8 44, .int .u8 21, .int .u8 52, .int .u8 32, .int .u8 23, .int .u8 11, .int .u8 54, .int .u8 26, .int .u8 40, .int .u8 15, .int .u8 34, .int .u8 20, .int .u8 31, .int .u8 10, .int .u8 25, .int .u8 14, .int .u8 19, .int .u8 9, .int .u8 13, .int .u8 8, .int .u8 7, .int .u8 6])).modify 0 (lay #[.int .u64 1, .int .u64 10, .int .u64 100, .int .u64 1000, .int .u64 10000, .int .u64 100000, .int .u64 1000000, .int .u64 10000000, .int .u64 100000000, .int .u64 1000000000, .int .u64 10000000000, .int .u64 100000000000, .int .u64 1000000000000, .int .u64 10000000000000, .int .u64 100000000000000, .int .u64 1000000000000000, .int .u64 10000000000000000, .int .u64 100000000000000000, .int .u64 1000000000000000000, .int .u64 10000000000000000000])) }
theorem laid_met (os : Os) : laidMet Tryd.prog Rows.isaNamesRow.laid ((laidWorld os).forCall (fun _ _ => 0) ⟨#[], #[.int .i64 0], []⟩).memory := laidMet_of_run' 8 (by kernel_rfl) (by kernel_rfl)
theorem reads (os : Os) {H : Type} (enc : TypeId × Value → H) : ∃ places, DataW.whole enc Tryd.prog ((laidWorld os).forCall (fun _ _ => 0) ⟨#[], #[.int .i64 0], []⟩).memory Tryd.f4.params.toList Rows.isaNamesSpec.vars false (#[.int .i64 0] : Array Value).toList 8 = some ([.lit (.int .i64 0)], [], places) := ⟨[], by kernel_rfl⟩
theorem contract (H : Type) (enc : TypeId × Value → H) (W : World) (base : Nat) (args : Array Value) (ds gs : List (DataW H)) (before : List MemPlace)
    (hval : ∀ (j : Nat) t v, Tryd.f4.params[j]? = some t → args[j]? = some v → Value.okWide Tryd.prog W .any base t v)
    (hW : DataW.Whole enc Tryd.prog Tryd.f4.params.toList Rows.isaNamesSpec.vars false W args.toList ds gs before) (hL : laidMetH Tryd.prog Rows.isaNamesRow.laid W) :
    Calls Tryd.prog 4 args W fun e W' => ∃ v, e = .returned v ∧ Rows.isaNamesSpec.post enc Tryd.prog Tryd.f4 false true false false W args v W' := by
  have hW' := hW
  obtain ⟨p, q, hA0, hV, rfl, hfz, hnd⟩ := hW
  have hA : DataW.TrodAll enc Tryd.prog W 0 (fun _ => true) true Tryd.f4.params.toList args.toList ds p := hA0
  rw [Tryd.params4] at hA hval
  obtain ⟨v0, vs0, d0, ds0, p0, q0, hargs, rfl, rfl, h0, r0⟩ := trodAll_cons hA
  obtain ⟨rfl, rfl, rfl⟩ := trodAll_nil r0
  obtain rfl : args = #[v0] := by cases args; simp_all
  obtain ⟨rfl, rfl⟩ := trodVars_none hV
  obtain ⟨a0, rfl, rfl, rfl, w0⟩ := open_int Tryd.underlying3 (hval 0 3 v0 rfl rfl) h0
  clear hA0
  have hT := tables hL
  refine (walk a0 W w0 hT).mono fun e W' ⟨he, bel⟩ => ?_
  subst he
  exact ⟨_, rfl, _, _, _, [], _, [], hW', trodAll_mk1 (shut_bool Tryd.underlying4 _), (trodAll_cons_mk (shut_int Tryd.underlying3 w0) trodAll_mk0), rfl, bel.frame _, fun h => by cases h⟩
set_option maxRecDepth 100000 in
theorem lifted (os : Os) (started : os.Started) (H : Type) (enc : TypeId × Value → H) (F : Stop.Interp) :
    ReturnsInHanded {} Tryd.checked os 4 .any ((OpenSpec.ofChange Rows.isaNamesSpec).preRow enc Tryd.prog Tryd.f4 Rows.isaNamesRow.domain false Rows.isaNamesRow.laid) (((OpenSpec.ofChange Rows.isaNamesSpec).at F).post enc Tryd.prog Tryd.f4 false true false false) := by
  obtain ⟨places, hx⟩ := reads os enc
  refine returnsInHanded_of_row (C := Tryd.checked) (s := OpenSpec.ofChange Rows.isaNamesSpec) own started (by kernel_rfl) Tryd.func4
    (witness_row_at (enc := enc) (C := Tryd.checked) false (laidWorld os) #[.int .i64 0] rfl (by kernel_rfl) (by kernel_rfl) (by kernel_rfl)
      (OpenSpec.preRow_of_cond 8 hx (by kernel_rfl) (fun k hk => by cases hk) (by kernel_rfl) (laid_met os))) ?_
  intro W base args ds gs before hval hW _ _ _ hL _ _
  exact contract H enc W base args ds gs before hval hW hL
theorem said : Rows.IsaNamesSaid :=
  OpenClaim.holds_of_cond 4 Tryd.f4 rfl rfl rfl rfl rfl rfl rfl ⟨rfl, rfl, rfl, rfl, rfl⟩ rfl rfl rfl rfl rfl (by kernel_rfl) Tryd.func4 (by kernel_rfl)
    (of_decide_eq_true (by kernel_rfl)) (by unfold Func.isWrapper; first | (rw [if_pos (by decide +kernel)]; kernel_rfl) | (rw [if_neg (by decide +kernel)]; exact ⟨rfl, rfl⟩))
    (fun os started H enc _ F => by rw [OpenClaim.pre_eq_preRow]; exact lifted os started H enc F)
theorem plain (f : FuncId) (fn : Func) (hf : Tryd.pinned.checked.prog.funcNamed "selfsame/selfsamelaw03.IsaNames" = some f) (hfn : Tryd.pinned.checked.prog.funcs[f]? = some fn) :
    false = Tryd.pinned.checked.prog.looks [] ∧ ∀ (j : Nat) t, fn.params[j]? = some t → Tryd.pinned.checked.prog.wantsStandIn t = false := by
  obtain rfl : f = 4 := Option.some.inj ((show Tryd.prog.funcNamed "selfsame/selfsamelaw03.IsaNames" = some 4 by kernel_rfl).symm.trans hf) |>.symm
  obtain rfl : fn = Tryd.f4 := (Option.some.inj (Tryd.func4.symm.trans hfn)).symm
  refine ⟨by kernel_rfl, fun j t ht => ?_⟩
  rw [Tryd.params4] at ht
  have hm := Array.mem_of_getElem? ht
  simp only [List.mem_toArray, List.mem_cons, List.not_mem_nil, or_false] at hm
  rcases hm with rfl
  · exact (show Tryd.prog.wantsStandIn 3 = false by kernel_rfl)
theorem proved : Rows.IsaNamesCardSaid :=
  Claim7.holds_tied_plain_at .later [] _ _ _ _ said (fun _ h => by cases h) (by kernel_rfl) (fun _ h => by cases h) isaNames_row_tie rfl ⟨rfl, rfl⟩ (by kernel_rfl) rfl plain (by kernel_rfl)
end Go.Proofs.YtgjecfchnokcfaaDoor.isaNames

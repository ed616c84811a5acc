/-
  IsaReads: every word is the instruction that has it, or none. No condition.
-/
import Derived.Test.YtgjecfchnokcfaaDoorKnownC
import Derived.Test.YtgjecfchnokcfaaDoorRefOf
import Derived.Test.YtgjecfchnokcfaaDoorCards
import Derived.Test.YtgjecfchnokcfaaDoorTie
import Derived.Deep.DeepHandedRow
import Derived.Lib.LaidTab
import Derived.Stop.LaidErr
namespace Go.Proofs.YtgjecfchnokcfaaDoor.isaReads
open Go.ChangeShapes Go.WideShapes Go.ChangeAt Go.RowKit
open Go.ChangeMaps (open_string shut_string)
set_option linter.unusedVariables false
set_option linter.unusedSimpArgs false
noncomputable section
def orc : List Ev.Ent := [⟨11, [], .bool (.lit true)⟩, ⟨8, [.int .u32 (.atom 60)], .tuple [insAV (.atom 11), .int .i64 (.atom 21)]⟩, ⟨9, [.int .u32 (.atom 60)], .tuple [insAV (.atom 11), .bool (.atom 20)]⟩]
def told : Ev.SB := .ite (.ite (.ite (.cmp .eql (.atom 11) (.atom 11)) (.ite (.beq (.atom 0) (.atom 0)) (.ite (.beq (.atom 1) (.atom 1)) (.ite (.cmp .eql (.atom 3) (.atom 3)) (.ite (.cmp .eql (.atom 4) (.atom 4)) (.ite (.cmp .eql (.atom 5) (.atom 5)) (.ite (.cmp .eql (.atom 6) (.atom 6)) (.ite (.cmp .eql (.atom 7) (.atom 7)) (.ite (.cmp .eql (.atom 8) (.atom 8)) (.ite (.cmp .eql (.atom 9) (.atom 9)) (.cmp .eql (.atom 10) (.atom 10)) (.lit false)) (.lit false)) (.lit false)) (.lit false)) (.lit false)) (.lit false)) (.lit false)) (.lit false)) (.lit false)) (.lit false)) (.beq (.cmp .eql (.atom 21) (.lit 0)) (.atom 20)) (.lit false)) (.ite (.atom 20) (.lit true) (.cmp .eql (.atom 21) (.lit 4))) (.lit false)
theorem run (φ : Ev.Val → Prop) : Ev.outV ((Ev.evO Tryd.prog ⟨[], φ⟩ (Ev.orcL orc) 1000 30 (.fn 3) [.int .u32 (.atom 60)]).go .e 0) = some (.bool told) := by kernel_rfl
def lawVal (x : Int) (I : Ins) (o : Bool) : Ev.Val := tabVal (fun k => if k = 60 then x else if k = 21 then (if o then 4 else 0) else (insVal I).i k) fun k => if k = 20 then !o else (insVal I).b k
theorem told_ok (x : Int) (I : Ins) (o : Bool) : told.den (lawVal x I o) = true := by
  cases o <;> simp [told, Ev.SB.den, Ev.SI.den, Ev.cmpI, lawVal, tabVal]
theorem ins_rel (x : Int) (I : Ins) (o : Bool) (μ : Ev.Names) : Ev.rel (lawVal x I o) μ (insAV (.atom 11)) (insV I) := ⟨(insCells I).toList, by simp [insCells, insV], rfl, rfl, rfl, rfl, rfl, rfl, rfl, rfl, rfl, rfl, rfl, trivial⟩
theorem walk (a0 : Int) (w : World) (w0 : (Lit.int .u32 a0).wf = true) (hT : Tab w) :
    Calls Tryd.prog 3 #[.int .u32 a0] w fun e w' => e = .returned (.bool true) ∧ Below w.heap.size w w' := by
  obtain ⟨x0, x1⟩ := bd_u32 w0
  obtain ⟨o, ho⟩ : ∃ o, (dec a0).2 = o := ⟨_, rfl⟩
  obtain ⟨I, hI⟩ : ∃ I, (if o then ins0 else (dec a0).1) = I := ⟨_, rfl⟩
  refine Ev.law_true 1000 30 run (lawVal a0 I o) (fun q hq => by cases hq) ?_ (told_ok a0 I o) [.int .u32 a0] w (tab_base hT _ _) ⟨rfl, trivial⟩
  refine Ev.ents_cons (Ev.EntOk.ofJ rfl [] trivial (v := .bool true) (fun _ => rfl) fun w hJ => known3_any w hJ) ?_
  refine Ev.ents_cons (Ev.EntOk.of rfl [.int .u32 a0] ⟨rfl, trivial⟩ (v := .tuple #[insV I, .int .i64 (if o then 4 else 0)]) (fun μ => ⟨[_, _], rfl, ins_rel a0 I o μ, rfl, trivial⟩) fun W => ?_) ?_
  · have := of_any a0 x0 x1 W
    rw [ho] at this
    unfold OfIs at this
    rw [hI] at this
    exact this
  refine Ev.ents_cons (Ev.EntOk.of rfl [.int .u32 a0] ⟨rfl, trivial⟩ (v := .tuple #[insV I, .bool (!o)]) (fun μ => ⟨[_, _], rfl, ins_rel a0 I o μ, rfl, trivial⟩) fun W => ?_) Ev.ents_nil
  have := rof_any a0 x0 x1 W
  rw [ho] at this
  rw [hI] at this
  exact this
end
theorem own : ownKnob Tryd.prog.godebug = none := by kernel_rfl
theorem laidOut : laidOutB Tryd.prog = true := by kernel_rfl
theorem gTab0 : Tryd.prog.globalNamed "math/bits.deBruijn32tab" = some 1 := by kernel_rfl
theorem gTab1 : Tryd.prog.globalNamed "math/bits.deBruijn64tab" = some 2 := by kernel_rfl
theorem gTab2 : Tryd.prog.globalNamed "internal/strconv.uint64pow10" = some 0 := by kernel_rfl
theorem tables {W : World} (h0 : laidMetH Tryd.prog Rows.isaReadsRow.laid W) : Tab W := by
  have h : laidMet Tryd.prog Rows.isaReadsRow.laid W := h0
  exact Lib.tabIs_of_head (rest := _) gTab2 (by kernel_rfl) Tryd.underlying77 Tryd.underlying67 (by kernel_rfl) (by kernel_rfl) (laidMet.tail (laidMet.tail h))
def lay (l : Array Value) : Obj → Obj
  | .cells _ t frozen => .cells l t frozen
  | o => o
noncomputable def laidWorld (os : Os) : World := { World.holding Tryd.prog os ⟨#[], #[], []⟩ with heap := ((((World.holding Tryd.prog os ⟨#[], #[], []⟩).heap.modify 1 (lay #[.int .u8 0, .int .u8 1, .int .u8 28, .int .u8 2, .int .u8 29, .int .u8 14, .int .u8 24, .int .u8 3, .int .u8 30, .int .u8 22, .int .u8 20, .int .u8 15, .int .u8 25, .int .u8 17, .int .u8 4, .int .u8 8, .int .u8 31, .int .u8 27, .int .u8 13, .int .u8 23, .int .u8 21, .int .u8 19, .int .u8 16, .int .u8 7, .int .u8 26, .int .u8 12, .int .u8 18, .int .u8 6, .int .u8 11, .int .u8 5, .int .u8 10, .int .u8 9])).modify 2 (lay #[.int .u8 0, .int .u8 1, .int .u8 56, .int .u8 2, .int .u8 57, .int .u8 49, .int .u8 28, .int .u8 3, .int .u8 61, .int .u8 58, .int .u8 42, .int .u8 50, .int .u8 38, .int .u8 29, .int .u8 17, .int .u8 4, .int .u8 62, .int .u8 47, .int .u8 59, .int .u8 36, .int .u8 45, .int .u8 43, .int .u8 51, .int .u8 22, .int .u8 53, .int .u8 39, .int .u8 33, .int .u8 30, .int .u8 24, .int .u8 18, .int .u8 12, .int .u8 5, .int .u8 63, .int .u8 55, .int .u8 48, .int .u8 27, .int .u8 60, .int .u8 41, .int .u8 37, .int .u8 16, .int .u8 46, .int .u8 35, .int .u8 44, .int .u8 21, .int .u8 52, .int .u8 32, .int .u8 23, .int .u8 11, .int .u8 54, .int .u8 26, .int .u8 40, .int .u8 15, .int .u8 34, .int .u8 20, .int .u8 31, .int .u8 10, .int .u8 25, .int .u8 14, .int .u8 19, .int .u8 9, .int .u8 13, .int .u8 8, .int .u8 7, .int .u8 6])).modify 0 (lay #[.int .u64 1, .int .u64 10, .int .u64 100, .int .u64 1000, .int .u64 10000, .int .u64 100000, .int .u64 1000000, .int .u64 10000000, .int .u64 100000000, .int .u64 1000000000, .int .u64 10000000000, .int .u64 100000000000, .int .u64 1000000000000, .int .u64 10000000000000, .int .u64 100000000000000, .int .u64 1000000000000000, .int .u64 10000000000000000, .int .u64 100000000000000000, .int .u64 1000000000000000000, .int .u64 10000000000000000000])) }
theorem laid_met (os : Os) : laidMet Tryd.prog Rows.isaReadsRow.laid ((laidWorld os).forCall (fun _ _ => 0) ⟨#[], #[.int .u32 0], []⟩).memory := laidMet_of_run' 8 (by kernel_rfl) (by kernel_rfl)
theorem reads (os : Os) {H : Type} (enc : TypeId × Value → H) : ∃ places, DataW.whole enc Tryd.prog ((laidWorld os).forCall (fun _ _ => 0) ⟨#[], #[.int .u32 0], []⟩).memory Tryd.f3.params.toList Rows.isaReadsSpec.vars false (#[.int .u32 0] : Array Value).toList 8 = some ([.lit (.int .u32 0)], [], places) := ⟨[], by kernel_rfl⟩
theorem contract (H : Type) (enc : TypeId × Value → H) (W : World) (base : Nat) (args : Array Value) (ds gs : List (DataW H)) (before : List MemPlace)
    (hval : ∀ (j : Nat) t v, Tryd.f3.params[j]? = some t → args[j]? = some v → Value.okWide Tryd.prog W .any base t v)
    (hW : DataW.Whole enc Tryd.prog Tryd.f3.params.toList Rows.isaReadsSpec.vars false W args.toList ds gs before) (hL : laidMetH Tryd.prog Rows.isaReadsRow.laid W) :
    Calls Tryd.prog 3 args W fun e W' => ∃ v, e = .returned v ∧ Rows.isaReadsSpec.post enc Tryd.prog Tryd.f3 false true false false W args v W' := by
  have hW' := hW
  obtain ⟨p, q, hA0, hV, rfl, hfz, hnd⟩ := hW
  have hA : DataW.TrodAll enc Tryd.prog W 0 (fun _ => true) true Tryd.f3.params.toList args.toList ds p := hA0
  rw [Tryd.params3] at hA hval
  obtain ⟨v0, vs0, d0, ds0, p0, q0, hargs, rfl, rfl, h0, r0⟩ := trodAll_cons hA
  obtain ⟨rfl, rfl, rfl⟩ := trodAll_nil r0
  obtain rfl : args = #[v0] := by cases args; simp_all
  obtain ⟨rfl, rfl⟩ := trodVars_none hV
  obtain ⟨a0, rfl, rfl, rfl, w0⟩ := open_int Tryd.underlying22 (hval 0 22 v0 rfl rfl) h0
  clear hA0
  have hT := tables hL
  refine (walk a0 W w0 hT).mono fun e W' ⟨he, bel⟩ => ?_
  subst he
  exact ⟨_, rfl, _, _, _, [], _, [], hW', trodAll_mk1 (shut_bool Tryd.underlying4 _), (trodAll_cons_mk (shut_int Tryd.underlying22 w0) trodAll_mk0), rfl, bel.frame _, fun h => by cases h⟩
set_option maxRecDepth 100000 in
theorem lifted (os : Os) (started : os.Started) (H : Type) (enc : TypeId × Value → H) (F : Stop.Interp) :
    ReturnsInHanded {} Tryd.checked os 3 .any ((OpenSpec.ofChange Rows.isaReadsSpec).preRow enc Tryd.prog Tryd.f3 Rows.isaReadsRow.domain false Rows.isaReadsRow.laid) (((OpenSpec.ofChange Rows.isaReadsSpec).at F).post enc Tryd.prog Tryd.f3 false true false false) := by
  obtain ⟨places, hx⟩ := reads os enc
  refine returnsInHanded_of_row (C := Tryd.checked) (s := OpenSpec.ofChange Rows.isaReadsSpec) own started (by kernel_rfl) Tryd.func3
    (witness_row_at (enc := enc) (C := Tryd.checked) false (laidWorld os) #[.int .u32 0] rfl (by kernel_rfl) (by kernel_rfl) (by kernel_rfl)
      (OpenSpec.preRow_of_cond 8 hx (by kernel_rfl) (fun k hk => by cases hk) (by kernel_rfl) (laid_met os))) ?_
  intro W base args ds gs before hval hW _ _ _ hL _ _
  exact contract H enc W base args ds gs before hval hW hL
theorem said : Rows.IsaReadsSaid :=
  OpenClaim.holds_of_cond 3 Tryd.f3 rfl rfl rfl rfl rfl rfl rfl ⟨rfl, rfl, rfl, rfl, rfl⟩ rfl rfl rfl rfl rfl (by kernel_rfl) Tryd.func3 (by kernel_rfl)
    (of_decide_eq_true (by kernel_rfl)) (by unfold Func.isWrapper; first | (rw [if_pos (by decide +kernel)]; kernel_rfl) | (rw [if_neg (by decide +kernel)]; exact ⟨rfl, rfl⟩))
    (fun os started H enc _ F => by rw [OpenClaim.pre_eq_preRow]; exact lifted os started H enc F)
theorem plain (f : FuncId) (fn : Func) (hf : Tryd.pinned.checked.prog.funcNamed "selfsame/selfsamelaw03.IsaReads" = some f) (hfn : Tryd.pinned.checked.prog.funcs[f]? = some fn) :
    false = Tryd.pinned.checked.prog.looks [] ∧ ∀ (j : Nat) t, fn.params[j]? = some t → Tryd.pinned.checked.prog.wantsStandIn t = false := by
  obtain rfl : f = 3 := Option.some.inj ((show Tryd.prog.funcNamed "selfsame/selfsamelaw03.IsaReads" = some 3 by kernel_rfl).symm.trans hf) |>.symm
  obtain rfl : fn = Tryd.f3 := (Option.some.inj (Tryd.func3.symm.trans hfn)).symm
  refine ⟨by kernel_rfl, fun j t ht => ?_⟩
  rw [Tryd.params3] at ht
  have hm := Array.mem_of_getElem? ht
  simp only [List.mem_toArray, List.mem_cons, List.not_mem_nil, or_false] at hm
  rcases hm with rfl
  · exact (show Tryd.prog.wantsStandIn 22 = false by kernel_rfl)
theorem proved : Rows.IsaReadsCardSaid :=
  Claim7.holds_tied_plain_at .later [] _ _ _ _ said (fun _ h => by cases h) (by kernel_rfl) (fun _ h => by cases h) isaReads_row_tie rfl ⟨rfl, rfl⟩ (by kernel_rfl) rfl plain (by kernel_rfl)
end Go.Proofs.YtgjecfchnokcfaaDoor.isaReads

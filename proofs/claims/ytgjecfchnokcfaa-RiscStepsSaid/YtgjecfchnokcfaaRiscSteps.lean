/-
  RiscSteps: for every processor and every word: a step is the one that the document has. No condition.
-/
import Derived.Test.YtgjecfchnokcfaaRefStep
import Derived.Test.YtgjecfchnokcfaaRiscS
import Derived.Deep.DeepHandedRow
import Derived.Carry
import Derived.Test.YtgjecfchnokcfaaInv
namespace Go.Proofs.Ytgjecfchnokcfaa.riscSteps
open Go.ChangeShapes Go.WideShapes Go.ChangeAt Go.RowKit
open Go.ChangeMaps (open_string shut_string)
set_option linter.unusedVariables false
set_option linter.unusedSimpArgs false
noncomputable section
open rdo (con_ok no_ok)
def cpuA : Ev.AV := .agg [.int .u32 (.atom 100), .int .u32 (.atom 101), .int .u32 (.atom 102), .int .u32 (.atom 103), .int .u32 (.atom 104), .int .u32 (.atom 105), .int .u32 (.atom 106), .int .u32 (.atom 107), .int .u32 (.atom 108), .int .u32 (.atom 109), .int .u32 (.atom 110), .int .u32 (.atom 111), .int .u32 (.atom 112), .int .u32 (.atom 113), .int .u32 (.atom 114), .int .u32 (.atom 115), .int .u32 (.atom 116), .bool (.atom 10), .bool (.atom 11), .bool (.atom 12), .bool (.atom 13), .int .u32 (.atom 117)]
def cpuB : Ev.AV := .agg [.int .u32 (.atom 200), .int .u32 (.atom 201), .int .u32 (.atom 202), .int .u32 (.atom 203), .int .u32 (.atom 204), .int .u32 (.atom 205), .int .u32 (.atom 206), .int .u32 (.atom 207), .int .u32 (.atom 208), .int .u32 (.atom 209), .int .u32 (.atom 210), .int .u32 (.atom 211), .int .u32 (.atom 212), .int .u32 (.atom 213), .int .u32 (.atom 214), .int .u32 (.atom 215), .int .u32 (.atom 216), .bool (.atom 60), .bool (.atom 61), .bool (.atom 62), .bool (.atom 63), .int .u32 (.atom 217)]
def evA : Ev.AV := .agg [.int .i64 (.atom 300), .int .u32 (.atom 301), .bool (.atom 66), .int .i64 (.atom 302), .int .u32 (.atom 303), .int .i64 (.atom 304)]
def lawOrc : List Ev.Ent := [⟨12, [], .bool (.lit true)⟩, ⟨10, [cpuA, .int .u32 (.atom 160)], .tuple [cpuB, evA]⟩, ⟨11, [cpuA, .int .u32 (.atom 160)], .tuple [cpuB, evA]⟩]
def endB : Ev.SB := .ite (.ite (.ite (.cmp .eql (.atom 200) (.atom 200)) (.ite (.cmp .eql (.atom 201) (.atom 201)) (.ite (.cmp .eql (.atom 202) (.atom 202)) (.ite (.cmp .eql (.atom 203) (.atom 203)) (.ite (.cmp .eql (.atom 204) (.atom 204)) (.ite (.cmp .eql (.atom 205) (.atom 205)) (.ite (.cmp .eql (.atom 206) (.atom 206)) (.ite (.cmp .eql (.atom 207) (.atom 207)) (.ite (.cmp .eql (.atom 208) (.atom 208)) (.ite (.cmp .eql (.atom 209) (.atom 209)) (.ite (.cmp .eql (.atom 210) (.atom 210)) (.ite (.cmp .eql (.atom 211) (.atom 211)) (.ite (.cmp .eql (.atom 212) (.atom 212)) (.ite (.cmp .eql (.atom 213) (.atom 213)) (.ite (.cmp .eql (.atom 214) (.atom 214)) (.cmp .eql (.atom 215) (.atom 215)) (.lit false)) (.lit false)) (.lit false)) (.lit false)) (.lit false)) (.lit false)) (.lit false)) (.lit false)) (.lit false)) (.lit false)) (.lit false)) (.lit false)) (.lit false)) (.lit false)) (.lit false)) (.ite (.cmp .eql (.atom 216) (.atom 216)) (.ite (.beq (.atom 60) (.atom 60)) (.ite (.beq (.atom 61) (.atom 61)) (.ite (.beq (.atom 62) (.atom 62)) (.ite (.beq (.atom 63) (.atom 63)) (.cmp .eql (.atom 217) (.atom 217)) (.lit false)) (.lit false)) (.lit false)) (.lit false)) (.lit false)) (.lit false)) (.ite (.cmp .eql (.atom 300) (.atom 300)) (.ite (.cmp .eql (.atom 301) (.atom 301)) (.ite (.beq (.atom 66) (.atom 66)) (.ite (.cmp .eql (.atom 302) (.atom 302)) (.ite (.cmp .eql (.atom 303) (.atom 303)) (.cmp .eql (.atom 304) (.atom 304)) (.lit false)) (.lit false)) (.lit false)) (.lit false)) (.lit false)) (.lit false)
theorem run (φ : Ev.Val → Prop) : Ev.outV ((Ev.evO Try.prog ⟨[], φ⟩ (Ev.orcL lawOrc) 1000 30 (.fn 3) [cpuA, .int .u32 (.atom 160)]).go .e 0) = some (.bool endB) := by kernel_rfl
def lawVal (C C' : Cpu) (x k pl : Int) (by_ : Bool) (reg val n : Int) : Ev.Val := Ev.Val.of
  (fun j => if j < 116 then C.r (j - 100) else if j = 116 then C.h else if j = 117 then C.pc else if j = 160 then x else if j < 216 then C'.r (j - 200) else if j = 216 then C'.h else if j = 217 then C'.pc else if j = 300 then k else if j = 301 then pl else if j = 302 then reg else if j = 303 then val else n)
  (fun j => if j = 10 then C.n else if j = 11 then C.z else if j = 12 then C.c else if j = 13 then C.v else if j = 60 then C'.n else if j = 61 then C'.z else if j = 62 then C'.c else if j = 63 then C'.v else by_)
section
variable {C C' : Cpu} {x k pl : Int} {by_ : Bool} {reg val n : Int}
theorem cpuA_rel (μ : Ev.Names) : Ev.rel (lawVal C C' x k pl by_ reg val n) μ cpuA (.agg (cpuCells C)) := ⟨(cpuCells C).toList, by simp, rfl, rfl, rfl, rfl, rfl, rfl, rfl, rfl, rfl, rfl, rfl, rfl, rfl, rfl, rfl, rfl, rfl, rfl, rfl, rfl, rfl, rfl, trivial⟩
theorem cpuB_rel (μ : Ev.Names) : Ev.rel (lawVal C C' x k pl by_ reg val n) μ cpuB (.agg (cpuCells C')) := ⟨(cpuCells C').toList, by simp, rfl, rfl, rfl, rfl, rfl, rfl, rfl, rfl, rfl, rfl, rfl, rfl, rfl, rfl, rfl, rfl, rfl, rfl, rfl, rfl, rfl, rfl, trivial⟩
theorem evA_rel (μ : Ev.Names) : Ev.rel (lawVal C C' x k pl by_ reg val n) μ evA (.agg (evCells k pl by_ reg val n)) := ⟨(evCells k pl by_ reg val n).toList, by simp, rfl, rfl, rfl, rfl, rfl, rfl, trivial⟩
end
theorem eqI_den (ρ : Ev.Val) (j : Nat) : (Ev.SB.cmp .eql (.atom j) (.atom j)).den ρ = true := by simp [Ev.SB.den, Ev.SI.den, Ev.cmpI]
theorem eqB_den (ρ : Ev.Val) (j : Nat) : (Ev.SB.beq (.atom j) (.atom j)).den ρ = true := by simp [Ev.SB.den]
theorem and_den (ρ : Ev.Val) (a b : Ev.SB) (h : a.den ρ = true) (g : b.den ρ = true) : (Ev.SB.ite a b (.lit false)).den ρ = true := by
  show (bif a.den ρ then b.den ρ else false) = true
  rw [h, g]; rfl
theorem end_den (ρ : Ev.Val) : endB.den ρ = true := by
  unfold endB
  repeat' (first | exact eqI_den _ _ | exact eqB_den _ _ | refine and_den _ _ _ ?_ ?_)
theorem steps_of (C C' : Cpu) (x k pl : Int) (by_ : Bool) (reg val n : Int)
    (hs : ∀ W, Calls Try.prog 10 #[.agg (cpuCells C), .int .u32 x] W (StepIs C' k pl by_ reg val n W))
    (hr : ∀ W, Calls Try.prog 11 #[.agg (cpuCells C), .int .u32 x] W (StepIs C' k pl by_ reg val n W)) (w : World) :
    Calls Try.prog 3 #[.agg (cpuCells C), .int .u32 x] w fun e w' => e = .returned (.bool true) ∧ Below w.heap.size w w' := by
  refine Ev.law_true 1000 30 run (lawVal C C' x k pl by_ reg val n) no_ok ?_ (end_den _) [.agg (cpuCells C), .int .u32 x] w ⟨trivial, Nat.zero_le _⟩ ⟨cpuA_rel _, rfl, trivial⟩
  refine Ev.ents_cons (Ev.EntOk.of rfl [] trivial (v := .bool true) (fun _ => rfl) known4_any) ?_
  refine Ev.ents_cons (Ev.EntOk.of rfl [.agg (cpuCells C), .int .u32 x] ⟨cpuA_rel _, rfl, trivial⟩ (v := .tuple #[.agg (cpuCells C'), .agg (evCells k pl by_ reg val n)]) (fun μ => ⟨[_, _], rfl, cpuB_rel μ, evA_rel μ, trivial⟩) hs) ?_
  exact Ev.ents_cons (Ev.EntOk.of rfl [.agg (cpuCells C), .int .u32 x] ⟨cpuA_rel _, rfl, trivial⟩ (v := .tuple #[.agg (cpuCells C'), .agg (evCells k pl by_ reg val n)]) (fun μ => ⟨[_, _], rfl, cpuB_rel μ, evA_rel μ, trivial⟩) hr) Ev.ents_nil
theorem steps_op (C D : Cpu) (x : Int) (o : Option Cpu)
    (hs : ∀ W, Calls Try.prog 10 #[.agg (cpuCells C), .int .u32 x] W (OpIs D o W))
    (hr : ∀ W, Calls Try.prog 11 #[.agg (cpuCells C), .int .u32 x] W (OpIs D o W)) (w : World) :
    Calls Try.prog 3 #[.agg (cpuCells C), .int .u32 x] w fun e w' => e = .returned (.bool true) ∧ Below w.heap.size w w' := by
  cases o with
  | some c => exact steps_of C c x 0 0 false 0 0 0 hs hr w
  | none => exact steps_of C D x 5 0 false 0 0 0 hs hr w
theorem walk (c : Cpu) (x : Int) (w : World) (wf : CpuWf c) (w1 : (Lit.int .u32 x).wf = true) :
    Calls Try.prog 3 #[.agg (cpuCells c), .int .u32 x] w fun e w' => e = .returned (.bool true) ∧ Below w.heap.size w w' := by
  obtain ⟨x0, x1⟩ := bd_u32 w1
  cases hd : (dec x).2 with
  | true => exact steps_of c (nextC c) x 5 0 false 0 0 0 (fun W => step_odd c x x0 x1 hd W) (fun W => rstep_odd c x wf x0 x1 hd W) w
  | false =>
    obtain ⟨k, hk, hh⟩ := dec_hit x x0 x1 hd
    have he : dec x = (rof.cand x k, false) := hit_dec x k hk hh
    have m : MayIs (rof.cand x k) := by
      unfold rof.hit at hh
      rw [Bool.and_eq_true] at hh
      exact may_is _ hh.1
    generalize hI : rof.cand x k = I at he m
    clear hI hh hk hd
    have f0 := m.f0
    have f1 := m.f1
    have a0 := m.a0
    have a1 := m.a1
    have b0 := m.b0
    have b1 := m.b1
    have c0 := m.c0
    have c1 := m.c1
    have k0 := m.k0
    have k1 := m.k1
    have hcase : I.form = 0 ∨ I.form = 1 ∨ I.form = 2 ∨ I.form = 3 ∨ I.form = 4 ∨ I.form = 5 ∨ I.form = 6 := by omega
    rcases hcase with hf | hf | hf | hf | hf | hf | hf
    · exact steps_op c (nextC c) x _ (fun W => step_reg c x I x0 x1 he wf.r wf.h I.a.toNat I.b.toNat I.c.toNat (by omega) (by omega) (by omega) (by omega) (by omega) (by omega) m.o0 m.o1 hf W) (fun W => rstep_reg c x I wf x0 x1 he m hf W) w
    · exact steps_op c (nextC c) x _ (fun W => step_im c x I x0 x1 he wf.r I.a.toNat I.b.toNat (by omega) (by omega) (by omega) (by omega) m.m0 m.m1 m.o0 m.o1 hf W) (fun W => rstep_im c x I wf x0 x1 he m hf W) w
    · obtain ⟨_, _, _, _, _, _, l0, l1⟩ := m.l (.inl hf)
      refine steps_of c (nextC c) x _ _ _ _ _ _ (fun W => ?_) (fun W => rstep_load c x I wf x0 x1 he m hf W) w
      obtain ⟨fo, u, v, a, b, ci, op, im, off, cond, n⟩ := I
      dsimp only at *
      subst hf
      exact step_load c x u v a b ci op im off cond n x0 x1 he wf.r b.toNat (by omega) (by omega) l0 l1 W
    · obtain ⟨_, _, _, _, _, _, l0, l1⟩ := m.l (.inr hf)
      refine steps_of c (nextC c) x _ _ _ _ _ _ (fun W => ?_) (fun W => rstep_store c x I wf x0 x1 he m hf W) w
      obtain ⟨fo, u, v, a, b, ci, op, im, off, cond, n⟩ := I
      dsimp only at *
      subst hf
      exact step_store c x u v a b ci op im off cond n x0 x1 he wf.r a.toNat b.toNat (by omega) (by omega) (by omega) (by omega) W
    · obtain ⟨_, _, _, _, _, _, _, l0, l1⟩ := m.j hf
      exact steps_of c _ x _ _ _ _ _ _ (fun W => step_jump4 c x I x0 x1 he wf.r I.c.toNat I.cond.toNat (by omega) (by omega) (by omega) (by omega) l0 l1 hf W) (fun W => rstep_jump4 c x I wf x0 x1 he m hf W) w
    · obtain ⟨_, _, _, _, _, hoff, _, _⟩ := m.t hf
      exact steps_of c _ x _ _ _ _ _ _ (fun W => step_jump5 c x I x0 x1 he wf.r I.c.toNat I.cond.toNat (by omega) (by omega) (by omega) (by omega) (by omega) (by omega) hf W) (fun W => rstep_jump5 c x I wf x0 x1 he m hf W) w
    · exact steps_of c _ x _ _ _ _ _ _ (fun W => step_sys c x I x0 x1 he I.cond.toNat (by omega) (by omega) hf W) (fun W => rstep_sys c x I wf x0 x1 he m hf W) w
end
theorem own : ownKnob Try.prog.godebug = none := by kernel_rfl
theorem laidOut : laidOutB Try.prog = true := by kernel_rfl
set_option maxRecDepth 1000000 in
theorem contract (H : Type) (enc : TypeId × Value → H) (W : World) (base : Nat) (args : Array Value) (ds gs : List (DataW H)) (before : List MemPlace)
    (hval : ∀ (j : Nat) t v, Try.f3.params[j]? = some t → args[j]? = some v → Value.okWide Try.prog W .any base t v)
    (hW : DataW.Whole enc Try.prog Try.f3.params.toList Rows.riscStepsSpec.vars false W args.toList ds gs before) :
    Calls Try.prog 3 args W fun e W' => ∃ v, e = .returned v ∧ Rows.riscStepsSpec.post enc Try.prog Try.f3 false true false false W args v W' := by
  have hW' := hW
  obtain ⟨p, q, hA0, hV, rfl, hfz, hnd⟩ := hW
  have hA : DataW.TrodAll enc Try.prog W 0 (fun _ => true) true Try.f3.params.toList args.toList ds p := hA0
  rw [Try.params3] at hA hval
  obtain ⟨v0, vs0, d0, ds0, p0, q0, hargs, rfl, rfl, h0, r0⟩ := trodAll_cons hA
  obtain ⟨v1, vs1, d1, ds1, p1, q1, rfl, rfl, rfl, h1, r1⟩ := trodAll_cons r0
  obtain ⟨rfl, rfl, rfl⟩ := trodAll_nil r1
  obtain rfl : args = #[v0, v1] := by cases args; simp_all
  obtain ⟨rfl, rfl⟩ := trodVars_none hV
  obtain ⟨a0, rfl, w0⟩ := open_cpu (hval 0 25 v0 rfl rfl)
  have k0 := h0
  have lt0 : ∀ x ∈ p0, x.block < W.heap.size := by obtain ⟨m, hm⟩ := k0; exact DataW.trod_lt m _ _ _ hm
  obtain ⟨a1, rfl, rfl, rfl, w1⟩ := open_int Try.underlying22 (hval 1 22 v1 rfl rfl) h1
  clear hA0
  refine (walk a0 a1 W w0 w1).mono fun e W' ⟨he, bel⟩ => ?_
  subst he
  exact ⟨_, rfl, _, _, _, [], _, [], hW', trodAll_mk1 (shut_bool Try.underlying4 _), (trodAll_cons_mk (Below.trod laidOut (by kernel_rfl) (of_decide_eq_true (by kernel_rfl)) k0 bel lt0) (trodAll_cons_mk (shut_int Try.underlying22 w1) trodAll_mk0)), rfl, bel.frame _, fun h => by cases h⟩
set_option maxRecDepth 100000 in
theorem lifted (os : Os) (started : os.Started) (H : Type) (enc : TypeId × Value → H) :
    ReturnsInHanded {} Try.checked os 3 .any (Rows.riscStepsSpec.pre6 enc Try.prog Try.f3 Rows.riscStepsRow.domain false) (Rows.riscStepsSpec.post enc Try.prog Try.f3 false true false false) := by
  refine returnsInHanded_of_change (C := Try.checked) own started (by kernel_rfl) Try.func3
    (ChangeSpec.witness6 (enc := enc) (C := Try.checked) false ⟨#[], #[.agg #[.int .u32 0, .int .u32 0, .int .u32 0, .int .u32 0, .int .u32 0, .int .u32 0, .int .u32 0, .int .u32 0, .int .u32 0, .int .u32 0, .int .u32 0, .int .u32 0, .int .u32 0, .int .u32 0, .int .u32 0, .int .u32 0, .int .u32 0, .bool false, .bool false, .bool false, .bool false, .int .u32 0], .int .u32 0], []⟩ 8 (by kernel_rfl) (by kernel_rfl) (by kernel_rfl) (by kernel_rfl)) ?_
  intro W base args ds gs before hval hW hcnd _
  exact contract H enc W base args ds gs before hval hW
theorem said : Rows.RiscStepsSaid :=
  OpenClaim.holds_of_wide 3 Try.f3 rfl rfl rfl rfl rfl rfl rfl ⟨rfl, rfl, rfl, rfl, rfl⟩ rfl rfl rfl rfl rfl (by kernel_rfl) Try.func3 (by kernel_rfl)
    (of_decide_eq_true (by kernel_rfl)) (by unfold Func.isWrapper; first | (rw [if_pos (by decide +kernel)]; kernel_rfl) | (rw [if_neg (by decide +kernel)]; exact ⟨rfl, rfl⟩))
    (fun os started H enc _ => lifted os started H enc)
theorem proved : Rows.RiscStepsSaid := said
end Go.Proofs.Ytgjecfchnokcfaa.riscSteps

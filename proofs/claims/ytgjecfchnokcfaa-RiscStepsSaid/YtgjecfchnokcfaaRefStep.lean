/-
  The contract of the document's answer for a step: Step of layer 4's reference tells and leaves what package risc's Step does.
-/
import Derived.Test.YtgjecfchnokcfaaRefDo
import Derived.Test.YtgjecfchnokcfaaRiscK
namespace Go.Proofs.Ytgjecfchnokcfaa
open Go.ChangeShapes Go.WideShapes Go.ChangeAt Go.RowKit
set_option linter.unusedVariables false
set_option linter.unusedSimpArgs false
noncomputable section
namespace rsp
open rdo (con_ok no_ok DoIs insF)
def cpuA : Ev.AV := .agg [.int .u32 (.atom 100), .int .u32 (.atom 101), .int .u32 (.atom 102), .int .u32 (.atom 103), .int .u32 (.atom 104), .int .u32 (.atom 105), .int .u32 (.atom 106), .int .u32 (.atom 107), .int .u32 (.atom 108), .int .u32 (.atom 109), .int .u32 (.atom 110), .int .u32 (.atom 111), .int .u32 (.atom 112), .int .u32 (.atom 113), .int .u32 (.atom 114), .int .u32 (.atom 115), .int .u32 (.atom 116), .bool (.atom 10), .bool (.atom 11), .bool (.atom 12), .bool (.atom 13), .int .u32 (.atom 117)]
def cpuN : Ev.AV := .agg [.int .u32 (.atom 100), .int .u32 (.atom 101), .int .u32 (.atom 102), .int .u32 (.atom 103), .int .u32 (.atom 104), .int .u32 (.atom 105), .int .u32 (.atom 106), .int .u32 (.atom 107), .int .u32 (.atom 108), .int .u32 (.atom 109), .int .u32 (.atom 110), .int .u32 (.atom 111), .int .u32 (.atom 112), .int .u32 (.atom 113), .int .u32 (.atom 114), .int .u32 (.atom 115), .int .u32 (.atom 116), .bool (.atom 10), .bool (.atom 11), .bool (.atom 12), .bool (.atom 13), .int .u32 (.atom 118)]
def cpuB : Ev.AV := .agg [.int .u32 (.atom 200), .int .u32 (.atom 201), .int .u32 (.atom 202), .int .u32 (.atom 203), .int .u32 (.atom 204), .int .u32 (.atom 205), .int .u32 (.atom 206), .int .u32 (.atom 207), .int .u32 (.atom 208), .int .u32 (.atom 209), .int .u32 (.atom 210), .int .u32 (.atom 211), .int .u32 (.atom 212), .int .u32 (.atom 213), .int .u32 (.atom 214), .int .u32 (.atom 215), .int .u32 (.atom 216), .bool (.atom 60), .bool (.atom 61), .bool (.atom 62), .bool (.atom 63), .int .u32 (.atom 217)]
def cpuJt (p : Ev.SI) : Ev.AV := .agg [.int .u32 (.atom 100), .int .u32 (.atom 101), .int .u32 (.atom 102), .int .u32 (.atom 103), .int .u32 (.atom 104), .int .u32 (.atom 105), .int .u32 (.atom 106), .int .u32 (.atom 107), .int .u32 (.atom 108), .int .u32 (.atom 109), .int .u32 (.atom 110), .int .u32 (.atom 111), .int .u32 (.atom 112), .int .u32 (.atom 113), .int .u32 (.atom 114), .int .u32 (.atom 163), .int .u32 (.atom 116), .bool (.atom 10), .bool (.atom 11), .bool (.atom 12), .bool (.atom 13), .int .u32 p]
def cpuJf (p : Ev.SI) : Ev.AV := .agg [.int .u32 (.atom 100), .int .u32 (.atom 101), .int .u32 (.atom 102), .int .u32 (.atom 103), .int .u32 (.atom 104), .int .u32 (.atom 105), .int .u32 (.atom 106), .int .u32 (.atom 107), .int .u32 (.atom 108), .int .u32 (.atom 109), .int .u32 (.atom 110), .int .u32 (.atom 111), .int .u32 (.atom 112), .int .u32 (.atom 113), .int .u32 (.atom 114), .int .u32 (.atom 115), .int .u32 (.atom 116), .bool (.atom 10), .bool (.atom 11), .bool (.atom 12), .bool (.atom 13), .int .u32 p]
def ins0A : Ev.AV := .agg [.int .i64 (.lit 0), .bool (.lit false), .bool (.lit false), .int .i64 (.lit 0), .int .i64 (.lit 0), .int .i64 (.lit 0), .int .i64 (.lit 0), .int .i64 (.lit 0), .int .i64 (.lit 0), .int .i64 (.lit 0), .int .i64 (.lit 0)]
def ev (k : Int) (pl : Ev.SI) (b : Ev.SB) (r v n : Ev.SI) : Ev.AV := .agg [.int .i64 (.lit k), .int .u32 pl, .bool b, .int .i64 r, .int .u32 v, .int .i64 n]
def ev0 (k : Int) : Ev.AV := ev k (.lit 0) (.lit false) (.lit 0) (.lit 0) (.lit 0)
def pcI : Ev.SI := .bin .add .i64 (.wrap .i64 (.atom 117)) (.lit 1)
def plI : Ev.SI := .bin .add .i64 (.wrap .i64 (.sel 100 (.atom 4))) (.atom 8)
def toI : Ev.SI := .bin .add .i64 (.wrap .i64 (.atom 118)) (.atom 8)
def lkI : Ev.SI := .bin .mul .i64 (.lit 4) (.wrap .i64 (.atom 118))
def quI : Ev.SI := .bin .quo .u32 (.sel 100 (.atom 5)) (.lit 4)
def wordE (s : Ev.SI) (k : Nat) : Ev.Ent := ⟨23, [.int .i64 s], .int .u32 (.atom k)⟩
def ofE (i : Ev.AV) (ok : Bool) : Ev.Ent := ⟨33, [.int .u32 (.atom 160)], .tuple [i, .bool (.lit ok)]⟩
def doE (f : Nat) (c : Ev.AV) (ok : Bool) : Ev.Ent := ⟨34, [cpuN, insF f], .tuple [c, .bool (.lit ok)]⟩
def hoE : Ev.Ent := ⟨16, [cpuA, .int .i64 (.atom 9)], .bool (.atom 90)⟩
def oOdd : List Ev.Ent := [wordE pcI 118, ofE ins0A false]
def oDo (f : Nat) (c : Ev.AV) (ok : Bool) : List Ev.Ent := [wordE pcI 118, ofE (insF f) true, doE f c ok]
def oMem (f : Nat) : List Ev.Ent := [wordE pcI 118, ofE (insF f) true, wordE plI 161]
def oCond (f : Nat) : List Ev.Ent := [wordE pcI 118, ofE (insF f) true, hoE, wordE toI 162, wordE lkI 163]
def lA : List (Ev.SB × Bool) := [(.cmp .lss (.atom 3) (.lit 0), false), (.cmp .lss (.atom 3) (.lit 16), true)]
def lB (l : List (Ev.SB × Bool)) : List (Ev.SB × Bool) := (.cmp .lss (.atom 4) (.lit 0), false) :: (.cmp .lss (.atom 4) (.lit 16), true) :: l
def lC : List (Ev.SB × Bool) := [(.cmp .lss (.atom 5) (.lit 0), false), (.cmp .lss (.atom 5) (.lit 16), true)]
theorem runOdd (φ : Ev.Val → Prop) : Ev.outV ((Ev.evO Try.prog ⟨[], φ⟩ (Ev.orcL (oOdd)) 1000 30 (.fn 11) [cpuA, .int .u32 (.atom 160)]).go .e 0) = some (.tuple [cpuN, ev0 5]) := by kernel_rfl
theorem runDo0t (φ : Ev.Val → Prop) : Ev.outV ((Ev.evO Try.prog ⟨[], φ⟩ (Ev.orcL (oDo 0 cpuB true)) 1000 30 (.fn 11) [cpuA, .int .u32 (.atom 160)]).go .e 0) = some (.tuple [cpuB, ev0 0]) := by kernel_rfl
theorem runDo0f (φ : Ev.Val → Prop) : Ev.outV ((Ev.evO Try.prog ⟨[], φ⟩ (Ev.orcL (oDo 0 cpuN false)) 1000 30 (.fn 11) [cpuA, .int .u32 (.atom 160)]).go .e 0) = some (.tuple [cpuN, ev0 5]) := by kernel_rfl
theorem runDo1t (φ : Ev.Val → Prop) : Ev.outV ((Ev.evO Try.prog ⟨[], φ⟩ (Ev.orcL (oDo 1 cpuB true)) 1000 30 (.fn 11) [cpuA, .int .u32 (.atom 160)]).go .e 0) = some (.tuple [cpuB, ev0 0]) := by kernel_rfl
theorem runDo1f (φ : Ev.Val → Prop) : Ev.outV ((Ev.evO Try.prog ⟨[], φ⟩ (Ev.orcL (oDo 1 cpuN false)) 1000 30 (.fn 11) [cpuA, .int .u32 (.atom 160)]).go .e 0) = some (.tuple [cpuN, ev0 5]) := by kernel_rfl
theorem runLd (φ : Ev.Val → Prop) : Ev.outV ((Ev.evO Try.prog ⟨lB [], φ⟩ (Ev.orcL (oMem 2)) 1000 30 (.fn 11) [cpuA, .int .u32 (.atom 160)]).go .e 0) = some (.tuple [cpuN, ev 1 (.atom 161) (.atom 1) (.atom 3) (.lit 0) (.lit 0)]) := by kernel_rfl
theorem runStt (φ : Ev.Val → Prop) : Ev.outV ((Ev.evO Try.prog ⟨(.atom 1, true) :: lB lA, φ⟩ (Ev.orcL (oMem 3)) 1000 30 (.fn 11) [cpuA, .int .u32 (.atom 160)]).go .e 0) = some (.tuple [cpuN, ev 2 (.atom 161) (.atom 1) (.atom 4) (.bin .rem .u32 (.sel 100 (.atom 3)) (.lit 256)) (.lit 0)]) := by kernel_rfl
theorem runStf (φ : Ev.Val → Prop) : Ev.outV ((Ev.evO Try.prog ⟨(.atom 1, false) :: lB lA, φ⟩ (Ev.orcL (oMem 3)) 1000 30 (.fn 11) [cpuA, .int .u32 (.atom 160)]).go .e 0) = some (.tuple [cpuN, ev 2 (.atom 161) (.atom 1) (.atom 4) (.sel 100 (.atom 3)) (.lit 0)]) := by kernel_rfl
theorem runNo4 (φ : Ev.Val → Prop) : Ev.outV ((Ev.evO Try.prog ⟨[(.atom 90, false)], φ⟩ (Ev.orcL (oCond 4)) 1000 30 (.fn 11) [cpuA, .int .u32 (.atom 160)]).go .e 0) = some (.tuple [cpuN, ev0 0]) := by kernel_rfl
theorem runNo5 (φ : Ev.Val → Prop) : Ev.outV ((Ev.evO Try.prog ⟨[(.atom 90, false)], φ⟩ (Ev.orcL (oCond 5)) 1000 30 (.fn 11) [cpuA, .int .u32 (.atom 160)]).go .e 0) = some (.tuple [cpuN, ev0 0]) := by kernel_rfl
theorem runNo6 (φ : Ev.Val → Prop) : Ev.outV ((Ev.evO Try.prog ⟨[(.atom 90, false)], φ⟩ (Ev.orcL (oCond 6)) 1000 30 (.fn 11) [cpuA, .int .u32 (.atom 160)]).go .e 0) = some (.tuple [cpuN, ev0 0]) := by kernel_rfl
theorem runJ4t (φ : Ev.Val → Prop) : Ev.outV ((Ev.evO Try.prog ⟨(.atom 90, true) :: (.atom 1, true) :: [], φ⟩ (Ev.orcL (oCond 4)) 1000 30 (.fn 11) [cpuA, .int .u32 (.atom 160)]).go .e 0) = some (.tuple [cpuJt (.atom 162), ev0 0]) := by kernel_rfl
theorem runJ4f (φ : Ev.Val → Prop) : Ev.outV ((Ev.evO Try.prog ⟨(.atom 90, true) :: (.atom 1, false) :: [], φ⟩ (Ev.orcL (oCond 4)) 1000 30 (.fn 11) [cpuA, .int .u32 (.atom 160)]).go .e 0) = some (.tuple [cpuJf (.atom 162), ev0 0]) := by kernel_rfl
theorem runJ5t (φ : Ev.Val → Prop) : Ev.outV ((Ev.evO Try.prog ⟨(.atom 90, true) :: (.atom 1, true) :: lC, φ⟩ (Ev.orcL (oCond 5)) 1000 30 (.fn 11) [cpuA, .int .u32 (.atom 160)]).go .e 0) = some (.tuple [cpuJt quI, ev0 0]) := by kernel_rfl
theorem runJ5f (φ : Ev.Val → Prop) : Ev.outV ((Ev.evO Try.prog ⟨(.atom 90, true) :: (.atom 1, false) :: lC, φ⟩ (Ev.orcL (oCond 5)) 1000 30 (.fn 11) [cpuA, .int .u32 (.atom 160)]).go .e 0) = some (.tuple [cpuJf quI, ev0 0]) := by kernel_rfl
theorem runSyt (φ : Ev.Val → Prop) : Ev.outV ((Ev.evO Try.prog ⟨[(.atom 90, true), (.cmp .lss (.atom 10) (.lit 16), true)], φ⟩ (Ev.orcL (oCond 6)) 1000 30 (.fn 11) [cpuA, .int .u32 (.atom 160)]).go .e 0) = some (.tuple [cpuN, ev 3 (.lit 0) (.lit false) (.lit 0) (.lit 0) (.atom 10)]) := by kernel_rfl
theorem runSyf (φ : Ev.Val → Prop) : Ev.outV ((Ev.evO Try.prog ⟨[(.atom 90, true), (.cmp .lss (.atom 10) (.lit 16), false)], φ⟩ (Ev.orcL (oCond 6)) 1000 30 (.fn 11) [cpuA, .int .u32 (.atom 160)]).go .e 0) = some (.tuple [cpuN, ev 4 (.lit 0) (.lit false) (.lit 0) (.lit 0) (.atom 10)]) := by kernel_rfl
def stVal (C C' : Cpu) (I : Ins) (x : Int) : Ev.Val := Ev.Val.of
  (fun k => if k < 100 then (insVal I).i k else if k < 116 then C.r (k - 100) else if k = 116 then C.h else if k = 117 then C.pc else if k = 118 then w32 (C.pc + 1) else if k = 160 then x else if k = 161 then w32 (C.r I.b.toNat + I.off) else if k = 162 then w32 (w32 (C.pc + 1) + I.off) else if k = 163 then w32 (4 * w32 (C.pc + 1)) else if k < 216 then C'.r (k - 200) else if k = 216 then C'.h else C'.pc)
  (fun k => if k < 2 then (insVal I).b k else if k = 10 then C.n else if k = 11 then C.z else if k = 12 then C.c else if k = 13 then C.v else if k = 90 then holdB C I.cond.toNat else if k = 60 then C'.n else if k = 61 then C'.z else if k = 62 then C'.c else C'.v)
section
variable {C C' : Cpu} {I : Ins} {x : Int}
theorem cpuA_rel (μ : Ev.Names) : Ev.rel (stVal C C' I x) μ cpuA (.agg (cpuCells C)) := ⟨(cpuCells C).toList, by simp, rfl, rfl, rfl, rfl, rfl, rfl, rfl, rfl, rfl, rfl, rfl, rfl, rfl, rfl, rfl, rfl, rfl, rfl, rfl, rfl, rfl, rfl, trivial⟩
theorem cpuN_rel (μ : Ev.Names) : Ev.rel (stVal C C' I x) μ cpuN (.agg (cpuCells (nextC C))) := ⟨(cpuCells (nextC C)).toList, by simp, rfl, rfl, rfl, rfl, rfl, rfl, rfl, rfl, rfl, rfl, rfl, rfl, rfl, rfl, rfl, rfl, rfl, rfl, rfl, rfl, rfl, rfl, trivial⟩
theorem cpuB_rel (μ : Ev.Names) : Ev.rel (stVal C C' I x) μ cpuB (.agg (cpuCells C')) := ⟨(cpuCells C').toList, by simp, rfl, rfl, rfl, rfl, rfl, rfl, rfl, rfl, rfl, rfl, rfl, rfl, rfl, rfl, rfl, rfl, rfl, rfl, rfl, rfl, rfl, rfl, trivial⟩
theorem cpuJt_rel (μ : Ev.Names) (p : Ev.SI) (K : Nat) (hv : I.v = true) (hp : p.den (stVal C C' I x) = jumpTo (nextC C) I.form I.off K) : Ev.rel (stVal C C' I x) μ (cpuJt p) (.agg (cpuCells (jumpC (nextC C) I.form I.v I.off K))) := by
  rw [hv]
  exact ⟨(cpuCells (jumpC (nextC C) I.form true I.off K)).toList, by simp, rfl, rfl, rfl, rfl, rfl, rfl, rfl, rfl, rfl, rfl, rfl, rfl, rfl, rfl, rfl, rfl, rfl, rfl, rfl, rfl, rfl, congrArg (Value.int .u32) hp.symm, trivial⟩
theorem cpuJf_rel (μ : Ev.Names) (p : Ev.SI) (K : Nat) (hv : I.v = false) (hp : p.den (stVal C C' I x) = jumpTo (nextC C) I.form I.off K) : Ev.rel (stVal C C' I x) μ (cpuJf p) (.agg (cpuCells (jumpC (nextC C) I.form I.v I.off K))) := by
  rw [hv]
  exact ⟨(cpuCells (jumpC (nextC C) I.form false I.off K)).toList, by simp, rfl, rfl, rfl, rfl, rfl, rfl, rfl, rfl, rfl, rfl, rfl, rfl, rfl, rfl, rfl, rfl, rfl, rfl, rfl, rfl, rfl, congrArg (Value.int .u32) hp.symm, trivial⟩
theorem insF_rel (μ : Ev.Names) (f : Nat) (hf : I.form = (f : Int)) : Ev.rel (stVal C C' I x) μ (insF f) (.agg (insCells I)) := ⟨(insCells I).toList, by simp, congrArg (Value.int .i64) hf, rfl, rfl, rfl, rfl, rfl, rfl, rfl, rfl, rfl, rfl, trivial⟩
theorem ev_rel (μ : Ev.Names) (k : Int) (pl : Ev.SI) (b : Ev.SB) (r v n : Ev.SI) : Ev.rel (stVal C C' I x) μ (ev k pl b r v n) (.agg (evCells k (pl.den (stVal C C' I x)) (b.den (stVal C C' I x)) (r.den (stVal C C' I x)) (v.den (stVal C C' I x)) (n.den (stVal C C' I x)))) := ⟨(evCells k (pl.den (stVal C C' I x)) (b.den (stVal C C' I x)) (r.den (stVal C C' I x)) (v.den (stVal C C' I x)) (n.den (stVal C C' I x))).toList, by simp, rfl, rfl, rfl, rfl, rfl, rfl, trivial⟩
theorem sel_den (s : Ev.SI) (k : Nat) (hk : k < 16) (hs : s.den (stVal C C' I x) = (k : Int)) : (Ev.SI.sel 100 s).den (stVal C C' I x) = C.r k := by
  show (stVal C C' I x).i (100 + (s.den (stVal C C' I x)).toNat) = C.r k
  rw [hs, Int.toNat_natCast]
  show (if 100 + k < 100 then _ else if 100 + k < 116 then C.r (100 + k - 100) else _) = C.r k
  rw [if_neg (by omega), if_pos (by omega), show 100 + k - 100 = k by omega]
theorem in_ok (a k : Nat) (s : Ev.SI) (l : List (Ev.SB × Bool)) (hs : s.den (stVal C C' I x) = (k : Int)) (hk : k < 16) (hl : ∀ q ∈ l, q.1.den (stVal C C' I x) = q.2) : ∀ q ∈ ((.cmp .lss s (.lit 0), false) :: (.cmp .lss s (.lit 16), true) :: l : List (Ev.SB × Bool)), q.1.den (stVal C C' I x) = q.2 :=
  con_ok (by show decide (s.den (stVal C C' I x) < 0) = false; rw [hs]; simp) (con_ok (by show decide (s.den (stVal C C' I x) < 16) = true; rw [hs]; simp; omega) hl)
theorem word_ok (l : List (Ev.SB × Bool)) (s : Ev.SI) (k : Nat) (n : Int) (hs : s.den (stVal C C' I x) = n) (hk : (stVal C C' I x).i k = w32 n) (n0 : -4611686018427387904 ≤ n) (n1 : n ≤ 4611686018427387904) : Ev.EntOk Try.prog ⟨l, fun σ => σ = stVal C C' I x⟩ (wordE s k) :=
  Ev.EntOk.of rfl [.int .i64 n] ⟨congrArg (Value.int .i64) hs.symm, trivial⟩ (v := .int .u32 (w32 n)) (fun _ => congrArg (Value.int .u32) hk.symm) fun W => (rword_any n n0 n1 W).mono fun r W' ⟨h1, h2⟩ => ⟨h1, h2 ▸ Below.refl _ _⟩
theorem pc_okE (l : List (Ev.SB × Bool)) (wf : CpuWf C) : Ev.EntOk Try.prog ⟨l, fun σ => σ = stVal C C' I x⟩ (wordE pcI 118) := by
  have p0 := wf.pc.1
  have p1 := wf.pc.2
  refine word_ok l pcI 118 (C.pc + 1) ?_ rfl (by omega) (by omega)
  show IntKind.i64.wrap (IntKind.i64.wrap C.pc + 1) = _
  rw [wi64 C.pc (by omega) (by omega), wi64 _ (by omega) (by omega)]
theorem of_okE (l : List (Ev.SB × Bool)) (f : Nat) (hf : I.form = (f : Int)) (x0 : 0 ≤ x) (x1 : x ≤ 4294967295) (hd : dec x = (I, false)) : Ev.EntOk Try.prog ⟨l, fun σ => σ = stVal C C' I x⟩ (ofE (insF f) true) :=
  Ev.EntOk.of rfl [.int .u32 x] ⟨rfl, trivial⟩ (v := .tuple #[.agg (insCells I), .bool true]) (fun μ => ⟨[_, _], rfl, insF_rel μ f hf, rfl, trivial⟩) fun W => by
    have := rof_any x x0 x1 W
    rw [hd] at this
    exact this
end
theorem st_run {C C' : Cpu} {I : Ins} {x : Int} (l : List (Ev.SB × Bool)) (E : List Ev.Ent) (v : Ev.AV) (k : Int) (pl : Ev.SI) (b : Ev.SB) (r vv n : Ev.SI) (y : Cpu) (hl : ∀ q ∈ l, q.1.den (stVal C C' I x) = q.2) (hE : ∀ e ∈ E, Ev.EntOk Try.prog ⟨l, fun σ => σ = stVal C C' I x⟩ e)
    (hp : Ev.plain 4 v = true) (hv : ∀ μ, Ev.rel (stVal C C' I x) μ v (.agg (cpuCells y)))
    (hrun : ∀ φ, Ev.outV ((Ev.evO Try.prog ⟨l, φ⟩ (Ev.orcL E) 1000 30 (.fn 11) [cpuA, .int .u32 (.atom 160)]).go .e 0) = some (.tuple [v, ev k pl b r vv n])) (w : World) :
    Calls Try.prog 11 #[.agg (cpuCells C), .int .u32 x] w (StepIs y k (pl.den (stVal C C' I x)) (b.den (stVal C C' I x)) (r.den (stVal C C' I x)) (vv.den (stVal C C' I x)) (n.den (stVal C C' I x)) w) := by
  refine (Ev.calls_of (A := ⟨l, fun σ => σ = stVal C C' I x⟩) (Ev.orcL_ok _ hE) 1000 30 (hrun _) (stVal C C' I x) ⟨hl, rfl⟩ [.agg (cpuCells C), .int .u32 x] w ⟨trivial, Nat.zero_le _⟩ ⟨cpuA_rel _, rfl, trivial⟩).mono ?_
  rintro e w' ⟨t, μ, rfl, ht, hb⟩
  refine ⟨?_, hb⟩
  obtain ⟨xs, rfl, hxs⟩ := ht
  obtain ⟨y0, y1, rfl⟩ : ∃ y0 y1, xs = [y0, y1] := by
    rcases xs with _ | ⟨y0, _ | ⟨y1, _ | ⟨y2, l⟩⟩⟩
    · exact hxs.elim
    · exact hxs.2.elim
    · exact ⟨y0, y1, rfl⟩
    · exact hxs.2.2.elim
  have h0 := Ev.rel_fun 4 v y0 _ hp hxs.1 (hv μ)
  have h1 := Ev.rel_fun 4 _ y1 _ rfl hxs.2.1 (ev_rel μ k pl b r vv n)
  rw [h0, h1]
end rsp
open rsp
open rdo (con_ok no_ok DoIs insF)
theorem rstep_odd (C : Cpu) (x : Int) (wf : CpuWf C) (x0 : 0 ≤ x) (x1 : x ≤ 4294967295) (hd : (dec x).2 = true) (w : World) :
    Calls Try.prog 11 #[.agg (cpuCells C), .int .u32 x] w (StepIs (nextC C) 5 0 false 0 0 0 w) := by
  refine st_run (C' := C) (I := ins0) [] oOdd cpuN 5 (.lit 0) (.lit false) (.lit 0) (.lit 0) (.lit 0) _ no_ok (Ev.ents_cons (pc_okE _ wf) (Ev.ents_cons ?_ Ev.ents_nil)) rfl (fun μ => cpuN_rel μ) runOdd w
  refine Ev.EntOk.of rfl [.int .u32 x] ⟨rfl, trivial⟩ (v := .tuple #[.agg (insCells ins0), .bool false]) (fun μ => ⟨[_, _], rfl, ⟨(insCells ins0).toList, by simp, rfl, rfl, rfl, rfl, rfl, rfl, rfl, rfl, rfl, rfl, rfl, trivial⟩, rfl, trivial⟩) fun W => ?_
  have := rof_any x x0 x1 W
  rw [hd] at this
  exact this
theorem rstep_do (C : Cpu) (x : Int) (I : Ins) (wf : CpuWf C) (x0 : 0 ≤ x) (x1 : x ≤ 4294967295) (hd : dec x = (I, false)) (f : Nat) (hf : I.form = (f : Int)) (oc : Option Cpu)
    (hD : ∀ W, Calls Try.prog 34 #[.agg (cpuCells (nextC C)), .agg (insCells I)] W (DoIs (nextC C) oc W))
    (ht : ∀ φ, Ev.outV ((Ev.evO Try.prog ⟨[], φ⟩ (Ev.orcL (oDo f cpuB true)) 1000 30 (.fn 11) [cpuA, .int .u32 (.atom 160)]).go .e 0) = some (.tuple [cpuB, ev0 0]))
    (hn : ∀ φ, Ev.outV ((Ev.evO Try.prog ⟨[], φ⟩ (Ev.orcL (oDo f cpuN false)) 1000 30 (.fn 11) [cpuA, .int .u32 (.atom 160)]).go .e 0) = some (.tuple [cpuN, ev0 5])) (w : World) :
    Calls Try.prog 11 #[.agg (cpuCells C), .int .u32 x] w (OpIs (nextC C) oc w) := by
  cases oc with
  | some c =>
    exact st_run (C' := c) (I := I) [] (oDo f cpuB true) cpuB 0 (.lit 0) (.lit false) (.lit 0) (.lit 0) (.lit 0) _ no_ok (Ev.ents_cons (pc_okE _ wf) (Ev.ents_cons (of_okE _ f hf x0 x1 hd) (Ev.ents_cons (Ev.EntOk.of rfl [.agg (cpuCells (nextC C)), .agg (insCells I)] ⟨cpuN_rel _, insF_rel _ f hf, trivial⟩ (v := .tuple #[.agg (cpuCells c), .bool true]) (fun μ => ⟨[_, _], rfl, cpuB_rel μ, rfl, trivial⟩) hD) Ev.ents_nil))) rfl (fun μ => cpuB_rel μ) ht w
  | none =>
    exact st_run (C' := C) (I := I) [] (oDo f cpuN false) cpuN 5 (.lit 0) (.lit false) (.lit 0) (.lit 0) (.lit 0) _ no_ok (Ev.ents_cons (pc_okE _ wf) (Ev.ents_cons (of_okE _ f hf x0 x1 hd) (Ev.ents_cons (Ev.EntOk.of rfl [.agg (cpuCells (nextC C)), .agg (insCells I)] ⟨cpuN_rel _, insF_rel _ f hf, trivial⟩ (v := .tuple #[.agg (cpuCells (nextC C)), .bool false]) (fun μ => ⟨[_, _], rfl, cpuN_rel μ, rfl, trivial⟩) hD) Ev.ents_nil))) rfl (fun μ => cpuN_rel μ) hn w
theorem next_wf {C : Cpu} (wf : CpuWf C) : CpuWf (nextC C) := ⟨wf.r, wf.h, w32_bd _⟩
theorem rstep_reg (C : Cpu) (x : Int) (I : Ins) (wf : CpuWf C) (x0 : 0 ≤ x) (x1 : x ≤ 4294967295) (hd : dec x = (I, false)) (m : MayIs I) (hf : I.form = 0) (w : World) :
    Calls Try.prog 11 #[.agg (cpuCells C), .int .u32 x] w (OpIs (nextC C) (oprC (nextC C) I.op I.u I.a.toNat I.b.toNat (srcI (nextC C) I.u I.op I.c.toNat)) w) :=
  rstep_do C x I wf x0 x1 hd 0 hf _ (rdo.do_reg (nextC C) I (next_wf wf) m hf) runDo0t runDo0f w
theorem rstep_im (C : Cpu) (x : Int) (I : Ins) (wf : CpuWf C) (x0 : 0 ≤ x) (x1 : x ≤ 4294967295) (hd : dec x = (I, false)) (m : MayIs I) (hf : I.form = 1) (w : World) :
    Calls Try.prog 11 #[.agg (cpuCells C), .int .u32 x] w (OpIs (nextC C) (oprC (nextC C) I.op I.u I.a.toNat I.b.toNat (valI I.u I.v I.op I.im)) w) :=
  rstep_do C x I wf x0 x1 hd 1 hf _ (rdo.do_im (nextC C) I (next_wf wf) m hf) runDo1t runDo1f w
section
variable {C C' : Cpu} {I : Ins} {x : Int}
theorem mem_ok (l : List (Ev.SB × Bool)) (f : Nat) (hf : I.form = (f : Int)) (wf : CpuWf C) (x0 : 0 ≤ x) (x1 : x ≤ 4294967295) (hd : dec x = (I, false)) (m : MayIs I) (o0 : -524288 ≤ I.off) (o1 : I.off ≤ 524287) : ∀ e ∈ oMem f, Ev.EntOk Try.prog ⟨l, fun σ => σ = stVal C C' I x⟩ e := by
  have r0 := (wf.r I.b.toNat).1
  have r1 := (wf.r I.b.toNat).2
  have b0 := m.b0
  have b1 := m.b1
  refine Ev.ents_cons (pc_okE _ wf) (Ev.ents_cons (of_okE _ f hf x0 x1 hd) (Ev.ents_cons (word_ok _ plI 161 (C.r I.b.toNat + I.off) ?_ rfl (by omega) (by omega)) Ev.ents_nil))
  show IntKind.i64.wrap (IntKind.i64.wrap ((Ev.SI.sel 100 (.atom 4)).den (stVal C C' I x)) + I.off) = _
  rw [sel_den (.atom 4) I.b.toNat (by omega) (by show I.b = _; omega), wi64 (C.r I.b.toNat) (by omega) (by omega), wi64 _ (by omega) (by omega)]
theorem cond_ok (l : List (Ev.SB × Bool)) (f : Nat) (hf : I.form = (f : Int)) (wf : CpuWf C) (x0 : 0 ≤ x) (x1 : x ≤ 4294967295) (hd : dec x = (I, false)) (m : MayIs I) (o0 : -8388608 ≤ I.off) (o1 : I.off ≤ 8388607) : ∀ e ∈ oCond f, Ev.EntOk Try.prog ⟨l, fun σ => σ = stVal C C' I x⟩ e := by
  have k0 := m.k0
  have k1 := m.k1
  have p := w32_bd (C.pc + 1)
  refine Ev.ents_cons (pc_okE _ wf) (Ev.ents_cons (of_okE _ f hf x0 x1 hd) (Ev.ents_cons ?_ (Ev.ents_cons (word_ok _ toI 162 (w32 (C.pc + 1) + I.off) ?_ rfl (by omega) (by omega)) (Ev.ents_cons (word_ok _ lkI 163 (4 * w32 (C.pc + 1)) ?_ rfl (by omega) (by omega)) Ev.ents_nil))))
  · refine Ev.EntOk.of rfl [.agg (cpuCells C), .int .i64 I.cond] ⟨cpuA_rel _, rfl, trivial⟩ (v := .bool (holdB C I.cond.toNat)) (fun _ => rfl) fun W => ?_
    have := rholds_all C I.cond (by omega) (by omega) W
    rwa [show (I.cond % 16).toNat = I.cond.toNat by rw [Int.emod_eq_of_lt k0 (by omega)]] at this
  · show IntKind.i64.wrap (IntKind.i64.wrap (w32 (C.pc + 1)) + I.off) = _
    rw [wi64 (w32 (C.pc + 1)) (by omega) (by omega), wi64 _ (by omega) (by omega)]
  · show IntKind.i64.wrap (4 * IntKind.i64.wrap (w32 (C.pc + 1))) = _
    rw [wi64 (w32 (C.pc + 1)) (by omega) (by omega), wi64 _ (by omega) (by omega)]
end
theorem rstep_load (C : Cpu) (x : Int) (I : Ins) (wf : CpuWf C) (x0 : 0 ≤ x) (x1 : x ≤ 4294967295) (hd : dec x = (I, false)) (m : MayIs I) (hf : I.form = 2) (w : World) :
    Calls Try.prog 11 #[.agg (cpuCells C), .int .u32 x] w (StepIs (nextC C) 1 (w32 (C.r I.b.toNat + I.off)) I.v I.a 0 0 w) := by
  obtain ⟨_, _, _, _, _, _, l0, l1⟩ := m.l (.inl hf)
  have b0 := m.b0
  have b1 := m.b1
  exact st_run (C' := C) (I := I) _ _ cpuN 1 (.atom 161) (.atom 1) (.atom 3) (.lit 0) (.lit 0) _ (in_ok 0 I.b.toNat (.atom 4) [] (by show I.b = _; omega) (by omega) no_ok) (mem_ok _ 2 hf wf x0 x1 hd m l0 l1) rfl (fun μ => cpuN_rel μ) runLd w
theorem rstep_store (C : Cpu) (x : Int) (I : Ins) (wf : CpuWf C) (x0 : 0 ≤ x) (x1 : x ≤ 4294967295) (hd : dec x = (I, false)) (m : MayIs I) (hf : I.form = 3) (w : World) :
    Calls Try.prog 11 #[.agg (cpuCells C), .int .u32 x] w (StepIs (nextC C) 2 (w32 (C.r I.b.toNat + I.off)) I.v I.b (stV I.v (C.r I.a.toNat)) 0 w) := by
  obtain ⟨_, _, _, _, _, _, l0, l1⟩ := m.l (.inr hf)
  have b0 := m.b0
  have b1 := m.b1
  have a0 := m.a0
  have a1 := m.a1
  have hs : (Ev.SI.sel 100 (.atom 3)).den (stVal C C I x) = C.r I.a.toNat := sel_den (.atom 3) I.a.toNat (by omega) (by show I.a = _; omega)
  have hl : ∀ q ∈ lB lA, q.1.den (stVal C C I x) = q.2 := in_ok 0 I.b.toNat (.atom 4) _ (by show I.b = _; omega) (by omega) (in_ok 0 I.a.toNat (.atom 3) [] (by show I.a = _; omega) (by omega) no_ok)
  cases hv : I.v with
  | true =>
    have := st_run (C' := C) (I := I) _ _ cpuN 2 (.atom 161) (.atom 1) (.atom 4) (.bin .rem .u32 (.sel 100 (.atom 3)) (.lit 256)) (.lit 0) _ (con_ok (by exact hv) hl) (mem_ok _ 3 hf wf x0 x1 hd m l0 l1) rfl (fun μ => cpuN_rel μ) runStt w
    rw [show (Ev.SI.bin .rem .u32 (.sel 100 (.atom 3)) (.lit 256)).den (stVal C C I x) = stV true (C.r I.a.toNat) by show ((Ev.SI.sel 100 (.atom 3)).den (stVal C C I x)).tmod 256 = C.r I.a.toNat % 256; rw [hs, Int.tmod_eq_emod_of_nonneg (wf.r _).1], show (Ev.SB.atom 1).den (stVal C C I x) = true from hv] at this
    exact this
  | false =>
    have := st_run (C' := C) (I := I) _ _ cpuN 2 (.atom 161) (.atom 1) (.atom 4) (.sel 100 (.atom 3)) (.lit 0) _ (con_ok (by exact hv) hl) (mem_ok _ 3 hf wf x0 x1 hd m l0 l1) rfl (fun μ => cpuN_rel μ) runStf w
    rw [hs, show (Ev.SB.atom 1).den (stVal C C I x) = false from hv] at this
    exact this
theorem rstep_jump4 (C : Cpu) (x : Int) (I : Ins) (wf : CpuWf C) (x0 : 0 ≤ x) (x1 : x ≤ 4294967295) (hd : dec x = (I, false)) (m : MayIs I) (hf : I.form = 4) (w : World) :
    Calls Try.prog 11 #[.agg (cpuCells C), .int .u32 x] w (StepIs (jmpC (nextC C) I I.c.toNat I.cond.toNat) 0 0 false 0 0 0 w) := by
  obtain ⟨_, _, _, _, _, _, _, l0, l1⟩ := m.j hf
  unfold jmpC
  cases hh : holdB (nextC C) I.cond.toNat with
  | false => exact st_run (C' := C) (I := I) _ _ cpuN 0 (.lit 0) (.lit false) (.lit 0) (.lit 0) (.lit 0) _ (con_ok (by exact hh) no_ok) (cond_ok _ 4 hf wf x0 x1 hd m l0 l1) rfl (fun μ => cpuN_rel μ) runNo4 w
  | true =>
    have hp : (Ev.SI.atom 162).den (stVal C C I x) = jumpTo (nextC C) I.form I.off I.c.toNat := by unfold jumpTo; rw [if_neg (by omega)]; rfl
    cases hv : I.v with
    | true =>
      have := st_run (C' := C) (I := I) _ _ _ 0 (.lit 0) (.lit false) (.lit 0) (.lit 0) (.lit 0) _ (con_ok (by exact hh) (con_ok (by exact hv) no_ok)) (cond_ok _ 4 hf wf x0 x1 hd m l0 l1) rfl (fun μ => cpuJt_rel μ _ I.c.toNat hv hp) runJ4t w
      rw [hv] at this
      exact this
    | false =>
      have := st_run (C' := C) (I := I) _ _ _ 0 (.lit 0) (.lit false) (.lit 0) (.lit 0) (.lit 0) _ (con_ok (by exact hh) (con_ok (by exact hv) no_ok)) (cond_ok _ 4 hf wf x0 x1 hd m l0 l1) rfl (fun μ => cpuJf_rel μ _ I.c.toNat hv hp) runJ4f w
      rw [hv] at this
      exact this
theorem rstep_jump5 (C : Cpu) (x : Int) (I : Ins) (wf : CpuWf C) (x0 : 0 ≤ x) (x1 : x ≤ 4294967295) (hd : dec x = (I, false)) (m : MayIs I) (hf : I.form = 5) (w : World) :
    Calls Try.prog 11 #[.agg (cpuCells C), .int .u32 x] w (StepIs (jmpC (nextC C) I I.c.toNat I.cond.toNat) 0 0 false 0 0 0 w) := by
  obtain ⟨_, _, _, _, _, hoff, _, _⟩ := m.t hf
  have c0 := m.c0
  have c1 := m.c1
  have l0 : -8388608 ≤ I.off := by omega
  have l1 : I.off ≤ 8388607 := by omega
  unfold jmpC
  cases hh : holdB (nextC C) I.cond.toNat with
  | false => exact st_run (C' := C) (I := I) _ _ cpuN 0 (.lit 0) (.lit false) (.lit 0) (.lit 0) (.lit 0) _ (con_ok (by exact hh) no_ok) (cond_ok _ 5 hf wf x0 x1 hd m l0 l1) rfl (fun μ => cpuN_rel μ) runNo5 w
  | true =>
    have hcC : (Ev.SI.atom 5).den (stVal C C I x) = (I.c.toNat : Int) := by show I.c = _; omega
    have hp : quI.den (stVal C C I x) = jumpTo (nextC C) I.form I.off I.c.toNat := by
      have r0 := (wf.r I.c.toNat).1
      have r1 := (wf.r I.c.toNat).2
      show IntKind.u32.wrap (((Ev.SI.sel 100 (.atom 5)).den (stVal C C I x)).tdiv 4) = _
      unfold jumpTo
      rw [if_pos hf, sel_den (.atom 5) I.c.toNat (by omega) hcC, Int.tdiv_eq_ediv_of_nonneg r0, IntKind.wrap_u32]
      show C.r I.c.toNat / 4 % 4294967296 = C.r I.c.toNat / 4
      omega
    have hl : ∀ q ∈ lC, q.1.den (stVal C C I x) = q.2 := in_ok 0 I.c.toNat (.atom 5) [] hcC (by omega) no_ok
    cases hv : I.v with
    | true =>
      have := st_run (C' := C) (I := I) _ _ _ 0 (.lit 0) (.lit false) (.lit 0) (.lit 0) (.lit 0) _ (con_ok (by exact hh) (con_ok (by exact hv) hl)) (cond_ok _ 5 hf wf x0 x1 hd m l0 l1) rfl (fun μ => cpuJt_rel μ _ I.c.toNat hv hp) runJ5t w
      rw [hv] at this
      exact this
    | false =>
      have := st_run (C' := C) (I := I) _ _ _ 0 (.lit 0) (.lit false) (.lit 0) (.lit 0) (.lit 0) _ (con_ok (by exact hh) (con_ok (by exact hv) hl)) (cond_ok _ 5 hf wf x0 x1 hd m l0 l1) rfl (fun μ => cpuJf_rel μ _ I.c.toNat hv hp) runJ5f w
      rw [hv] at this
      exact this
theorem rstep_sys (C : Cpu) (x : Int) (I : Ins) (wf : CpuWf C) (x0 : 0 ≤ x) (x1 : x ≤ 4294967295) (hd : dec x = (I, false)) (m : MayIs I) (hf : I.form = 6) (w : World) :
    Calls Try.prog 11 #[.agg (cpuCells C), .int .u32 x] w (StepIs (nextC C) (sysE (holdB (nextC C) I.cond.toNat) I.n) 0 false 0 0 (sysN (holdB (nextC C) I.cond.toNat) I.n) w) := by
  have hoff : I.off = 0 := by have := m.s hf; omega
  have l0 : -8388608 ≤ I.off := by omega
  have l1 : I.off ≤ 8388607 := by omega
  cases hh : holdB (nextC C) I.cond.toNat with
  | false => exact st_run (C' := C) (I := I) _ _ cpuN 0 (.lit 0) (.lit false) (.lit 0) (.lit 0) (.lit 0) _ (con_ok (by exact hh) no_ok) (cond_ok _ 6 hf wf x0 x1 hd m l0 l1) rfl (fun μ => cpuN_rel μ) runNo6 w
  | true =>
    by_cases hn : I.n < 16
    · rw [show sysE true I.n = 3 by unfold sysE; rw [if_pos rfl, if_neg (by omega)]]
      exact st_run (C' := C) (I := I) _ _ cpuN 3 (.lit 0) (.lit false) (.lit 0) (.lit 0) (.atom 10) _ (con_ok (by exact hh) (con_ok (by show decide (I.n < 16) = true; simpa using hn) no_ok)) (cond_ok _ 6 hf wf x0 x1 hd m l0 l1) rfl (fun μ => cpuN_rel μ) runSyt w
    · rw [show sysE true I.n = 4 by unfold sysE; rw [if_pos rfl, if_pos (by omega)]]
      exact st_run (C' := C) (I := I) _ _ cpuN 4 (.lit 0) (.lit false) (.lit 0) (.lit 0) (.atom 10) _ (con_ok (by exact hh) (con_ok (by show decide (I.n < 16) = false; simpa using hn) no_ok)) (cond_ok _ 6 hf wf x0 x1 hd m l0 l1) rfl (fun μ => cpuN_rel μ) runSyf w
end
end Go.Proofs.Ytgjecfchnokcfaa

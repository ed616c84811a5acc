/-
  Words in a machine's bytes: what is set, and cleared. Nothing of the program.
-/
import Derived.Test.YtlgdlaohfkgkfaaMacH
namespace Go.Proofs.Ytlgdlaohfkgkfaa
open Go.ChangeShapes Go.WideShapes Go.ChangeAt Go.RowKit
set_option linter.unusedVariables false
set_option linter.unusedSimpArgs false
theorem set4_other (f : Nat → Int) (q : Nat) (x : Int) (i : Nat) (h : i < q ∨ q + 4 ≤ i) : set4 f q x i = f i := by
  unfold set4
  rw [upd_other _ _ _ _ (by omega), upd_other _ _ _ _ (by omega), upd_other _ _ _ _ (by omega), upd_other _ _ _ _ (by omega)]
theorem wdF_set4_same (f : Nat → Int) (q : Nat) (x : Int) (h : 0 ≤ x ∧ x < 4294967296) : wdF (set4 f q x) q = x := by
  have e0 : set4 f q x q = x % 256 := by unfold set4; rw [upd_other _ _ _ _ (by omega), upd_other _ _ _ _ (by omega), upd_other _ _ _ _ (by omega), upd_same]
  have e1 : set4 f q x (q + 1) = x / 256 % 256 := by unfold set4; rw [upd_other _ _ _ _ (by omega), upd_other _ _ _ _ (by omega), upd_same]
  have e2 : set4 f q x (q + 2) = x / 65536 % 256 := by unfold set4; rw [upd_other _ _ _ _ (by omega), upd_same]
  have e3 : set4 f q x (q + 3) = x / 16777216 := by unfold set4; rw [upd_same]
  unfold wdF
  rw [e0, e1, e2, e3]
  omega
theorem wdF_set4_other (f : Nat → Int) (q : Nat) (x : Int) (j : Nat) (h : j + 4 ≤ q ∨ q + 4 ≤ j) : wdF (set4 f q x) j = wdF f j := by
  unfold wdF
  rw [set4_other f q x j (by omega), set4_other f q x (j + 1) (by omega), set4_other f q x (j + 2) (by omega), set4_other f q x (j + 3) (by omega)]
theorem wdF_zer_in (f : Nat → Int) (o k j : Nat) (h1 : o ≤ j) (h2 : j + 4 ≤ o + k) : wdF (zerF f o k) j = 0 := by
  unfold wdF zerF
  rw [if_pos (by omega), if_pos (by omega), if_pos (by omega), if_pos (by omega)]
  omega
theorem wdF_zer_out (f : Nat → Int) (o k j : Nat) (h : j + 4 ≤ o ∨ o + k ≤ j) : wdF (zerF f o k) j = wdF f j := by
  unfold wdF zerF
  rw [if_neg (by omega), if_neg (by omega), if_neg (by omega), if_neg (by omega)]
theorem wdF_first (x : Int) (h : 0 ≤ x ∧ x < 4294967296) : wdF (fun i => nth (bytesOf [x]) i) 0 = x := by
  have e : bytesOf [x] = [x % 256, x / 256 % 256, x / 65536 % 256, x / 16777216 % 256] := rfl
  unfold wdF
  rw [e]
  show x % 256 + 256 * (x / 256 % 256) + 65536 * (x / 65536 % 256) + 16777216 * (x / 16777216 % 256) = x
  omega
theorem nth_one (x : Int) (h : 0 ≤ x ∧ x ≤ 4294967295) (i : Nat) : 0 ≤ nth [x] i ∧ nth [x] i ≤ 4294967295 := by
  cases i with
  | zero => exact h
  | succ i => rw [nth_ge _ _ (by simp)]; omega
theorem w17_bd : 0 ≤ w17 ∧ w17 ≤ 4294967295 := by decide
def regsA (c : Cpu) : Array Value := #[.int .u32 (c.r 0), .int .u32 (c.r 1), .int .u32 (c.r 2), .int .u32 (c.r 3), .int .u32 (c.r 4), .int .u32 (c.r 5), .int .u32 (c.r 6), .int .u32 (c.r 7), .int .u32 (c.r 8), .int .u32 (c.r 9), .int .u32 (c.r 10), .int .u32 (c.r 11), .int .u32 (c.r 12), .int .u32 (c.r 13), .int .u32 (c.r 14), .int .u32 (c.r 15)]
theorem field_regs (c : Cpu) (V : World) : (Instr.field 41 (.agg (cpuCells c)) 0).run Try.prog V = .ok (.agg (regsA c)) V := by kernel_rfl
theorem index_regs (c : Cpu) (V : World) : (Instr.index 39 (.agg (regsA c)) (.int .i64 0)).run Try.prog V = .ok (.int .u32 (c.r 0)) V := by kernel_rfl
/-- MachineFresh's machine: its first word asks for NEW; noughts from the image up to the heap's end, and then what was filled in -/
structure FrAt (W : World) (N : Nat) (p : Mp) (n top lim : Nat) (fill : Int) (m : Mc) : Prop where
  mat : MAt W N p m
  cl : ClAt W N p
  nn : m.n = n
  hh : m.heap = (top : Int)
  kk : m.kind = 0
  r14 : m.cpu.r 14 = (n : Int)
  w0 : wdF m.f 0 = w17
  wd : ∀ j, 1 ≤ j → 4 * j < lim → wdF m.f (4 * j) = if 4 * j < top then 0 else fill
theorem FrAt.next {W V : World} {N : Nat} {p : Mp} {n top lim : Nat} {fill : Int} {m : Mc} (h : FrAt W N p n top lim fill m) (hb : Below W.heap.size W V) : FrAt V N p n top lim fill m :=
  ⟨h.mat.next hb, h.cl.next hb, h.nn, h.hh, h.kk, h.r14, h.w0, h.wd⟩
theorem FrAt.fill {W V : World} {N : Nat} {p : Mp} {n lim : Nat} {fill : Int} {m : Mc} (h : FrAt W N p n 4 lim fill m) (h4 : lim % 4 = 0) (hl : 4 ≤ lim) (hf : 0 ≤ fill ∧ fill < 4294967296) (hm : MAt V N p { m with f := set4 m.f lim fill }) (hc : Chg p W V) : FrAt V N p n 4 (lim + 4) fill { m with f := set4 m.f lim fill } := by
  refine ⟨hm, h.cl.chg hc, h.nn, h.hh, h.kk, h.r14, ?_, fun j hj hlt => ?_⟩
  · show wdF (set4 m.f lim fill) 0 = w17
    rw [wdF_set4_other _ _ _ _ (by omega)]; exact h.w0
  · show wdF (set4 m.f lim fill) (4 * j) = _
    by_cases e : 4 * j = lim
    · rw [e, wdF_set4_same _ _ _ hf, if_neg (by omega)]
    · rw [wdF_set4_other _ _ _ _ (by omega)]; exact h.wd j hj (by omega)
end Go.Proofs.Ytlgdlaohfkgkfaa

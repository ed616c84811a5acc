/-
  Steps of a machine whose words are a store and a load; what stands in its bytes then.
-/
import Derived.Test.YtlgdlaohfkgkfaaGreatMacP
namespace Go.Proofs.YtlgdlaohfkgkfaaGreat
open Go.ChangeShapes Go.WideShapes Go.ChangeAt Go.RowKit
set_option linter.unusedVariables false
set_option linter.unusedSimpArgs false
theorem set4_other (f : Nat → Int) (q : Nat) (x : Int) (i : Nat) (h : i < q ∨ q + 4 ≤ i) : set4 f q x i = f i := by
  unfold set4
  rw [upd_other _ _ _ _ (by omega), upd_other _ _ _ _ (by omega), upd_other _ _ _ _ (by omega), upd_other _ _ _ _ (by omega)]
theorem wdF_set4_same (f : Nat → Int) (q : Nat) (x : Int) (h : 0 ≤ x ∧ x < 4294967296) : wdF (set4 f q x) q = x := by
  have e0 : set4 f q x q = x % 256 := by unfold set4; rw [upd_other _ _ _ _ (by omega), upd_other _ _ _ _ (by omega), upd_other _ _ _ _ (by omega), upd_same]
  have e1 : set4 f q x (q + 1) = x / 256 % 256 := by unfold set4; rw [upd_other _ _ _ _ (by omega), upd_other _ _ _ _ (by omega), upd_same]
  have e2 : set4 f q x (q + 2) = x / 65536 % 256 := by unfold set4; rw [upd_other _ _ _ _ (by omega), upd_same]
  have e3 : set4 f q x (q + 3) = x / 16777216 := by unfold set4; rw [upd_same]
  unfold wdF
  rw [e0, e1, e2, e3]
  omega
theorem wdF_set4_other (f : Nat → Int) (q : Nat) (x : Int) (j : Nat) (h : j + 4 ≤ q ∨ q + 4 ≤ j) : wdF (set4 f q x) j = wdF f j := by
  unfold wdF
  rw [set4_other f q x j (by omega), set4_other f q x (j + 1) (by omega), set4_other f q x (j + 2) (by omega), set4_other f q x (j + 3) (by omega)]
def regsA (c : Cpu) : Array Value := #[.int .u32 (c.r 0), .int .u32 (c.r 1), .int .u32 (c.r 2), .int .u32 (c.r 3), .int .u32 (c.r 4), .int .u32 (c.r 5), .int .u32 (c.r 6), .int .u32 (c.r 7), .int .u32 (c.r 8), .int .u32 (c.r 9), .int .u32 (c.r 10), .int .u32 (c.r 11), .int .u32 (c.r 12), .int .u32 (c.r 13), .int .u32 (c.r 14), .int .u32 (c.r 15)]
theorem field_regs (c : Cpu) (V : World) : (Instr.field 53 (.agg (cpuCells c)) 0).run Tryz.prog V = .ok (.agg (regsA c)) V := by kernel_rfl
theorem index_regs4 (c : Cpu) (V : World) : (Instr.index 51 (.agg (regsA c)) (.int .i64 4)).run Tryz.prog V = .ok (.int .u32 (c.r 4)) V := by kernel_rfl

theorem NewS.lt {w : World} {q mb : Nat} (h : NewS w q mb) : q < w.heap.size ∧ mb < w.heap.size := by
  refine ⟨World.block_lt_of_cell? _ _ h.c0, ?_⟩
  have := h.mp
  exact (Array.getElem?_eq_some_iff.1 this).1
theorem NewS.keep {w V : World} {q mb : Nat} (h : NewS w q mb) (h1 : V.heap[q]? = w.heap[q]?) (h2 : V.heap[mb]? = w.heap[mb]?) : NewS V q mb :=
  ⟨by rw [World.cell?_of_block h1]; exact h.c0, by rw [World.cell?_of_block h1]; exact h.c1, by rw [World.cell?_of_block h1]; exact h.c2, by rw [World.cell?_of_block h1]; exact h.c3, by rw [World.cell?_of_block h1]; exact h.c4, by rw [h2]; exact h.mp⟩
theorem MemAt.keep {V W : World} {b g cap n : Nat} {f : Nat → Int} (h : MemAt V b g cap n f) (hs : V.heap.size ≤ W.heap.size) (h1 : W.heap[b]? = V.heap[b]?) (h2 : W.heap[g]? = V.heap[g]?) : MemAt W b g cap n f :=
  ⟨Nat.lt_of_lt_of_le h.lb hs, Nat.lt_of_lt_of_le h.lg hs, by rw [World.cell?_of_block h1]; exact h.mem, fun i hi => by rw [World.cell?_of_block h2]; exact h.fm i hi, h.n1⟩
section
variable {w : World} {B : Nat} {p : Mp} {m : Mc}
theorem stV_bd (v : Bool) (x : Int) (h : 0 ≤ x ∧ x ≤ 4294967295) : 0 ≤ stV v x ∧ stV v x < 4294967296 := by unfold stV; split <;> omega
theorem Step_st (h : MAt w B p m) (hc : ClAt w B p) (hB : B ≤ w.heap.size) (hk : m.kind = 0) (hpc : m.cpu.pc = 0) (q : Nat) (v : Bool) (hr : ∀ k, 0 ≤ m.cpu.r k ∧ m.cpu.r k ≤ 4294967295) (h3 : m.cpu.r 3 = (q : Int)) (hx : wdF m.f 0 = wst v) (hq : q + 4 ≤ m.n ∨ v = true ∧ q < m.n) (h4 : v = true ∨ q % 4 = 0) :
    Calls Tryz.prog 20 #[.pointer (some ⟨p.b, 0, none⟩)] w fun e w' => e = .returned (.bool true) ∧ MAt w' B p { m with cpu := nextC m.cpu, f := savF m.f q v (stV v (m.cpu.r 2)) } ∧ ClAt w' B p ∧ Chg p w w' :=
  Step_of h hk _ hk (step_st h hc hB hpc q v (stV v (m.cpu.r 2)) (wst v) hx (fun V => stst_any m.cpu v q hr h3 V) (stV_bd v _ (hr 2)) hq h4)
theorem Step_ld (h : MAt w B p m) (hc : ClAt w B p) (hB : B ≤ w.heap.size) (hk : m.kind = 0) (hpc : m.cpu.pc = 1) (q : Nat) (v : Bool) (hr : ∀ k, 0 ≤ m.cpu.r k ∧ m.cpu.r k ≤ 4294967295) (h3 : m.cpu.r 3 = (q : Int)) (hx : wdF m.f 4 = wld v) (hq : q + 4 ≤ m.n ∨ v = true ∧ q < m.n) (h4 : v = true ∨ q % 4 = 0) :
    Calls Tryz.prog 20 #[.pointer (some ⟨p.b, 0, none⟩)] w fun e w' => e = .returned (.bool true) ∧ MAt w' B p { m with cpu := ldC (nextC m.cpu) 4 (ldV m.f q v) } ∧ ClAt w' B p ∧ Chg p w w' :=
  Step_of h hk _ hk (step_ld h hc hB hpc q v (wld v) hx (fun V => stld_any m.cpu v q hr h3 V) hq h4)
end
/-- what stands at a place behind the store -/
theorem savF_out (f : Nat → Int) (q : Nat) (v : Bool) (x : Int) (i : Nat) (h : i < q ∨ q + 4 ≤ i ∨ v = true ∧ i ≠ q) : savF f q v x i = f i := by
  unfold savF
  cases v
  · simp only [Bool.false_eq_true, if_false]; rw [set4_other _ _ _ _ (by simp at h; omega)]
  · simp only [if_true]; rw [upd_other _ _ _ _ (by omega)]
theorem savF_0 (f : Nat → Int) (q : Nat) (v : Bool) (x : Int) : savF f q v (stV v x) q = x % 256 := by
  unfold savF stV
  cases v
  · simp only [Bool.false_eq_true, if_false]; unfold set4; rw [upd_other _ _ _ _ (by omega), upd_other _ _ _ _ (by omega), upd_other _ _ _ _ (by omega), upd_same]
  · simp only [if_true]; rw [upd_same]; omega
theorem savF_1 (f : Nat → Int) (q : Nat) (x : Int) : savF f q false (stV false x) (q + 1) = x / 256 % 256 := by
  unfold savF stV
  simp only [Bool.false_eq_true, if_false]; unfold set4; rw [upd_other _ _ _ _ (by omega), upd_other _ _ _ _ (by omega), upd_same]
theorem savF_2 (f : Nat → Int) (q : Nat) (x : Int) : savF f q false (stV false x) (q + 2) = x / 65536 % 256 := by
  unfold savF stV
  simp only [Bool.false_eq_true, if_false]; unfold set4; rw [upd_other _ _ _ _ (by omega), upd_same]
theorem savF_3 (f : Nat → Int) (q : Nat) (x : Int) (h : 0 ≤ x ∧ x ≤ 4294967295) : savF f q false (stV false x) (q + 3) = x / 16777216 % 256 := by
  unfold savF stV
  simp only [Bool.false_eq_true, if_false]; unfold set4; rw [upd_same]; omega
theorem wdF_sav (f : Nat → Int) (q : Nat) (v : Bool) (x : Int) (j : Nat) (h : j + 4 ≤ q) : wdF (savF f q v x) j = wdF f j := by
  unfold wdF
  rw [savF_out _ _ _ _ _ (by omega), savF_out _ _ _ _ _ (by omega), savF_out _ _ _ _ _ (by omega), savF_out _ _ _ _ _ (by omega)]
theorem ldV_sav (f : Nat → Int) (q : Nat) (v : Bool) (x : Int) (h : 0 ≤ x ∧ x ≤ 4294967295) : ldV (savF f q v (stV v x)) q v = if v then x % 256 else x := by
  unfold ldV
  cases v
  · simp only [Bool.false_eq_true, if_false]
    show wdF (savF f q false (stV false x)) q = x
    unfold savF stV
    simp only [Bool.false_eq_true, if_false]
    exact wdF_set4_same _ _ _ ⟨h.1, by omega⟩
  · simp only [if_true]; exact savF_0 f q true x
theorem savF_cases (f : Nat → Int) (q : Nat) (v : Bool) (a : Int) (h : 0 ≤ a ∧ a ≤ 4294967295) (x : Nat) :
    (savF f q v (stV v a) x = f x ∧ (x < q ∨ q + 4 ≤ x ∨ v = true ∧ x ≠ q)) ∨ (x = q ∧ savF f q v (stV v a) x = a % 256) ∨ (v = false ∧ x = q + 1 ∧ savF f q v (stV v a) x = a / 256 % 256) ∨ (v = false ∧ x = q + 2 ∧ savF f q v (stV v a) x = a / 65536 % 256) ∨ (v = false ∧ x = q + 3 ∧ savF f q v (stV v a) x = a / 16777216 % 256) := by
  by_cases h0 : x = q
  · subst h0; exact .inr (.inl ⟨rfl, savF_0 f x v a⟩)
  · cases v with
    | true => exact .inl ⟨savF_out _ _ _ _ _ (.inr (.inr ⟨rfl, h0⟩)), .inr (.inr ⟨rfl, h0⟩)⟩
    | false =>
      by_cases h1 : x < q ∨ q + 4 ≤ x
      · exact .inl ⟨savF_out _ _ _ _ _ (by omega), by omega⟩
      · have : x = q + 1 ∨ x = q + 2 ∨ x = q + 3 := by omega
        rcases this with rfl | rfl | rfl
        · exact .inr (.inr (.inl ⟨rfl, rfl, savF_1 f q a⟩))
        · exact .inr (.inr (.inr (.inl ⟨rfl, rfl, savF_2 f q a⟩)))
        · exact .inr (.inr (.inr (.inr ⟨rfl, rfl, savF_3 f q a h⟩)))
end Go.Proofs.YtlgdlaohfkgkfaaGreat

/-
  The chapter's rows of layer 3 hold: the law's own 'known', over the library's table of powers of ten.
-/
import Derived.Test.YtbhnkfhikjhaoaaDoorBase
import Derived.Test.YtbhnkfhikjhaoaaDoorEvD
import Derived.Deep.Cut
import Derived.KernelRfl
namespace Go.Proofs.YtbhnkfhikjhaoaaDoor
open Go.ChangeShapes Go.WideShapes Go.ChangeAt Go.RowKit
set_option linter.unusedVariables false
set_option linter.unusedSimpArgs false
noncomputable section
def val0 : Ev.Val := Ev.Val.of (fun _ => 0) (fun _ => false)
theorem val_of {f : FuncId} {args : List Ev.AV} {v : Ev.AV} (h : ∀ φ, Ev.outV ((Ev.evO Tryd.prog ⟨[], φ, Ev.noG⟩ Ev.noOrc 1000 30 (.fn f) args).go .e 0) = some v) (xs : List Value) (hr : Ev.relL val0 Ev.Names.none args xs) {x : Value} (hx : ∀ μ y, Ev.rel val0 μ v y → y = x) (w : World) :
    Calls Tryd.prog f xs.toArray w fun e w' => e = .returned x ∧ Below w.heap.size w w' :=
  (Ev.calls_of (A := Ev.Ass.none) (Ev.noOrc_ok _ _) 1000 30 (h _) val0 (Ev.Ass.has_none _) xs w ⟨trivial, Nat.zero_le _⟩ hr).mono fun e w' ⟨y, μ, he, hy, hb⟩ => ⟨by rw [he, hx μ y hy], hb⟩
theorem len64_1 (w : World) : Calls Tryd.prog 33 #[.int .u64 1] w fun e w' => e = .returned (.int .i64 1) ∧ Below w.heap.size w w' :=
  val_of (args := [.int .u64 (.lit 1)]) (v := .int .i64 (.lit 1)) (fun φ => by kernel_rfl) [.int .u64 1] ⟨rfl, trivial⟩ (fun _ _ h => h) w
theorem log10_1 (w : World) : Calls Tryd.prog 32 #[.int .i64 1] w fun e w' => e = .returned (.int .i64 0) ∧ Below w.heap.size w w' :=
  val_of (args := [.int .i64 (.lit 1)]) (v := .int .i64 (.lit 0)) (fun φ => by kernel_rfl) [.int .i64 1] ⟨rfl, trivial⟩ (fun _ _ h => h) w
theorem bool2_t (w : World) : Calls Tryd.prog 34 #[.bool true] w fun e w' => e = .returned (.int .i64 1) ∧ Below w.heap.size w w' :=
  val_of (args := [.bool (.lit true)]) (v := .int .i64 (.lit 1)) (fun φ => by kernel_rfl) [.bool true] ⟨rfl, trivial⟩ (fun _ _ h => h) w
theorem Tab.one {w : World} (hT : Tab w) : w.cell? ⟨0, 0, none⟩ = some (.int .u64 1) := hT.cell gPow 0 (by rw [Lib.pow10Tab_length]; omega)
theorem numDigits_1 (w : World) (hT : Tab w) : Calls Tryd.prog 29 #[.int .u64 1] w fun e w' => e = .returned (.int .i64 1) ∧ Below w.heap.size w w' := by
  go_enter Tryd.func29, Tryd.ntmps29
  go_upto_region 2 with (first | (go_at_call 33; (with_reducible refine (len64_1 _).mono ?_); rintro e w1 ⟨rfl, b1⟩) | (go_at_call 32; (with_reducible refine (log10_1 _).mono ?_); rintro e w2 ⟨rfl, b2⟩))
  have T2 := (hT.below b1).below b2
  have hc := T2.one
  have BB : Below w.heap.size w w2 := b1.trans (b2.mono b1.size)
  go_wp2_with (go_at_call 34; (with_reducible refine (bool2_t _).mono ?_); rintro e w3 ⟨rfl, b3⟩)
  go_ret
  exact ⟨rfl, BB.trans (b3.mono BB.size)⟩
/-- numbers and texts, over a world that has the table -/
def tabValS (i : Nat → Int) (b : Nat → Bool) (s : Nat → List UInt8) (sz : ∀ i, (s i).length ≤ 1099511627776) : Ev.Val := ⟨i, b, 0 + 1, Tab, fun w w' h hT => by
  unfold Tab Lib.TabIs World.var? at *
  rw [gPow] at hT ⊢
  simp only [Option.bind_some] at hT ⊢
  rw [h _ (Nat.lt_succ_self _)]
  exact hT, s, sz, fun _ => (0, 0), fun _ => undef⟩
def tabVal (i : Nat → Int) (b : Nat → Bool) : Ev.Val := tabValS i b (fun _ => []) fun _ => Nat.zero_le _
theorem tab_baseS {w : World} (hT : Tab w) (i : Nat → Int) (b : Nat → Bool) (s : Nat → List UInt8) (sz : ∀ i, (s i).length ≤ 1099511627776) : (tabValS i b s sz).J w ∧ (tabValS i b s sz).N ≤ w.heap.size := ⟨hT, World.block_lt_of_cell? _ _ hT.one⟩
theorem tab_base {w : World} (hT : Tab w) (i : Nat → Int) (b : Nat → Bool) : (tabVal i b).J w ∧ (tabVal i b).N ≤ w.heap.size := tab_baseS hT i b _ _
theorem known3_any (w : World) (hT : Tab w) : Calls Tryd.prog 4 #[] w fun e w' => e = .returned (.bool true) ∧ Below w.heap.size w w' :=
  Ev.law_true (l := []) (es := [⟨29, [.int .u64 (.lit 1)], .int .i64 (.lit 1)⟩]) (b := .lit true) (args := []) 1000 30 (fun φ => by kernel_rfl) (tabVal (fun _ => 0) fun _ => false) (fun q hq => by cases hq)
    (Ev.ents_cons (Ev.EntOk.ofJ rfl [.int .u64 1] ⟨rfl, trivial⟩ (v := .int .i64 1) (fun _ => rfl) fun w hJ => numDigits_1 w hJ) Ev.ents_nil) rfl [] w (tab_base hT _ _) trivial
end
end Go.Proofs.YtbhnkfhikjhaoaaDoor

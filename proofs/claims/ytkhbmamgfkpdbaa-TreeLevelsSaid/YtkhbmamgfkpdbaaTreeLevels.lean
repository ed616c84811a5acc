/-
  TreeLevels: two expressions make another one by an operator just if their levels are low enough. No condition.
-/
import Derived.Test.YtkhbmamgfkpdbaaTreeR
import Derived.Test.YtkhbmamgfkpdbaaTreeS
import Derived.Test.YtkhbmamgfkpdbaaTreeI
import Derived.Test.YtkhbmamgfkpdbaaEvD
import Derived.Test.YtkhbmamgfkpdbaaRows
import Derived.WalkKit
import Derived.ProofKit
import Derived.OpenShut
import Derived.Deep.DeepHandedRow
import Derived.Carry
import Derived.Deep.RegionWith
import Derived.Deep.RegionHeld3
namespace Go.Proofs.Ytkhbmamgfkpdbaa.treeLevels
open Go.ChangeShapes Go.WideShapes Go.ChangeAt Go.RowKit
open Go.ChangeMaps (open_string shut_string)
set_option linter.unusedVariables false
set_option maxRecDepth 1000000 in
theorem known15_any (w : World) : Calls Try.prog 9 #[] w fun e w' => e = .returned (.bool true) ∧ Below w.heap.size w w' :=
  Ev.closed_true 1000 30 (by kernel_rfl) w
theorem Lev.later {w W : World} {u : Value} {l : Int} (h : Lev w u l) (hb : Below w.heap.size w W) : Lev W u l := fun V hV => h V (hb.trans (hV.mono hb.size))
theorem Ex.later {w W : World} {u : Value} {l : Bool} (h : Ex w u l) (hb : Below w.heap.size w W) : Ex W u l := fun V hV => h V (hb.trans (hV.mono hb.size))
section
variable {W : World} {k' : Int} {s' : ByteArray} {v' : Int} {m' : Bool} {a' : Option Addr} {l' c' : Nat} {k2 : Int} {s2 : ByteArray} {v2 : Int} {m2 : Bool} {a2 : Option Addr} {l2 c2 : Nat}
/-- two nodes in a new row -/
theorem kids_new (V : World) (k' : Int) (s' : ByteArray) (v' : Int) (m' : Bool) (a' : Option Addr) (l' c' : Nat) (k2 : Int) (s2 : ByteArray) (v2 : Int) (m2 : Bool) (a2 : Option Addr) (l2 c2 : Nat) (t : TypeId) :
    Kid (V.alloc (.cells #[.int .i64 k', .string s', .int .u32 v', .bool m', .slice a' l' c', .int .i64 k2, .string s2, .int .u32 v2, .bool m2, .slice a2 l2 c2] t)) V.heap.size 0 none k' s' v' m' a' l' c' ∧
    Kid (V.alloc (.cells #[.int .i64 k', .string s', .int .u32 v', .bool m', .slice a' l' c', .int .i64 k2, .string s2, .int .u32 v2, .bool m2, .slice a2 l2 c2] t)) V.heap.size (0 + 5) none k2 s2 v2 m2 a2 l2 c2 := by
  refine ⟨⟨?_, ?_, ?_, ?_, ?_⟩, ⟨?_, ?_, ?_, ?_, ?_⟩⟩ <;> (rw [World.cell?_alloc_new V _ _ _]; rfl)
theorem kid_new (V : World) (k' : Int) (s' : ByteArray) (v' : Int) (m' : Bool) (a' : Option Addr) (l' c' : Nat) (t : TypeId) :
    Kid (V.alloc (.cells #[.int .i64 k', .string s', .int .u32 v', .bool m', .slice a' l' c'] t)) V.heap.size 0 none k' s' v' m' a' l' c' := by
  refine ⟨?_, ?_, ?_, ?_, ?_⟩ <;> (rw [World.cell?_alloc_new V _ _ _]; rfl)
theorem lev_paren {q : Nat} (hq : q < W.heap.size) (hK : Kid W q 0 none k' s' v' m' a' l' c') {e : Bool} (he : Ex W (nd k' s' v' m' a' l' c') e) : Lev W (nd 32 ⟨#[]⟩ 0 false (some ⟨q, 0, none⟩) 1 1) (if e then 0 else -1) :=
  levF (fac32_yes hq hK he (by unfold baB shB emB; rw [ByteArray.toList_eq]; rfl)) (by omega) (by omega)
theorem lev_not {q : Nat} (hq : q < W.heap.size) (hK : Kid W q 0 none k' s' v' m' a' l' c') {l : Int} (hl : Lev W (nd k' s' v' m' a' l' c') l) : Lev W (nd 33 ⟨#[]⟩ 0 false (some ⟨q, 0, none⟩) 1 1) (if (!(l == -1) && decide (l ≤ 0)) then 0 else -1) :=
  levF (fac33_yes hq hK (below_any hl 0) (by unfold baB shB emB; rw [ByteArray.toList_eq]; rfl)) (by omega) (by omega)
theorem lev_op {q : Nat} (hq : q < W.heap.size) (hK : Kid W q 0 none k' s' v' m' a' l' c' ∧ Kid W q (0 + 5) none k2 s2 v2 m2 a2 l2 c2) (s : ByteArray) {l0 l1 : Int} (h0 : Lev W (nd k' s' v' m' a' l' c') l0) (h1 : Lev W (nd k2 s2 v2 m2 a2 l2 c2) l1) : Lev W (nd 35 s 0 false (some ⟨q, 0, none⟩) 2 2) (opF s l0 l1) :=
  lev35 (op_two hq hK.1 hK.2 h0 h1 rfl)
end
theorem opF_fits (s : ByteArray) (x y : Int) (x0 : -1 ≤ x) (x1 : x ≤ 3) (y0 : -1 ≤ y) (y1 : y ≤ 3) : (0 < rk s ∧ 0 ≤ x ∧ 0 ≤ y ∧ x ≤ min (rk s) 2 ∧ y < rk s ∧ opF s x y = rk s) ∨ (¬ (0 < rk s ∧ 0 ≤ x ∧ 0 ≤ y ∧ x ≤ min (rk s) 2 ∧ y < rk s) ∧ opF s x y = -1) := by
  have := rk_in s
  unfold opF
  generalize rk s = R at *
  by_cases h0 : R = 0
  · subst h0; right; simp
  · rw [if_neg h0]
    by_cases h1 : 0 ≤ x ∧ 0 ≤ y ∧ x ≤ min R 2 ∧ y < R
    · left
      refine ⟨by omega, h1.1, h1.2.1, h1.2.2.1, h1.2.2.2, ?_⟩
      have a1 : (x == -1) = false := by simp; omega
      have a2 : (y == -1) = false := by simp; omega
      have a3 : decide (x ≤ min R 2) = true := decide_eq_true h1.2.2.1
      have a4 : decide (y ≤ R - 1) = true := decide_eq_true (by omega)
      rw [a1, a2, a3, a4]; rfl
    · right
      refine ⟨fun h => h1 h.2, ?_⟩
      rw [if_neg]
      intro h
      simp only [Bool.and_eq_true, Bool.not_eq_true', decide_eq_true_eq, beq_eq_false_iff_ne] at h
      omega
/-- a node's copy, at the beginning of a block -/
structure Cells5 (W : World) (b : Nat) (k : Int) (s : ByteArray) (v : Int) (m : Bool) (a : Option Addr) (l c : Nat) : Prop where
  e0 : W.cell? ⟨b, 0, none⟩ = some (.int .i64 k)
  e1 : W.cell? ⟨b, 1, none⟩ = some (.string s)
  e2 : W.cell? ⟨b, 2, none⟩ = some (.int .u32 v)
  e3 : W.cell? ⟨b, 3, none⟩ = some (.bool m)
  e4 : W.cell? ⟨b, 4, none⟩ = some (.slice a l c)
  lt : b < W.heap.size
theorem Cells5.next {W V : World} {b : Nat} {k : Int} {s : ByteArray} {v : Int} {m : Bool} {a : Option Addr} {l c : Nat} (h : Cells5 W b k s v m a l c) (hb : Below W.heap.size W V) : Cells5 V b k s v m a l c :=
  have l := h.lt
  ⟨by rw [hb.cell l]; exact h.e0, by rw [hb.cell l]; exact h.e1, by rw [hb.cell l]; exact h.e2, by rw [hb.cell l]; exact h.e3, by rw [hb.cell l]; exact h.e4, Nat.lt_of_lt_of_le l hb.size⟩
theorem Cells5.new (V : World) (k : Int) (s : ByteArray) (v : Int) (m : Bool) (a : Option Addr) (l c : Nat) (t : TypeId) {b : Nat} (hb : V.heap.size = b) : Cells5 (V.alloc (.cells #[.int .i64 k, .string s, .int .u32 v, .bool m, .slice a l c] t)) b k s v m a l c := by
  subst hb
  exact ⟨by rw [World.cell?_alloc_new V _ _ _]; rfl, by rw [World.cell?_alloc_new V _ _ _]; rfl, by rw [World.cell?_alloc_new V _ _ _]; rfl, by rw [World.cell?_alloc_new V _ _ _]; rfl, by rw [World.cell?_alloc_new V _ _ _]; rfl, by simp⟩
/-- what lies in memory behind the six new blocks -/
structure Six (w2 W : World) (ka : Int) (sa : ByteArray) (va : Int) (ma : Bool) (aa : Option Addr) (la ca : Nat) : Prop where
  bel : Below w2.heap.size w2 W
  size : W.heap.size = w2.heap.size + 6
  kp : Kid W w2.heap.size 0 none ka sa va ma aa la ca
  kn : Kid W (w2.heap.size + 1 + 1) 0 none ka sa va ma aa la ca
  km : Kid W (w2.heap.size + 1 + 1 + 1 + 1) 0 none 32 ⟨#[]⟩ 0 false (some ⟨w2.heap.size, 0, none⟩) 1 1 ∧ Kid W (w2.heap.size + 1 + 1 + 1 + 1) (0 + 5) none 32 ⟨#[]⟩ 0 false (some ⟨w2.heap.size, 0, none⟩) 1 1
  cn : Cells5 W (w2.heap.size + 1 + 1 + 1) 33 ⟨#[]⟩ 0 false (some ⟨w2.heap.size + 1 + 1, 0, none⟩) 1 1
  cm : Cells5 W (w2.heap.size + 1 + 1 + 1 + 1 + 1) 35 ⟨#[42]⟩ 0 false (some ⟨w2.heap.size + 1 + 1 + 1 + 1, 0, none⟩) 2 2
theorem six (w2 : World) (ka : Int) (sa : ByteArray) (va : Int) (ma : Bool) (aa : Option Addr) (la ca : Nat) : Six w2 ((((((w2.alloc (.cells #[.int .i64 ka, .string sa, .int .u32 va, .bool ma, .slice aa la ca] 26)).alloc (.cells #[.int .i64 32, .string ⟨#[]⟩, .int .u32 0, .bool false, .slice (some ⟨w2.heap.size, 0, none⟩) 1 1] 26)).alloc (.cells #[.int .i64 ka, .string sa, .int .u32 va, .bool ma, .slice aa la ca] 26)).alloc (.cells #[.int .i64 33, .string ⟨#[]⟩, .int .u32 0, .bool false, .slice (some ⟨w2.heap.size + 1 + 1, 0, none⟩) 1 1] 26)).alloc (.cells #[.int .i64 32, .string ⟨#[]⟩, .int .u32 0, .bool false, .slice (some ⟨w2.heap.size, 0, none⟩) 1 1, .int .i64 32, .string ⟨#[]⟩, .int .u32 0, .bool false, .slice (some ⟨w2.heap.size, 0, none⟩) 1 1] 26)).alloc (.cells #[.int .i64 35, .string ⟨#[42]⟩, .int .u32 0, .bool false, .slice (some ⟨w2.heap.size + 1 + 1 + 1 + 1, 0, none⟩) 2 2] 26)) ka sa va ma aa la ca := by
  have k1 := kid_new w2 ka sa va ma aa la ca 26
  have s1 : (w2.alloc (.cells #[.int .i64 ka, .string sa, .int .u32 va, .bool ma, .slice aa la ca] 26)).heap.size = w2.heap.size + 1 := by simp
  have b1 := below1 w2 (.cells #[.int .i64 ka, .string sa, .int .u32 va, .bool ma, .slice aa la ca] 26)
  generalize (w2.alloc (.cells #[.int .i64 ka, .string sa, .int .u32 va, .bool ma, .slice aa la ca] 26)) = V1 at *
  have s2 : (V1.alloc (.cells #[.int .i64 32, .string ⟨#[]⟩, .int .u32 0, .bool false, .slice (some ⟨w2.heap.size, 0, none⟩) 1 1] 26)).heap.size = w2.heap.size + 1 + 1 := by simp [s1]
  have b2 := below1 V1 (.cells #[.int .i64 32, .string ⟨#[]⟩, .int .u32 0, .bool false, .slice (some ⟨w2.heap.size, 0, none⟩) 1 1] 26)
  generalize V1.alloc (.cells #[.int .i64 32, .string ⟨#[]⟩, .int .u32 0, .bool false, .slice (some ⟨w2.heap.size, 0, none⟩) 1 1] 26) = V2 at *
  have k3 := kid_new V2 ka sa va ma aa la ca 26
  have s3 : (V2.alloc (.cells #[.int .i64 ka, .string sa, .int .u32 va, .bool ma, .slice aa la ca] 26)).heap.size = w2.heap.size + 1 + 1 + 1 := by simp [s2]
  have b3 := below1 V2 (.cells #[.int .i64 ka, .string sa, .int .u32 va, .bool ma, .slice aa la ca] 26)
  generalize V2.alloc (.cells #[.int .i64 ka, .string sa, .int .u32 va, .bool ma, .slice aa la ca] 26) = V3 at *
  have c4 := Cells5.new V3 33 ⟨#[]⟩ 0 false (some ⟨w2.heap.size + 1 + 1, 0, none⟩) 1 1 26 s3
  have s4 : (V3.alloc (.cells #[.int .i64 33, .string ⟨#[]⟩, .int .u32 0, .bool false, .slice (some ⟨w2.heap.size + 1 + 1, 0, none⟩) 1 1] 26)).heap.size = w2.heap.size + 1 + 1 + 1 + 1 := by simp [s3]
  have b4 := below1 V3 (.cells #[.int .i64 33, .string ⟨#[]⟩, .int .u32 0, .bool false, .slice (some ⟨w2.heap.size + 1 + 1, 0, none⟩) 1 1] 26)
  generalize V3.alloc (.cells #[.int .i64 33, .string ⟨#[]⟩, .int .u32 0, .bool false, .slice (some ⟨w2.heap.size + 1 + 1, 0, none⟩) 1 1] 26) = V4 at *
  have k5 := kids_new V4 32 ⟨#[]⟩ 0 false (some ⟨w2.heap.size, 0, none⟩) 1 1 32 ⟨#[]⟩ 0 false (some ⟨w2.heap.size, 0, none⟩) 1 1 26
  have s5 : (V4.alloc (.cells #[.int .i64 32, .string ⟨#[]⟩, .int .u32 0, .bool false, .slice (some ⟨w2.heap.size, 0, none⟩) 1 1, .int .i64 32, .string ⟨#[]⟩, .int .u32 0, .bool false, .slice (some ⟨w2.heap.size, 0, none⟩) 1 1] 26)).heap.size = w2.heap.size + 1 + 1 + 1 + 1 + 1 := by simp [s4]
  have b5 := below1 V4 (.cells #[.int .i64 32, .string ⟨#[]⟩, .int .u32 0, .bool false, .slice (some ⟨w2.heap.size, 0, none⟩) 1 1, .int .i64 32, .string ⟨#[]⟩, .int .u32 0, .bool false, .slice (some ⟨w2.heap.size, 0, none⟩) 1 1] 26)
  generalize V4.alloc (.cells #[.int .i64 32, .string ⟨#[]⟩, .int .u32 0, .bool false, .slice (some ⟨w2.heap.size, 0, none⟩) 1 1, .int .i64 32, .string ⟨#[]⟩, .int .u32 0, .bool false, .slice (some ⟨w2.heap.size, 0, none⟩) 1 1] 26) = V5 at *
  have c6 := Cells5.new V5 35 ⟨#[42]⟩ 0 false (some ⟨w2.heap.size + 1 + 1 + 1 + 1, 0, none⟩) 2 2 26 s5
  have s6 : (V5.alloc (.cells #[.int .i64 35, .string ⟨#[42]⟩, .int .u32 0, .bool false, .slice (some ⟨w2.heap.size + 1 + 1 + 1 + 1, 0, none⟩) 2 2] 26)).heap.size = w2.heap.size + 6 := by simp [s5]
  have b6 := below1 V5 (.cells #[.int .i64 35, .string ⟨#[42]⟩, .int .u32 0, .bool false, .slice (some ⟨w2.heap.size + 1 + 1 + 1 + 1, 0, none⟩) 2 2] 26)
  generalize V5.alloc (.cells #[.int .i64 35, .string ⟨#[42]⟩, .int .u32 0, .bool false, .slice (some ⟨w2.heap.size + 1 + 1 + 1 + 1, 0, none⟩) 2 2] 26) = V6 at *
  rw [s2] at k3
  rw [s4] at k5
  have B56 := b5.trans (b6.mono b5.size)
  have B46 := b4.trans (B56.mono b4.size)
  have B36 := b3.trans (B46.mono b3.size)
  have B26 := b2.trans (B36.mono b2.size)
  exact ⟨b1.trans (B26.mono b1.size), s6, k1.below (by omega) B26, k3.below (by omega) B46, ⟨k5.1.below (by omega) b6, k5.2.below (by omega) b6⟩, c4.next B56, c6⟩
theorem rk_star : rk ⟨#[42]⟩ = 1 := by unfold rk; rw [ByteArray.toList_eq]; rfl
/-- of what they are made, by the level of the part -/
theorem six_lev {w2 W : World} {ka : Int} {sa : ByteArray} {va : Int} {ma : Bool} {aa : Option Addr} {la ca : Nat} (h : Six w2 W ka sa va ma aa la ca) {x : Int} (hl : Lev W (nd ka sa va ma aa la ca) x) (x0 : -1 ≤ x) :
    (x = -1 ∧ Lev W (nd 32 ⟨#[]⟩ 0 false (some ⟨w2.heap.size, 0, none⟩) 1 1) (-1) ∧ Lev W (nd 33 ⟨#[]⟩ 0 false (some ⟨w2.heap.size + 1 + 1, 0, none⟩) 1 1) (-1) ∧ Lev W (nd 35 ⟨#[42]⟩ 0 false (some ⟨w2.heap.size + 1 + 1 + 1 + 1, 0, none⟩) 2 2) (-1)) ∨
    (x = 0 ∧ Lev W (nd 32 ⟨#[]⟩ 0 false (some ⟨w2.heap.size, 0, none⟩) 1 1) 0 ∧ Lev W (nd 33 ⟨#[]⟩ 0 false (some ⟨w2.heap.size + 1 + 1, 0, none⟩) 1 1) 0 ∧ Lev W (nd 35 ⟨#[42]⟩ 0 false (some ⟨w2.heap.size + 1 + 1 + 1 + 1, 0, none⟩) 2 2) 1) ∨
    (0 < x ∧ Lev W (nd 32 ⟨#[]⟩ 0 false (some ⟨w2.heap.size, 0, none⟩) 1 1) 0 ∧ Lev W (nd 33 ⟨#[]⟩ 0 false (some ⟨w2.heap.size + 1 + 1, 0, none⟩) 1 1) (-1) ∧ Lev W (nd 35 ⟨#[42]⟩ 0 false (some ⟨w2.heap.size + 1 + 1 + 1 + 1, 0, none⟩) 2 2) 1) := by
  have hs := h.size
  have L1 := lev_paren (by omega) h.kp (ex_of hl)
  have L2 := lev_not (by omega) h.kn hl
  have L3 := lev_op (by omega) h.km ⟨#[42]⟩ L1 L1
  unfold opF at L3
  rw [rk_star] at L3
  rcases (by omega : x = -1 ∨ x = 0 ∨ 0 < x) with rfl | rfl | hx
  · exact .inl ⟨rfl, L1, L2, L3⟩
  · exact .inr (.inl ⟨rfl, L1, L2, L3⟩)
  · have e1 : (x == -1) = false := by simp; omega
    have e2 : decide (x ≤ 0) = false := by simp; omega
    rw [e1] at L1 L2 L3
    rw [e2] at L2
    exact .inr (.inr ⟨hx, L1, L2, L3⟩)
theorem inv_next {w v v' : World} {ka : Int} {sa : ByteArray} {va : Int} {ma : Bool} {aa : Option Addr} {la ca : Nat} {kb : Int} {sb : ByteArray} {vb : Int} {mb : Bool} {ab : Option Addr} {lb cb : Nat} (h : (Below w.heap.size w v ∧ w.heap.size + 1 < v.heap.size ∧ v.cell? ⟨w.heap.size, 0, none⟩ = some (.int .i64 ka) ∧ v.cell? ⟨w.heap.size, 1, none⟩ = some (.string sa) ∧ v.cell? ⟨w.heap.size, 2, none⟩ = some (.int .u32 va) ∧ v.cell? ⟨w.heap.size, 3, none⟩ = some (.bool ma) ∧ v.cell? ⟨w.heap.size, 4, none⟩ = some (.slice aa la ca) ∧ v.cell? ⟨w.heap.size + 1, 0, none⟩ = some (.int .i64 kb) ∧ v.cell? ⟨w.heap.size + 1, 1, none⟩ = some (.string sb) ∧ v.cell? ⟨w.heap.size + 1, 2, none⟩ = some (.int .u32 vb) ∧ v.cell? ⟨w.heap.size + 1, 3, none⟩ = some (.bool mb) ∧ v.cell? ⟨w.heap.size + 1, 4, none⟩ = some (.slice ab lb cb))) (hb : Below v.heap.size v v') : (Below w.heap.size w v' ∧ w.heap.size + 1 < v'.heap.size ∧ v'.cell? ⟨w.heap.size, 0, none⟩ = some (.int .i64 ka) ∧ v'.cell? ⟨w.heap.size, 1, none⟩ = some (.string sa) ∧ v'.cell? ⟨w.heap.size, 2, none⟩ = some (.int .u32 va) ∧ v'.cell? ⟨w.heap.size, 3, none⟩ = some (.bool ma) ∧ v'.cell? ⟨w.heap.size, 4, none⟩ = some (.slice aa la ca) ∧ v'.cell? ⟨w.heap.size + 1, 0, none⟩ = some (.int .i64 kb) ∧ v'.cell? ⟨w.heap.size + 1, 1, none⟩ = some (.string sb) ∧ v'.cell? ⟨w.heap.size + 1, 2, none⟩ = some (.int .u32 vb) ∧ v'.cell? ⟨w.heap.size + 1, 3, none⟩ = some (.bool mb) ∧ v'.cell? ⟨w.heap.size + 1, 4, none⟩ = some (.slice ab lb cb)) := by
  obtain ⟨b0, l0, c0, c1, c2, c3, c4, d0, d1, d2, d3, d4⟩ := h
  have l1 : w.heap.size < v.heap.size := by omega
  have := hb.size
  exact ⟨b0.trans (hb.mono b0.size), by omega, by rw [hb.cell l1]; exact c0, by rw [hb.cell l1]; exact c1, by rw [hb.cell l1]; exact c2, by rw [hb.cell l1]; exact c3, by rw [hb.cell l1]; exact c4, by rw [hb.cell l0]; exact d0, by rw [hb.cell l0]; exact d1, by rw [hb.cell l0]; exact d2, by rw [hb.cell l0]; exact d3, by rw [hb.cell l0]; exact d4⟩
set_option maxHeartbeats 40000000 in
theorem walk0 (ka : Int) (sa : ByteArray) (va : Int) (ma : Bool) (aa : Option Addr) (la ca : Nat) (kb : Int) (sb : ByteArray) (vb : Int) (mb : Bool) (ab : Option Addr) (lb cb : Nat) (s : ByteArray) (w : World)
    (ga : BigR w (nd ka sa va ma aa la ca)) (gb : BigR w (nd kb sb vb mb ab lb cb)) (x y : Int) (hx : Lev w (nd ka sa va ma aa la ca) x) (hy : Lev w (nd kb sb vb mb ab lb cb) y) (x0 : -1 ≤ x) (x1 : x ≤ 3) (y0 : -1 ≤ y) (y1 : y ≤ 3) (hs : s.size ≤ maxLen) :
    Calls Try.prog 6 #[nd ka sa va ma aa la ca, nd kb sb vb mb ab lb cb, .string s] w fun e w' => e = .returned (.bool true) ∧ Below w.heap.size w w' := by
  have GA := Lib.hid ga
  have GB := Lib.hid gb
  have HX := Lib.hid hx
  have HY := Lib.hid hy
  clear ga gb hx hy
  unfold maxLen at hs
  have HB := Lib.hid (((below1 w (.cells #[.int .i64 ka, .string sa, .int .u32 va, .bool ma, .slice aa la ca] 26)).alloc (below1 w _).size (.cells #[.int .i64 kb, .string sb, .int .u32 vb, .bool mb, .slice ab lb cb] 26)))
  have HC := Lib.hid ((Cells5.new w ka sa va ma aa la ca 26 rfl).next (below1 _ (.cells #[.int .i64 kb, .string sb, .int .u32 vb, .bool mb, .slice ab lb cb] 26)))
  have HD := Lib.hid (Cells5.new (w.alloc (.cells #[.int .i64 ka, .string sa, .int .u32 va, .bool ma, .slice aa la ca] 26)) kb sb vb mb ab lb cb 26 (b := w.heap.size + 1) (by simp))
  unfold nd at *
  go_enter Try.func6, Try.ntmps6
  go_wp2_with (first | (go_at_call 25; (first | with_reducible refine (BigR.call GA.out HB.out _).mono ?_ | with_reducible refine (BigR.call GB.out HB.out _).mono ?_); rintro e w1 ⟨⟨r1, rfl⟩, hb1⟩; (try clear c0 c1 c2 c3 c4 d0 d1 d2 d3 d4); replace HB := Lib.hid (HB.out.trans (hb1.mono HB.out.size)); replace HC := Lib.hid (HC.out.next hb1); replace HD := Lib.hid (HD.out.next hb1); obtain ⟨c0, c1, c2, c3, c4, -⟩ := HC.out; obtain ⟨d0, d1, d2, d3, d4, -⟩ := HD.out; clear hb1) | (go_at_call 26; (first | with_reducible refine (Lev.call HX.out HB.out).mono ?_ | with_reducible refine (Lev.call HY.out HB.out).mono ?_); rintro e w1 ⟨rfl, hb1⟩; (try clear c0 c1 c2 c3 c4 d0 d1 d2 d3 d4); replace HB := Lib.hid (HB.out.trans (hb1.mono HB.out.size)); replace HC := Lib.hid (HC.out.next hb1); replace HD := Lib.hid (HD.out.next hb1); obtain ⟨c0, c1, c2, c3, c4, -⟩ := HC.out; obtain ⟨d0, d1, d2, d3, d4, -⟩ := HD.out; clear hb1) | (go_at_call 27; refine (rank_any s _).mono ?_; rintro e w1 ⟨rfl, hb1⟩; (try clear c0 c1 c2 c3 c4 d0 d1 d2 d3 d4); replace HB := Lib.hid (HB.out.trans (hb1.mono HB.out.size)); replace HC := Lib.hid (HC.out.next hb1); replace HD := Lib.hid (HD.out.next hb1); obtain ⟨c0, c1, c2, c3, c4, -⟩ := HC.out; obtain ⟨d0, d1, d2, d3, d4, -⟩ := HD.out; clear hb1) | (go_at_call 9; refine (known15_any _).mono ?_; rintro e w1 ⟨rfl, hb1⟩; (try clear c0 c1 c2 c3 c4 d0 d1 d2 d3 d4); replace HB := Lib.hid (HB.out.trans (hb1.mono HB.out.size)); replace HC := Lib.hid (HC.out.next hb1); replace HD := Lib.hid (HD.out.next hb1); obtain ⟨c0, c1, c2, c3, c4, -⟩ := HC.out; obtain ⟨d0, d1, d2, d3, d4, -⟩ := HD.out; clear hb1))
  · go_ret
    exact ⟨rfl, HB.out⟩
  · clear c0 c1 c2 c3 c4 d0 d1 d2 d3 d4
    replace HB := Lib.hid (HB.out.drew)
    replace HC := Lib.hid (HC.out.next (Below.refl _ _).drew)
    replace HD := Lib.hid (HD.out.next (Below.refl _ _).drew)
    clear GA GB
    obtain ⟨c0, c1, c2, c3, c4, -⟩ := HC.out
    obtain ⟨d0, d1, d2, d3, d4, -⟩ := HD.out
    have b0 := HB.out
    have l0 := HD.out.lt
    have HXc : ∀ v, (Below w.heap.size w v ∧ w.heap.size + 1 < v.heap.size ∧ v.cell? ⟨w.heap.size, 0, none⟩ = some (.int .i64 ka) ∧ v.cell? ⟨w.heap.size, 1, none⟩ = some (.string sa) ∧ v.cell? ⟨w.heap.size, 2, none⟩ = some (.int .u32 va) ∧ v.cell? ⟨w.heap.size, 3, none⟩ = some (.bool ma) ∧ v.cell? ⟨w.heap.size, 4, none⟩ = some (.slice aa la ca) ∧ v.cell? ⟨w.heap.size + 1, 0, none⟩ = some (.int .i64 kb) ∧ v.cell? ⟨w.heap.size + 1, 1, none⟩ = some (.string sb) ∧ v.cell? ⟨w.heap.size + 1, 2, none⟩ = some (.int .u32 vb) ∧ v.cell? ⟨w.heap.size + 1, 3, none⟩ = some (.bool mb) ∧ v.cell? ⟨w.heap.size + 1, 4, none⟩ = some (.slice ab lb cb)) → Calls Try.prog 26 #[.agg #[.int .i64 ka, .string sa, .int .u32 va, .bool ma, .slice aa la ca]] v fun e v' => e = .returned (.int .i64 x) ∧ (Below w.heap.size w v' ∧ w.heap.size + 1 < v'.heap.size ∧ v'.cell? ⟨w.heap.size, 0, none⟩ = some (.int .i64 ka) ∧ v'.cell? ⟨w.heap.size, 1, none⟩ = some (.string sa) ∧ v'.cell? ⟨w.heap.size, 2, none⟩ = some (.int .u32 va) ∧ v'.cell? ⟨w.heap.size, 3, none⟩ = some (.bool ma) ∧ v'.cell? ⟨w.heap.size, 4, none⟩ = some (.slice aa la ca) ∧ v'.cell? ⟨w.heap.size + 1, 0, none⟩ = some (.int .i64 kb) ∧ v'.cell? ⟨w.heap.size + 1, 1, none⟩ = some (.string sb) ∧ v'.cell? ⟨w.heap.size + 1, 2, none⟩ = some (.int .u32 vb) ∧ v'.cell? ⟨w.heap.size + 1, 3, none⟩ = some (.bool mb) ∧ v'.cell? ⟨w.heap.size + 1, 4, none⟩ = some (.slice ab lb cb)) := fun v hS => (Lev.call HX.out hS.1).mono (fun e v' h => ⟨h.1, inv_next hS h.2⟩)
    have HYc : ∀ v, (Below w.heap.size w v ∧ w.heap.size + 1 < v.heap.size ∧ v.cell? ⟨w.heap.size, 0, none⟩ = some (.int .i64 ka) ∧ v.cell? ⟨w.heap.size, 1, none⟩ = some (.string sa) ∧ v.cell? ⟨w.heap.size, 2, none⟩ = some (.int .u32 va) ∧ v.cell? ⟨w.heap.size, 3, none⟩ = some (.bool ma) ∧ v.cell? ⟨w.heap.size, 4, none⟩ = some (.slice aa la ca) ∧ v.cell? ⟨w.heap.size + 1, 0, none⟩ = some (.int .i64 kb) ∧ v.cell? ⟨w.heap.size + 1, 1, none⟩ = some (.string sb) ∧ v.cell? ⟨w.heap.size + 1, 2, none⟩ = some (.int .u32 vb) ∧ v.cell? ⟨w.heap.size + 1, 3, none⟩ = some (.bool mb) ∧ v.cell? ⟨w.heap.size + 1, 4, none⟩ = some (.slice ab lb cb)) → Calls Try.prog 26 #[.agg #[.int .i64 kb, .string sb, .int .u32 vb, .bool mb, .slice ab lb cb]] v fun e v' => e = .returned (.int .i64 y) ∧ (Below w.heap.size w v' ∧ w.heap.size + 1 < v'.heap.size ∧ v'.cell? ⟨w.heap.size, 0, none⟩ = some (.int .i64 ka) ∧ v'.cell? ⟨w.heap.size, 1, none⟩ = some (.string sa) ∧ v'.cell? ⟨w.heap.size, 2, none⟩ = some (.int .u32 va) ∧ v'.cell? ⟨w.heap.size, 3, none⟩ = some (.bool ma) ∧ v'.cell? ⟨w.heap.size, 4, none⟩ = some (.slice aa la ca) ∧ v'.cell? ⟨w.heap.size + 1, 0, none⟩ = some (.int .i64 kb) ∧ v'.cell? ⟨w.heap.size + 1, 1, none⟩ = some (.string sb) ∧ v'.cell? ⟨w.heap.size + 1, 2, none⟩ = some (.int .u32 vb) ∧ v'.cell? ⟨w.heap.size + 1, 3, none⟩ = some (.bool mb) ∧ v'.cell? ⟨w.heap.size + 1, 4, none⟩ = some (.slice ab lb cb)) := fun v hS => (Lev.call HY.out hS.1).mono (fun e v' h => ⟨h.1, inv_next hS h.2⟩)
    have HRc : ∀ v, (Below w.heap.size w v ∧ w.heap.size + 1 < v.heap.size ∧ v.cell? ⟨w.heap.size, 0, none⟩ = some (.int .i64 ka) ∧ v.cell? ⟨w.heap.size, 1, none⟩ = some (.string sa) ∧ v.cell? ⟨w.heap.size, 2, none⟩ = some (.int .u32 va) ∧ v.cell? ⟨w.heap.size, 3, none⟩ = some (.bool ma) ∧ v.cell? ⟨w.heap.size, 4, none⟩ = some (.slice aa la ca) ∧ v.cell? ⟨w.heap.size + 1, 0, none⟩ = some (.int .i64 kb) ∧ v.cell? ⟨w.heap.size + 1, 1, none⟩ = some (.string sb) ∧ v.cell? ⟨w.heap.size + 1, 2, none⟩ = some (.int .u32 vb) ∧ v.cell? ⟨w.heap.size + 1, 3, none⟩ = some (.bool mb) ∧ v.cell? ⟨w.heap.size + 1, 4, none⟩ = some (.slice ab lb cb)) → Calls Try.prog 27 #[.string s] v fun e v' => e = .returned (.int .i64 (rk s)) ∧ (Below w.heap.size w v' ∧ w.heap.size + 1 < v'.heap.size ∧ v'.cell? ⟨w.heap.size, 0, none⟩ = some (.int .i64 ka) ∧ v'.cell? ⟨w.heap.size, 1, none⟩ = some (.string sa) ∧ v'.cell? ⟨w.heap.size, 2, none⟩ = some (.int .u32 va) ∧ v'.cell? ⟨w.heap.size, 3, none⟩ = some (.bool ma) ∧ v'.cell? ⟨w.heap.size, 4, none⟩ = some (.slice aa la ca) ∧ v'.cell? ⟨w.heap.size + 1, 0, none⟩ = some (.int .i64 kb) ∧ v'.cell? ⟨w.heap.size + 1, 1, none⟩ = some (.string sb) ∧ v'.cell? ⟨w.heap.size + 1, 2, none⟩ = some (.int .u32 vb) ∧ v'.cell? ⟨w.heap.size + 1, 3, none⟩ = some (.bool mb) ∧ v'.cell? ⟨w.heap.size + 1, 4, none⟩ = some (.slice ab lb cb)) := fun v hS => (rank_any s v).mono (fun e v' h => ⟨h.1, inv_next hS h.2⟩)
    replace HXc := Lib.hid HXc
    replace HYc := Lib.hid HYc
    replace HRc := Lib.hid HRc
    go_region_held3 (fun w' => (Below w.heap.size w w' ∧ w.heap.size + 1 < w'.heap.size ∧ w'.cell? ⟨w.heap.size, 0, none⟩ = some (.int .i64 ka) ∧ w'.cell? ⟨w.heap.size, 1, none⟩ = some (.string sa) ∧ w'.cell? ⟨w.heap.size, 2, none⟩ = some (.int .u32 va) ∧ w'.cell? ⟨w.heap.size, 3, none⟩ = some (.bool ma) ∧ w'.cell? ⟨w.heap.size, 4, none⟩ = some (.slice aa la ca) ∧ w'.cell? ⟨w.heap.size + 1, 0, none⟩ = some (.int .i64 kb) ∧ w'.cell? ⟨w.heap.size + 1, 1, none⟩ = some (.string sb) ∧ w'.cell? ⟨w.heap.size + 1, 2, none⟩ = some (.int .u32 vb) ∧ w'.cell? ⟨w.heap.size + 1, 3, none⟩ = some (.bool mb) ∧ w'.cell? ⟨w.heap.size + 1, 4, none⟩ = some (.slice ab lb cb)))
      (first | exact ⟨by assumption, by assumption, by assumption, by assumption, by assumption, by assumption, by assumption, by assumption, by assumption, by assumption, by assumption, by assumption⟩ | go_keep)
      ((first | ((with_reducible refine (HXc.out _ ⟨by assumption, by assumption, by assumption, by assumption, by assumption, by assumption, by assumption, by assumption, by assumption, by assumption, by assumption, by assumption⟩).mono ?_); rintro e w1 ⟨rfl, b0, l0, c0, c1, c2, c3, c4, d0, d1, d2, d3, d4⟩) | ((with_reducible refine (HYc.out _ ⟨by assumption, by assumption, by assumption, by assumption, by assumption, by assumption, by assumption, by assumption, by assumption, by assumption, by assumption, by assumption⟩).mono ?_); rintro e w1 ⟨rfl, b0, l0, c0, c1, c2, c3, c4, d0, d1, d2, d3, d4⟩) | ((with_reducible refine (HRc.out _ ⟨by assumption, by assumption, by assumption, by assumption, by assumption, by assumption, by assumption, by assumption, by assumption, by assumption, by assumption, by assumption⟩).mono ?_); rintro e w1 ⟨rfl, b0, l0, c0, c1, c2, c3, c4, d0, d1, d2, d3, d4⟩)))
    all_goals
      go_wp2_with fail
      clear HXc HYc HRc
      replace HB := Lib.hid b0
      replace HC : Hid (Cells5 w1 w.heap.size ka sa va ma aa la ca) := Lib.hid ⟨c0, c1, c2, c3, c4, by omega⟩
      replace HD : Hid (Cells5 w1 (w.heap.size + 1) kb sb vb mb ab lb cb) := Lib.hid ⟨d0, d1, d2, d3, d4, l0⟩
      have HA := Lib.hid (HB.out.alloc HB.out.size (.cells #[.int .i64 ka, .string sa, .int .u32 va, .bool ma, .slice aa la ca, .int .i64 kb, .string sb, .int .u32 vb, .bool mb, .slice ab lb cb] 26))
      have HN := lev_op (W := w1.alloc (.cells #[.int .i64 ka, .string sa, .int .u32 va, .bool ma, .slice aa la ca, .int .i64 kb, .string sb, .int .u32 vb, .bool mb, .slice ab lb cb] 26)) (by simp) (kids_new w1 ka sa va ma aa la ca kb sb vb mb ab lb cb 26) s (Lev.later HX.out HA.out) (Lev.later HY.out HA.out)
      refine (Lev.call HN (Below.refl _ _)).mono ?_
      rintro e w2 ⟨rfl, hb1⟩
      have hb1 : Below w1.heap.size w1 w2 := (below1 w1 _).trans (hb1.mono (below1 w1 _).size)
      (try clear c0 c1 c2 c3 c4 d0 d1 d2 d3 d4); replace HB := Lib.hid (HB.out.trans (hb1.mono HB.out.size)); replace HC := Lib.hid (HC.out.next hb1); replace HD := Lib.hid (HD.out.next hb1); obtain ⟨c0, c1, c2, c3, c4, -⟩ := HC.out; obtain ⟨d0, d1, d2, d3, d4, -⟩ := HD.out; clear hb1
      clear HN HA
      rcases opF_fits s x y x0 x1 y0 y1 with ⟨h1, h2, h3, h4, h5, h6⟩ | ⟨h1, h6⟩
      · rw [h6]
        have ltC := HC.out.lt
        have ltD := HD.out.lt
        go_wp2_with fail
        all_goals
          clear c0 c1 c2 c3 c4 d0 d1 d2 d3 d4
          have F := six w2 ka sa va ma aa la ca
          generalize ((((((w2.alloc (.cells #[.int .i64 ka, .string sa, .int .u32 va, .bool ma, .slice aa la ca] 26)).alloc (.cells #[.int .i64 32, .string ⟨#[]⟩, .int .u32 0, .bool false, .slice (some ⟨w2.heap.size, 0, none⟩) 1 1] 26)).alloc (.cells #[.int .i64 ka, .string sa, .int .u32 va, .bool ma, .slice aa la ca] 26)).alloc (.cells #[.int .i64 33, .string ⟨#[]⟩, .int .u32 0, .bool false, .slice (some ⟨w2.heap.size + 1 + 1, 0, none⟩) 1 1] 26)).alloc (.cells #[.int .i64 32, .string ⟨#[]⟩, .int .u32 0, .bool false, .slice (some ⟨w2.heap.size, 0, none⟩) 1 1, .int .i64 32, .string ⟨#[]⟩, .int .u32 0, .bool false, .slice (some ⟨w2.heap.size, 0, none⟩) 1 1] 26)).alloc (.cells #[.int .i64 35, .string ⟨#[42]⟩, .int .u32 0, .bool false, .slice (some ⟨w2.heap.size + 1 + 1 + 1 + 1, 0, none⟩) 2 2] 26)) = V6 at F ⊢
          replace HB := Lib.hid (HB.out.trans (F.bel.mono HB.out.size))
          have SL := six_lev F (Lev.later HX.out HB.out) x0
          have HV := Lib.hid (Below.refl V6.heap.size V6)
          replace HC := Lib.hid F.cn
          replace HD := Lib.hid F.cm
          obtain ⟨c0, c1, c2, c3, c4, -⟩ := HC.out
          obtain ⟨d0, d1, d2, d3, d4, -⟩ := HD.out
          clear F HX HY
          rcases SL with ⟨hx, hp, hn, hm⟩ | ⟨hx, hp, hn, hm⟩ | ⟨hx, hp, hn, hm⟩
          all_goals first
            | (exfalso; omega)
            | (have HP := Lib.hid hp
               have HN := Lib.hid hn
               have HM := Lib.hid hm
               clear hp hn hm
               unfold nd at *
               go_wp2_with (first | (go_at_call 26; (first | with_reducible refine (Lev.call HP.out HV.out).mono ?_ | with_reducible refine (Lev.call HN.out HV.out).mono ?_ | with_reducible refine (Lev.call HM.out HV.out).mono ?_); rintro e w3 ⟨rfl, hb1⟩; (try clear c0 c1 c2 c3 c4 d0 d1 d2 d3 d4); replace HV := Lib.hid (HV.out.trans (hb1.mono HV.out.size)); replace HC := Lib.hid (HC.out.next hb1); replace HD := Lib.hid (HD.out.next hb1); obtain ⟨c0, c1, c2, c3, c4, -⟩ := HC.out; obtain ⟨d0, d1, d2, d3, d4, -⟩ := HD.out; clear hb1) | (go_at_call 9; refine (known15_any _).mono ?_; rintro e w3 ⟨rfl, hb1⟩; (try clear c0 c1 c2 c3 c4 d0 d1 d2 d3 d4); replace HV := Lib.hid (HV.out.trans (hb1.mono HV.out.size)); replace HC := Lib.hid (HC.out.next hb1); replace HD := Lib.hid (HD.out.next hb1); obtain ⟨c0, c1, c2, c3, c4, -⟩ := HC.out; obtain ⟨d0, d1, d2, d3, d4, -⟩ := HD.out; clear hb1))
               go_ret
               exact ⟨ret_bool (by first | rfl | (simp; omega)), HB.out.trans (HV.out.mono HB.out.size)⟩)
      · rw [h6]
        have ltC := HC.out.lt
        have ltD := HD.out.lt
        have rn := (rk_in s).1
        go_wp2_with fail
        all_goals try (exfalso; omega)
        all_goals
          clear c0 c1 c2 c3 c4 d0 d1 d2 d3 d4
          have F := six w2 ka sa va ma aa la ca
          generalize ((((((w2.alloc (.cells #[.int .i64 ka, .string sa, .int .u32 va, .bool ma, .slice aa la ca] 26)).alloc (.cells #[.int .i64 32, .string ⟨#[]⟩, .int .u32 0, .bool false, .slice (some ⟨w2.heap.size, 0, none⟩) 1 1] 26)).alloc (.cells #[.int .i64 ka, .string sa, .int .u32 va, .bool ma, .slice aa la ca] 26)).alloc (.cells #[.int .i64 33, .string ⟨#[]⟩, .int .u32 0, .bool false, .slice (some ⟨w2.heap.size + 1 + 1, 0, none⟩) 1 1] 26)).alloc (.cells #[.int .i64 32, .string ⟨#[]⟩, .int .u32 0, .bool false, .slice (some ⟨w2.heap.size, 0, none⟩) 1 1, .int .i64 32, .string ⟨#[]⟩, .int .u32 0, .bool false, .slice (some ⟨w2.heap.size, 0, none⟩) 1 1] 26)).alloc (.cells #[.int .i64 35, .string ⟨#[42]⟩, .int .u32 0, .bool false, .slice (some ⟨w2.heap.size + 1 + 1 + 1 + 1, 0, none⟩) 2 2] 26)) = V6 at F ⊢
          replace HB := Lib.hid (HB.out.trans (F.bel.mono HB.out.size))
          have SL := six_lev F (Lev.later HX.out HB.out) x0
          have HV := Lib.hid (Below.refl V6.heap.size V6)
          replace HC := Lib.hid F.cn
          replace HD := Lib.hid F.cm
          obtain ⟨c0, c1, c2, c3, c4, -⟩ := HC.out
          obtain ⟨d0, d1, d2, d3, d4, -⟩ := HD.out
          clear F HX HY
          rcases SL with ⟨hx, hp, hn, hm⟩ | ⟨hx, hp, hn, hm⟩ | ⟨hx, hp, hn, hm⟩
          all_goals first
            | (exfalso; omega)
            | (have HP := Lib.hid hp
               have HN := Lib.hid hn
               have HM := Lib.hid hm
               clear hp hn hm
               unfold nd at *
               go_wp2_with (first | (go_at_call 26; (first | with_reducible refine (Lev.call HP.out HV.out).mono ?_ | with_reducible refine (Lev.call HN.out HV.out).mono ?_ | with_reducible refine (Lev.call HM.out HV.out).mono ?_); rintro e w3 ⟨rfl, hb1⟩; (try clear c0 c1 c2 c3 c4 d0 d1 d2 d3 d4); replace HV := Lib.hid (HV.out.trans (hb1.mono HV.out.size)); replace HC := Lib.hid (HC.out.next hb1); replace HD := Lib.hid (HD.out.next hb1); obtain ⟨c0, c1, c2, c3, c4, -⟩ := HC.out; obtain ⟨d0, d1, d2, d3, d4, -⟩ := HD.out; clear hb1) | (go_at_call 9; refine (known15_any _).mono ?_; rintro e w3 ⟨rfl, hb1⟩; (try clear c0 c1 c2 c3 c4 d0 d1 d2 d3 d4); replace HV := Lib.hid (HV.out.trans (hb1.mono HV.out.size)); replace HC := Lib.hid (HC.out.next hb1); replace HD := Lib.hid (HD.out.next hb1); obtain ⟨c0, c1, c2, c3, c4, -⟩ := HC.out; obtain ⟨d0, d1, d2, d3, d4, -⟩ := HD.out; clear hb1))
               go_ret
               exact ⟨ret_bool (by first | rfl | (simp; omega)), HB.out.trans (HV.out.mono HB.out.size)⟩)
  · go_ret
    exact ⟨rfl, HB.out⟩
  · go_ret
    exact ⟨rfl, HB.out⟩
theorem walk (va : Value) (na : Nat) (vb : Value) (nb : Nat) (s : ByteArray) (w : World) (wa : At w na va) (wb : At w nb vb) (hs : s.size ≤ maxLen) :
    Calls Try.prog 6 #[va, vb, .string s] w fun e w' => e = .returned (.bool true) ∧ Below w.heap.size w w' := by
  have b1 := big_all na va wa
  have b2 := big_all nb vb wb
  obtain ⟨_, x, _, hx, _, x0, x1⟩ := good_all na va wa
  obtain ⟨_, y, _, hy, _, y0, y1⟩ := good_all nb vb wb
  cases na with
  | zero => exact wa.elim
  | succ na =>
    cases nb with
    | zero => exact wb.elim
    | succ nb =>
      obtain ⟨ka, sa, va', ma, aa, la, ca, rfl, -⟩ := wa
      obtain ⟨kb, sb, vb', mb, ab, lb, cb, rfl, -⟩ := wb
      exact walk0 ka sa va' ma aa la ca kb sb vb' mb ab lb cb s w b1 b2 x y hx hy x0 x1 y0 y1 hs
theorem own : ownKnob Try.prog.godebug = none := by kernel_rfl
theorem laidOut : laidOutB Try.prog = true := by kernel_rfl
set_option maxRecDepth 1000000 in
theorem contract (H : Type) (enc : TypeId × Value → H) (W : World) (base : Nat) (args : Array Value) (ds gs : List (DataW H)) (before : List MemPlace)
    (hval : ∀ (j : Nat) t v, Try.f6.params[j]? = some t → args[j]? = some v → Value.okWide Try.prog W .any base t v)
    (hW : DataW.Whole enc Try.prog Try.f6.params.toList Rows.treeLevelsSpec.vars false W args.toList ds gs before) :
    Calls Try.prog 6 args W fun e W' => ∃ v, e = .returned v ∧ Rows.treeLevelsSpec.post enc Try.prog Try.f6 false true false false W args v W' := by
  have hW' := hW
  obtain ⟨p, q, hA0, hV, rfl, hfz, hnd⟩ := hW
  have hA : DataW.TrodAll enc Try.prog W 0 (fun _ => true) true Try.f6.params.toList args.toList ds p := hA0
  rw [Try.params6] at hA hval
  obtain ⟨v0, vs0, d0, ds0, p0, q0, hargs, rfl, rfl, h0, r0⟩ := trodAll_cons hA
  obtain ⟨v1, vs1, d1, ds1, p1, q1, rfl, rfl, rfl, h1, r1⟩ := trodAll_cons r0
  obtain ⟨v2, vs2, d2, ds2, p2, q2, rfl, rfl, rfl, h2, r2⟩ := trodAll_cons r1
  obtain ⟨rfl, rfl, rfl⟩ := trodAll_nil r2
  obtain rfl : args = #[v0, v1, v2] := by cases args; simp_all
  obtain ⟨rfl, rfl⟩ := trodVars_none hV
  obtain ⟨n0, w0⟩ := node_of (.inl (hval 0 26 v0 rfl rfl)) h0
  have k0 := h0
  have lt0 : ∀ x ∈ p0, x.block < W.heap.size := by obtain ⟨m, hm⟩ := k0; exact DataW.trod_lt m _ _ _ hm
  obtain ⟨n1, w1⟩ := node_of (.inl (hval 1 26 v1 rfl rfl)) h1
  have k1 := h1
  have lt1 : ∀ x ∈ p1, x.block < W.heap.size := by obtain ⟨m, hm⟩ := k1; exact DataW.trod_lt m _ _ _ hm
  obtain ⟨a2, rfl, rfl, rfl, w2⟩ := open_string Try.underlying9 (hval 2 9 v2 rfl rfl) h2
  clear hA0
  refine (walk v0 n0 v1 n1 a2 W w0 w1 w2).mono fun e W' ⟨he, bel⟩ => ?_
  subst he
  exact ⟨_, rfl, _, _, _, [], _, [], hW', trodAll_mk1 (shut_bool Try.underlying4 _), (trodAll_cons_mk (Below.trod laidOut (by kernel_rfl) (of_decide_eq_true (by kernel_rfl)) k0 bel lt0) (trodAll_cons_mk (Below.trod laidOut (by kernel_rfl) (of_decide_eq_true (by kernel_rfl)) k1 bel lt1) (trodAll_cons_mk (shut_string Try.underlying9 w2) trodAll_mk0))), rfl, bel.frame _, fun h => by cases h⟩
set_option maxRecDepth 100000 in
theorem lifted (os : Os) (started : os.Started) (H : Type) (enc : TypeId × Value → H) :
    ReturnsInHanded {} Try.checked os 6 .any (Rows.treeLevelsSpec.pre6 enc Try.prog Try.f6 Rows.treeLevelsRow.domain false) (Rows.treeLevelsSpec.post enc Try.prog Try.f6 false true false false) := by
  refine returnsInHanded_of_change (C := Try.checked) own started (by kernel_rfl) Try.func6
    (ChangeSpec.witness6 (enc := enc) (C := Try.checked) false ⟨#[], #[.agg #[.int .i64 0, .string .empty, .int .u32 0, .bool false, .slice none 0 0], .agg #[.int .i64 0, .string .empty, .int .u32 0, .bool false, .slice none 0 0], .string .empty], []⟩ 8 (by kernel_rfl) (by kernel_rfl) (by kernel_rfl) (by kernel_rfl)) ?_
  intro W base args ds gs before hval hW hcnd _
  exact contract H enc W base args ds gs before hval hW
theorem said : Rows.TreeLevelsSaid :=
  OpenClaim.holds_of_wide 6 Try.f6 rfl rfl rfl rfl rfl rfl rfl ⟨rfl, rfl, rfl, rfl, rfl⟩ rfl rfl rfl rfl rfl (by kernel_rfl) Try.func6 (by kernel_rfl)
    (of_decide_eq_true (by kernel_rfl)) (by unfold Func.isWrapper; first | (rw [if_pos (by decide +kernel)]; kernel_rfl) | (rw [if_neg (by decide +kernel)]; exact ⟨rfl, rfl⟩))
    (fun os started H enc _ => lifted os started H enc)
theorem proved : Rows.TreeLevelsSaid := said
end Go.Proofs.Ytkhbmamgfkpdbaa.treeLevels

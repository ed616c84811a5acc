/-
  The contracts of a table of types (layer 12's types.Table): what it holds as rows of seven cells; the calls that only look.
-/
import Derived.Test.YtckomckdefcebaaBase
import Derived.Laws.AppendOwn
import Derived.Laws.OwnMore
import Derived.OwnWalk
import Derived.Tactics
import Derived.Deep.QuietTactic
import Derived.BigQuiet
import Derived.Deep.Cut
import Derived.Deep.AppendLies
import Derived.Deep.RegionHeld3
import Derived.Deep.RegionLaw
namespace Go.Proofs.Ytckomckdefcebaa
open Go.ChangeShapes Go.WideShapes Go.ChangeAt Go.RowKit
set_option linter.unusedVariables false
/-- a table: its row of types, so many; the fields of all records -/
structure TabAt (w : World) (B p g cap n : Nat) (xs : List Value) (f : Int) : Prop where
  c0 : w.cell? ⟨p, 0, none⟩ = some (.slice (some ⟨g, 0, none⟩) n cap)
  z0 : w.frozen? ⟨p, 0, none⟩ = false
  c1 : w.cell? ⟨p, 1, none⟩ = some (.int .i64 f)
  z1 : w.frozen? ⟨p, 1, none⟩ = false
  own : w.ownsRow B 33 7 (.slice (some ⟨g, 0, none⟩) n cap) n xs
  bp : B ≤ p
  lp : p < w.heap.size
  ne : p ≠ g
  n1 : 1 ≤ n
  n2 : n ≤ 201
/-- a type's size -/
def Sz (xs : List Value) (i : Nat) (z : Int) : Prop := xs[i * 7 + 3]? = some (.int .i64 z)
section
variable {w : World} {B p g cap n : Nat} {xs : List Value} {f : Int}
theorem is_any (h : TabAt w B p g cap n xs f) : Calls Try.prog 39 #[.pointer (some ⟨p, 0, none⟩)] w fun e w' => e = .returned (.bool true) ∧ w = w' := by
  have c0 := h.c0
  have neq : (binOp .neq 36 (.slice (some ⟨g, 0, none⟩) n cap) (.slice none 0 0)).run Try.prog w = .ok (.bool true) w := by
    obtain ⟨d, hd⟩ : ∃ d, Op.maxDepth = d + 1 := ⟨9999, rfl⟩
    rw [show binOp .neq 36 (.slice (some ⟨g, 0, none⟩) n cap) (.slice none 0 0) = (do pure (.bool (!(← Op.equal 36 (.slice (some ⟨g, 0, none⟩) n cap) (.slice none 0 0)))) : Sem Value) from rfl, Op.equal, hd]
    simp [Op.equalIn, run_underlying Try.underlying36]
  go_enter Try.func39, Try.ntmps39
  go_wp2
  go_ret
  exact ⟨rfl, rfl⟩
theorem has_yes (h : TabAt w B p g cap n xs f) (k : Int) (k0 : 0 < k) (k1 : k < n) : Calls Try.prog 35 #[.pointer (some ⟨p, 0, none⟩), .int .i64 k] w fun e w' => e = .returned (.bool true) ∧ w = w' := by
  have c0 := h.c0
  go_enter Try.func35, Try.ntmps35
  go_wp2_with (go_at_call 39; refine (is_any h).mono ?_; rintro e w' ⟨rfl, rfl⟩)
  go_ret
  exact ⟨rfl, rfl⟩
theorem has_no (h : TabAt w B p g cap n xs f) (k : Int) (k0 : k ≤ 0 ∨ n ≤ k) : Calls Try.prog 35 #[.pointer (some ⟨p, 0, none⟩), .int .i64 k] w fun e w' => e = .returned (.bool false) ∧ w = w' := by
  have c0 := h.c0
  go_enter Try.func35, Try.ntmps35
  go_wp2_with (go_at_call 39; refine (is_any h).mono ?_; rintro e w' ⟨rfl, rfl⟩)
  all_goals
    go_ret
    first | exact ⟨rfl, rfl⟩ | exact ⟨ret_bool (by simp; omega), rfl⟩
theorem size_yes (h : TabAt w B p g cap n xs f) (k : Nat) (z : Int) (k0 : 0 < k) (k1 : k < n) (hz : Sz xs k z) : Calls Try.prog 21 #[.pointer (some ⟨p, 0, none⟩), .int .i64 k] w fun e w' => e = .returned (.int .i64 z) ∧ w = w' := by
  have c0 := h.c0
  have cz : w.cell? ⟨g, k * 7 + 3, none⟩ = some (.int .i64 z) := by rw [h.own.cellAt _ (by omega)]; exact hz
  have HY := Lib.hid (has_yes h k (by omega) (by omega))
  go_enter Try.func21, Try.ntmps21
  go_wp2_with (go_at_call 35; refine HY.out.mono ?_; rintro e w' ⟨rfl, rfl⟩)
  go_ret
  exact ⟨rfl, rfl⟩
theorem size_no (h : TabAt w B p g cap n xs f) (k : Int) (k0 : k ≤ 0 ∨ n ≤ k) : Calls Try.prog 21 #[.pointer (some ⟨p, 0, none⟩), .int .i64 k] w fun e w' => e = .returned (.int .i64 0) ∧ w = w' := by
  have HN := Lib.hid (has_no h k k0)
  go_enter Try.func21, Try.ntmps21
  go_wp2_with (go_at_call 35; refine HN.out.mono ?_; rintro e w' ⟨rfl, rfl⟩)
  go_ret
  exact ⟨rfl, rfl⟩
theorem len_any (h : TabAt w B p g cap n xs f) : Calls Try.prog 20 #[.pointer (some ⟨p, 0, none⟩)] w fun e w' => e = .returned (.int .i64 (n - 1)) ∧ w = w' := by
  have c0 := h.c0
  have n1 := h.n1
  have n2 := h.n2
  go_enter Try.func20, Try.ntmps20
  go_wp2_with (go_at_call 39; refine (is_any h).mono ?_; rintro e w' ⟨rfl, rfl⟩)
  go_ret
  exact ⟨rfl, rfl⟩
theorem up_any (n : Int) (h0 : 0 ≤ n) (h1 : n ≤ 4611686018427387904) (w : World) : Calls Try.prog 40 #[.int .i64 n] w fun e w' => e = .returned (.int .i64 ((n + 3) / 4 * 4)) ∧ w = w' := by
  go_enter Try.func40, Try.ntmps40
  go_wp2
  go_ret
  exact ⟨rfl, rfl⟩
end
theorem infoT : (Try.prog.info? 33).map (fun i => (i.zero, i.size, i.bytes)) = some (some (.agg #[.int .i64 0, .int .i64 0, .int .i64 0, .int .i64 0, .slice none 0 0, .int .i64 0, .int .i64 0]), 7, 72) := by kernel_rfl
section
variable {w : World} {B p g cap n : Nat} {xs : List Value} {f : Int}
theorem TabAt.below {w' : World} (h : TabAt w B p g cap n xs f) (hb : Below w.heap.size w w') : TabAt w' B p g cap n xs f := by
  have hg := (h.own.lt g rfl).2
  exact ⟨by rw [hb.cell h.lp]; exact h.c0, by rw [hb.frozen h.lp]; exact h.z0, by rw [hb.cell h.lp]; exact h.c1, by rw [hb.frozen h.lp]; exact h.z1,
    h.own.kept (row := none) ⟨hb.os, hb.tape, hb.output, hb.size, fun k hk _ => hb.block k hk⟩ (.inr (by simp [Value.ownBlock])), h.bp, Nat.lt_of_lt_of_le h.lp hb.size, h.ne, h.n1, h.n2⟩
theorem TabAt.pushed {V w1 : World} {gg cap1 : Nat} {ys : List Value} (h : TabAt w B p g cap n xs f) (hV : Below w.heap.size w V) (hgrow : V.grownBy w1 (some g)) (hown1 : w1.ownsRow B 33 7 (.slice (some ⟨gg, 0, none⟩) (n + 1) cap1) (n + 1) ys)
    (hat : gg = g ∨ w.heap.size ≤ gg) (hn : n ≤ 200) : TabAt (w1.setCell ⟨p, 0, none⟩ (.slice (some ⟨gg, 0, none⟩) ((n + 1 : Nat) : Int).toNat cap1)) B p gg cap1 (n + 1) ys f ∧ Below B w (w1.setCell ⟨p, 0, none⟩ (.slice (some ⟨gg, 0, none⟩) ((n + 1 : Nat) : Int).toNat cap1)) := by
  have lg := h.own.lt g rfl
  have lp := h.lp
  have ne := h.ne
  have hpg : p ≠ gg := by omega
  have hvs := hV.size
  have c0 : w1.cell? ⟨p, 0, none⟩ = some (.slice (some ⟨g, 0, none⟩) n cap) := by rw [hgrow.cell_far _ (by show p < _; omega) (by simp; omega), hV.cell lp]; exact h.c0
  have z0 : w1.frozen? ⟨p, 0, none⟩ = false := by rw [hgrow.frozen_far _ (by show p < _; omega) (by simp; omega), hV.frozen lp]; exact h.z0
  have c1 : w1.cell? ⟨p, 1, none⟩ = some (.int .i64 f) := by rw [hgrow.cell_far _ (by show p < _; omega) (by simp; omega), hV.cell lp]; exact h.c1
  have z1 : w1.frozen? ⟨p, 1, none⟩ = false := by rw [hgrow.frozen_far _ (by show p < _; omega) (by simp; omega), hV.frozen lp]; exact h.z1
  rw [show ((n + 1 : Nat) : Int).toNat = n + 1 by omega]
  have hs : (w1.setCell ⟨p, 0, none⟩ (.slice (some ⟨gg, 0, none⟩) (n + 1) cap1)).heap.size = w1.heap.size := by simp [World.setCell]
  have hgs := hgrow.size
  refine ⟨⟨World.cell?_setCell_same _ _ _ c0, by rw [World.frozen?_setCell]; exact z0, ?_, by rw [World.frozen?_setCell]; exact z1, ?_, h.bp, by omega, hpg, by omega, by omega⟩, ?_⟩
  · rw [World.cell?_setCell_other _ _ _ _ (by simp)]; exact c1
  · exact hown1.kept (row := some p) ⟨rfl, rfl, rfl, by omega, fun k _ hk => Below.heap_setCell _ _ _ _ (fun e => hk (by rw [e]))⟩ (.inr (by simp [Value.ownBlock]; omega))
  · exact ((hV.mono (by have := h.bp; omega)).grown hgrow (by have := h.bp; omega) (fun k hk => by cases hk; exact lg.1)).setCell h.bp _
theorem below1 (w : World) (a : Obj) : Below w.heap.size w (w.alloc a) := (Below.refl _ _).alloc (Nat.le_refl _) _
theorem add_full (h : TabAt w B p g cap n xs f) (hn : n = 201) (x0 x1 x2 x3 x4 x5 x6 : Value) (hB : B ≤ w.heap.size) : Calls Try.prog 41 #[.pointer (some ⟨p, 0, none⟩), .agg #[x0, x1, x2, x3, x4, x5, x6]] w fun e w' => e = .returned (.tuple #[.int .i64 0, .int .i64 64]) ∧ Below B w w' ∧ TabAt w' B p g cap n xs f := by
  have hb := below1 w (.cells #[x0, x1, x2, x3, x4, x5, x6] 33)
  have HL := Lib.hid (h.below hb)
  have HB := Lib.hid hb
  clear hb
  subst hn
  go_enter Try.func41, Try.ntmps41
  go_wp2_with (first | (go_at_call 39; refine (is_any HL.out).mono ?_; rintro e w' ⟨rfl, rfl⟩) | (go_at_call 20; refine (len_any HL.out).mono ?_; rintro e w' ⟨rfl, rfl⟩))
  go_ret2
  exact ⟨rfl, HB.out.mono hB, HL.out⟩
set_option maxHeartbeats 2000000 in
theorem add_room (h : TabAt w B p g cap n xs f) (hn : n ≤ 200) (x0 x1 x2 x3 x4 x5 x6 : Value) (h1 : ∀ u ∈ [x0, x1, x2, x3, x4, x5, x6], u.oneCell' = true) (hB : B ≤ w.heap.size) :
    Calls Try.prog 41 #[.pointer (some ⟨p, 0, none⟩), .agg #[x0, x1, x2, x3, x4, x5, x6]] w fun e w' => e = .returned (.tuple #[.int .i64 n, .int .i64 0]) ∧ Below B w w' ∧ ∃ g' cap', TabAt w' B p g' cap' (n + 1) (xs ++ [x0, x1, x2, x3, x4, x5, x6]) f := by
  have hb := below1 w (.cells #[x0, x1, x2, x3, x4, x5, x6] 33)
  have hT := h.below hb
  have c0 := hT.c0
  have z0 := hT.z0
  have hown := hT.own
  have HL := Lib.hid hT
  have HB := Lib.hid hb
  have nown : p ≠ g := h.ne
  have lp := h.lp
  clear hb hT
  go_enter Try.func41, Try.ntmps41
  go_wp2_with (first | (go_at_call 39; refine (is_any HL.out).mono ?_; rintro e w' ⟨rfl, rfl⟩) | (go_at_call 20; refine (len_any HL.out).mono ?_; rintro e w' ⟨rfl, rfl⟩))
  obtain ⟨i0, hi, hz0, hz1, hz2⟩ : ∃ i, Try.prog.info? 33 = some i ∧ i.zero = some (.agg #[.int .i64 0, .int .i64 0, .int .i64 0, .int .i64 0, .slice none 0 0, .int .i64 0, .int .i64 0]) ∧ i.size = 7 ∧ i.bytes = 72 := by
    have := infoT
    obtain ⟨i, e1, e2⟩ := Option.map_eq_some_iff.1 this
    exact ⟨i, e1, (Prod.mk.inj e2).1, (Prod.mk.inj (Prod.mk.inj e2).2).1, (Prod.mk.inj (Prod.mk.inj e2).2).2⟩
  have E0 : ∀ k x, [x0, x1, x2, x3, x4, x5, x6][k]? = some x → (w.alloc (.cells #[x0, x1, x2, x3, x4, x5, x6] 33)).cell? ⟨w.heap.size, k, none⟩ = some x := fun k x hx => by
    rw [World.cell?_alloc_new w _ _ _]; simpa using hx
  have hsz : (w.alloc (.cells #[x0, x1, x2, x3, x4, x5, x6] 33)).heap.size = w.heap.size + 1 := by simp
  generalize hW : w.alloc (.cells #[x0, x1, x2, x3, x4, x5, x6] 33) = W at *
  have e0 := E0 0 x0 rfl
  have e1 := E0 1 x1 rfl
  have e2 := E0 2 x2 rfl
  have e3 := E0 3 x3 rfl
  have e4 := E0 4 x4 rfl
  have e5 := E0 5 x5 rfl
  have e6 := E0 6 x6 rfl
  clear E0
  have gq2 : g < w.heap.size := (h.own.lt g rfl).2
  have hH1 := Lib.hid h1
  clear h1 h
  generalize hqq : w.heap.size = q at *
  have hown2 : (W.drew.alloc (.cells #[x0, x1, x2, x3, x4, x5, x6] 33)).ownsRow B 33 7 (.slice (some ⟨g, 0, none⟩) n cap) n xs := (hown.drew).alloc _
  have hsz2 : W.drew.heap.size = q + 1 := hsz
  have bW : Below W.heap.size W (W.drew.alloc (.cells #[x0, x1, x2, x3, x4, x5, x6] 33)) := (Below.refl _ W).drew.alloc (Nat.le_refl _) _
  have C2 : (W.drew.alloc (.cells #[x0, x1, x2, x3, x4, x5, x6] 33)).cell? ⟨p, 0, none⟩ = some (.slice (some ⟨g, 0, none⟩) n cap) := by rw [bW.cell (by simp; omega)]; exact c0
  have F2 : (W.drew.alloc (.cells #[x0, x1, x2, x3, x4, x5, x6] 33)).frozen? ⟨p, 0, none⟩ = false := by rw [bW.frozen (by simp; omega)]; exact z0
  clear bW
  go_region_law (refine step_append_lies _ (by rfl) _ _ _ (by rfl) B 33 i0 _ 7 72 Try.underlying36 hi hz0 hz1 hz2 rfl (by omega) (.slice (some ⟨g, 0, none⟩) n cap) n xs (by rfl) hown2 ⟨q + 1, 0, none⟩ 1 1 [x0, x1, x2, x3, x4, x5, x6] (by rfl) (by rfl) (World.news_of_block (cs := #[x0, x1, x2, x3, x4, x5, x6]) (t := 33) (fr := (0, 0)) (by rw [← hsz2]; exact heap_alloc_new _ _)) hH1.out (by omega) (by unfold maxLen; omega) (by omega) (by simp [hsz]; omega) (q + 2) (by simp [hsz]) ?_; intro gg cap1 w1 hown1 hgrow hat hlt; have C1 : w1.cell? ⟨p, 0, none⟩ = some (.slice (some ⟨g, 0, none⟩) n cap) := (by rw [hgrow.cell_far _ (by simp [hsz]; omega) (by simp [Value.ownBlock]; omega)]; exact C2); have F1 : w1.frozen? ⟨p, 0, none⟩ = false := (by rw [hgrow.frozen_far _ (by simp [hsz]; omega) (by simp [Value.ownBlock]; omega)]; exact F2))
  all_goals
    have P := HL.out.pushed (V := (W.alloc (.cells #[x0, x1, x2, x3, x4, x5, x6] 33)).drew) ((below1 W _).drew) hgrow hown1 (by rcases hat with e | e; exact .inl (by simpa [Value.ownBlock] using e.symm); exact .inr (by omega)) hn
    have HP := Lib.hid P
    rw [show ((n + 1 : Nat) : Int).toNat = n + 1 by omega] at HP
    clear P hown1 hgrow hat hlt C1 F1 C2 F2 hown hown2 c0 z0
    generalize w1.setCell ⟨p, 0, none⟩ (.slice (some ⟨gg, 0, none⟩) (n + 1) cap1) = w2 at *
    go_wp2_with (go_at_call 20; refine (len_any HP.out.1).mono ?_; rintro e w' ⟨rfl, rfl⟩)
    go_ret2
    refine ⟨rfl, ?_, gg, cap1, HP.out.1⟩
    · exact (HB.out.mono hB).trans HP.out.2
end
end Go.Proofs.Ytckomckdefcebaa

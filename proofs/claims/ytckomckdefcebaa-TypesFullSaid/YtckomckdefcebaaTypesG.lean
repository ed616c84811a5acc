/-
  add with room, again: what it says besides is that no other block changes.
-/
import Derived.Test.YtckomckdefcebaaTypesB
import Derived.Test.YtckomckdefcebaaTypesC
namespace Go.Proofs.Ytckomckdefcebaa
open Go.ChangeShapes Go.WideShapes Go.ChangeAt Go.RowKit
set_option linter.unusedVariables false
section
variable {w : World} {B p g cap n : Nat} {xs : List Value} {f : Int}
set_option maxHeartbeats 2000000 in
theorem add_room2 (h : TabAt w B p g cap n xs f) (hn : n ≤ 200) (x0 x1 x2 x3 x4 x5 x6 : Value) (h1 : ∀ u ∈ [x0, x1, x2, x3, x4, x5, x6], u.oneCell' = true) (hB : B ≤ w.heap.size) :
    Calls Try.prog 41 #[.pointer (some ⟨p, 0, none⟩), .agg #[x0, x1, x2, x3, x4, x5, x6]] w fun e w' => e = .returned (.tuple #[.int .i64 n, .int .i64 0]) ∧ Below B w w' ∧ (∃ g' cap', TabAt w' B p g' cap' (n + 1) (xs ++ [x0, x1, x2, x3, x4, x5, x6]) f) ∧ ∀ b k, b < w.heap.size → b ≠ p → b ≠ g → w'.cell? ⟨b, k, none⟩ = w.cell? ⟨b, k, none⟩ := by
  have hb := below1 w (.cells #[x0, x1, x2, x3, x4, x5, x6] 33)
  have hT := h.below hb
  have c0 := hT.c0
  have z0 := hT.z0
  have hown := hT.own
  have KW : ∀ b k, b < w.heap.size → (w.alloc (.cells #[x0, x1, x2, x3, x4, x5, x6] 33)).cell? ⟨b, k, none⟩ = w.cell? ⟨b, k, none⟩ := fun b k hb' => hb.cell (by exact hb')
  have HL := Lib.hid hT
  have HB := Lib.hid hb
  have nown : p ≠ g := h.ne
  have lp := h.lp
  clear hb hT
  go_enter Try.func41, Try.ntmps41
  go_wp2_with (first | (go_at_call 39; refine (is_any HL.out).mono ?_; rintro e w' ⟨rfl, rfl⟩) | (go_at_call 20; refine (len_any HL.out).mono ?_; rintro e w' ⟨rfl, rfl⟩))
  obtain ⟨i0, hi, hz0, hz1, hz2⟩ : ∃ i, Try.prog.info? 33 = some i ∧ i.zero = some (.agg #[.int .i64 0, .int .i64 0, .int .i64 0, .int .i64 0, .slice none 0 0, .int .i64 0, .int .i64 0]) ∧ i.size = 7 ∧ i.bytes = 72 := by
    have := infoT
    obtain ⟨i, e1, e2⟩ := Option.map_eq_some_iff.1 this
    exact ⟨i, e1, (Prod.mk.inj e2).1, (Prod.mk.inj (Prod.mk.inj e2).2).1, (Prod.mk.inj (Prod.mk.inj e2).2).2⟩
  have E0 : ∀ k x, [x0, x1, x2, x3, x4, x5, x6][k]? = some x → (w.alloc (.cells #[x0, x1, x2, x3, x4, x5, x6] 33)).cell? ⟨w.heap.size, k, none⟩ = some x := fun k x hx => by
    rw [World.cell?_alloc_new w _ _ _]; simpa using hx
  have hsz : (w.alloc (.cells #[x0, x1, x2, x3, x4, x5, x6] 33)).heap.size = w.heap.size + 1 := by simp
  generalize hW : w.alloc (.cells #[x0, x1, x2, x3, x4, x5, x6] 33) = W at *
  have e0 := E0 0 x0 rfl
  have e1 := E0 1 x1 rfl
  have e2 := E0 2 x2 rfl
  have e3 := E0 3 x3 rfl
  have e4 := E0 4 x4 rfl
  have e5 := E0 5 x5 rfl
  have e6 := E0 6 x6 rfl
  clear E0
  have gq2 : g < w.heap.size := (h.own.lt g rfl).2
  have hH1 := Lib.hid h1
  clear h1 h
  generalize hqq : w.heap.size = q at *
  have hown2 : (W.drew.alloc (.cells #[x0, x1, x2, x3, x4, x5, x6] 33)).ownsRow B 33 7 (.slice (some ⟨g, 0, none⟩) n cap) n xs := (hown.drew).alloc _
  have hsz2 : W.drew.heap.size = q + 1 := hsz
  have bW : Below W.heap.size W (W.drew.alloc (.cells #[x0, x1, x2, x3, x4, x5, x6] 33)) := (Below.refl _ W).drew.alloc (Nat.le_refl _) _
  have C2 : (W.drew.alloc (.cells #[x0, x1, x2, x3, x4, x5, x6] 33)).cell? ⟨p, 0, none⟩ = some (.slice (some ⟨g, 0, none⟩) n cap) := by rw [bW.cell (by simp; omega)]; exact c0
  have F2 : (W.drew.alloc (.cells #[x0, x1, x2, x3, x4, x5, x6] 33)).frozen? ⟨p, 0, none⟩ = false := by rw [bW.frozen (by simp; omega)]; exact z0
  clear bW
  go_region_law (refine step_append_lies _ (by rfl) _ _ _ (by rfl) B 33 i0 _ 7 72 Try.underlying36 hi hz0 hz1 hz2 rfl (by omega) (.slice (some ⟨g, 0, none⟩) n cap) n xs (by rfl) hown2 ⟨q + 1, 0, none⟩ 1 1 [x0, x1, x2, x3, x4, x5, x6] (by rfl) (by rfl) (World.news_of_block (cs := #[x0, x1, x2, x3, x4, x5, x6]) (t := 33) (fr := (0, 0)) (by rw [← hsz2]; exact heap_alloc_new _ _)) hH1.out (by omega) (by unfold maxLen; omega) (by omega) (by simp [hsz]; omega) (q + 2) (by simp [hsz]) ?_; intro gg cap1 w1 hown1 hgrow hat hlt; have C1 : w1.cell? ⟨p, 0, none⟩ = some (.slice (some ⟨g, 0, none⟩) n cap) := (by rw [hgrow.cell_far _ (by simp [hsz]; omega) (by simp [Value.ownBlock]; omega)]; exact C2); have F1 : w1.frozen? ⟨p, 0, none⟩ = false := (by rw [hgrow.frozen_far _ (by simp [hsz]; omega) (by simp [Value.ownBlock]; omega)]; exact F2))
  all_goals
    have P := HL.out.pushed (V := (W.alloc (.cells #[x0, x1, x2, x3, x4, x5, x6] 33)).drew) ((below1 W _).drew) hgrow hown1 (by rcases hat with e | e; exact .inl (by simpa [Value.ownBlock] using e.symm); exact .inr (by omega)) hn
    have HP := Lib.hid P
    have HF : Hid (∀ b k, b < q → b ≠ p → b ≠ g → (w1.setCell ⟨p, 0, none⟩ (.slice (some ⟨gg, 0, none⟩) (n + 1) cap1)).cell? ⟨b, k, none⟩ = w.cell? ⟨b, k, none⟩) := Lib.hid fun b k h1 h2 h3 => by
      rw [World.cell?_setCell_other _ _ _ _ (fun e => h2 (by cases e; rfl)), hgrow.cell_far _ (by simp [hsz]; omega) (by simp [Value.ownBlock]; omega)]
      rw [← KW b k h1]
      exact ((below1 W _).drew).cell (by show b < _; omega)
    rw [show ((n + 1 : Nat) : Int).toNat = n + 1 by omega] at HP
    clear P hown1 hgrow hat hlt C1 F1 C2 F2 hown hown2 c0 z0
    generalize w1.setCell ⟨p, 0, none⟩ (.slice (some ⟨gg, 0, none⟩) (n + 1) cap1) = w2 at *
    go_wp2_with (go_at_call 20; refine (len_any HP.out.1).mono ?_; rintro e w' ⟨rfl, rfl⟩)
    go_ret2
    refine ⟨rfl, ?_, ⟨gg, cap1, HP.out.1⟩, fun b k h1 => HF.out b k (by rw [← hqq]; exact h1)⟩
    · exact (HB.out.mono hB).trans HP.out.2
theorem TabAt.far (h : TabAt w B p g cap n xs f) (q k : Nat) (u : Value) (h1 : q ≠ p) (h2 : q ≠ g) : TabAt (w.setCell ⟨q, k, none⟩ u) B p g cap n xs f := by
  exact ⟨by rw [World.cell?_setCell_other _ _ _ _ (fun e => h1 (by cases e; rfl))]; exact h.c0, by rw [World.frozen?_setCell]; exact h.z0, by rw [World.cell?_setCell_other _ _ _ _ (fun e => h1 (by cases e; rfl))]; exact h.c1, by rw [World.frozen?_setCell]; exact h.z1,
    h.own.kept (row := some q) ⟨rfl, rfl, rfl, by simp [World.setCell], fun k _ hk => Below.heap_setCell _ _ _ _ (fun e => hk (by rw [e]))⟩ (.inr (by simp [Value.ownBlock]; omega)), h.bp, by simpa [World.setCell] using h.lp, h.ne, h.n1, h.n2⟩
end
end Go.Proofs.Ytckomckdefcebaa

/-
  New, ride, Old.
-/
import Derived.Test.YtbpelchampegaaaStoreH
import Derived.Carry
namespace Go.Proofs.Ytbpelchampegaaa
open Go.ChangeShapes Go.WideShapes Go.ChangeAt Go.RowKit
set_option linter.unusedVariables false
/-- an empty store -/
def St0 (cap mb : Nat) : StM := ⟨cap, 0, mb, 0, .map [], .slice none 0 0, [], []⟩
theorem new_any (n : Nat) (hn : n ≤ 67108864) (w : World) : Calls Try.prog 8 #[.int .i64 (n : Int)] w fun e w' => ∃ p, e = .returned (.tuple #[.pointer (some ⟨p, 0, none⟩), .int .i64 0]) ∧ (∃ mb g, StoreAt w' w.heap.size p (St0 n mb) g) ∧ Below w.heap.size w w' := by
  have d1 : decide ((n : Int) < 0) = false := by simp
  have d2 : decide ((n : Int) > 67108864) = false := by simp; omega
  have hmm := @run_makeMap Try.prog
  go_enter Try.func8, Try.ntmps8
  go_wp2_with fail
  go_ret2
  refine ⟨_, rfl, ⟨w.heap.size, fun c => if c = w.heap.size then .mp else .st, ?_⟩, (below1 w _).alloc (by simp) _⟩
  have hm : (w.alloc (.map #[] 0)).ownsMap Try.prog 9 heldE w.heap.size 0 (.map []) := World.ownsMap_made w Try.prog 9 heldE
  refine ⟨?_, by simp, by simp, ?_, Nat.le_refl _, by simp [St0], World.ownsRow_nil _ _ _ _, fun b hb => by simp [St0, Value.ownBlock] at hb, fun i f hf => by simp [St0] at hf, fun i f hf => by simp [St0] at hf, fun i f hf => by simp [St0] at hf, fun i f hf => by simp [St0] at hf, fun i f hf => by simp [St0] at hf, fun i f hf => by simp [St0] at hf, fun i r hr => by simp [St0] at hr, ⟨by simp [St0], hn, by simp [St0], by simp [St0]⟩⟩
  · have := heap_alloc_new (w.alloc (.map #[] 0)) (.cells #[.bool true, .int .i64 (n : Int), .int .i64 0, .map (some w.heap.size), .slice none 0 0] 53)
    simpa [St0] using this
  · exact hm.alloc _
theorem infoR : (Try.prog.info? 66).map (fun i => (i.zero, i.size, i.bytes)) = some (some (.agg #[.pointer none, .int .i64 0]), 2, 16) := by kernel_rfl
section
variable {w : World} {B p : Nat} {s : StM} {g : Nat → Tag}
def StM.rode (s : StM) (i : Nat) (q : FileM) (rv : Value) : StM := { s with fs := s.fs.set i { q with rid := true }, rv := rv, rs := s.rs ++ [(i, 0)] }
set_option maxHeartbeats 4000000 in
theorem ride_any (h : StoreAt w B p s g) (hBw : B ≤ w.heap.size) {i : Nat} {q : FileM} (hq : s.fs[i]? = some q) (hl : s.rs.length < 255) :
    Calls Try.prog 30 #[.pointer (some ⟨p, 0, none⟩), .pointer (some ⟨q.blk, 0, none⟩)] w fun e w' => e = .returned (.int .i64 ((s.rs.length : Int) + 1)) ∧ ∃ rv g', StoreAt w' B p (s.rode i q rv) g' ∧ Below B w w' := by
  obtain ⟨f0, f1, f2, fz⟩ := h.file hq
  have fz2 := fz 2
  obtain ⟨g1, hA, -⟩ := h.setFile (W := w.setCell ⟨q.blk, 2, none⟩ (.bool true)) (f' := { q with rid := true }) hq rfl (fun c hc h1 h2 => Below.heap_setCell _ _ _ _ h1) (set_block (h.hf _ q hq))
    (ownsRow_keep (h.hd _ q hq) fun c hc => Below.heap_setCell _ _ _ _ (fun e => tag_ne (h.gd _ q hq c hc) (h.gf _ q hq) (by simp) e)) (fun b hb => .inl hb) (h.ok _ q hq) (by simp)
  have hb1 : Below B w (w.setCell ⟨q.blk, 2, none⟩ (.bool true)) := Below.setCell (p := ⟨q.blk, 2, none⟩) (Below.refl _ _) (h.fB _ q hq) _
  have hsz : (w.setCell ⟨q.blk, 2, none⟩ (.bool true)).heap.size = w.heap.size := by simp [World.setCell]
  have hq2 : ({ s with fs := s.fs.set i { q with rid := true } } : StM).fs[i]? = some { q with rid := true } := List.getElem?_set_self (List.getElem?_eq_some_iff.1 hq).1
  have HA := Lib.hid hA
  have HB1 := Lib.hid hb1
  obtain ⟨a, cap, hrv⟩ : ∃ a cap, s.rv = .slice a s.rs.length cap := by
    rcases h.hr.2 with ⟨h1, h2⟩ | ⟨b, cap, cur, h1, -⟩
    · exact ⟨none, 0, by rw [h1, h2]⟩
    · exact ⟨_, cap, h1⟩
  have HRV := Lib.hid hrv
  obtain ⟨i0, hi0, hz0, hz1, hz2⟩ : ∃ i, Try.prog.info? 66 = some i ∧ i.zero = some (.agg #[.pointer none, .int .i64 0]) ∧ i.size = 2 ∧ i.bytes = 16 := by
    obtain ⟨i, e1, e2⟩ := Option.map_eq_some_iff.1 infoR
    exact ⟨i, e1, (Prod.mk.inj e2).1, (Prod.mk.inj (Prod.mk.inj e2).2).1, (Prod.mk.inj (Prod.mk.inj e2).2).2⟩
  have m3 : q.blk ≠ p := tag_ne (h.gf _ q hq) h.gp (by simp)
  obtain ⟨-, -, -, -, c4, pz⟩ := h.cells
  have pz4 := pz 4
  rw [hrv] at c4
  have hrow : (w.setCell ⟨q.blk, 2, none⟩ (.bool true)).ownsRow B 66 2 (.slice a s.rs.length cap) s.rs.length s.riders := by
    have := hA.hr
    rw [riders_fs (f' := { q with rid := true }) hq rfl] at this
    rw [← hrv]
    exact this
  have hnp : some p ≠ (Value.slice a s.rs.length cap).ownBlock := fun e => by
    have := h.gr p (by rw [hrv]; exact e.symm)
    rw [h.gp] at this
    cases this
  have hlp := h.lp
  have hpc : ((w.setCell ⟨q.blk, 2, none⟩ (.bool true)).alloc (.cells #[.pointer (some ⟨q.blk, 0, none⟩), .int .i64 0] 66)).cell? ⟨p, 4, none⟩ = some (.slice a s.rs.length cap) ∧ ((w.setCell ⟨q.blk, 2, none⟩ (.bool true)).alloc (.cells #[.pointer (some ⟨q.blk, 0, none⟩), .int .i64 0] 66)).frozen? ⟨p, 4, none⟩ = false := by
    obtain ⟨-, -, -, -, c4', pz'⟩ := (hA.below (below1 (w.setCell ⟨q.blk, 2, none⟩ (.bool true)) (.cells #[.pointer (some ⟨q.blk, 0, none⟩), .int .i64 0] 66))).cells
    exact ⟨by rw [← hrv]; exact c4', pz' 4⟩
  have HROW := Lib.hid hrow
  have HPC := Lib.hid hpc
  have HNP := Lib.hid hnp
  clear h hA hb1 fz pz hrv hrow hpc hnp
  go_enter Try.func30, Try.ntmps30
  go_wp2_with (at_builtin; refine wpList_append_lies _ (by rfl) _ _ 51 (by rfl) B 66 i0 _ 2 16 Try.underlying51 hi0 hz0 hz1 hz2 rfl (by omega) (.slice a s.rs.length cap) s.rs.length s.riders (by rfl) (HROW.out.alloc _) ⟨w.heap.size, 0, none⟩ 1 1 [.pointer (some ⟨q.blk, 0, none⟩), .int .i64 0] (by rfl) (by rfl) (World.news_of_block (cs := #[.pointer (some ⟨q.blk, 0, none⟩), .int .i64 0]) (t := 66) (fr := (0, 0)) (by rw [← hsz]; exact heap_alloc_new _ _)) (by intro u hu; simp at hu; rcases hu with rfl | rfl <;> rfl) (by omega) (by unfold maxLen; omega) (by omega) (by simp [hsz]; omega) _ rfl ?_; intro gg cap1 X ho hg hat hlt; have HO := Lib.hid ho; have HG := Lib.hid hg; have HAT := Lib.hid hat; have C1 : X.cell? ⟨p, 4, none⟩ = some (.slice a s.rs.length cap) := (by rw [hg.cell_far _ (by simp [hsz]; omega) HNP.out]; exact HPC.out.1); have F1 : X.frozen? ⟨p, 4, none⟩ = false := (by rw [hg.frozen_far _ (by simp [hsz]; omega) HNP.out]; exact HPC.out.2); clear ho hg hat)
  go_ret
  obtain ⟨g2, hF, -⟩ := (HA.out.below (below1 _ (.cells #[.pointer (some ⟨q.blk, 0, none⟩), .int .i64 0] 66))).addRider hq2 hl (V := X) (b := gg) (cap := cap1) (by rw [riders_fs (f' := { q with rid := true }) hq rfl]; exact HO.out) (by show World.grownBy _ _ s.rv.ownBlock; rw [HRV.out]; exact HG.out) (by show s.rv.ownBlock = _ ∨ _; rw [HRV.out]; rcases HAT.out with e | e; exact .inl e; exact .inr (by omega))
  refine ⟨rfl, ⟨_, g2, hF⟩, HB1.out.trans (Below.setCell (p := ⟨p, 4, none⟩) (Below.grown ((Below.refl _ _).alloc (by rw [hsz]; exact hBw) _) HG.out (by simp [hsz]; omega) fun k hk => ?_) HA.out.pB _)⟩
  exact (HROW.out.lt k hk).1
set_option maxHeartbeats 1000000 in
theorem old_yes (h : StoreAt w B p s g) (hBw : B ≤ w.heap.size) {nm : ByteArray} (hs : nm.size ≤ maxLen) {i : Nat} {q : FileM} (hq : s.fs[i]? = some q) (hd : s.dir nm = .held (.pointer (some ⟨q.blk, 0, none⟩))) (hl : s.rs.length < 255) :
    Calls Try.prog 11 #[.pointer (some ⟨p, 0, none⟩), .string nm] w fun e w' => e = .returned (.int .i64 ((s.rs.length : Int) + 1)) ∧ (∃ rv g', StoreAt w' B p (s.rode i q rv) g') ∧ Below B w w' := by
  obtain ⟨c0, c1, c2, c3, c4, z⟩ := h.cells
  have hlk := h.look hs hd
  have HS := Lib.hid h
  have HD := Lib.hid (ride_any h hBw hq hl)
  obtain ⟨a, cap, hrv⟩ : ∃ a cap, s.rv = .slice a s.rs.length cap := by
    rcases h.hr.2 with ⟨h1, h2⟩ | ⟨b, cap, cur, h1, -⟩
    · exact ⟨none, 0, by rw [h1, h2]⟩
    · exact ⟨_, cap, h1⟩
  rw [hrv] at c4
  have hdl : decide ((s.rs.length : Int) ≥ 255) = false := by simp; omega
  clear h z hrv
  go_enter Try.func11, Try.ntmps11
  go_wp2_with (first | (go_at_call 25; refine (sis_any HS.out).mono ?_; rintro e w' ⟨rfl, rfl⟩) | (go_at_call 30; refine HD.out.mono ?_; rintro e w2 ⟨rfl, rv, g', hA, hB⟩))
  go_ret
  exact ⟨rfl, ⟨rv, g', hA⟩, hB⟩
end
theorem num_any (n : Int) (w : World) : Calls Try.prog 9 #[.int .i64 n] w fun e w' => e = .returned (.int .i64 n) ∧ w' = w := by
  go_enter Try.func9, Try.ntmps9
  go_wp2_with fail
  go_ret
  exact ⟨rfl, rfl⟩
end Go.Proofs.Ytbpelchampegaaa

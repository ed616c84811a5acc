/-
  A byte written over another one; all bytes written.
-/
import Derived.Test.YtbpelchampegaaaStoreD
namespace Go.Proofs.Ytbpelchampegaaa
open Go.ChangeShapes Go.WideShapes Go.ChangeAt Go.RowKit
set_option linter.unusedVariables false
section
variable {w : World} {B p : Nat} {s : StM} {g : Nat → Tag}
set_option maxHeartbeats 4000000 in
theorem write_in (h : StoreAt w B p s g) (hBw : B ≤ w.heap.size) {f : Int} {i : Nat} {r : Nat × Nat} {b cap : Nat} (hR : Rid w s f i r b cap) {q : FileM} (hq : s.fs[r.1]? = some q) (hlt : r.2 < q.xs.length) (x : Int) (x0 : 0 ≤ x) (x1 : x ≤ 255) :
    Calls Try.prog 36 #[.pointer (some ⟨p, 0, none⟩), .pointer (some ⟨b, i * 2, none⟩), .int .u8 x] w fun e w' => e = .returned (.tuple #[]) ∧ ∃ v g', StoreAt w' B p (s.wrote i r q v x) g' ∧ Below B w w' ∧ Far w w' p b q v := by
  have hl : q.xs.length ≤ 67108864 := Nat.le_trans (h.ok _ q hq).2.1 h.used.2.1
  have hu : s.used ≤ 67108864 := Nat.le_trans h.used.1 h.used.2.1
  obtain ⟨a, c, eqv, hc⟩ := h.slice hq
  have HW := Lib.hid (Wf.of h hR hq eqv)
  obtain ⟨r0, r1, rz, f1, fz, c2, pz⟩ := HW.out
  have hown := h.hd _ q hq
  rw [eqv] at hown
  have HO := Lib.hid hown
  have gb := h.gr b (by rw [hR.row]; rfl)
  have gq := h.gf _ q hq
  have gd : ∀ x, (Value.slice a q.xs.length c).ownBlock = some x → g x = .data r.1 := fun x hx => h.gd _ q hq x (by rw [eqv]; exact hx)
  have n1 : some b ≠ (Value.slice a q.xs.length c).ownBlock := fun e => tag_ne gb (gd b e.symm) (by simp) rfl
  have n2 : some q.blk ≠ (Value.slice a q.xs.length c).ownBlock := fun e => tag_ne gq (gd _ e.symm) (by simp) rfl
  have n3 : some p ≠ (Value.slice a q.xs.length c).ownBlock := fun e => tag_ne h.gp (gd _ e.symm) (by simp) rfl
  have m1 : b ≠ q.blk := tag_ne gb gq (by simp)
  have m2 : b ≠ p := tag_ne gb h.gp (by simp)
  have m3 : q.blk ≠ p := tag_ne gq h.gp (by simp)
  obtain ⟨i0, hi0, hz0, hz1, hz2⟩ := info_parts infoU8
  have HS := Lib.hid h
  have HR := Lib.hid hR
  have HQ := Lib.hid eqv
  have HN := Lib.hid (And.intro n1 (And.intro n2 n3))
  clear h hR eqv hown n1 n2 n3 gd gb gq
  have hd2 : ((r.2 : Int) == (q.xs.length : Int)) = false := by simp; omega
  obtain ⟨d, c', e2, -, -⟩ := (HS.out.hd _ q hq).form (by omega)
  have e3 := HQ.out
  rw [e2] at e3
  obtain ⟨rfl, rfl⟩ : a = some ⟨d, 0, none⟩ ∧ c = c' := by simp at e3; exact ⟨e3.1.symm, e3.2.symm⟩
  have HP := Lib.hid (HS.out.wroteIn HR.out.at_ HR.out.row hq hlt e2 x0 x1)
  have hdb : d ≠ b := fun e => HN.out.1 (by rw [← e]; rfl)
  have hdc : w.cell? ⟨d, r.2, none⟩ = some (.int .u8 (nth q.xs r.2)) := by
    have := HO.out.cells (g := d) rfl r.2 (.int .u8 (nth q.xs r.2)) (by unfold vals; rw [List.getElem?_map, List.getElem?_eq_getElem hlt]; simp [nth_eq q.xs r.2 hlt])
    rw [cell_add] at this
    exact this
  have hdz : w.frozen? ⟨d, r.2, none⟩ = false := by
    rcases HO.out.2 with ⟨h1, -⟩ | ⟨g', cap', cur, e', hb', hgg, -⟩
    · cases h1
    · cases e'
      simp [World.frozen?, hgg]
  clear e2 e3
  go_enter Try.func36, Try.ntmps36
  go_wp2_with fail
  go_quiet (fail)
  go_wp2_with fail
  go_region_with fail
  all_goals
    go_wp2_with fail
    go_end0
    obtain ⟨g', hA, hB, hF⟩ := HP.out
    exact ⟨rfl, q.val, g', hA.rest ⟨rfl, rfl, rfl, rfl⟩, hB.trans (Rest.below (a := (w.setCell ⟨d, r.2, none⟩ (.int .u8 x)).setCell ⟨b, i * 2 + 1, none⟩ (.int .i64 ((r.2 : Int) + 1))) (b := ((w.drewN (nq + 1)).setCell ⟨d, r.2, none⟩ (.int .u8 x)).setCell ⟨b, i * 2 + 1, none⟩ (.int .i64 ((r.2 : Int) + 1))) ⟨rfl, rfl, rfl, rfl⟩ B), hF⟩
theorem write_any (h : StoreAt w B p s g) (hBw : B ≤ w.heap.size) {f : Int} {i : Nat} {r : Nat × Nat} {b cap : Nat} (hR : Rid w s f i r b cap) {q : FileM} (hq : s.fs[r.1]? = some q) (hle : r.2 ≤ q.xs.length) (hroom : r.2 = q.xs.length → s.used + 1 ≤ s.cap ∧ q.xs.length + 1 ≤ s.cap) (x : Int) (x0 : 0 ≤ x) (x1 : x ≤ 255) :
    Calls Try.prog 36 #[.pointer (some ⟨p, 0, none⟩), .pointer (some ⟨b, i * 2, none⟩), .int .u8 x] w fun e w' => e = .returned (.tuple #[]) ∧ ∃ v g', StoreAt w' B p (s.wrote i r q v x) g' ∧ Below B w w' ∧ Far w w' p b q v := by
  by_cases hend : r.2 = q.xs.length
  · exact write_end h hBw hR hq hend (hroom hend).1 (hroom hend).2 x x0 x1
  · exact write_in h hBw hR hq (by omega) x x0 x1
end
end Go.Proofs.Ytbpelchampegaaa

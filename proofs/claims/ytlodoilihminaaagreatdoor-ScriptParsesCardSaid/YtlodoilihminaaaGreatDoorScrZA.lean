/-
  ref25.Much; script.mayCapacity; what a script's text is put together by.
-/
import Derived.Test.YtlodoilihminaaaGreatDoorScrZ
namespace Go.Proofs.YtlodoilihminaaaGreatDoor
open Go.ChangeShapes Go.WideShapes Go.ChangeAt Go.RowKit
set_option linter.unusedVariables false
set_option linter.unusedSimpArgs false
theorem cap_any (n : Int) (w : World) : Calls Tryz.prog 35 #[.int .i64 n] w fun e w' => e = .returned (.bool (capB n)) ∧ w = w' := by
  have h : n < 0 ∨ (0 ≤ n ∧ n ≤ 67108864) ∨ 67108864 < n := by omega
  rcases h with h | h | h
  all_goals
    go_enter Tryz.func35, Tryz.ntmps35
    go_wp2
    go_ret
    exact ⟨ret_bool (by unfold capB; first | (rw [eq_comm, decide_eq_true_eq]; omega) | (rw [eq_comm, decide_eq_false_iff_not]; omega) | (rw [Bool.eq_iff_iff]; simp only [Bool.and_eq_true, decide_eq_true_eq]; omega)), rfl⟩
/-- bytes of the first j acts -/
def muN (l : List Ac) (j : Nat) : Nat := ((l.take j).map fun a => a.bytes.length).sum
def muchB (l : List Ac) : Bool := (l.take 61).any bigB || (decide (60 < l.length) || decide (70000 < muN l 61))
theorem muN_succ (l : List Ac) (k : Nat) (a : Ac) (h : l[k]? = some a) : muN l (k + 1) = muN l k + a.bytes.length := by
  unfold muN
  rw [List.take_add_one, h]
  simp
theorem any_succ (l : List Ac) (k : Nat) (a : Ac) (h : l[k]? = some a) : (l.take (k + 1)).any bigB = ((l.take k).any bigB || bigB a) := by
  rw [List.take_add_one, h]
  simp
theorem much_yes (l : List Ac) (k : Nat) (a : Ac) (h : l[k]? = some a) (hk : k < 61) (hb : bigB a = true) : muchB l = true := by
  unfold muchB
  have hlt := (List.getElem?_eq_some_iff.1 h).1
  have : (l.take 61).any bigB = true := by
    rw [List.any_eq_true]
    refine ⟨a, ?_, hb⟩
    rw [List.mem_iff_getElem?]
    exact ⟨k, by rw [List.getElem?_take, if_pos hk]; exact h⟩
  rw [this]
  rfl
set_option maxHeartbeats 4000000 in
set_option maxRecDepth 100000 in
theorem much_any (w : World) (c : Int) (l : List Ac) (A : Option Addr) (n cc : Nat) (h : ScAt w c l A n cc) :
    Calls Tryz.prog 12 #[.agg (scC c A n cc)] w fun e w' => e = .returned (.bool (muchB l)) ∧ Below w.heap.size w w' := by
  have HS := Lib.hid h
  have hq0 := heap_alloc_new w (.cells #[.int .i64 c, .slice A n cc] 38)
  have hb0 := sbelow1 w (.cells #[.int .i64 c, .slice A n cc] 38)
  have hnm : n ≤ 9223372036854775807 := by have := h.hn; have := h.hm; unfold maxLen at this; omega
  clear h
  unfold scC
  go_enter Tryz.func12, Tryz.ntmps12
  go_upto_region 1 with fail
  generalize w.alloc (.cells #[.int .i64 c, .slice A n cc] 38) = W1 at hq0 hb0 ⊢
  have k1 : W1.cell? ⟨w.heap.size, 1, none⟩ = some (.slice A n cc) := by rw [World.cell?, hq0]; rfl
  have HB := Lib.hid hb0
  have HK1 := Lib.hid k1
  have HLT := Lib.hid (World.block_lt_of_cell? _ _ k1)
  have HLN := Lib.hid HS.out.row.1
  clear hq0 hb0 k1
  go_wp2_with fail
  go_loopw [3, 4] (fun nv iv wr => ∃ k N : Nat, k ≤ n ∧ k ≤ 61 ∧ iv = .int .i64 (k : Int) ∧ nv = .int .i64 (N : Int) ∧ Hid (N = muN l k ∧ (l.take k).any bigB = false) ∧ Hid (N ≤ k * 70000) ∧ Hid (Below W1.heap.size W1 wr)) (fun _ iv _ => 61 - (intOf iv).toNat)
  case atStart => exact ⟨0, 0, Nat.zero_le _, by omega, rfl, rfl, Lib.hid ⟨rfl, rfl⟩, Lib.hid (Nat.zero_le _), Lib.hid (Below.refl _ _)⟩
  case round =>
    obtain ⟨k, N, hk, hk2, rfl, rfl, HN, HNL, HBR⟩ := hrel
    have k1 : wr.cell? ⟨w.heap.size, 1, none⟩ = some (.slice A n cc) := (HBR.out.cell HLT.out).trans HK1.out
    have hNL := HNL.out
    by_cases hlt : k < n ∧ k ≤ 60
    · obtain ⟨hlt, h60⟩ := hlt
      have hbw : Below w.heap.size w wr := HB.out.trans (HBR.out.mono HB.out.size)
      obtain ⟨x, a, bA, bn, bc, nA, nn, nc, rfl, hx, ha, hc, hat, -⟩ := (HS.out.row.below hbw).at hlt
      obtain ⟨c0, c1', c2', c3, c4, c5⟩ := hc
      have HBG := Lib.hid (rbig_any wr a bA bn bc nA nn nc hat)
      have hbl : bn = a.bytes.length := hat.hbr.1.symm
      have hxl : x.block < w.heap.size := by
        obtain ⟨x', e, hx', -⟩ := HS.out.row.2 (by omega)
        cases e
        exact hx'
      have HA := Lib.hid ha
      have HCC : Hid (∀ V, Below W1.heap.size W1 V → V.cell? ⟨w.heap.size, 1, none⟩ = some (.slice (some x) n cc)) := Lib.hid fun V hV => (hV.cell HLT.out).trans HK1.out
      have HC2 : Hid (∀ V, Below wr.heap.size wr V → V.cell? ⟨(x.add (k * 6)).block, (x.add (k * 6)).off + 2, none⟩ = some (.slice bA bn bc)) := Lib.hid fun V hV => (hV.cell (World.block_lt_of_cell? _ _ c2')).trans c2'
      have HBL := Lib.hid hbl
      clear hat hbw ha hx hxl hbl
      unfold actC at HBG
      cases hbg : bigB a with
      | true =>
        rw [hbg] at HBG
        have HY := Lib.hid (much_yes l k a HA.out (by omega) hbg)
        clear hbg
        go_wp2_with (go_at_call 19; (with_reducible refine HBG.out.mono ?_); rintro e w2 ⟨rfl, hb⟩; have HB2 := Lib.hid (HBR.out.trans (hb.mono HBR.out.size)); have k1 := HCC.out _ HB2.out; have c2' := HC2.out _ hb; clear hb)
        go_ret
        exact ⟨ret_bool HY.out.symm, HB.out.trans (HB2.out.mono HB.out.size)⟩
      | false =>
        rw [hbg] at HBG
        have hbb := (big_no hbg).1
        have hbn : bn ≤ 70000 := by have := HBL.out; omega
        have HS2 : Hid (N + bn = muN l (k + 1) ∧ (l.take (k + 1)).any bigB = false) := Lib.hid ⟨by rw [muN_succ l k a HA.out, HN.out.1, HBL.out], by rw [any_succ l k a HA.out, HN.out.2, hbg]; rfl⟩
        clear hbg hbb
        go_wp2_with (go_at_call 19; (with_reducible refine HBG.out.mono ?_); rintro e w2 ⟨rfl, hb⟩; have HB2 := Lib.hid (HBR.out.trans (hb.mono HBR.out.size)); have k1 := HCC.out _ HB2.out; have c2' := HC2.out _ hb; clear hb)
        go_roundw
        case rel => exact ⟨k + 1, N + bn, by omega, by omega, by go_num, by go_num, HS2, Lib.hid (by omega), HB2⟩
        case measure => simp [intOf]; omega
    · have HE : Hid (muchB l = (decide (60 < n) || decide (70000 < N))) := Lib.hid (by
        unfold muchB
        have e1 : l.take 61 = l.take k := by
          by_cases h1 : k = 61
          · rw [h1]
          · rw [List.take_of_length_le (by rw [HLN.out]; omega), List.take_of_length_le (by rw [HLN.out]; omega)]
        have e2 : muN l 61 = N := by rw [HN.out.1]; unfold muN; rw [e1]
        rw [e1, HN.out.2, e2, HLN.out]
        rfl)
      clear HN HNL
      have hgo : (k = n ∧ k ≤ 61) ∨ (k < n ∧ k = 61) := by omega
      clear hlt
      by_cases hN : 70000 < N <;> by_cases h1 : 60 < n <;> rcases hgo with ⟨rfl, hg⟩ | ⟨hg, rfl⟩
      all_goals first
        | (exfalso; omega)
        | (go_wp2_with fail; go_ret; exact ⟨ret_bool (by rw [HE.out]; first | (rw [Bool.eq_iff_iff]; simp only [Bool.or_eq_true, decide_eq_true_eq]; omega) | (simp_all; done) | (simp_all; omega)), HB.out.trans (HBR.out.mono HB.out.size)⟩)
end Go.Proofs.YtlodoilihminaaaGreatDoor

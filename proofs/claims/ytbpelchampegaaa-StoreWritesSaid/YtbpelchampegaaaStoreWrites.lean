/-
  StoreWrites: for any two at most 3000 bytes, any place, any word: a word that is written somewhere in a file changes just those four bytes, or makes the file longer; all riders on it see it; the others' files stay. No condition.
-/
import Derived.Test.YtbpelchampegaaaStoreM
import Derived.Deep.Cut
namespace Go.Proofs.Ytbpelchampegaaa.storeWrites
open Go.ChangeShapes Go.WideShapes Go.ChangeAt Go.RowKit
set_option linter.unusedVariables false
set_option maxHeartbeats 4000000 in
set_option maxRecDepth 4000 in
theorem walk (a0 : Option Addr) (len0 cap0 : Nat) (z0 : List Int) (a1 : Option Addr) (len1 cap1 : Nat) (z1 : List Int) (a2 a3 : Int) (w : World) (w0 : IsRow .u8 w a0 len0 cap0 z0) (w1 : IsRow .u8 w a1 len1 cap1 z1) (w2 : (Lit.int .u32 a2).wf = true) (w3 : (Lit.int .u32 a3).wf = true) :
    Calls Try.prog 4 #[.slice a0 len0 cap0, .slice a1 len1 cap1, .int .u32 a2, .int .u32 a3] w fun e w' => e = .returned (.bool true) ∧ Below w.heap.size w w' := by
  have hz : ∀ z ∈ z0, 0 ≤ z ∧ z ≤ 255 := fun z h => bd_u8 (w0.2.2.2.1 z h)
  have hy : ∀ z ∈ z1, 0 ≤ z ∧ z ≤ 255 := fun z h => bd_u8 (w1.2.2.2.1 z h)
  have W0 := Lib.hid w0
  have W1 := Lib.hid w1
  have HZ := Lib.hid hz
  have HY := Lib.hid hy
  have hl0 : len0 ≤ maxLen := Nat.le_trans w0.2.1 w0.2.2.1
  have hl1 : len1 ≤ maxLen := Nat.le_trans w1.2.1 w1.2.2.1
  have KN := Lib.hid known2_any
  have b2 := bd_u32 w2
  have b3 := bd_u32 w3
  clear w0 w1 hz hy w2 w3
  by_cases h3 : 3000 < len0 ∨ 3000 < len1
  · unfold maxLen at hl0 hl1
    rcases h3 with h3 | h3
    · go_enter Try.func4, Try.ntmps4
      go_wp2_with (go_at_call 6; refine (KN.out _).mono ?_; rintro e w' ⟨rfl, hb⟩)
      go_ret
      exact ⟨rfl, hb⟩
    · by_cases h4 : 3000 < len0
      all_goals
        go_enter Try.func4, Try.ntmps4
        go_wp2_with (go_at_call 6; refine (KN.out _).mono ?_; rintro e w' ⟨rfl, hb⟩)
        go_ret
        exact ⟨rfl, hb⟩
  · obtain ⟨h3, h4⟩ : len0 ≤ 3000 ∧ len1 ≤ 3000 := by omega
    have NW := Lib.hid (new_any 10000 (by omega) w)
    have hlz : z0.length = len0 := W0.out.1
    have hly : z1.length = len1 := W1.out.1
    obtain ⟨S, hS⟩ : ∃ S, seekN a2 z0.length = S := ⟨_, rfl⟩
    have hSl : S ≤ len0 := by rw [← hS]; unfold seekN; split <;> omega
    have hS2 : (S : Int) ≤ 3000 := by omega
    have HB0 : Hid (Below w.heap.size w w) := Lib.hid (Below.refl _ _)
    go_enter Try.func4, Try.ntmps4
    go_upto_region 12 with (first
      | (go_at_call 9; refine (num2_any _ _).mono ?_; rintro e w' ⟨rfl, rfl⟩)
      | (go_at_call 8; refine NW.out.mono ?_; rintro e w3 ⟨p, rfl, ⟨mb, g, hs⟩, hb⟩; have HS1 : Hid (Sto w3 w.heap.size p 10000 0 [] [] []) := Lib.hid (sto_new hs hb.size); have HB1 := Lib.hid hb; clear hs hb HB0 NW)
      | (go_at_call 10; refine (Sto.put HS1.out rfl (nm := ⟨#[97]⟩) (by decide) (may_a _) (by simp) (by simp) ((W0.out.2.2.2.2.below HB1.out).more HB1.out.size) HZ.out (by omega)).mono ?_; rintro e w4 ⟨rfl, hs, hb⟩; have HS2 : Hid (Sto w4 w.heap.size p 10000 (0 + len0) [z0] [] [⟨#[97]⟩]) := Lib.hid hs; have HB2 := Lib.hid (HB1.out.trans hb); clear hs hb HS1 HB1)
      | (go_at_call 10; refine (Sto.put HS2.out rfl (nm := ⟨#[98]⟩) (by decide) (may_b _) (by simp) (by simp) ((W1.out.2.2.2.2.below HB2.out).more HB2.out.size) HY.out (by omega)).mono ?_; rintro e w5 ⟨rfl, hs, hb⟩; have HS3 : Hid (Sto w5 w.heap.size p 10000 (0 + len0 + len1) [z0, z1] [] [⟨#[97]⟩, ⟨#[98]⟩]) := Lib.hid hs; have HB3 := Lib.hid (HB2.out.trans hb); clear hs hb HS2 HB2)
      | (go_at_call 11; refine (Sto.old HS3.out (k := 0) (nm := ⟨#[97]⟩) (by rfl) (by decide) (by simp)).mono ?_; rintro e w6 ⟨he, hs, hb⟩; obtain rfl : e = .returned (.int .i64 1) := he; have HS4 : Hid (Sto w6 w.heap.size p 10000 (0 + len0 + len1) [z0, z1] [(0, 0)] [⟨#[97]⟩, ⟨#[98]⟩]) := Lib.hid hs; have HB4 := Lib.hid (HB3.out.trans hb); clear hs hb HS3 HB3)
      | (go_at_call 11; refine (Sto.old HS4.out (k := 0) (nm := ⟨#[97]⟩) (by rfl) (by decide) (by simp)).mono ?_; rintro e w7 ⟨he, hs, hb⟩; obtain rfl : e = .returned (.int .i64 2) := he; have HS5 : Hid (Sto w7 w.heap.size p 10000 (0 + len0 + len1) [z0, z1] [(0, 0), (0, 0)] [⟨#[97]⟩, ⟨#[98]⟩]) := Lib.hid hs; have HB5 := Lib.hid (HB4.out.trans hb); clear hs hb HS4 HB4)
      | (go_at_call 21; refine (Sto.seek HS5.out (i := 0) (k := 0) (a := 0) (by rfl) (by rfl) (xs := z0) (by rfl) a2 b2.1 (by omega)).mono ?_; rintro e w8 ⟨rfl, hs, hb⟩; rw [hS] at hs; have HS7 : Hid (Sto w8 w.heap.size p 10000 (0 + len0 + len1) [z0, z1] [(0, S), (0, 0)] [⟨#[97]⟩, ⟨#[98]⟩]) := Lib.hid hs; have HB7 := Lib.hid (HB5.out.trans hb); clear hs hb HS5 HB5)
      | (go_at_call 23; refine (Sto.at_ HS7.out (i := 0) (k := 0) (a := S) (by rfl) (by rfl)).mono ?_; rintro e w' ⟨rfl, rfl⟩)
      | (go_at_call 14; refine (Sto.wword HS7.out (i := 0) (k := 0) (a := S) (by rfl) (by rfl) (xs := z0) (by rfl) (by omega) a3 b3.1 b3.2 (by omega) (by omega)).mono ?_; rintro e w10 ⟨rfl, hs, hb⟩; have HS8 : Hid (Sto w10 w.heap.size p 10000 (0 + len0 + len1 + (S + 4 - z0.length)) [wroteW z0 S a3, z1] [(0, S + 4), (0, 0)] [⟨#[97]⟩, ⟨#[98]⟩]) := Lib.hid hs; have HB8 := Lib.hid (HB7.out.trans hb); clear hs hb HS7 HB7))
    clear hS
    have hle : S ≤ z0.length := by omega
    have hXl := wroteW_len z0 S a3 hle
    have HN := Lib.hid (nth_wroteW z0 S a3 hle)
    generalize wroteW z0 S a3 = X at *
    have hXu : X.length ≤ 3004 := by omega
    generalize 0 + len0 + len1 + (S + 4 - z0.length) = U at *
    have hcs : (len0 < S + 4 ∧ X.length = S + 4) ∨ (S + 4 ≤ len0 ∧ X.length = len0) := by omega
    clear hXl
    rcases hcs with ⟨hc, hXn⟩ | ⟨hc, hXn⟩
    all_goals
      go_upto_region 18 with (first
        | (go_at_call 9; refine (num2_any _ _).mono ?_; rintro e w' ⟨rfl, rfl⟩)
        | (go_at_call 15; refine (Sto.get HS8.out (k := 0) (nm := ⟨#[97]⟩) (by rfl) (by decide) (may_a _) (xs := X) (by rfl)).mono ?_; rintro e w2 ⟨v, rfl, ho, hb⟩; rw [hXn] at ho; obtain ⟨A1, c1, rfl, -, hr⟩ := rd_own ho; have HX1 := Lib.hid (HS8.out.low.below hb); have HR1 := Lib.hid hr; have HB1 := Lib.hid (HB8.out.trans (hb.mono HB8.out.size)); have HL1 : Hid (∀ x, A1 = some x → w'.heap.size ≤ x.block) := Lib.hid (fun x hx => by { have h1 := (ho.lt x.block (by rw [hx]; rfl)).1; exact h1 }); clear hr hb ho HS8 HB8)
        | (go_at_call 15; refine (Sto.get HX1.out.sto (k := 1) (nm := ⟨#[98]⟩) (by rfl) (by decide) (may_b _) (xs := z1) (by rfl)).mono ?_; rintro e w3 ⟨v, rfl, ho, hb⟩; rw [hly] at ho; obtain ⟨A2, c2, rfl, -, hr⟩ := rd_own ho; have HX2 := Lib.hid (HX1.out.below hb); have HB2 := Lib.hid (HB1.out.trans (hb.mono HB1.out.size)); have cv2 := conv_rd hr c2; have cv1 := conv_rd (W1.out.2.2.2.2.below HB2.out) cap1; have HR2 := Lib.hid ((HR1.out.below hb).more hb.size); clear hr hb ho HX1 HR1 HB1)
        | (go_at_call 17; refine (Sto.length HX2.out.sto (i := 1) (k := 0) (a := 0) (by rfl) (by rfl) (xs := X) (by rfl)).mono ?_; rintro e w' ⟨he, rfl⟩; rw [hXn] at he; subst he)
        | (go_at_call 23; refine (Sto.at_ HX2.out.sto (i := 0) (k := 0) (a := S + 4) (by rfl) (by rfl)).mono ?_; rintro e w' ⟨rfl, rfl⟩)
        | (go_at_call 23; refine (Sto.at_ HX2.out.sto (i := 1) (k := 0) (a := 0) (by rfl) (by rfl)).mono ?_; rintro e w' ⟨rfl, rfl⟩))
    all_goals
      have HX3 : Hid (∃ H, StoL w' w.heap.size p 10000 U [X, z1] [(0, S + 4), (0, 0)] [⟨#[97]⟩, ⟨#[98]⟩] H ∧ ∀ x, A1 = some x → H ≤ x.block) := Lib.hid ⟨_, HX2.out, HL1.out⟩
      clear HX2 HL1 cv1 cv2
      obtain ⟨H, HX4, HL⟩ := HX3.out
      have HX2 := Lib.hid HX4
      replace HL := Lib.hid HL
      clear HX3 HX4
    · go_wp2_with fail
      go_loopw [19] (fun x wr => ∃ (j : Nat), j ≤ S + 4 ∧ x = .int .i64 j ∧ Hid (StoL wr w.heap.size p 10000 U [X, z1] [(0, S + 4), (0, j)] [⟨#[97]⟩, ⟨#[98]⟩] H ∧ Below w.heap.size w wr ∧ ∀ x, A1 = some x → ∀ i, i < S + 4 → wr.cell? (x.add i) = some (.int .u8 (nth X i)))) (fun x _ => S + 4 - (intOf x).toNat)
      case atStart => exact ⟨0, by omega, rfl, Lib.hid ⟨HX2.out, HB2.out, fun x hx i hi => by { obtain ⟨y, e, -, hc⟩ := HR2.out.2 (by omega); rw [hx] at e; cases e; exact hc i hi }⟩⟩
      case round =>
        obtain ⟨j, hj, rfl, HJ⟩ := hrel
        clear HX2 HB2
        by_cases hlt : j < S + 4
        · obtain ⟨x, rfl, -, -⟩ := HR2.out.2 (by omega)
          have hcx := HJ.out.2.2 x rfl j hlt
          have hv := HN.out j
          have HRD := Lib.hid (StoL.read HJ.out.1 (f := 2) (i := 1) (k := 0) (a := j) (by rfl) (by rfl) (xs := X) (by rfl) (by omega))
          have hnx : ∀ w2 : World, (∀ c, H ≤ c → w2.heap[c]? = wr.heap[c]?) → Hid (∀ y, some x = some y → ∀ i, i < S + 4 → w2.cell? (y.add i) = some (.int .u8 (nth X i))) := fun w2 hk => Lib.hid fun y hy i hi => by
            rw [← HJ.out.2.2 y hy i hi]
            exact World.cell?_of_block (hk _ (by rw [block_add]; exact HL.out y hy))
          have HNX := Lib.hid hnx
          clear hnx HR2
          rcases (by omega : j = S ∨ j = S + 1 ∨ j = S + 2 ∨ j = S + 3 ∨ (j ≠ S ∧ j ≠ S + 1 ∧ j ≠ S + 2 ∧ j ≠ S + 3)) with hs | hs | hs | hs | ⟨hs1, hs2, hs3, hs4⟩
          · rw [if_neg (by omega), if_neg (by omega), if_neg (by omega), if_pos hs] at hv
            have t0 : ((j : Int) == (S : Int)) = true := by simp; omega
            rw [hv] at hcx HRD
            clear hs hv
            go_wp2_with (go_at_call 20; refine HRD.out.mono ?_; rintro e w2 ⟨rfl, hs, hb, hk⟩; have HS : Hid (StoL w2 w.heap.size p 10000 U [X, z1] [(0, S + 4), (0, j + 1)] [⟨#[97]⟩, ⟨#[98]⟩] H ∧ Below w.heap.size w w2) := Lib.hid ⟨hs, HJ.out.2.1.trans hb⟩; have HK := HNX.out w2 hk; clear hs hb hk)
            exact ⟨⟨j + 1, by omega, by simp, Lib.hid ⟨HS.out.1, HS.out.2, HK.out⟩⟩, by simp [intOf]; omega⟩
          · rw [if_neg (by omega), if_neg (by omega), if_pos hs] at hv
            have t0 : ((j : Int) == (S : Int)) = false := by simp; omega
            have t1 : ((j : Int) == (S : Int) + 1) = true := by simp; omega
            rw [hv] at hcx HRD
            clear hs hv
            go_wp2_with (go_at_call 20; refine HRD.out.mono ?_; rintro e w2 ⟨rfl, hs, hb, hk⟩; have HS : Hid (StoL w2 w.heap.size p 10000 U [X, z1] [(0, S + 4), (0, j + 1)] [⟨#[97]⟩, ⟨#[98]⟩] H ∧ Below w.heap.size w w2) := Lib.hid ⟨hs, HJ.out.2.1.trans hb⟩; have HK := HNX.out w2 hk; clear hs hb hk)
            exact ⟨⟨j + 1, by omega, by simp, Lib.hid ⟨HS.out.1, HS.out.2, HK.out⟩⟩, by simp [intOf]; omega⟩
          · rw [if_neg (by omega), if_pos hs] at hv
            have t0 : ((j : Int) == (S : Int)) = false := by simp; omega
            have t1 : ((j : Int) == (S : Int) + 1) = false := by simp; omega
            have t2 : ((j : Int) == (S : Int) + 2) = true := by simp; omega
            rw [hv] at hcx HRD
            clear hs hv
            go_wp2_with (go_at_call 20; refine HRD.out.mono ?_; rintro e w2 ⟨rfl, hs, hb, hk⟩; have HS : Hid (StoL w2 w.heap.size p 10000 U [X, z1] [(0, S + 4), (0, j + 1)] [⟨#[97]⟩, ⟨#[98]⟩] H ∧ Below w.heap.size w w2) := Lib.hid ⟨hs, HJ.out.2.1.trans hb⟩; have HK := HNX.out w2 hk; clear hs hb hk)
            exact ⟨⟨j + 1, by omega, by simp, Lib.hid ⟨HS.out.1, HS.out.2, HK.out⟩⟩, by simp [intOf]; omega⟩
          · rw [if_pos hs] at hv
            have t0 : ((j : Int) == (S : Int)) = false := by simp; omega
            have t1 : ((j : Int) == (S : Int) + 1) = false := by simp; omega
            have t2 : ((j : Int) == (S : Int) + 2) = false := by simp; omega
            have t3 : ((j : Int) == (S : Int) + 3) = true := by simp; omega
            rw [show a3 / 16777216 % 256 = a3 / 16777216 by omega] at hv
            rw [hv] at hcx HRD
            clear hs hv
            go_wp2_with (go_at_call 20; refine HRD.out.mono ?_; rintro e w2 ⟨rfl, hs, hb, hk⟩; have HS : Hid (StoL w2 w.heap.size p 10000 U [X, z1] [(0, S + 4), (0, j + 1)] [⟨#[97]⟩, ⟨#[98]⟩] H ∧ Below w.heap.size w w2) := Lib.hid ⟨hs, HJ.out.2.1.trans hb⟩; have HK := HNX.out w2 hk; clear hs hb hk)
            exact ⟨⟨j + 1, by omega, by simp, Lib.hid ⟨HS.out.1, HS.out.2, HK.out⟩⟩, by simp [intOf]; omega⟩
          · rw [if_neg (by omega), if_neg (by omega), if_neg (by omega), if_neg (by omega)] at hv
            have t0 : ((j : Int) == (S : Int)) = false := by simp; omega
            have t1 : ((j : Int) == (S : Int) + 1) = false := by simp; omega
            have t2 : ((j : Int) == (S : Int) + 2) = false := by simp; omega
            have t3 : ((j : Int) == (S : Int) + 3) = false := by simp; omega
            obtain ⟨x0, rfl, hx0, hc0⟩ := W0.out.2.2.2.2.2 (by omega)
            have hz : wr.cell? (x0.add j) = some (.int .u8 (nth z0 j)) := by rw [HJ.out.2.1.cell (by rw [block_add]; exact hx0)]; exact hc0 j (by omega)
            rw [hv] at hcx HRD
            have hjl : j < len0 := by omega
            have zb := HZ.out (nth z0 j) (by rw [nth_eq z0 j (by omega)]; exact List.getElem_mem _)
            clear hs1 hs2 hs3 hs4 hv hc0
            go_wp2_with (go_at_call 20; refine HRD.out.mono ?_; rintro e w2 ⟨rfl, hs, hb, hk⟩; have HS : Hid (StoL w2 w.heap.size p 10000 U [X, z1] [(0, S + 4), (0, j + 1)] [⟨#[97]⟩, ⟨#[98]⟩] H ∧ Below w.heap.size w w2) := Lib.hid ⟨hs, HJ.out.2.1.trans hb⟩; have HK := HNX.out w2 hk; clear hs hb hk)
            exact ⟨⟨j + 1, by omega, by simp, Lib.hid ⟨HS.out.1, HS.out.2, HK.out⟩⟩, by simp [intOf]; omega⟩
        · obtain rfl : j = S + 4 := by omega
          have HB := Lib.hid HJ.out.2.1
          clear HJ
          go_wp2_with (go_at_call 6; refine (KN.out _).mono ?_; rintro e w5 ⟨rfl, hb5⟩)
          go_ret
          exact ⟨rfl, HB.out.trans (hb5.mono HB.out.size)⟩
    · go_wp2_with fail
      go_loopw [19] (fun x wr => ∃ (j : Nat), j ≤ len0 ∧ x = .int .i64 j ∧ Hid (StoL wr w.heap.size p 10000 U [X, z1] [(0, S + 4), (0, j)] [⟨#[97]⟩, ⟨#[98]⟩] H ∧ Below w.heap.size w wr ∧ ∀ x, A1 = some x → ∀ i, i < len0 → wr.cell? (x.add i) = some (.int .u8 (nth X i)))) (fun x _ => len0 - (intOf x).toNat)
      case atStart => exact ⟨0, by omega, rfl, Lib.hid ⟨HX2.out, HB2.out, fun x hx i hi => by { obtain ⟨y, e, -, hc⟩ := HR2.out.2 (by omega); rw [hx] at e; cases e; exact hc i hi }⟩⟩
      case round =>
        obtain ⟨j, hj, rfl, HJ⟩ := hrel
        clear HX2 HB2
        by_cases hlt : j < len0
        · obtain ⟨x, rfl, -, -⟩ := HR2.out.2 (by omega)
          have hcx := HJ.out.2.2 x rfl j hlt
          have hv := HN.out j
          have HRD := Lib.hid (StoL.read HJ.out.1 (f := 2) (i := 1) (k := 0) (a := j) (by rfl) (by rfl) (xs := X) (by rfl) (by omega))
          have hnx : ∀ w2 : World, (∀ c, H ≤ c → w2.heap[c]? = wr.heap[c]?) → Hid (∀ y, some x = some y → ∀ i, i < len0 → w2.cell? (y.add i) = some (.int .u8 (nth X i))) := fun w2 hk => Lib.hid fun y hy i hi => by
            rw [← HJ.out.2.2 y hy i hi]
            exact World.cell?_of_block (hk _ (by rw [block_add]; exact HL.out y hy))
          have HNX := Lib.hid hnx
          clear hnx HR2
          rcases (by omega : j = S ∨ j = S + 1 ∨ j = S + 2 ∨ j = S + 3 ∨ (j ≠ S ∧ j ≠ S + 1 ∧ j ≠ S + 2 ∧ j ≠ S + 3)) with hs | hs | hs | hs | ⟨hs1, hs2, hs3, hs4⟩
          · rw [if_neg (by omega), if_neg (by omega), if_neg (by omega), if_pos hs] at hv
            have t0 : ((j : Int) == (S : Int)) = true := by simp; omega
            rw [hv] at hcx HRD
            clear hs hv
            go_wp2_with (go_at_call 20; refine HRD.out.mono ?_; rintro e w2 ⟨rfl, hs, hb, hk⟩; have HS : Hid (StoL w2 w.heap.size p 10000 U [X, z1] [(0, S + 4), (0, j + 1)] [⟨#[97]⟩, ⟨#[98]⟩] H ∧ Below w.heap.size w w2) := Lib.hid ⟨hs, HJ.out.2.1.trans hb⟩; have HK := HNX.out w2 hk; clear hs hb hk)
            exact ⟨⟨j + 1, by omega, by simp, Lib.hid ⟨HS.out.1, HS.out.2, HK.out⟩⟩, by simp [intOf]; omega⟩
          · rw [if_neg (by omega), if_neg (by omega), if_pos hs] at hv
            have t0 : ((j : Int) == (S : Int)) = false := by simp; omega
            have t1 : ((j : Int) == (S : Int) + 1) = true := by simp; omega
            rw [hv] at hcx HRD
            clear hs hv
            go_wp2_with (go_at_call 20; refine HRD.out.mono ?_; rintro e w2 ⟨rfl, hs, hb, hk⟩; have HS : Hid (StoL w2 w.heap.size p 10000 U [X, z1] [(0, S + 4), (0, j + 1)] [⟨#[97]⟩, ⟨#[98]⟩] H ∧ Below w.heap.size w w2) := Lib.hid ⟨hs, HJ.out.2.1.trans hb⟩; have HK := HNX.out w2 hk; clear hs hb hk)
            exact ⟨⟨j + 1, by omega, by simp, Lib.hid ⟨HS.out.1, HS.out.2, HK.out⟩⟩, by simp [intOf]; omega⟩
          · rw [if_neg (by omega), if_pos hs] at hv
            have t0 : ((j : Int) == (S : Int)) = false := by simp; omega
            have t1 : ((j : Int) == (S : Int) + 1) = false := by simp; omega
            have t2 : ((j : Int) == (S : Int) + 2) = true := by simp; omega
            rw [hv] at hcx HRD
            clear hs hv
            go_wp2_with (go_at_call 20; refine HRD.out.mono ?_; rintro e w2 ⟨rfl, hs, hb, hk⟩; have HS : Hid (StoL w2 w.heap.size p 10000 U [X, z1] [(0, S + 4), (0, j + 1)] [⟨#[97]⟩, ⟨#[98]⟩] H ∧ Below w.heap.size w w2) := Lib.hid ⟨hs, HJ.out.2.1.trans hb⟩; have HK := HNX.out w2 hk; clear hs hb hk)
            exact ⟨⟨j + 1, by omega, by simp, Lib.hid ⟨HS.out.1, HS.out.2, HK.out⟩⟩, by simp [intOf]; omega⟩
          · rw [if_pos hs] at hv
            have t0 : ((j : Int) == (S : Int)) = false := by simp; omega
            have t1 : ((j : Int) == (S : Int) + 1) = false := by simp; omega
            have t2 : ((j : Int) == (S : Int) + 2) = false := by simp; omega
            have t3 : ((j : Int) == (S : Int) + 3) = true := by simp; omega
            rw [show a3 / 16777216 % 256 = a3 / 16777216 by omega] at hv
            rw [hv] at hcx HRD
            clear hs hv
            go_wp2_with (go_at_call 20; refine HRD.out.mono ?_; rintro e w2 ⟨rfl, hs, hb, hk⟩; have HS : Hid (StoL w2 w.heap.size p 10000 U [X, z1] [(0, S + 4), (0, j + 1)] [⟨#[97]⟩, ⟨#[98]⟩] H ∧ Below w.heap.size w w2) := Lib.hid ⟨hs, HJ.out.2.1.trans hb⟩; have HK := HNX.out w2 hk; clear hs hb hk)
            exact ⟨⟨j + 1, by omega, by simp, Lib.hid ⟨HS.out.1, HS.out.2, HK.out⟩⟩, by simp [intOf]; omega⟩
          · rw [if_neg (by omega), if_neg (by omega), if_neg (by omega), if_neg (by omega)] at hv
            have t0 : ((j : Int) == (S : Int)) = false := by simp; omega
            have t1 : ((j : Int) == (S : Int) + 1) = false := by simp; omega
            have t2 : ((j : Int) == (S : Int) + 2) = false := by simp; omega
            have t3 : ((j : Int) == (S : Int) + 3) = false := by simp; omega
            obtain ⟨x0, rfl, hx0, hc0⟩ := W0.out.2.2.2.2.2 (by omega)
            have hz : wr.cell? (x0.add j) = some (.int .u8 (nth z0 j)) := by rw [HJ.out.2.1.cell (by rw [block_add]; exact hx0)]; exact hc0 j (by omega)
            rw [hv] at hcx HRD
            have hjl : j < len0 := by omega
            have zb := HZ.out (nth z0 j) (by rw [nth_eq z0 j (by omega)]; exact List.getElem_mem _)
            clear hs1 hs2 hs3 hs4 hv hc0
            go_wp2_with (go_at_call 20; refine HRD.out.mono ?_; rintro e w2 ⟨rfl, hs, hb, hk⟩; have HS : Hid (StoL w2 w.heap.size p 10000 U [X, z1] [(0, S + 4), (0, j + 1)] [⟨#[97]⟩, ⟨#[98]⟩] H ∧ Below w.heap.size w w2) := Lib.hid ⟨hs, HJ.out.2.1.trans hb⟩; have HK := HNX.out w2 hk; clear hs hb hk)
            exact ⟨⟨j + 1, by omega, by simp, Lib.hid ⟨HS.out.1, HS.out.2, HK.out⟩⟩, by simp [intOf]; omega⟩
        · obtain rfl : len0 = j := by omega
          have HB := Lib.hid HJ.out.2.1
          clear HJ
          go_wp2_with (go_at_call 6; refine (KN.out _).mono ?_; rintro e w5 ⟨rfl, hb5⟩)
          go_ret
          exact ⟨rfl, HB.out.trans (hb5.mono HB.out.size)⟩
theorem own : ownKnob Try.prog.godebug = none := by kernel_rfl
theorem laidOut : laidOutB Try.prog = true := by kernel_rfl
set_option maxRecDepth 1000000 in
theorem contract (H : Type) (enc : TypeId × Value → H) (W : World) (base : Nat) (args : Array Value) (ds gs : List (DataW H)) (before : List MemPlace)
    (hval : ∀ (j : Nat) t v, Try.f4.params[j]? = some t → args[j]? = some v → Value.okWide Try.prog W .any base t v)
    (hW : DataW.Whole enc Try.prog Try.f4.params.toList Rows.storeWritesSpec.vars false W args.toList ds gs before) :
    Calls Try.prog 4 args W fun e W' => ∃ v, e = .returned v ∧ Rows.storeWritesSpec.post enc Try.prog Try.f4 false true false false W args v W' := by
  have hW' := hW
  obtain ⟨p, q, hA0, hV, rfl, hfz, hnd⟩ := hW
  have hA : DataW.TrodAll enc Try.prog W 0 (fun _ => true) true Try.f4.params.toList args.toList ds p := hA0
  rw [Try.params4] at hA hval
  obtain ⟨v0, vs0, d0, ds0, p0, q0, hargs, rfl, rfl, h0, r0⟩ := trodAll_cons hA
  obtain ⟨v1, vs1, d1, ds1, p1, q1, rfl, rfl, rfl, h1, r1⟩ := trodAll_cons r0
  obtain ⟨v2, vs2, d2, ds2, p2, q2, rfl, rfl, rfl, h2, r2⟩ := trodAll_cons r1
  obtain ⟨v3, vs3, d3, ds3, p3, q3, rfl, rfl, rfl, h3, r3⟩ := trodAll_cons r2
  obtain ⟨rfl, rfl, rfl⟩ := trodAll_nil r3
  obtain rfl : args = #[v0, v1, v2, v3] := by cases args; simp_all
  obtain ⟨rfl, rfl⟩ := trodVars_none hV
  obtain ⟨a0, len0, cap0, rfl⟩ := okWide_slice Try.underlying22 (hval 0 22 v0 rfl rfl)
  have k0 := h0
  have lt0 : ∀ x ∈ p0, x.block < W.heap.size := by obtain ⟨m, hm⟩ := k0; exact DataW.trod_lt m _ _ _ hm
  obtain ⟨z0, w0⟩ := isRow_of Try.underlying22 Try.underlying5 (by kernel_rfl) h0
  obtain ⟨a1, len1, cap1, rfl⟩ := okWide_slice Try.underlying22 (hval 1 22 v1 rfl rfl)
  have k1 := h1
  have lt1 : ∀ x ∈ p1, x.block < W.heap.size := by obtain ⟨m, hm⟩ := k1; exact DataW.trod_lt m _ _ _ hm
  obtain ⟨z1, w1⟩ := isRow_of Try.underlying22 Try.underlying5 (by kernel_rfl) h1
  obtain ⟨a2, rfl, rfl, rfl, w2⟩ := open_int Try.underlying35 (hval 2 35 v2 rfl rfl) h2
  obtain ⟨a3, rfl, rfl, rfl, w3⟩ := open_int Try.underlying35 (hval 3 35 v3 rfl rfl) h3
  clear hA0
  refine (walk a0 len0 cap0 z0 a1 len1 cap1 z1 a2 a3 W w0 w1 w2 w3).mono fun e W' ⟨he, bel⟩ => ?_
  subst he
  exact ⟨_, rfl, _, _, _, [], _, [], hW', trodAll_mk1 (shut_bool Try.underlying4 _), (trodAll_cons_mk (Below.trod laidOut (by kernel_rfl) (of_decide_eq_true (by kernel_rfl)) k0 bel lt0) (trodAll_cons_mk (Below.trod laidOut (by kernel_rfl) (of_decide_eq_true (by kernel_rfl)) k1 bel lt1) (trodAll_cons_mk (shut_int Try.underlying35 w2) (trodAll_cons_mk (shut_int Try.underlying35 w3) trodAll_mk0)))), rfl, bel.frame _, fun h => by cases h⟩
set_option maxRecDepth 100000 in
theorem lifted (os : Os) (started : os.Started) (H : Type) (enc : TypeId × Value → H) :
    ReturnsInHanded {} Try.checked os 4 .any (Rows.storeWritesSpec.pre6 enc Try.prog Try.f4 Rows.storeWritesRow.domain false) (Rows.storeWritesSpec.post enc Try.prog Try.f4 false true false false) := by
  refine returnsInHanded_of_change (C := Try.checked) own started (by kernel_rfl) Try.func4
    (ChangeSpec.witness6 (enc := enc) (C := Try.checked) false ⟨#[], #[.slice none 0 0, .slice none 0 0, .int .u32 0, .int .u32 0], []⟩ 8 (by kernel_rfl) (by kernel_rfl) (by kernel_rfl) (by kernel_rfl)) ?_
  intro W base args ds gs before hval hW hcnd _
  exact contract H enc W base args ds gs before hval hW
theorem said : Rows.StoreWritesSaid :=
  OpenClaim.holds_of_wide 4 Try.f4 rfl rfl rfl rfl rfl rfl rfl ⟨rfl, rfl, rfl, rfl, rfl⟩ rfl rfl rfl rfl rfl (by kernel_rfl) Try.func4 (by kernel_rfl)
    (of_decide_eq_true (by kernel_rfl)) (by unfold Func.isWrapper; first | (rw [if_pos (by decide +kernel)]; kernel_rfl) | (rw [if_neg (by decide +kernel)]; exact ⟨rfl, rfl⟩))
    (fun os started H enc _ => lifted os started H enc)
theorem proved : Rows.StoreWritesSaid := said
end Go.Proofs.Ytbpelchampegaaa.storeWrites

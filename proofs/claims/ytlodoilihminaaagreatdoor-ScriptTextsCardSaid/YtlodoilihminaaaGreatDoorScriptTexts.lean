/-
  For any two scripts: their texts, or what they are refused by, are the document's; which two are the same; whatever the world holds.
-/
import Derived.Test.YtlodoilihminaaaGreatDoorScrZK
import Derived.Test.YtlodoilihminaaaGreatDoorScrZJ
import Derived.Test.YtlodoilihminaaaGreatDoorCards
import Derived.Test.YtlodoilihminaaaGreatDoorTie
import Derived.Deep.DeepHandedRow
import Derived.Lib.LaidTab
import Derived.SevenTiedAt
import Derived.Stop.Joined
namespace Go.Proofs.YtlodoilihminaaaGreatDoor.scriptTexts
open Go.ChangeShapes Go.WideShapes Go.ChangeAt Go.RowKit
open Go.ChangeMaps (open_string shut_string)
set_option linter.unusedVariables false
set_option linter.unusedSimpArgs false
set_option maxHeartbeats 4000000 in
set_option maxRecDepth 100000 in
theorem walk (c : Int) (l : List Ac) (A : Option Addr) (n cc : Nat) (c' : Int) (l' : List Ac) (A' : Option Addr) (n' cc' : Nat) (w : World) (ws : ScAt w c l A n cc) (_ : True) (ws' : ScAt w c' l' A' n' cc') (_ : True) (hT : Tb w) :
    Calls Tryz.prog 4 #[.agg (scC c A n cc), .agg (scC c' A' n' cc')] w fun e w' => e = .returned (.bool true) ∧ Below w.heap.size w w' := by
  have HT := Lib.hid hT
  have HS := Lib.hid ws
  have HS' := Lib.hid ws'
  clear hT ws ws'
  unfold scC
  go_enter Tryz.func4, Tryz.ntmps4
  go_upto_region 1 with fail
  have hq1 := heap_alloc_new w (.cells #[.int .i64 c, .slice A n cc] 38)
  have hs1 : (w.alloc (.cells #[.int .i64 c, .slice A n cc] 38)).heap.size = w.heap.size + 1 := by simp
  have hb1 := sbelow1 w (.cells #[.int .i64 c, .slice A n cc] 38)
  generalize w.alloc (.cells #[.int .i64 c, .slice A n cc] 38) = W1 at hq1 hs1 hb1 ⊢
  have hq2 := heap_alloc_new W1 (.cells #[.int .i64 c', .slice A' n' cc'] 38)
  have hb2 := hb1.trans ((sbelow1 W1 (.cells #[.int .i64 c', .slice A' n' cc'] 38)).mono hb1.size)
  have hq3 := (Below.heap_alloc W1 (.cells #[.int .i64 c', .slice A' n' cc'] 38) _ (Array.getElem?_eq_some_iff.1 hq1).1).trans hq1
  generalize W1.alloc (.cells #[.int .i64 c', .slice A' n' cc'] 38) = W2 at hq2 hb2 hq3 ⊢
  rw [hs1] at hq2
  have HQ : Hid (∀ V : World, Below W2.heap.size W2 V → V.cell? ⟨w.heap.size, 0, none⟩ = some (.int .i64 c) ∧ V.cell? ⟨w.heap.size, 1, none⟩ = some (.slice A n cc) ∧ V.cell? ⟨w.heap.size + 1, 0, none⟩ = some (.int .i64 c') ∧ V.cell? ⟨w.heap.size + 1, 1, none⟩ = some (.slice A' n' cc')) := Lib.hid fun V hV => by
    have h1 := (hV.block _ (Array.getElem?_eq_some_iff.1 hq3).1).trans hq3
    have h2 := (hV.block _ (Array.getElem?_eq_some_iff.1 hq2).1).trans hq2
    refine ⟨?_, ?_, ?_, ?_⟩ <;> (rw [World.cell?]; first | (rw [h1]; rfl) | (rw [h2]; rfl))
  have HW : Hid (∀ V : World, Below W2.heap.size W2 V → Below w.heap.size w V) := Lib.hid fun V hV => hb2.trans (hV.mono hb2.size)
  have HR := Lib.hid (Below.refl W2.heap.size W2)
  have HK : Hid (∀ V : World, Below W2.heap.size W2 V → Calls Tryz.prog 7 #[] V fun e v => e = .returned (.bool true) ∧ Below W2.heap.size W2 v) := Lib.hid fun V hV =>
    (known_any V (HT.out.below (HW.out V hV))).mono fun e v ⟨h1, h2⟩ => ⟨h1, hV.trans (h2.mono hV.size)⟩
  have HM1 : Hid (∀ V : World, Below W2.heap.size W2 V → Calls Tryz.prog 12 #[.agg #[.int .i64 c, .slice A n cc]] V fun e v => e = .returned (.bool (muchB l)) ∧ Below W2.heap.size W2 v) := Lib.hid fun V hV =>
    (much_any V c l A n cc (HS.out.below (HW.out V hV))).mono fun e v ⟨h1, h2⟩ => ⟨h1, hV.trans (h2.mono hV.size)⟩
  have HM2 : Hid (∀ V : World, Below W2.heap.size W2 V → Calls Tryz.prog 12 #[.agg #[.int .i64 c', .slice A' n' cc']] V fun e v => e = .returned (.bool (muchB l')) ∧ Below W2.heap.size W2 v) := Lib.hid fun V hV =>
    (much_any V c' l' A' n' cc' (HS'.out.below (HW.out V hV))).mono fun e v ⟨h1, h2⟩ => ⟨h1, hV.trans (h2.mono hV.size)⟩
  obtain ⟨k0, k1, j0, j1⟩ := HQ.out W2 (Below.refl _ _)
  clear hq1 hs1 hb1 hq2 hb2 hq3
  cases hmu : muchB l with
  | true =>
    rw [hmu] at HM1
    clear hmu
    go_wp2_with (first
      | (go_at_call 12; (with_reducible refine (HM1.out _ HR.out).mono ?_); rintro e w3 ⟨rfl, hb⟩; have HB3 := Lib.hid hb; clear hb)
      | (go_at_call 7; (with_reducible refine (HK.out _ HB3.out).mono ?_); rintro e w4 ⟨rfl, hb⟩; have HB4 := Lib.hid hb; clear hb))
    go_ret
    exact ⟨rfl, HW.out _ HB4.out⟩
  | false =>
  rw [hmu] at HM1
  have HMU := Lib.hid hmu
  clear hmu
  cases hmu2 : muchB l' with
  | true =>
    rw [hmu2] at HM2
    clear hmu2
    go_wp2_with (first
      | (go_at_call 12; (with_reducible refine (HM1.out _ HR.out).mono ?_); rintro e w3 ⟨rfl, hb⟩; have HB3 := Lib.hid hb; obtain ⟨k0, k1, j0, j1⟩ := HQ.out _ hb; clear hb)
      | (go_at_call 12; (with_reducible refine (HM2.out _ HB3.out).mono ?_); rintro e w4 ⟨rfl, hb⟩; have HB4 := Lib.hid hb; clear hb)
      | (go_at_call 7; (with_reducible refine (HK.out _ HB4.out).mono ?_); rintro e w5 ⟨rfl, hb⟩; have HB5 := Lib.hid hb; clear hb))
    go_ret
    exact ⟨rfl, HW.out _ HB5.out⟩
  | false =>
  rw [hmu2] at HM2
  clear hmu2
  go_upto_region 3 with (first
      | (go_at_call 12; (with_reducible refine (HM1.out _ HR.out).mono ?_); rintro e w3 ⟨rfl, hb⟩; have HB3 := Lib.hid hb; obtain ⟨k0, k1, j0, j1⟩ := HQ.out _ hb; clear hb)
      | (go_at_call 12; (with_reducible refine (HM2.out _ HB3.out).mono ?_); rintro e w4 ⟨rfl, hb⟩; have HB4 := Lib.hid hb; clear hb))
  clear k0 k1 j0 j1
  obtain ⟨E, hE⟩ : ∃ E, E = scE c l := ⟨_, rfl⟩
  obtain ⟨tx, htx⟩ : ∃ tx, tx = S (scR c l) := ⟨_, rfl⟩
  have HTX : Hid (∀ V : World, Below W2.heap.size W2 V → Calls Tryz.prog 13 #[.agg #[.int .i64 c, .slice A n cc]] V fun e v => e = .returned (.tuple #[.string tx, .int .i64 E]) ∧ Below W2.heap.size W2 v) := Lib.hid fun V hV => by
    rw [hE, htx]
    exact (stext_any V c l A n cc (HS.out.below (HW.out V hV)) (HT.out.below (HW.out V hV))).mono fun e v ⟨h1, h2⟩ => ⟨h1, hV.trans (h2.mono hV.size)⟩
  have HTY : Hid (∀ V : World, Below W2.heap.size W2 V → Calls Tryz.prog 14 #[.agg #[.int .i64 c, .slice A n cc]] V fun e v => e = .returned (.tuple #[.string tx, .int .i64 E]) ∧ Below W2.heap.size W2 v) := Lib.hid fun V hV => by
    rw [hE, htx]
    exact (rtext_any V c l A n cc (HS.out.below (HW.out V hV)) HMU.out (HT.out.below (HW.out V hV))).mono fun e v ⟨h1, h2⟩ => ⟨h1, hV.trans (h2.mono hV.size)⟩
  clear hE htx
  obtain ⟨sb, hsb⟩ : ∃ sb, sb = sameSB c l c' l' := ⟨_, rfl⟩
  have HS1 : Hid (∀ V : World, Below W2.heap.size W2 V → Calls Tryz.prog 15 #[.agg #[.int .i64 c, .slice A n cc], .agg #[.int .i64 c', .slice A' n' cc']] V fun e v => e = .returned (.bool sb) ∧ Below W2.heap.size W2 v) := Lib.hid fun V hV => by
    rw [hsb]
    exact (ssame_any V c l A n cc (HS.out.below (HW.out V hV)) c' l' A' n' cc' (HS'.out.below (HW.out V hV))).mono fun e v ⟨h1, h2⟩ => ⟨h1, hV.trans (h2.mono hV.size)⟩
  have HS2 : Hid (∀ V : World, Below W2.heap.size W2 V → Calls Tryz.prog 16 #[.agg #[.int .i64 c, .slice A n cc], .agg #[.int .i64 c', .slice A' n' cc']] V fun e v => e = .returned (.bool sb) ∧ Below W2.heap.size W2 v) := Lib.hid fun V hV => by
    rw [hsb]
    exact (rsc_any V c l A n cc (HS.out.below (HW.out V hV)) c' l' A' n' cc' (HS'.out.below (HW.out V hV))).mono fun e v ⟨h1, h2⟩ => ⟨h1, hV.trans (h2.mono hV.size)⟩
  have HS3 : Hid (∀ V : World, Below W2.heap.size W2 V → Calls Tryz.prog 15 #[.agg #[.int .i64 c, .slice A n cc], .agg #[.int .i64 c, .slice A n cc]] V fun e v => e = .returned (.bool true) ∧ Below W2.heap.size W2 v) := Lib.hid fun V hV =>
    (ssame_any V c l A n cc (HS.out.below (HW.out V hV)) c l A n cc (HS.out.below (HW.out V hV))).mono fun e v ⟨h1, h2⟩ => ⟨by rw [h1]; exact ret_bool ((sameSB_iff _ _ _ _).2 ⟨rfl, rfl⟩), hV.trans (h2.mono hV.size)⟩
  clear hsb
  obtain ⟨k0, k1, j0, j1⟩ := HQ.out _ HB4.out
  go_upto_region 5 with (first
    | (go_at_call 13; (with_reducible refine (HTX.out _ HB4.out).mono ?_); rintro e w5 ⟨rfl, hb⟩; have HB5 := Lib.hid hb; obtain ⟨k0, k1, j0, j1⟩ := HQ.out _ hb; clear hb)
    | (go_at_call 14; (with_reducible refine (HTY.out _ HB5.out).mono ?_); rintro e w6 ⟨rfl, hb⟩; have HB6 := Lib.hid hb; clear hb))
  clear k0 k1 j0 j1
  refine wp_region_inv' 27 rfl (fun L a' w' => ∃ y0 y1 y2 y3 y4 y5 y6 y7 y8 y9 y10 y11 y12 y13 y14 y15 y16 y17 y18 y19 y20 y21 y22 y23 y24 y25 y26 : Value, a' = { tmps := List.toArray ((.agg #[.int .i64 c, .slice A n cc]) :: (.agg #[.int .i64 c', .slice A' n' cc']) :: (.pointer (some ⟨w.heap.size, 0, none⟩)) :: (.pointer (some ⟨w.heap.size + 1, 0, none⟩)) :: y26 :: (.string tx) :: (.int .i64 E) :: (.string tx) :: (.int .i64 E) :: (.agg #[.int .i64 c, .slice A n cc]) :: (.bool false) :: (.bool false) :: (.agg #[.int .i64 c', .slice A' n' cc']) :: (.bool false) :: (.bool false) :: undef :: (.tuple #[.string tx, .int .i64 E]) :: (.agg #[.int .i64 c, .slice A n cc]) :: (.tuple #[.string tx, .int .i64 E]) :: (.string tx) :: (.int .i64 E) :: (.tuple #[.string tx, .int .i64 E]) :: (.agg #[.int .i64 c, .slice A n cc]) :: (.tuple #[.string tx, .int .i64 E]) :: (.string tx) :: (.int .i64 E) :: y0 :: y1 :: y2 :: y3 :: y4 :: y5 :: y6 :: y7 :: y8 :: y9 :: y10 :: y11 :: y12 :: y13 :: y14 :: y15 :: y16 :: y17 :: y18 :: y19 :: y20 :: y21 :: y22 :: y23 :: y24 :: y25 :: []), defers := [] } ∧ (L 0 = true → y0 = .string tx) ∧ (L 1 = true → y1 = .string tx) ∧ (L 2 = true → y2 = .bool true) ∧ (L 3 = true → y3 = .bool true) ∧ (L 4 = true → y4 = .int .i64 E) ∧ (L 5 = true → y5 = .int .i64 E) ∧ (L 6 = true → y6 = .int .i64 E) ∧ (L 7 = true → y7 = .bool true) ∧ (L 8 = true → y8 = .bool true) ∧ (L 9 = true → y9 = .bool true) ∧ (L 10 = true → y10 = .agg #[.int .i64 c, .slice A n cc]) ∧ (L 11 = true → y11 = .agg #[.int .i64 c', .slice A' n' cc']) ∧ (L 12 = true → y12 = .bool sb) ∧ (L 13 = true → y13 = .agg #[.int .i64 c, .slice A n cc]) ∧ (L 14 = true → y14 = .agg #[.int .i64 c', .slice A' n' cc']) ∧ (L 15 = true → y15 = .bool sb) ∧ (L 16 = true → y16 = .bool true) ∧ (L 17 = true → y17 = .bool true) ∧ (L 18 = true → y18 = .bool true) ∧ (L 19 = true → y19 = .agg #[.int .i64 c, .slice A n cc]) ∧ (L 20 = true → y20 = .agg #[.int .i64 c, .slice A n cc]) ∧ (L 21 = true → y21 = .bool true) ∧ (L 22 = true → y22 = .bool true) ∧ (L 23 = true → y23 = .bool true) ∧ (L 24 = true → y24 = .bool true) ∧ (L 25 = true → y25 = .bool true) ∧ (L 26 = true → y26 = .bool true) ∧ (Below W2.heap.size W2 w')) (by kernel_rfl) (by kernel_rfl) ?h0 ?step ?fin
  case h0 => exact ⟨undef, undef, undef, undef, undef, undef, undef, undef, undef, undef, undef, undef, undef, undef, undef, undef, undef, undef, undef, undef, undef, undef, undef, undef, undef, undef, .bool false, rfl, (fun e => by simp at e), (fun e => by simp at e), (fun e => by simp at e), (fun e => by simp at e), (fun e => by simp at e), (fun e => by simp at e), (fun e => by simp at e), (fun e => by simp at e), (fun e => by simp at e), (fun e => by simp at e), (fun e => by simp at e), (fun e => by simp at e), (fun e => by simp at e), (fun e => by simp at e), (fun e => by simp at e), (fun e => by simp at e), (fun e => by simp at e), (fun e => by simp at e), (fun e => by simp at e), (fun e => by simp at e), (fun e => by simp at e), (fun e => by simp at e), (fun e => by simp at e), (fun e => by simp at e), (fun e => by simp at e), (fun e => by simp at e), (fun e => by simp at e), HB6.out.trans ((Below.refl _ _).drew.mono HB6.out.size)⟩
  case step =>
    rintro i hi L a' w' hLi hcl hdp ⟨y0, y1, y2, y3, y4, y5, y6, y7, y8, y9, y10, y11, y12, y13, y14, y15, y16, y17, y18, y19, y20, y21, y22, y23, y24, y25, y26, rfl, e0, e1, e2, e3, e4, e5, e6, e7, e8, e9, e10, e11, e12, e13, e14, e15, e16, e17, e18, e19, e20, e21, e22, e23, e24, e25, e26, hw0⟩
    have hi2 : i = 0 ∨ i = 1 ∨ i = 2 ∨ i = 3 ∨ i = 4 ∨ i = 5 ∨ i = 6 ∨ i = 7 ∨ i = 8 ∨ i = 9 ∨ i = 10 ∨ i = 11 ∨ i = 12 ∨ i = 13 ∨ i = 14 ∨ i = 15 ∨ i = 16 ∨ i = 17 ∨ i = 18 ∨ i = 19 ∨ i = 20 ∨ i = 21 ∨ i = 22 ∨ i = 23 ∨ i = 24 ∨ i = 25 ∨ i = 26 := by omega
    rcases hi2 with rfl | rfl | rfl | rfl | rfl | rfl | rfl | rfl | rfl | rfl | rfl | rfl | rfl | rfl | rfl | rfl | rfl | rfl | rfl | rfl | rfl | rfl | rfl | rfl | rfl | rfl | rfl
    · have HF0 := Lib.hid hw0
      have E1 := Lib.hid e1; have E2 := Lib.hid e2; have E3 := Lib.hid e3; have E4 := Lib.hid e4; have E5 := Lib.hid e5; have E6 := Lib.hid e6; have E7 := Lib.hid e7; have E8 := Lib.hid e8; have E9 := Lib.hid e9; have E10 := Lib.hid e10; have E11 := Lib.hid e11; have E12 := Lib.hid e12; have E13 := Lib.hid e13; have E14 := Lib.hid e14; have E15 := Lib.hid e15; have E16 := Lib.hid e16; have E17 := Lib.hid e17; have E18 := Lib.hid e18; have E19 := Lib.hid e19; have E20 := Lib.hid e20; have E21 := Lib.hid e21; have E22 := Lib.hid e22; have E23 := Lib.hid e23; have E24 := Lib.hid e24; have E25 := Lib.hid e25; have E26 := Lib.hid e26
      clear e0 e1 e2 e3 e4 e5 e6 e7 e8 e9 e10 e11 e12 e13 e14 e15 e16 e17 e18 e19 e20 e21 e22 e23 e24 e25 e26 hw0
      refine wpOp_step rfl (fun K hK => ?_)
      go_simp
      exact hK _ _ ⟨_, _, _, _, _, _, _, _, _, _, _, _, _, _, _, _, _, _, _, _, _, _, _, _, _, _, _, rfl, (fun _ => rfl), (fun h => E1.out (by simpa [upOn] using h)), (fun h => E2.out (by simpa [upOn] using h)), (fun h => E3.out (by simpa [upOn] using h)), (fun h => E4.out (by simpa [upOn] using h)), (fun h => E5.out (by simpa [upOn] using h)), (fun h => E6.out (by simpa [upOn] using h)), (fun h => E7.out (by simpa [upOn] using h)), (fun h => E8.out (by simpa [upOn] using h)), (fun h => E9.out (by simpa [upOn] using h)), (fun h => E10.out (by simpa [upOn] using h)), (fun h => E11.out (by simpa [upOn] using h)), (fun h => E12.out (by simpa [upOn] using h)), (fun h => E13.out (by simpa [upOn] using h)), (fun h => E14.out (by simpa [upOn] using h)), (fun h => E15.out (by simpa [upOn] using h)), (fun h => E16.out (by simpa [upOn] using h)), (fun h => E17.out (by simpa [upOn] using h)), (fun h => E18.out (by simpa [upOn] using h)), (fun h => E19.out (by simpa [upOn] using h)), (fun h => E20.out (by simpa [upOn] using h)), (fun h => E21.out (by simpa [upOn] using h)), (fun h => E22.out (by simpa [upOn] using h)), (fun h => E23.out (by simpa [upOn] using h)), (fun h => E24.out (by simpa [upOn] using h)), (fun h => E25.out (by simpa [upOn] using h)), (fun h => E26.out (by simpa [upOn] using h)), HF0.out⟩
    · have HF0 := Lib.hid hw0
      have E0 := Lib.hid e0; have E2 := Lib.hid e2; have E3 := Lib.hid e3; have E4 := Lib.hid e4; have E5 := Lib.hid e5; have E6 := Lib.hid e6; have E7 := Lib.hid e7; have E8 := Lib.hid e8; have E9 := Lib.hid e9; have E10 := Lib.hid e10; have E11 := Lib.hid e11; have E12 := Lib.hid e12; have E13 := Lib.hid e13; have E14 := Lib.hid e14; have E15 := Lib.hid e15; have E16 := Lib.hid e16; have E17 := Lib.hid e17; have E18 := Lib.hid e18; have E19 := Lib.hid e19; have E20 := Lib.hid e20; have E21 := Lib.hid e21; have E22 := Lib.hid e22; have E23 := Lib.hid e23; have E24 := Lib.hid e24; have E25 := Lib.hid e25; have E26 := Lib.hid e26
      clear e0 e1 e2 e3 e4 e5 e6 e7 e8 e9 e10 e11 e12 e13 e14 e15 e16 e17 e18 e19 e20 e21 e22 e23 e24 e25 e26 hw0
      refine wpOp_step rfl (fun K hK => ?_)
      go_simp
      exact hK _ _ ⟨_, _, _, _, _, _, _, _, _, _, _, _, _, _, _, _, _, _, _, _, _, _, _, _, _, _, _, rfl, (fun h => E0.out (by simpa [upOn] using h)), (fun _ => rfl), (fun h => E2.out (by simpa [upOn] using h)), (fun h => E3.out (by simpa [upOn] using h)), (fun h => E4.out (by simpa [upOn] using h)), (fun h => E5.out (by simpa [upOn] using h)), (fun h => E6.out (by simpa [upOn] using h)), (fun h => E7.out (by simpa [upOn] using h)), (fun h => E8.out (by simpa [upOn] using h)), (fun h => E9.out (by simpa [upOn] using h)), (fun h => E10.out (by simpa [upOn] using h)), (fun h => E11.out (by simpa [upOn] using h)), (fun h => E12.out (by simpa [upOn] using h)), (fun h => E13.out (by simpa [upOn] using h)), (fun h => E14.out (by simpa [upOn] using h)), (fun h => E15.out (by simpa [upOn] using h)), (fun h => E16.out (by simpa [upOn] using h)), (fun h => E17.out (by simpa [upOn] using h)), (fun h => E18.out (by simpa [upOn] using h)), (fun h => E19.out (by simpa [upOn] using h)), (fun h => E20.out (by simpa [upOn] using h)), (fun h => E21.out (by simpa [upOn] using h)), (fun h => E22.out (by simpa [upOn] using h)), (fun h => E23.out (by simpa [upOn] using h)), (fun h => E24.out (by simpa [upOn] using h)), (fun h => E25.out (by simpa [upOn] using h)), (fun h => E26.out (by simpa [upOn] using h)), HF0.out⟩
    · have HF0 := Lib.hid hw0
      have l0 := (hdp 0 (by kernel_rfl))
      have l1 := (hdp 1 (by kernel_rfl))
      obtain rfl := e0 l0
      obtain rfl := e1 l1
      have E3 := Lib.hid e3; have E4 := Lib.hid e4; have E5 := Lib.hid e5; have E6 := Lib.hid e6; have E7 := Lib.hid e7; have E8 := Lib.hid e8; have E9 := Lib.hid e9; have E10 := Lib.hid e10; have E11 := Lib.hid e11; have E12 := Lib.hid e12; have E13 := Lib.hid e13; have E14 := Lib.hid e14; have E15 := Lib.hid e15; have E16 := Lib.hid e16; have E17 := Lib.hid e17; have E18 := Lib.hid e18; have E19 := Lib.hid e19; have E20 := Lib.hid e20; have E21 := Lib.hid e21; have E22 := Lib.hid e22; have E23 := Lib.hid e23; have E24 := Lib.hid e24; have E25 := Lib.hid e25; have E26 := Lib.hid e26
      clear e0 e1 e2 e3 e4 e5 e6 e7 e8 e9 e10 e11 e12 e13 e14 e15 e16 e17 e18 e19 e20 e21 e22 e23 e24 e25 e26 hw0
      refine wpOp_step rfl (fun K hK => ?_)
      go_simp
      exact hK _ _ ⟨_, _, _, _, _, _, _, _, _, _, _, _, _, _, _, _, _, _, _, _, _, _, _, _, _, _, _, rfl, (fun _ => rfl), (fun _ => rfl), (fun _ => rfl), (fun h => E3.out (by simpa [upOn] using h)), (fun h => E4.out (by simpa [upOn] using h)), (fun h => E5.out (by simpa [upOn] using h)), (fun h => E6.out (by simpa [upOn] using h)), (fun h => E7.out (by simpa [upOn] using h)), (fun h => E8.out (by simpa [upOn] using h)), (fun h => E9.out (by simpa [upOn] using h)), (fun h => E10.out (by simpa [upOn] using h)), (fun h => E11.out (by simpa [upOn] using h)), (fun h => E12.out (by simpa [upOn] using h)), (fun h => E13.out (by simpa [upOn] using h)), (fun h => E14.out (by simpa [upOn] using h)), (fun h => E15.out (by simpa [upOn] using h)), (fun h => E16.out (by simpa [upOn] using h)), (fun h => E17.out (by simpa [upOn] using h)), (fun h => E18.out (by simpa [upOn] using h)), (fun h => E19.out (by simpa [upOn] using h)), (fun h => E20.out (by simpa [upOn] using h)), (fun h => E21.out (by simpa [upOn] using h)), (fun h => E22.out (by simpa [upOn] using h)), (fun h => E23.out (by simpa [upOn] using h)), (fun h => E24.out (by simpa [upOn] using h)), (fun h => E25.out (by simpa [upOn] using h)), (fun h => E26.out (by simpa [upOn] using h)), HF0.out⟩
    · have HF0 := Lib.hid hw0
      have l2 := (hdp 2 (by kernel_rfl))
      obtain rfl := e2 l2
      have E0 := Lib.hid e0; have E1 := Lib.hid e1; have E4 := Lib.hid e4; have E5 := Lib.hid e5; have E6 := Lib.hid e6; have E7 := Lib.hid e7; have E8 := Lib.hid e8; have E9 := Lib.hid e9; have E10 := Lib.hid e10; have E11 := Lib.hid e11; have E12 := Lib.hid e12; have E13 := Lib.hid e13; have E14 := Lib.hid e14; have E15 := Lib.hid e15; have E16 := Lib.hid e16; have E17 := Lib.hid e17; have E18 := Lib.hid e18; have E19 := Lib.hid e19; have E20 := Lib.hid e20; have E21 := Lib.hid e21; have E22 := Lib.hid e22; have E23 := Lib.hid e23; have E24 := Lib.hid e24; have E25 := Lib.hid e25; have E26 := Lib.hid e26
      clear e0 e1 e2 e3 e4 e5 e6 e7 e8 e9 e10 e11 e12 e13 e14 e15 e16 e17 e18 e19 e20 e21 e22 e23 e24 e25 e26 hw0
      refine wpOp_step rfl (fun K hK => ?_)
      go_simp
      exact hK _ _ ⟨_, _, _, _, _, _, _, _, _, _, _, _, _, _, _, _, _, _, _, _, _, _, _, _, _, _, _, rfl, (fun h => E0.out (by simpa [upOn] using h)), (fun h => E1.out (by simpa [upOn] using h)), (fun _ => rfl), (fun _ => rfl), (fun h => E4.out (by simpa [upOn] using h)), (fun h => E5.out (by simpa [upOn] using h)), (fun h => E6.out (by simpa [upOn] using h)), (fun h => E7.out (by simpa [upOn] using h)), (fun h => E8.out (by simpa [upOn] using h)), (fun h => E9.out (by simpa [upOn] using h)), (fun h => E10.out (by simpa [upOn] using h)), (fun h => E11.out (by simpa [upOn] using h)), (fun h => E12.out (by simpa [upOn] using h)), (fun h => E13.out (by simpa [upOn] using h)), (fun h => E14.out (by simpa [upOn] using h)), (fun h => E15.out (by simpa [upOn] using h)), (fun h => E16.out (by simpa [upOn] using h)), (fun h => E17.out (by simpa [upOn] using h)), (fun h => E18.out (by simpa [upOn] using h)), (fun h => E19.out (by simpa [upOn] using h)), (fun h => E20.out (by simpa [upOn] using h)), (fun h => E21.out (by simpa [upOn] using h)), (fun h => E22.out (by simpa [upOn] using h)), (fun h => E23.out (by simpa [upOn] using h)), (fun h => E24.out (by simpa [upOn] using h)), (fun h => E25.out (by simpa [upOn] using h)), (fun h => E26.out (by simpa [upOn] using h)), HF0.out⟩
    · have HF0 := Lib.hid hw0
      have l3 := (hdp 3 (by kernel_rfl))
      obtain rfl := e3 l3
      have E0 := Lib.hid e0; have E1 := Lib.hid e1; have E2 := Lib.hid e2; have E5 := Lib.hid e5; have E6 := Lib.hid e6; have E7 := Lib.hid e7; have E8 := Lib.hid e8; have E9 := Lib.hid e9; have E10 := Lib.hid e10; have E11 := Lib.hid e11; have E12 := Lib.hid e12; have E13 := Lib.hid e13; have E14 := Lib.hid e14; have E15 := Lib.hid e15; have E16 := Lib.hid e16; have E17 := Lib.hid e17; have E18 := Lib.hid e18; have E19 := Lib.hid e19; have E20 := Lib.hid e20; have E21 := Lib.hid e21; have E22 := Lib.hid e22; have E23 := Lib.hid e23; have E24 := Lib.hid e24; have E25 := Lib.hid e25; have E26 := Lib.hid e26
      clear e0 e1 e2 e3 e4 e5 e6 e7 e8 e9 e10 e11 e12 e13 e14 e15 e16 e17 e18 e19 e20 e21 e22 e23 e24 e25 e26 hw0
      refine wpOp_step rfl (fun K hK => ?_)
      go_simp
      exact hK _ _ ⟨_, _, _, _, _, _, _, _, _, _, _, _, _, _, _, _, _, _, _, _, _, _, _, _, _, _, _, rfl, (fun h => E0.out (by simpa [upOn] using h)), (fun h => E1.out (by simpa [upOn] using h)), (fun h => E2.out (by simpa [upOn] using h)), (fun _ => rfl), (fun _ => rfl), (fun h => E5.out (by simpa [upOn] using h)), (fun h => E6.out (by simpa [upOn] using h)), (fun h => E7.out (by simpa [upOn] using h)), (fun h => E8.out (by simpa [upOn] using h)), (fun h => E9.out (by simpa [upOn] using h)), (fun h => E10.out (by simpa [upOn] using h)), (fun h => E11.out (by simpa [upOn] using h)), (fun h => E12.out (by simpa [upOn] using h)), (fun h => E13.out (by simpa [upOn] using h)), (fun h => E14.out (by simpa [upOn] using h)), (fun h => E15.out (by simpa [upOn] using h)), (fun h => E16.out (by simpa [upOn] using h)), (fun h => E17.out (by simpa [upOn] using h)), (fun h => E18.out (by simpa [upOn] using h)), (fun h => E19.out (by simpa [upOn] using h)), (fun h => E20.out (by simpa [upOn] using h)), (fun h => E21.out (by simpa [upOn] using h)), (fun h => E22.out (by simpa [upOn] using h)), (fun h => E23.out (by simpa [upOn] using h)), (fun h => E24.out (by simpa [upOn] using h)), (fun h => E25.out (by simpa [upOn] using h)), (fun h => E26.out (by simpa [upOn] using h)), HF0.out⟩
    · have HF0 := Lib.hid hw0
      have l3 := (hdp 3 (by kernel_rfl))
      have l4 := (hdp 4 (by kernel_rfl))
      obtain rfl := e3 l3
      obtain rfl := e4 l4
      have E0 := Lib.hid e0; have E1 := Lib.hid e1; have E2 := Lib.hid e2; have E6 := Lib.hid e6; have E7 := Lib.hid e7; have E8 := Lib.hid e8; have E9 := Lib.hid e9; have E10 := Lib.hid e10; have E11 := Lib.hid e11; have E12 := Lib.hid e12; have E13 := Lib.hid e13; have E14 := Lib.hid e14; have E15 := Lib.hid e15; have E16 := Lib.hid e16; have E17 := Lib.hid e17; have E18 := Lib.hid e18; have E19 := Lib.hid e19; have E20 := Lib.hid e20; have E21 := Lib.hid e21; have E22 := Lib.hid e22; have E23 := Lib.hid e23; have E24 := Lib.hid e24; have E25 := Lib.hid e25; have E26 := Lib.hid e26
      clear e0 e1 e2 e3 e4 e5 e6 e7 e8 e9 e10 e11 e12 e13 e14 e15 e16 e17 e18 e19 e20 e21 e22 e23 e24 e25 e26 hw0
      refine wpOp_step rfl (fun K hK => ?_)
      go_simp
      refine (num_any _ _).mono ?_
      rintro e v1 ⟨rfl, rfl⟩
      exact hK _ _ ⟨_, _, _, _, _, _, _, _, _, _, _, _, _, _, _, _, _, _, _, _, _, _, _, _, _, _, _, rfl, (fun h => E0.out (by simpa [upOn] using h)), (fun h => E1.out (by simpa [upOn] using h)), (fun h => E2.out (by simpa [upOn] using h)), (fun _ => rfl), (fun _ => rfl), (fun _ => rfl), (fun h => E6.out (by simpa [upOn] using h)), (fun h => E7.out (by simpa [upOn] using h)), (fun h => E8.out (by simpa [upOn] using h)), (fun h => E9.out (by simpa [upOn] using h)), (fun h => E10.out (by simpa [upOn] using h)), (fun h => E11.out (by simpa [upOn] using h)), (fun h => E12.out (by simpa [upOn] using h)), (fun h => E13.out (by simpa [upOn] using h)), (fun h => E14.out (by simpa [upOn] using h)), (fun h => E15.out (by simpa [upOn] using h)), (fun h => E16.out (by simpa [upOn] using h)), (fun h => E17.out (by simpa [upOn] using h)), (fun h => E18.out (by simpa [upOn] using h)), (fun h => E19.out (by simpa [upOn] using h)), (fun h => E20.out (by simpa [upOn] using h)), (fun h => E21.out (by simpa [upOn] using h)), (fun h => E22.out (by simpa [upOn] using h)), (fun h => E23.out (by simpa [upOn] using h)), (fun h => E24.out (by simpa [upOn] using h)), (fun h => E25.out (by simpa [upOn] using h)), (fun h => E26.out (by simpa [upOn] using h)), HF0.out⟩
    · have HF0 := Lib.hid hw0
      have l3 := (hdp 3 (by kernel_rfl))
      obtain rfl := e3 l3
      have E0 := Lib.hid e0; have E1 := Lib.hid e1; have E2 := Lib.hid e2; have E4 := Lib.hid e4; have E5 := Lib.hid e5; have E7 := Lib.hid e7; have E8 := Lib.hid e8; have E9 := Lib.hid e9; have E10 := Lib.hid e10; have E11 := Lib.hid e11; have E12 := Lib.hid e12; have E13 := Lib.hid e13; have E14 := Lib.hid e14; have E15 := Lib.hid e15; have E16 := Lib.hid e16; have E17 := Lib.hid e17; have E18 := Lib.hid e18; have E19 := Lib.hid e19; have E20 := Lib.hid e20; have E21 := Lib.hid e21; have E22 := Lib.hid e22; have E23 := Lib.hid e23; have E24 := Lib.hid e24; have E25 := Lib.hid e25; have E26 := Lib.hid e26
      clear e0 e1 e2 e3 e4 e5 e6 e7 e8 e9 e10 e11 e12 e13 e14 e15 e16 e17 e18 e19 e20 e21 e22 e23 e24 e25 e26 hw0
      refine wpOp_step rfl (fun K hK => ?_)
      go_simp
      exact hK _ _ ⟨_, _, _, _, _, _, _, _, _, _, _, _, _, _, _, _, _, _, _, _, _, _, _, _, _, _, _, rfl, (fun h => E0.out (by simpa [upOn] using h)), (fun h => E1.out (by simpa [upOn] using h)), (fun h => E2.out (by simpa [upOn] using h)), (fun _ => rfl), (fun h => E4.out (by simpa [upOn] using h)), (fun h => E5.out (by simpa [upOn] using h)), (fun _ => rfl), (fun h => E7.out (by simpa [upOn] using h)), (fun h => E8.out (by simpa [upOn] using h)), (fun h => E9.out (by simpa [upOn] using h)), (fun h => E10.out (by simpa [upOn] using h)), (fun h => E11.out (by simpa [upOn] using h)), (fun h => E12.out (by simpa [upOn] using h)), (fun h => E13.out (by simpa [upOn] using h)), (fun h => E14.out (by simpa [upOn] using h)), (fun h => E15.out (by simpa [upOn] using h)), (fun h => E16.out (by simpa [upOn] using h)), (fun h => E17.out (by simpa [upOn] using h)), (fun h => E18.out (by simpa [upOn] using h)), (fun h => E19.out (by simpa [upOn] using h)), (fun h => E20.out (by simpa [upOn] using h)), (fun h => E21.out (by simpa [upOn] using h)), (fun h => E22.out (by simpa [upOn] using h)), (fun h => E23.out (by simpa [upOn] using h)), (fun h => E24.out (by simpa [upOn] using h)), (fun h => E25.out (by simpa [upOn] using h)), (fun h => E26.out (by simpa [upOn] using h)), HF0.out⟩
    · have HF0 := Lib.hid hw0
      have l3 := (hdp 3 (by kernel_rfl))
      have l5 := (hdp 5 (by kernel_rfl))
      have l6 := (hdp 6 (by kernel_rfl))
      obtain rfl := e3 l3
      obtain rfl := e5 l5
      obtain rfl := e6 l6
      have E0 := Lib.hid e0; have E1 := Lib.hid e1; have E2 := Lib.hid e2; have E4 := Lib.hid e4; have E8 := Lib.hid e8; have E9 := Lib.hid e9; have E10 := Lib.hid e10; have E11 := Lib.hid e11; have E12 := Lib.hid e12; have E13 := Lib.hid e13; have E14 := Lib.hid e14; have E15 := Lib.hid e15; have E16 := Lib.hid e16; have E17 := Lib.hid e17; have E18 := Lib.hid e18; have E19 := Lib.hid e19; have E20 := Lib.hid e20; have E21 := Lib.hid e21; have E22 := Lib.hid e22; have E23 := Lib.hid e23; have E24 := Lib.hid e24; have E25 := Lib.hid e25; have E26 := Lib.hid e26
      clear e0 e1 e2 e3 e4 e5 e6 e7 e8 e9 e10 e11 e12 e13 e14 e15 e16 e17 e18 e19 e20 e21 e22 e23 e24 e25 e26 hw0
      refine wpOp_step rfl (fun K hK => ?_)
      go_simp
      exact hK _ _ ⟨_, _, _, _, _, _, _, _, _, _, _, _, _, _, _, _, _, _, _, _, _, _, _, _, _, _, _, rfl, (fun h => E0.out (by simpa [upOn] using h)), (fun h => E1.out (by simpa [upOn] using h)), (fun h => E2.out (by simpa [upOn] using h)), (fun _ => rfl), (fun h => E4.out (by simpa [upOn] using h)), (fun _ => rfl), (fun _ => rfl), (fun _ => rfl), (fun h => E8.out (by simpa [upOn] using h)), (fun h => E9.out (by simpa [upOn] using h)), (fun h => E10.out (by simpa [upOn] using h)), (fun h => E11.out (by simpa [upOn] using h)), (fun h => E12.out (by simpa [upOn] using h)), (fun h => E13.out (by simpa [upOn] using h)), (fun h => E14.out (by simpa [upOn] using h)), (fun h => E15.out (by simpa [upOn] using h)), (fun h => E16.out (by simpa [upOn] using h)), (fun h => E17.out (by simpa [upOn] using h)), (fun h => E18.out (by simpa [upOn] using h)), (fun h => E19.out (by simpa [upOn] using h)), (fun h => E20.out (by simpa [upOn] using h)), (fun h => E21.out (by simpa [upOn] using h)), (fun h => E22.out (by simpa [upOn] using h)), (fun h => E23.out (by simpa [upOn] using h)), (fun h => E24.out (by simpa [upOn] using h)), (fun h => E25.out (by simpa [upOn] using h)), (fun h => E26.out (by simpa [upOn] using h)), HF0.out⟩
    · have HF0 := Lib.hid hw0
      have l3 := (hdp 3 (by kernel_rfl))
      have l7 := (hdp 7 (by kernel_rfl))
      obtain rfl := e3 l3
      obtain rfl := e7 l7
      have E0 := Lib.hid e0; have E1 := Lib.hid e1; have E2 := Lib.hid e2; have E4 := Lib.hid e4; have E5 := Lib.hid e5; have E6 := Lib.hid e6; have E9 := Lib.hid e9; have E10 := Lib.hid e10; have E11 := Lib.hid e11; have E12 := Lib.hid e12; have E13 := Lib.hid e13; have E14 := Lib.hid e14; have E15 := Lib.hid e15; have E16 := Lib.hid e16; have E17 := Lib.hid e17; have E18 := Lib.hid e18; have E19 := Lib.hid e19; have E20 := Lib.hid e20; have E21 := Lib.hid e21; have E22 := Lib.hid e22; have E23 := Lib.hid e23; have E24 := Lib.hid e24; have E25 := Lib.hid e25; have E26 := Lib.hid e26
      clear e0 e1 e2 e3 e4 e5 e6 e7 e8 e9 e10 e11 e12 e13 e14 e15 e16 e17 e18 e19 e20 e21 e22 e23 e24 e25 e26 hw0
      refine wpOp_step rfl (fun K hK => ?_)
      go_simp
      exact hK _ _ ⟨_, _, _, _, _, _, _, _, _, _, _, _, _, _, _, _, _, _, _, _, _, _, _, _, _, _, _, rfl, (fun h => E0.out (by simpa [upOn] using h)), (fun h => E1.out (by simpa [upOn] using h)), (fun h => E2.out (by simpa [upOn] using h)), (fun _ => rfl), (fun h => E4.out (by simpa [upOn] using h)), (fun h => E5.out (by simpa [upOn] using h)), (fun h => E6.out (by simpa [upOn] using h)), (fun _ => rfl), (fun _ => rfl), (fun h => E9.out (by simpa [upOn] using h)), (fun h => E10.out (by simpa [upOn] using h)), (fun h => E11.out (by simpa [upOn] using h)), (fun h => E12.out (by simpa [upOn] using h)), (fun h => E13.out (by simpa [upOn] using h)), (fun h => E14.out (by simpa [upOn] using h)), (fun h => E15.out (by simpa [upOn] using h)), (fun h => E16.out (by simpa [upOn] using h)), (fun h => E17.out (by simpa [upOn] using h)), (fun h => E18.out (by simpa [upOn] using h)), (fun h => E19.out (by simpa [upOn] using h)), (fun h => E20.out (by simpa [upOn] using h)), (fun h => E21.out (by simpa [upOn] using h)), (fun h => E22.out (by simpa [upOn] using h)), (fun h => E23.out (by simpa [upOn] using h)), (fun h => E24.out (by simpa [upOn] using h)), (fun h => E25.out (by simpa [upOn] using h)), (fun h => E26.out (by simpa [upOn] using h)), HF0.out⟩
    · have HF0 := Lib.hid hw0
      have l8 := (hdp 8 (by kernel_rfl))
      obtain rfl := e8 l8
      have E0 := Lib.hid e0; have E1 := Lib.hid e1; have E2 := Lib.hid e2; have E3 := Lib.hid e3; have E4 := Lib.hid e4; have E5 := Lib.hid e5; have E6 := Lib.hid e6; have E7 := Lib.hid e7; have E10 := Lib.hid e10; have E11 := Lib.hid e11; have E12 := Lib.hid e12; have E13 := Lib.hid e13; have E14 := Lib.hid e14; have E15 := Lib.hid e15; have E16 := Lib.hid e16; have E17 := Lib.hid e17; have E18 := Lib.hid e18; have E19 := Lib.hid e19; have E20 := Lib.hid e20; have E21 := Lib.hid e21; have E22 := Lib.hid e22; have E23 := Lib.hid e23; have E24 := Lib.hid e24; have E25 := Lib.hid e25; have E26 := Lib.hid e26
      clear e0 e1 e2 e3 e4 e5 e6 e7 e8 e9 e10 e11 e12 e13 e14 e15 e16 e17 e18 e19 e20 e21 e22 e23 e24 e25 e26 hw0
      refine wpOp_step rfl (fun K hK => ?_)
      go_simp
      exact hK _ _ ⟨_, _, _, _, _, _, _, _, _, _, _, _, _, _, _, _, _, _, _, _, _, _, _, _, _, _, _, rfl, (fun h => E0.out (by simpa [upOn] using h)), (fun h => E1.out (by simpa [upOn] using h)), (fun h => E2.out (by simpa [upOn] using h)), (fun h => E3.out (by simpa [upOn] using h)), (fun h => E4.out (by simpa [upOn] using h)), (fun h => E5.out (by simpa [upOn] using h)), (fun h => E6.out (by simpa [upOn] using h)), (fun h => E7.out (by simpa [upOn] using h)), (fun _ => rfl), (fun _ => rfl), (fun h => E10.out (by simpa [upOn] using h)), (fun h => E11.out (by simpa [upOn] using h)), (fun h => E12.out (by simpa [upOn] using h)), (fun h => E13.out (by simpa [upOn] using h)), (fun h => E14.out (by simpa [upOn] using h)), (fun h => E15.out (by simpa [upOn] using h)), (fun h => E16.out (by simpa [upOn] using h)), (fun h => E17.out (by simpa [upOn] using h)), (fun h => E18.out (by simpa [upOn] using h)), (fun h => E19.out (by simpa [upOn] using h)), (fun h => E20.out (by simpa [upOn] using h)), (fun h => E21.out (by simpa [upOn] using h)), (fun h => E22.out (by simpa [upOn] using h)), (fun h => E23.out (by simpa [upOn] using h)), (fun h => E24.out (by simpa [upOn] using h)), (fun h => E25.out (by simpa [upOn] using h)), (fun h => E26.out (by simpa [upOn] using h)), HF0.out⟩
    · have HF0 := Lib.hid hw0
      have l9 := (hdp 9 (by kernel_rfl))
      obtain rfl := e9 l9
      have E0 := Lib.hid e0; have E1 := Lib.hid e1; have E2 := Lib.hid e2; have E3 := Lib.hid e3; have E4 := Lib.hid e4; have E5 := Lib.hid e5; have E6 := Lib.hid e6; have E7 := Lib.hid e7; have E8 := Lib.hid e8; have E11 := Lib.hid e11; have E12 := Lib.hid e12; have E13 := Lib.hid e13; have E14 := Lib.hid e14; have E15 := Lib.hid e15; have E16 := Lib.hid e16; have E17 := Lib.hid e17; have E18 := Lib.hid e18; have E19 := Lib.hid e19; have E20 := Lib.hid e20; have E21 := Lib.hid e21; have E22 := Lib.hid e22; have E23 := Lib.hid e23; have E24 := Lib.hid e24; have E25 := Lib.hid e25; have E26 := Lib.hid e26
      clear e0 e1 e2 e3 e4 e5 e6 e7 e8 e9 e10 e11 e12 e13 e14 e15 e16 e17 e18 e19 e20 e21 e22 e23 e24 e25 e26 hw0
      obtain ⟨k0, k1, j0, j1⟩ := HQ.out _ HF0.out
      refine wpOp_step rfl (fun K hK => ?_)
      go_simp
      exact hK _ _ ⟨_, _, _, _, _, _, _, _, _, _, _, _, _, _, _, _, _, _, _, _, _, _, _, _, _, _, _, rfl, (fun h => E0.out (by simpa [upOn] using h)), (fun h => E1.out (by simpa [upOn] using h)), (fun h => E2.out (by simpa [upOn] using h)), (fun h => E3.out (by simpa [upOn] using h)), (fun h => E4.out (by simpa [upOn] using h)), (fun h => E5.out (by simpa [upOn] using h)), (fun h => E6.out (by simpa [upOn] using h)), (fun h => E7.out (by simpa [upOn] using h)), (fun h => E8.out (by simpa [upOn] using h)), (fun _ => rfl), (fun _ => rfl), (fun h => E11.out (by simpa [upOn] using h)), (fun h => E12.out (by simpa [upOn] using h)), (fun h => E13.out (by simpa [upOn] using h)), (fun h => E14.out (by simpa [upOn] using h)), (fun h => E15.out (by simpa [upOn] using h)), (fun h => E16.out (by simpa [upOn] using h)), (fun h => E17.out (by simpa [upOn] using h)), (fun h => E18.out (by simpa [upOn] using h)), (fun h => E19.out (by simpa [upOn] using h)), (fun h => E20.out (by simpa [upOn] using h)), (fun h => E21.out (by simpa [upOn] using h)), (fun h => E22.out (by simpa [upOn] using h)), (fun h => E23.out (by simpa [upOn] using h)), (fun h => E24.out (by simpa [upOn] using h)), (fun h => E25.out (by simpa [upOn] using h)), (fun h => E26.out (by simpa [upOn] using h)), HF0.out⟩
    · have HF0 := Lib.hid hw0
      have l9 := (hdp 9 (by kernel_rfl))
      obtain rfl := e9 l9
      have E0 := Lib.hid e0; have E1 := Lib.hid e1; have E2 := Lib.hid e2; have E3 := Lib.hid e3; have E4 := Lib.hid e4; have E5 := Lib.hid e5; have E6 := Lib.hid e6; have E7 := Lib.hid e7; have E8 := Lib.hid e8; have E10 := Lib.hid e10; have E12 := Lib.hid e12; have E13 := Lib.hid e13; have E14 := Lib.hid e14; have E15 := Lib.hid e15; have E16 := Lib.hid e16; have E17 := Lib.hid e17; have E18 := Lib.hid e18; have E19 := Lib.hid e19; have E20 := Lib.hid e20; have E21 := Lib.hid e21; have E22 := Lib.hid e22; have E23 := Lib.hid e23; have E24 := Lib.hid e24; have E25 := Lib.hid e25; have E26 := Lib.hid e26
      clear e0 e1 e2 e3 e4 e5 e6 e7 e8 e9 e10 e11 e12 e13 e14 e15 e16 e17 e18 e19 e20 e21 e22 e23 e24 e25 e26 hw0
      obtain ⟨k0, k1, j0, j1⟩ := HQ.out _ HF0.out
      refine wpOp_step rfl (fun K hK => ?_)
      go_simp
      exact hK _ _ ⟨_, _, _, _, _, _, _, _, _, _, _, _, _, _, _, _, _, _, _, _, _, _, _, _, _, _, _, rfl, (fun h => E0.out (by simpa [upOn] using h)), (fun h => E1.out (by simpa [upOn] using h)), (fun h => E2.out (by simpa [upOn] using h)), (fun h => E3.out (by simpa [upOn] using h)), (fun h => E4.out (by simpa [upOn] using h)), (fun h => E5.out (by simpa [upOn] using h)), (fun h => E6.out (by simpa [upOn] using h)), (fun h => E7.out (by simpa [upOn] using h)), (fun h => E8.out (by simpa [upOn] using h)), (fun _ => rfl), (fun h => E10.out (by simpa [upOn] using h)), (fun _ => rfl), (fun h => E12.out (by simpa [upOn] using h)), (fun h => E13.out (by simpa [upOn] using h)), (fun h => E14.out (by simpa [upOn] using h)), (fun h => E15.out (by simpa [upOn] using h)), (fun h => E16.out (by simpa [upOn] using h)), (fun h => E17.out (by simpa [upOn] using h)), (fun h => E18.out (by simpa [upOn] using h)), (fun h => E19.out (by simpa [upOn] using h)), (fun h => E20.out (by simpa [upOn] using h)), (fun h => E21.out (by simpa [upOn] using h)), (fun h => E22.out (by simpa [upOn] using h)), (fun h => E23.out (by simpa [upOn] using h)), (fun h => E24.out (by simpa [upOn] using h)), (fun h => E25.out (by simpa [upOn] using h)), (fun h => E26.out (by simpa [upOn] using h)), HF0.out⟩
    · have HF0 := Lib.hid hw0
      have l9 := (hdp 9 (by kernel_rfl))
      have l10 := (hdp 10 (by kernel_rfl))
      have l11 := (hdp 11 (by kernel_rfl))
      obtain rfl := e9 l9
      obtain rfl := e10 l10
      obtain rfl := e11 l11
      have E0 := Lib.hid e0; have E1 := Lib.hid e1; have E2 := Lib.hid e2; have E3 := Lib.hid e3; have E4 := Lib.hid e4; have E5 := Lib.hid e5; have E6 := Lib.hid e6; have E7 := Lib.hid e7; have E8 := Lib.hid e8; have E13 := Lib.hid e13; have E14 := Lib.hid e14; have E15 := Lib.hid e15; have E16 := Lib.hid e16; have E17 := Lib.hid e17; have E18 := Lib.hid e18; have E19 := Lib.hid e19; have E20 := Lib.hid e20; have E21 := Lib.hid e21; have E22 := Lib.hid e22; have E23 := Lib.hid e23; have E24 := Lib.hid e24; have E25 := Lib.hid e25; have E26 := Lib.hid e26
      clear e0 e1 e2 e3 e4 e5 e6 e7 e8 e9 e10 e11 e12 e13 e14 e15 e16 e17 e18 e19 e20 e21 e22 e23 e24 e25 e26 hw0
      refine wpOp_step rfl (fun K hK => ?_)
      go_simp
      refine (HS1.out _ HF0.out).mono ?_
      rintro e v1 ⟨rfl, hb⟩
      exact hK _ _ ⟨_, _, _, _, _, _, _, _, _, _, _, _, _, _, _, _, _, _, _, _, _, _, _, _, _, _, _, rfl, (fun h => E0.out (by simpa [upOn] using h)), (fun h => E1.out (by simpa [upOn] using h)), (fun h => E2.out (by simpa [upOn] using h)), (fun h => E3.out (by simpa [upOn] using h)), (fun h => E4.out (by simpa [upOn] using h)), (fun h => E5.out (by simpa [upOn] using h)), (fun h => E6.out (by simpa [upOn] using h)), (fun h => E7.out (by simpa [upOn] using h)), (fun h => E8.out (by simpa [upOn] using h)), (fun _ => rfl), (fun _ => rfl), (fun _ => rfl), (fun _ => rfl), (fun h => E13.out (by simpa [upOn] using h)), (fun h => E14.out (by simpa [upOn] using h)), (fun h => E15.out (by simpa [upOn] using h)), (fun h => E16.out (by simpa [upOn] using h)), (fun h => E17.out (by simpa [upOn] using h)), (fun h => E18.out (by simpa [upOn] using h)), (fun h => E19.out (by simpa [upOn] using h)), (fun h => E20.out (by simpa [upOn] using h)), (fun h => E21.out (by simpa [upOn] using h)), (fun h => E22.out (by simpa [upOn] using h)), (fun h => E23.out (by simpa [upOn] using h)), (fun h => E24.out (by simpa [upOn] using h)), (fun h => E25.out (by simpa [upOn] using h)), (fun h => E26.out (by simpa [upOn] using h)), hb⟩
    · have HF0 := Lib.hid hw0
      have l9 := (hdp 9 (by kernel_rfl))
      obtain rfl := e9 l9
      have E0 := Lib.hid e0; have E1 := Lib.hid e1; have E2 := Lib.hid e2; have E3 := Lib.hid e3; have E4 := Lib.hid e4; have E5 := Lib.hid e5; have E6 := Lib.hid e6; have E7 := Lib.hid e7; have E8 := Lib.hid e8; have E10 := Lib.hid e10; have E11 := Lib.hid e11; have E12 := Lib.hid e12; have E14 := Lib.hid e14; have E15 := Lib.hid e15; have E16 := Lib.hid e16; have E17 := Lib.hid e17; have E18 := Lib.hid e18; have E19 := Lib.hid e19; have E20 := Lib.hid e20; have E21 := Lib.hid e21; have E22 := Lib.hid e22; have E23 := Lib.hid e23; have E24 := Lib.hid e24; have E25 := Lib.hid e25; have E26 := Lib.hid e26
      clear e0 e1 e2 e3 e4 e5 e6 e7 e8 e9 e10 e11 e12 e13 e14 e15 e16 e17 e18 e19 e20 e21 e22 e23 e24 e25 e26 hw0
      obtain ⟨k0, k1, j0, j1⟩ := HQ.out _ HF0.out
      refine wpOp_step rfl (fun K hK => ?_)
      go_simp
      exact hK _ _ ⟨_, _, _, _, _, _, _, _, _, _, _, _, _, _, _, _, _, _, _, _, _, _, _, _, _, _, _, rfl, (fun h => E0.out (by simpa [upOn] using h)), (fun h => E1.out (by simpa [upOn] using h)), (fun h => E2.out (by simpa [upOn] using h)), (fun h => E3.out (by simpa [upOn] using h)), (fun h => E4.out (by simpa [upOn] using h)), (fun h => E5.out (by simpa [upOn] using h)), (fun h => E6.out (by simpa [upOn] using h)), (fun h => E7.out (by simpa [upOn] using h)), (fun h => E8.out (by simpa [upOn] using h)), (fun _ => rfl), (fun h => E10.out (by simpa [upOn] using h)), (fun h => E11.out (by simpa [upOn] using h)), (fun h => E12.out (by simpa [upOn] using h)), (fun _ => rfl), (fun h => E14.out (by simpa [upOn] using h)), (fun h => E15.out (by simpa [upOn] using h)), (fun h => E16.out (by simpa [upOn] using h)), (fun h => E17.out (by simpa [upOn] using h)), (fun h => E18.out (by simpa [upOn] using h)), (fun h => E19.out (by simpa [upOn] using h)), (fun h => E20.out (by simpa [upOn] using h)), (fun h => E21.out (by simpa [upOn] using h)), (fun h => E22.out (by simpa [upOn] using h)), (fun h => E23.out (by simpa [upOn] using h)), (fun h => E24.out (by simpa [upOn] using h)), (fun h => E25.out (by simpa [upOn] using h)), (fun h => E26.out (by simpa [upOn] using h)), HF0.out⟩
    · have HF0 := Lib.hid hw0
      have l9 := (hdp 9 (by kernel_rfl))
      obtain rfl := e9 l9
      have E0 := Lib.hid e0; have E1 := Lib.hid e1; have E2 := Lib.hid e2; have E3 := Lib.hid e3; have E4 := Lib.hid e4; have E5 := Lib.hid e5; have E6 := Lib.hid e6; have E7 := Lib.hid e7; have E8 := Lib.hid e8; have E10 := Lib.hid e10; have E11 := Lib.hid e11; have E12 := Lib.hid e12; have E13 := Lib.hid e13; have E15 := Lib.hid e15; have E16 := Lib.hid e16; have E17 := Lib.hid e17; have E18 := Lib.hid e18; have E19 := Lib.hid e19; have E20 := Lib.hid e20; have E21 := Lib.hid e21; have E22 := Lib.hid e22; have E23 := Lib.hid e23; have E24 := Lib.hid e24; have E25 := Lib.hid e25; have E26 := Lib.hid e26
      clear e0 e1 e2 e3 e4 e5 e6 e7 e8 e9 e10 e11 e12 e13 e14 e15 e16 e17 e18 e19 e20 e21 e22 e23 e24 e25 e26 hw0
      obtain ⟨k0, k1, j0, j1⟩ := HQ.out _ HF0.out
      refine wpOp_step rfl (fun K hK => ?_)
      go_simp
      exact hK _ _ ⟨_, _, _, _, _, _, _, _, _, _, _, _, _, _, _, _, _, _, _, _, _, _, _, _, _, _, _, rfl, (fun h => E0.out (by simpa [upOn] using h)), (fun h => E1.out (by simpa [upOn] using h)), (fun h => E2.out (by simpa [upOn] using h)), (fun h => E3.out (by simpa [upOn] using h)), (fun h => E4.out (by simpa [upOn] using h)), (fun h => E5.out (by simpa [upOn] using h)), (fun h => E6.out (by simpa [upOn] using h)), (fun h => E7.out (by simpa [upOn] using h)), (fun h => E8.out (by simpa [upOn] using h)), (fun _ => rfl), (fun h => E10.out (by simpa [upOn] using h)), (fun h => E11.out (by simpa [upOn] using h)), (fun h => E12.out (by simpa [upOn] using h)), (fun h => E13.out (by simpa [upOn] using h)), (fun _ => rfl), (fun h => E15.out (by simpa [upOn] using h)), (fun h => E16.out (by simpa [upOn] using h)), (fun h => E17.out (by simpa [upOn] using h)), (fun h => E18.out (by simpa [upOn] using h)), (fun h => E19.out (by simpa [upOn] using h)), (fun h => E20.out (by simpa [upOn] using h)), (fun h => E21.out (by simpa [upOn] using h)), (fun h => E22.out (by simpa [upOn] using h)), (fun h => E23.out (by simpa [upOn] using h)), (fun h => E24.out (by simpa [upOn] using h)), (fun h => E25.out (by simpa [upOn] using h)), (fun h => E26.out (by simpa [upOn] using h)), HF0.out⟩
    · have HF0 := Lib.hid hw0
      have l9 := (hdp 9 (by kernel_rfl))
      have l13 := (hdp 13 (by kernel_rfl))
      have l14 := (hdp 14 (by kernel_rfl))
      obtain rfl := e9 l9
      obtain rfl := e13 l13
      obtain rfl := e14 l14
      have E0 := Lib.hid e0; have E1 := Lib.hid e1; have E2 := Lib.hid e2; have E3 := Lib.hid e3; have E4 := Lib.hid e4; have E5 := Lib.hid e5; have E6 := Lib.hid e6; have E7 := Lib.hid e7; have E8 := Lib.hid e8; have E10 := Lib.hid e10; have E11 := Lib.hid e11; have E12 := Lib.hid e12; have E16 := Lib.hid e16; have E17 := Lib.hid e17; have E18 := Lib.hid e18; have E19 := Lib.hid e19; have E20 := Lib.hid e20; have E21 := Lib.hid e21; have E22 := Lib.hid e22; have E23 := Lib.hid e23; have E24 := Lib.hid e24; have E25 := Lib.hid e25; have E26 := Lib.hid e26
      clear e0 e1 e2 e3 e4 e5 e6 e7 e8 e9 e10 e11 e12 e13 e14 e15 e16 e17 e18 e19 e20 e21 e22 e23 e24 e25 e26 hw0
      refine wpOp_step rfl (fun K hK => ?_)
      go_simp
      refine (HS2.out _ HF0.out).mono ?_
      rintro e v1 ⟨rfl, hb⟩
      exact hK _ _ ⟨_, _, _, _, _, _, _, _, _, _, _, _, _, _, _, _, _, _, _, _, _, _, _, _, _, _, _, rfl, (fun h => E0.out (by simpa [upOn] using h)), (fun h => E1.out (by simpa [upOn] using h)), (fun h => E2.out (by simpa [upOn] using h)), (fun h => E3.out (by simpa [upOn] using h)), (fun h => E4.out (by simpa [upOn] using h)), (fun h => E5.out (by simpa [upOn] using h)), (fun h => E6.out (by simpa [upOn] using h)), (fun h => E7.out (by simpa [upOn] using h)), (fun h => E8.out (by simpa [upOn] using h)), (fun _ => rfl), (fun h => E10.out (by simpa [upOn] using h)), (fun h => E11.out (by simpa [upOn] using h)), (fun h => E12.out (by simpa [upOn] using h)), (fun _ => rfl), (fun _ => rfl), (fun _ => rfl), (fun h => E16.out (by simpa [upOn] using h)), (fun h => E17.out (by simpa [upOn] using h)), (fun h => E18.out (by simpa [upOn] using h)), (fun h => E19.out (by simpa [upOn] using h)), (fun h => E20.out (by simpa [upOn] using h)), (fun h => E21.out (by simpa [upOn] using h)), (fun h => E22.out (by simpa [upOn] using h)), (fun h => E23.out (by simpa [upOn] using h)), (fun h => E24.out (by simpa [upOn] using h)), (fun h => E25.out (by simpa [upOn] using h)), (fun h => E26.out (by simpa [upOn] using h)), hb⟩
    · have HF0 := Lib.hid hw0
      have l9 := (hdp 9 (by kernel_rfl))
      have l12 := (hdp 12 (by kernel_rfl))
      have l15 := (hdp 15 (by kernel_rfl))
      obtain rfl := e9 l9
      obtain rfl := e12 l12
      obtain rfl := e15 l15
      have E0 := Lib.hid e0; have E1 := Lib.hid e1; have E2 := Lib.hid e2; have E3 := Lib.hid e3; have E4 := Lib.hid e4; have E5 := Lib.hid e5; have E6 := Lib.hid e6; have E7 := Lib.hid e7; have E8 := Lib.hid e8; have E10 := Lib.hid e10; have E11 := Lib.hid e11; have E13 := Lib.hid e13; have E14 := Lib.hid e14; have E17 := Lib.hid e17; have E18 := Lib.hid e18; have E19 := Lib.hid e19; have E20 := Lib.hid e20; have E21 := Lib.hid e21; have E22 := Lib.hid e22; have E23 := Lib.hid e23; have E24 := Lib.hid e24; have E25 := Lib.hid e25; have E26 := Lib.hid e26
      clear e0 e1 e2 e3 e4 e5 e6 e7 e8 e9 e10 e11 e12 e13 e14 e15 e16 e17 e18 e19 e20 e21 e22 e23 e24 e25 e26 hw0
      refine wpOp_step rfl (fun K hK => ?_)
      go_simp
      exact hK _ _ ⟨_, _, _, _, _, _, _, _, _, _, _, _, _, _, _, _, _, _, _, _, _, _, _, _, _, _, _, rfl, (fun h => E0.out (by simpa [upOn] using h)), (fun h => E1.out (by simpa [upOn] using h)), (fun h => E2.out (by simpa [upOn] using h)), (fun h => E3.out (by simpa [upOn] using h)), (fun h => E4.out (by simpa [upOn] using h)), (fun h => E5.out (by simpa [upOn] using h)), (fun h => E6.out (by simpa [upOn] using h)), (fun h => E7.out (by simpa [upOn] using h)), (fun h => E8.out (by simpa [upOn] using h)), (fun _ => rfl), (fun h => E10.out (by simpa [upOn] using h)), (fun h => E11.out (by simpa [upOn] using h)), (fun _ => rfl), (fun h => E13.out (by simpa [upOn] using h)), (fun h => E14.out (by simpa [upOn] using h)), (fun _ => rfl), (fun _ => rfl), (fun h => E17.out (by simpa [upOn] using h)), (fun h => E18.out (by simpa [upOn] using h)), (fun h => E19.out (by simpa [upOn] using h)), (fun h => E20.out (by simpa [upOn] using h)), (fun h => E21.out (by simpa [upOn] using h)), (fun h => E22.out (by simpa [upOn] using h)), (fun h => E23.out (by simpa [upOn] using h)), (fun h => E24.out (by simpa [upOn] using h)), (fun h => E25.out (by simpa [upOn] using h)), (fun h => E26.out (by simpa [upOn] using h)), HF0.out⟩
    · have HF0 := Lib.hid hw0
      have l9 := (hdp 9 (by kernel_rfl))
      have l16 := (hdp 16 (by kernel_rfl))
      obtain rfl := e9 l9
      obtain rfl := e16 l16
      have E0 := Lib.hid e0; have E1 := Lib.hid e1; have E2 := Lib.hid e2; have E3 := Lib.hid e3; have E4 := Lib.hid e4; have E5 := Lib.hid e5; have E6 := Lib.hid e6; have E7 := Lib.hid e7; have E8 := Lib.hid e8; have E10 := Lib.hid e10; have E11 := Lib.hid e11; have E12 := Lib.hid e12; have E13 := Lib.hid e13; have E14 := Lib.hid e14; have E15 := Lib.hid e15; have E18 := Lib.hid e18; have E19 := Lib.hid e19; have E20 := Lib.hid e20; have E21 := Lib.hid e21; have E22 := Lib.hid e22; have E23 := Lib.hid e23; have E24 := Lib.hid e24; have E25 := Lib.hid e25; have E26 := Lib.hid e26
      clear e0 e1 e2 e3 e4 e5 e6 e7 e8 e9 e10 e11 e12 e13 e14 e15 e16 e17 e18 e19 e20 e21 e22 e23 e24 e25 e26 hw0
      refine wpOp_step rfl (fun K hK => ?_)
      go_simp
      exact hK _ _ ⟨_, _, _, _, _, _, _, _, _, _, _, _, _, _, _, _, _, _, _, _, _, _, _, _, _, _, _, rfl, (fun h => E0.out (by simpa [upOn] using h)), (fun h => E1.out (by simpa [upOn] using h)), (fun h => E2.out (by simpa [upOn] using h)), (fun h => E3.out (by simpa [upOn] using h)), (fun h => E4.out (by simpa [upOn] using h)), (fun h => E5.out (by simpa [upOn] using h)), (fun h => E6.out (by simpa [upOn] using h)), (fun h => E7.out (by simpa [upOn] using h)), (fun h => E8.out (by simpa [upOn] using h)), (fun _ => rfl), (fun h => E10.out (by simpa [upOn] using h)), (fun h => E11.out (by simpa [upOn] using h)), (fun h => E12.out (by simpa [upOn] using h)), (fun h => E13.out (by simpa [upOn] using h)), (fun h => E14.out (by simpa [upOn] using h)), (fun h => E15.out (by simpa [upOn] using h)), (fun _ => rfl), (fun _ => rfl), (fun h => E18.out (by simpa [upOn] using h)), (fun h => E19.out (by simpa [upOn] using h)), (fun h => E20.out (by simpa [upOn] using h)), (fun h => E21.out (by simpa [upOn] using h)), (fun h => E22.out (by simpa [upOn] using h)), (fun h => E23.out (by simpa [upOn] using h)), (fun h => E24.out (by simpa [upOn] using h)), (fun h => E25.out (by simpa [upOn] using h)), (fun h => E26.out (by simpa [upOn] using h)), HF0.out⟩
    · have HF0 := Lib.hid hw0
      have l17 := (hdp 17 (by kernel_rfl))
      obtain rfl := e17 l17
      have E0 := Lib.hid e0; have E1 := Lib.hid e1; have E2 := Lib.hid e2; have E3 := Lib.hid e3; have E4 := Lib.hid e4; have E5 := Lib.hid e5; have E6 := Lib.hid e6; have E7 := Lib.hid e7; have E8 := Lib.hid e8; have E9 := Lib.hid e9; have E10 := Lib.hid e10; have E11 := Lib.hid e11; have E12 := Lib.hid e12; have E13 := Lib.hid e13; have E14 := Lib.hid e14; have E15 := Lib.hid e15; have E16 := Lib.hid e16; have E19 := Lib.hid e19; have E20 := Lib.hid e20; have E21 := Lib.hid e21; have E22 := Lib.hid e22; have E23 := Lib.hid e23; have E24 := Lib.hid e24; have E25 := Lib.hid e25; have E26 := Lib.hid e26
      clear e0 e1 e2 e3 e4 e5 e6 e7 e8 e9 e10 e11 e12 e13 e14 e15 e16 e17 e18 e19 e20 e21 e22 e23 e24 e25 e26 hw0
      refine wpOp_step rfl (fun K hK => ?_)
      go_simp
      exact hK _ _ ⟨_, _, _, _, _, _, _, _, _, _, _, _, _, _, _, _, _, _, _, _, _, _, _, _, _, _, _, rfl, (fun h => E0.out (by simpa [upOn] using h)), (fun h => E1.out (by simpa [upOn] using h)), (fun h => E2.out (by simpa [upOn] using h)), (fun h => E3.out (by simpa [upOn] using h)), (fun h => E4.out (by simpa [upOn] using h)), (fun h => E5.out (by simpa [upOn] using h)), (fun h => E6.out (by simpa [upOn] using h)), (fun h => E7.out (by simpa [upOn] using h)), (fun h => E8.out (by simpa [upOn] using h)), (fun h => E9.out (by simpa [upOn] using h)), (fun h => E10.out (by simpa [upOn] using h)), (fun h => E11.out (by simpa [upOn] using h)), (fun h => E12.out (by simpa [upOn] using h)), (fun h => E13.out (by simpa [upOn] using h)), (fun h => E14.out (by simpa [upOn] using h)), (fun h => E15.out (by simpa [upOn] using h)), (fun h => E16.out (by simpa [upOn] using h)), (fun _ => rfl), (fun _ => rfl), (fun h => E19.out (by simpa [upOn] using h)), (fun h => E20.out (by simpa [upOn] using h)), (fun h => E21.out (by simpa [upOn] using h)), (fun h => E22.out (by simpa [upOn] using h)), (fun h => E23.out (by simpa [upOn] using h)), (fun h => E24.out (by simpa [upOn] using h)), (fun h => E25.out (by simpa [upOn] using h)), (fun h => E26.out (by simpa [upOn] using h)), HF0.out⟩
    · have HF0 := Lib.hid hw0
      have l18 := (hdp 18 (by kernel_rfl))
      obtain rfl := e18 l18
      have E0 := Lib.hid e0; have E1 := Lib.hid e1; have E2 := Lib.hid e2; have E3 := Lib.hid e3; have E4 := Lib.hid e4; have E5 := Lib.hid e5; have E6 := Lib.hid e6; have E7 := Lib.hid e7; have E8 := Lib.hid e8; have E9 := Lib.hid e9; have E10 := Lib.hid e10; have E11 := Lib.hid e11; have E12 := Lib.hid e12; have E13 := Lib.hid e13; have E14 := Lib.hid e14; have E15 := Lib.hid e15; have E16 := Lib.hid e16; have E17 := Lib.hid e17; have E20 := Lib.hid e20; have E21 := Lib.hid e21; have E22 := Lib.hid e22; have E23 := Lib.hid e23; have E24 := Lib.hid e24; have E25 := Lib.hid e25; have E26 := Lib.hid e26
      clear e0 e1 e2 e3 e4 e5 e6 e7 e8 e9 e10 e11 e12 e13 e14 e15 e16 e17 e18 e19 e20 e21 e22 e23 e24 e25 e26 hw0
      obtain ⟨k0, k1, j0, j1⟩ := HQ.out _ HF0.out
      refine wpOp_step rfl (fun K hK => ?_)
      go_simp
      exact hK _ _ ⟨_, _, _, _, _, _, _, _, _, _, _, _, _, _, _, _, _, _, _, _, _, _, _, _, _, _, _, rfl, (fun h => E0.out (by simpa [upOn] using h)), (fun h => E1.out (by simpa [upOn] using h)), (fun h => E2.out (by simpa [upOn] using h)), (fun h => E3.out (by simpa [upOn] using h)), (fun h => E4.out (by simpa [upOn] using h)), (fun h => E5.out (by simpa [upOn] using h)), (fun h => E6.out (by simpa [upOn] using h)), (fun h => E7.out (by simpa [upOn] using h)), (fun h => E8.out (by simpa [upOn] using h)), (fun h => E9.out (by simpa [upOn] using h)), (fun h => E10.out (by simpa [upOn] using h)), (fun h => E11.out (by simpa [upOn] using h)), (fun h => E12.out (by simpa [upOn] using h)), (fun h => E13.out (by simpa [upOn] using h)), (fun h => E14.out (by simpa [upOn] using h)), (fun h => E15.out (by simpa [upOn] using h)), (fun h => E16.out (by simpa [upOn] using h)), (fun h => E17.out (by simpa [upOn] using h)), (fun _ => rfl), (fun _ => rfl), (fun h => E20.out (by simpa [upOn] using h)), (fun h => E21.out (by simpa [upOn] using h)), (fun h => E22.out (by simpa [upOn] using h)), (fun h => E23.out (by simpa [upOn] using h)), (fun h => E24.out (by simpa [upOn] using h)), (fun h => E25.out (by simpa [upOn] using h)), (fun h => E26.out (by simpa [upOn] using h)), HF0.out⟩
    · have HF0 := Lib.hid hw0
      have l18 := (hdp 18 (by kernel_rfl))
      obtain rfl := e18 l18
      have E0 := Lib.hid e0; have E1 := Lib.hid e1; have E2 := Lib.hid e2; have E3 := Lib.hid e3; have E4 := Lib.hid e4; have E5 := Lib.hid e5; have E6 := Lib.hid e6; have E7 := Lib.hid e7; have E8 := Lib.hid e8; have E9 := Lib.hid e9; have E10 := Lib.hid e10; have E11 := Lib.hid e11; have E12 := Lib.hid e12; have E13 := Lib.hid e13; have E14 := Lib.hid e14; have E15 := Lib.hid e15; have E16 := Lib.hid e16; have E17 := Lib.hid e17; have E19 := Lib.hid e19; have E21 := Lib.hid e21; have E22 := Lib.hid e22; have E23 := Lib.hid e23; have E24 := Lib.hid e24; have E25 := Lib.hid e25; have E26 := Lib.hid e26
      clear e0 e1 e2 e3 e4 e5 e6 e7 e8 e9 e10 e11 e12 e13 e14 e15 e16 e17 e18 e19 e20 e21 e22 e23 e24 e25 e26 hw0
      obtain ⟨k0, k1, j0, j1⟩ := HQ.out _ HF0.out
      refine wpOp_step rfl (fun K hK => ?_)
      go_simp
      exact hK _ _ ⟨_, _, _, _, _, _, _, _, _, _, _, _, _, _, _, _, _, _, _, _, _, _, _, _, _, _, _, rfl, (fun h => E0.out (by simpa [upOn] using h)), (fun h => E1.out (by simpa [upOn] using h)), (fun h => E2.out (by simpa [upOn] using h)), (fun h => E3.out (by simpa [upOn] using h)), (fun h => E4.out (by simpa [upOn] using h)), (fun h => E5.out (by simpa [upOn] using h)), (fun h => E6.out (by simpa [upOn] using h)), (fun h => E7.out (by simpa [upOn] using h)), (fun h => E8.out (by simpa [upOn] using h)), (fun h => E9.out (by simpa [upOn] using h)), (fun h => E10.out (by simpa [upOn] using h)), (fun h => E11.out (by simpa [upOn] using h)), (fun h => E12.out (by simpa [upOn] using h)), (fun h => E13.out (by simpa [upOn] using h)), (fun h => E14.out (by simpa [upOn] using h)), (fun h => E15.out (by simpa [upOn] using h)), (fun h => E16.out (by simpa [upOn] using h)), (fun h => E17.out (by simpa [upOn] using h)), (fun _ => rfl), (fun h => E19.out (by simpa [upOn] using h)), (fun _ => rfl), (fun h => E21.out (by simpa [upOn] using h)), (fun h => E22.out (by simpa [upOn] using h)), (fun h => E23.out (by simpa [upOn] using h)), (fun h => E24.out (by simpa [upOn] using h)), (fun h => E25.out (by simpa [upOn] using h)), (fun h => E26.out (by simpa [upOn] using h)), HF0.out⟩
    · have HF0 := Lib.hid hw0
      have l18 := (hdp 18 (by kernel_rfl))
      have l19 := (hdp 19 (by kernel_rfl))
      have l20 := (hdp 20 (by kernel_rfl))
      obtain rfl := e18 l18
      obtain rfl := e19 l19
      obtain rfl := e20 l20
      have E0 := Lib.hid e0; have E1 := Lib.hid e1; have E2 := Lib.hid e2; have E3 := Lib.hid e3; have E4 := Lib.hid e4; have E5 := Lib.hid e5; have E6 := Lib.hid e6; have E7 := Lib.hid e7; have E8 := Lib.hid e8; have E9 := Lib.hid e9; have E10 := Lib.hid e10; have E11 := Lib.hid e11; have E12 := Lib.hid e12; have E13 := Lib.hid e13; have E14 := Lib.hid e14; have E15 := Lib.hid e15; have E16 := Lib.hid e16; have E17 := Lib.hid e17; have E22 := Lib.hid e22; have E23 := Lib.hid e23; have E24 := Lib.hid e24; have E25 := Lib.hid e25; have E26 := Lib.hid e26
      clear e0 e1 e2 e3 e4 e5 e6 e7 e8 e9 e10 e11 e12 e13 e14 e15 e16 e17 e18 e19 e20 e21 e22 e23 e24 e25 e26 hw0
      refine wpOp_step rfl (fun K hK => ?_)
      go_simp
      refine (HS3.out _ HF0.out).mono ?_
      rintro e v1 ⟨rfl, hb⟩
      exact hK _ _ ⟨_, _, _, _, _, _, _, _, _, _, _, _, _, _, _, _, _, _, _, _, _, _, _, _, _, _, _, rfl, (fun h => E0.out (by simpa [upOn] using h)), (fun h => E1.out (by simpa [upOn] using h)), (fun h => E2.out (by simpa [upOn] using h)), (fun h => E3.out (by simpa [upOn] using h)), (fun h => E4.out (by simpa [upOn] using h)), (fun h => E5.out (by simpa [upOn] using h)), (fun h => E6.out (by simpa [upOn] using h)), (fun h => E7.out (by simpa [upOn] using h)), (fun h => E8.out (by simpa [upOn] using h)), (fun h => E9.out (by simpa [upOn] using h)), (fun h => E10.out (by simpa [upOn] using h)), (fun h => E11.out (by simpa [upOn] using h)), (fun h => E12.out (by simpa [upOn] using h)), (fun h => E13.out (by simpa [upOn] using h)), (fun h => E14.out (by simpa [upOn] using h)), (fun h => E15.out (by simpa [upOn] using h)), (fun h => E16.out (by simpa [upOn] using h)), (fun h => E17.out (by simpa [upOn] using h)), (fun _ => rfl), (fun _ => rfl), (fun _ => rfl), (fun _ => rfl), (fun h => E22.out (by simpa [upOn] using h)), (fun h => E23.out (by simpa [upOn] using h)), (fun h => E24.out (by simpa [upOn] using h)), (fun h => E25.out (by simpa [upOn] using h)), (fun h => E26.out (by simpa [upOn] using h)), hb⟩
    · have HF0 := Lib.hid hw0
      have l18 := (hdp 18 (by kernel_rfl))
      have l21 := (hdp 21 (by kernel_rfl))
      obtain rfl := e18 l18
      obtain rfl := e21 l21
      have E0 := Lib.hid e0; have E1 := Lib.hid e1; have E2 := Lib.hid e2; have E3 := Lib.hid e3; have E4 := Lib.hid e4; have E5 := Lib.hid e5; have E6 := Lib.hid e6; have E7 := Lib.hid e7; have E8 := Lib.hid e8; have E9 := Lib.hid e9; have E10 := Lib.hid e10; have E11 := Lib.hid e11; have E12 := Lib.hid e12; have E13 := Lib.hid e13; have E14 := Lib.hid e14; have E15 := Lib.hid e15; have E16 := Lib.hid e16; have E17 := Lib.hid e17; have E19 := Lib.hid e19; have E20 := Lib.hid e20; have E23 := Lib.hid e23; have E24 := Lib.hid e24; have E25 := Lib.hid e25; have E26 := Lib.hid e26
      clear e0 e1 e2 e3 e4 e5 e6 e7 e8 e9 e10 e11 e12 e13 e14 e15 e16 e17 e18 e19 e20 e21 e22 e23 e24 e25 e26 hw0
      refine wpOp_step rfl (fun K hK => ?_)
      go_simp
      exact hK _ _ ⟨_, _, _, _, _, _, _, _, _, _, _, _, _, _, _, _, _, _, _, _, _, _, _, _, _, _, _, rfl, (fun h => E0.out (by simpa [upOn] using h)), (fun h => E1.out (by simpa [upOn] using h)), (fun h => E2.out (by simpa [upOn] using h)), (fun h => E3.out (by simpa [upOn] using h)), (fun h => E4.out (by simpa [upOn] using h)), (fun h => E5.out (by simpa [upOn] using h)), (fun h => E6.out (by simpa [upOn] using h)), (fun h => E7.out (by simpa [upOn] using h)), (fun h => E8.out (by simpa [upOn] using h)), (fun h => E9.out (by simpa [upOn] using h)), (fun h => E10.out (by simpa [upOn] using h)), (fun h => E11.out (by simpa [upOn] using h)), (fun h => E12.out (by simpa [upOn] using h)), (fun h => E13.out (by simpa [upOn] using h)), (fun h => E14.out (by simpa [upOn] using h)), (fun h => E15.out (by simpa [upOn] using h)), (fun h => E16.out (by simpa [upOn] using h)), (fun h => E17.out (by simpa [upOn] using h)), (fun _ => rfl), (fun h => E19.out (by simpa [upOn] using h)), (fun h => E20.out (by simpa [upOn] using h)), (fun _ => rfl), (fun _ => rfl), (fun h => E23.out (by simpa [upOn] using h)), (fun h => E24.out (by simpa [upOn] using h)), (fun h => E25.out (by simpa [upOn] using h)), (fun h => E26.out (by simpa [upOn] using h)), HF0.out⟩
    · have HF0 := Lib.hid hw0
      have l22 := (hdp 22 (by kernel_rfl))
      obtain rfl := e22 l22
      have E0 := Lib.hid e0; have E1 := Lib.hid e1; have E2 := Lib.hid e2; have E3 := Lib.hid e3; have E4 := Lib.hid e4; have E5 := Lib.hid e5; have E6 := Lib.hid e6; have E7 := Lib.hid e7; have E8 := Lib.hid e8; have E9 := Lib.hid e9; have E10 := Lib.hid e10; have E11 := Lib.hid e11; have E12 := Lib.hid e12; have E13 := Lib.hid e13; have E14 := Lib.hid e14; have E15 := Lib.hid e15; have E16 := Lib.hid e16; have E17 := Lib.hid e17; have E18 := Lib.hid e18; have E19 := Lib.hid e19; have E20 := Lib.hid e20; have E21 := Lib.hid e21; have E24 := Lib.hid e24; have E25 := Lib.hid e25; have E26 := Lib.hid e26
      clear e0 e1 e2 e3 e4 e5 e6 e7 e8 e9 e10 e11 e12 e13 e14 e15 e16 e17 e18 e19 e20 e21 e22 e23 e24 e25 e26 hw0
      refine wpOp_step rfl (fun K hK => ?_)
      go_simp
      exact hK _ _ ⟨_, _, _, _, _, _, _, _, _, _, _, _, _, _, _, _, _, _, _, _, _, _, _, _, _, _, _, rfl, (fun h => E0.out (by simpa [upOn] using h)), (fun h => E1.out (by simpa [upOn] using h)), (fun h => E2.out (by simpa [upOn] using h)), (fun h => E3.out (by simpa [upOn] using h)), (fun h => E4.out (by simpa [upOn] using h)), (fun h => E5.out (by simpa [upOn] using h)), (fun h => E6.out (by simpa [upOn] using h)), (fun h => E7.out (by simpa [upOn] using h)), (fun h => E8.out (by simpa [upOn] using h)), (fun h => E9.out (by simpa [upOn] using h)), (fun h => E10.out (by simpa [upOn] using h)), (fun h => E11.out (by simpa [upOn] using h)), (fun h => E12.out (by simpa [upOn] using h)), (fun h => E13.out (by simpa [upOn] using h)), (fun h => E14.out (by simpa [upOn] using h)), (fun h => E15.out (by simpa [upOn] using h)), (fun h => E16.out (by simpa [upOn] using h)), (fun h => E17.out (by simpa [upOn] using h)), (fun h => E18.out (by simpa [upOn] using h)), (fun h => E19.out (by simpa [upOn] using h)), (fun h => E20.out (by simpa [upOn] using h)), (fun h => E21.out (by simpa [upOn] using h)), (fun _ => rfl), (fun _ => rfl), (fun h => E24.out (by simpa [upOn] using h)), (fun h => E25.out (by simpa [upOn] using h)), (fun h => E26.out (by simpa [upOn] using h)), HF0.out⟩
    · have HF0 := Lib.hid hw0
      have l23 := (hdp 23 (by kernel_rfl))
      obtain rfl := e23 l23
      have E0 := Lib.hid e0; have E1 := Lib.hid e1; have E2 := Lib.hid e2; have E3 := Lib.hid e3; have E4 := Lib.hid e4; have E5 := Lib.hid e5; have E6 := Lib.hid e6; have E7 := Lib.hid e7; have E8 := Lib.hid e8; have E9 := Lib.hid e9; have E10 := Lib.hid e10; have E11 := Lib.hid e11; have E12 := Lib.hid e12; have E13 := Lib.hid e13; have E14 := Lib.hid e14; have E15 := Lib.hid e15; have E16 := Lib.hid e16; have E17 := Lib.hid e17; have E18 := Lib.hid e18; have E19 := Lib.hid e19; have E20 := Lib.hid e20; have E21 := Lib.hid e21; have E22 := Lib.hid e22; have E25 := Lib.hid e25; have E26 := Lib.hid e26
      clear e0 e1 e2 e3 e4 e5 e6 e7 e8 e9 e10 e11 e12 e13 e14 e15 e16 e17 e18 e19 e20 e21 e22 e23 e24 e25 e26 hw0
      refine wpOp_step rfl (fun K hK => ?_)
      go_simp
      refine (HK.out _ HF0.out).mono ?_
      rintro e v1 ⟨rfl, hb⟩
      exact hK _ _ ⟨_, _, _, _, _, _, _, _, _, _, _, _, _, _, _, _, _, _, _, _, _, _, _, _, _, _, _, rfl, (fun h => E0.out (by simpa [upOn] using h)), (fun h => E1.out (by simpa [upOn] using h)), (fun h => E2.out (by simpa [upOn] using h)), (fun h => E3.out (by simpa [upOn] using h)), (fun h => E4.out (by simpa [upOn] using h)), (fun h => E5.out (by simpa [upOn] using h)), (fun h => E6.out (by simpa [upOn] using h)), (fun h => E7.out (by simpa [upOn] using h)), (fun h => E8.out (by simpa [upOn] using h)), (fun h => E9.out (by simpa [upOn] using h)), (fun h => E10.out (by simpa [upOn] using h)), (fun h => E11.out (by simpa [upOn] using h)), (fun h => E12.out (by simpa [upOn] using h)), (fun h => E13.out (by simpa [upOn] using h)), (fun h => E14.out (by simpa [upOn] using h)), (fun h => E15.out (by simpa [upOn] using h)), (fun h => E16.out (by simpa [upOn] using h)), (fun h => E17.out (by simpa [upOn] using h)), (fun h => E18.out (by simpa [upOn] using h)), (fun h => E19.out (by simpa [upOn] using h)), (fun h => E20.out (by simpa [upOn] using h)), (fun h => E21.out (by simpa [upOn] using h)), (fun h => E22.out (by simpa [upOn] using h)), (fun _ => rfl), (fun _ => rfl), (fun h => E25.out (by simpa [upOn] using h)), (fun h => E26.out (by simpa [upOn] using h)), hb⟩
    · have HF0 := Lib.hid hw0
      have l23 := (hdp 23 (by kernel_rfl))
      have l24 := (hdp 24 (by kernel_rfl))
      obtain rfl := e23 l23
      obtain rfl := e24 l24
      have E0 := Lib.hid e0; have E1 := Lib.hid e1; have E2 := Lib.hid e2; have E3 := Lib.hid e3; have E4 := Lib.hid e4; have E5 := Lib.hid e5; have E6 := Lib.hid e6; have E7 := Lib.hid e7; have E8 := Lib.hid e8; have E9 := Lib.hid e9; have E10 := Lib.hid e10; have E11 := Lib.hid e11; have E12 := Lib.hid e12; have E13 := Lib.hid e13; have E14 := Lib.hid e14; have E15 := Lib.hid e15; have E16 := Lib.hid e16; have E17 := Lib.hid e17; have E18 := Lib.hid e18; have E19 := Lib.hid e19; have E20 := Lib.hid e20; have E21 := Lib.hid e21; have E22 := Lib.hid e22; have E26 := Lib.hid e26
      clear e0 e1 e2 e3 e4 e5 e6 e7 e8 e9 e10 e11 e12 e13 e14 e15 e16 e17 e18 e19 e20 e21 e22 e23 e24 e25 e26 hw0
      refine wpOp_step rfl (fun K hK => ?_)
      go_simp
      exact hK _ _ ⟨_, _, _, _, _, _, _, _, _, _, _, _, _, _, _, _, _, _, _, _, _, _, _, _, _, _, _, rfl, (fun h => E0.out (by simpa [upOn] using h)), (fun h => E1.out (by simpa [upOn] using h)), (fun h => E2.out (by simpa [upOn] using h)), (fun h => E3.out (by simpa [upOn] using h)), (fun h => E4.out (by simpa [upOn] using h)), (fun h => E5.out (by simpa [upOn] using h)), (fun h => E6.out (by simpa [upOn] using h)), (fun h => E7.out (by simpa [upOn] using h)), (fun h => E8.out (by simpa [upOn] using h)), (fun h => E9.out (by simpa [upOn] using h)), (fun h => E10.out (by simpa [upOn] using h)), (fun h => E11.out (by simpa [upOn] using h)), (fun h => E12.out (by simpa [upOn] using h)), (fun h => E13.out (by simpa [upOn] using h)), (fun h => E14.out (by simpa [upOn] using h)), (fun h => E15.out (by simpa [upOn] using h)), (fun h => E16.out (by simpa [upOn] using h)), (fun h => E17.out (by simpa [upOn] using h)), (fun h => E18.out (by simpa [upOn] using h)), (fun h => E19.out (by simpa [upOn] using h)), (fun h => E20.out (by simpa [upOn] using h)), (fun h => E21.out (by simpa [upOn] using h)), (fun h => E22.out (by simpa [upOn] using h)), (fun _ => rfl), (fun _ => rfl), (fun _ => rfl), (fun h => E26.out (by simpa [upOn] using h)), HF0.out⟩
    · have HF0 := Lib.hid hw0
      have l25 := (hdp 25 (by kernel_rfl))
      obtain rfl := e25 l25
      have E0 := Lib.hid e0; have E1 := Lib.hid e1; have E2 := Lib.hid e2; have E3 := Lib.hid e3; have E4 := Lib.hid e4; have E5 := Lib.hid e5; have E6 := Lib.hid e6; have E7 := Lib.hid e7; have E8 := Lib.hid e8; have E9 := Lib.hid e9; have E10 := Lib.hid e10; have E11 := Lib.hid e11; have E12 := Lib.hid e12; have E13 := Lib.hid e13; have E14 := Lib.hid e14; have E15 := Lib.hid e15; have E16 := Lib.hid e16; have E17 := Lib.hid e17; have E18 := Lib.hid e18; have E19 := Lib.hid e19; have E20 := Lib.hid e20; have E21 := Lib.hid e21; have E22 := Lib.hid e22; have E23 := Lib.hid e23; have E24 := Lib.hid e24
      clear e0 e1 e2 e3 e4 e5 e6 e7 e8 e9 e10 e11 e12 e13 e14 e15 e16 e17 e18 e19 e20 e21 e22 e23 e24 e25 e26 hw0
      refine wpOp_step rfl (fun K hK => ?_)
      go_simp
      exact hK _ _ ⟨_, _, _, _, _, _, _, _, _, _, _, _, _, _, _, _, _, _, _, _, _, _, _, _, _, _, _, rfl, (fun h => E0.out (by simpa [upOn] using h)), (fun h => E1.out (by simpa [upOn] using h)), (fun h => E2.out (by simpa [upOn] using h)), (fun h => E3.out (by simpa [upOn] using h)), (fun h => E4.out (by simpa [upOn] using h)), (fun h => E5.out (by simpa [upOn] using h)), (fun h => E6.out (by simpa [upOn] using h)), (fun h => E7.out (by simpa [upOn] using h)), (fun h => E8.out (by simpa [upOn] using h)), (fun h => E9.out (by simpa [upOn] using h)), (fun h => E10.out (by simpa [upOn] using h)), (fun h => E11.out (by simpa [upOn] using h)), (fun h => E12.out (by simpa [upOn] using h)), (fun h => E13.out (by simpa [upOn] using h)), (fun h => E14.out (by simpa [upOn] using h)), (fun h => E15.out (by simpa [upOn] using h)), (fun h => E16.out (by simpa [upOn] using h)), (fun h => E17.out (by simpa [upOn] using h)), (fun h => E18.out (by simpa [upOn] using h)), (fun h => E19.out (by simpa [upOn] using h)), (fun h => E20.out (by simpa [upOn] using h)), (fun h => E21.out (by simpa [upOn] using h)), (fun h => E22.out (by simpa [upOn] using h)), (fun h => E23.out (by simpa [upOn] using h)), (fun h => E24.out (by simpa [upOn] using h)), (fun _ => rfl), (fun _ => rfl), HF0.out⟩
  case fin =>
    rintro L a' w' hall ⟨y0, y1, y2, y3, y4, y5, y6, y7, y8, y9, y10, y11, y12, y13, y14, y15, y16, y17, y18, y19, y20, y21, y22, y23, y24, y25, y26, rfl, e0, e1, e2, e3, e4, e5, e6, e7, e8, e9, e10, e11, e12, e13, e14, e15, e16, e17, e18, e19, e20, e21, e22, e23, e24, e25, e26, hw0⟩
    obtain rfl := e0 (hall 0 (by omega))
    obtain rfl := e1 (hall 1 (by omega))
    obtain rfl := e2 (hall 2 (by omega))
    obtain rfl := e3 (hall 3 (by omega))
    obtain rfl := e4 (hall 4 (by omega))
    obtain rfl := e5 (hall 5 (by omega))
    obtain rfl := e6 (hall 6 (by omega))
    obtain rfl := e7 (hall 7 (by omega))
    obtain rfl := e8 (hall 8 (by omega))
    obtain rfl := e9 (hall 9 (by omega))
    obtain rfl := e10 (hall 10 (by omega))
    obtain rfl := e11 (hall 11 (by omega))
    obtain rfl := e12 (hall 12 (by omega))
    obtain rfl := e13 (hall 13 (by omega))
    obtain rfl := e14 (hall 14 (by omega))
    obtain rfl := e15 (hall 15 (by omega))
    obtain rfl := e16 (hall 16 (by omega))
    obtain rfl := e17 (hall 17 (by omega))
    obtain rfl := e18 (hall 18 (by omega))
    obtain rfl := e19 (hall 19 (by omega))
    obtain rfl := e20 (hall 20 (by omega))
    obtain rfl := e21 (hall 21 (by omega))
    obtain rfl := e22 (hall 22 (by omega))
    obtain rfl := e23 (hall 23 (by omega))
    obtain rfl := e24 (hall 24 (by omega))
    obtain rfl := e25 (hall 25 (by omega))
    obtain rfl := e26 (hall 26 (by omega))
    have HB12 := Lib.hid hw0
    clear hw0 hall
    go_wp2_with fail
    go_ret
    exact ⟨rfl, HW.out _ HB12.out⟩
theorem own : ownKnob Tryz.prog.godebug = none := by kernel_rfl
theorem laidOut : laidOutB Tryz.prog = true := by kernel_rfl
theorem gTab2 : Tryz.prog.globalNamed "internal/strconv.uint64pow10" = some 5 := by kernel_rfl
theorem gTab7 : Tryz.prog.globalNamed "strings.asciiSpace" = some 0 := by kernel_rfl
set_option maxRecDepth 1000000 in
theorem tables {W : World} (h0 : laidMetH Tryz.prog Rows.scriptTextsRow.laid W) (hsh : W.ShapedOpen Tryz.prog) : Tb W := by
  rw [MakeChecks.laidMetH_plain _ _ _ (by kernel_rfl)] at h0
  have h : laidMet Tryz.prog Rows.scriptTextsRow.laid W := h0
  exact ⟨Lib.tabIs_of_head (rest := _) gTab2 (by kernel_rfl) Tryz.underlying156 Tryz.underlying131 (by kernel_rfl) (by kernel_rfl) (laidMet.tail (laidMet.tail h)), Lib.tabIs_of_head (rest := _) gTab7 (by kernel_rfl) Tryz.underlying106 Tryz.underlying5 (by kernel_rfl) (by kernel_rfl) (laidMet.tail (laidMet.tail (laidMet.tail (laidMet.tail (laidMet.tail (laidMet.tail (laidMet.tail h))))))), mx_of hsh, ⟨errS_of (laidMet.tail (laidMet.tail (laidMet.tail (laidMet.tail (laidMet.tail h))))), errR_of (laidMet.tail (laidMet.tail (laidMet.tail (laidMet.tail h))))⟩⟩
set_option maxRecDepth 1000000 in
theorem contract (H : Type) (enc : TypeId × Value → H) (W : World) (base : Nat) (args : Array Value) (ds gs : List (DataW H)) (before : List MemPlace)
    (hval : ∀ (j : Nat) t v, Tryz.f4.params[j]? = some t → args[j]? = some v → Value.okWide Tryz.prog W .any base t v)
    (hW : DataW.Whole enc Tryz.prog Tryz.f4.params.toList Rows.scriptTextsSpec.vars false W args.toList ds gs before) (hL : laidMetH Tryz.prog Rows.scriptTextsRow.laid W) (hsh : W.ShapedOpen Tryz.prog) :
    Calls Tryz.prog 4 args W fun e W' => ∃ v, e = .returned v ∧ Rows.scriptTextsSpec.post enc Tryz.prog Tryz.f4 false true false false W args v W' := by
  have hW' := hW
  obtain ⟨p, q, hA0, hV, rfl, hfz, hnd⟩ := hW
  have hA : DataW.TrodAll enc Tryz.prog W 0 (fun _ => true) true Tryz.f4.params.toList args.toList ds p := hA0
  rw [Tryz.params4] at hA hval
  obtain ⟨v0, vs0, d0, ds0, p0, q0, hargs, rfl, rfl, h0, r0⟩ := trodAll_cons hA
  obtain ⟨v1, vs1, d1, ds1, p1, q1, rfl, rfl, rfl, h1, r1⟩ := trodAll_cons r0
  obtain ⟨rfl, rfl, rfl⟩ := trodAll_nil r1
  obtain rfl : args = #[v0, v1] := by cases args; simp_all
  obtain ⟨rfl, rfl⟩ := trodVars_none hV
  obtain ⟨o0, l0, a0, n0, c0, rfl, w0, u0⟩ := script_of (.inl (hval 0 38 v0 rfl rfl)) h0
  have kk0 := h0
  have lt0 : ∀ x ∈ p0, x.block < W.heap.size := by obtain ⟨m, hm⟩ := kk0; exact DataW.trod_lt m _ _ _ hm
  obtain ⟨o1, l1, a1, n1, c1, rfl, w1, u1⟩ := script_of (.inl (hval 1 38 v1 rfl rfl)) h1
  have kk1 := h1
  have lt1 : ∀ x ∈ p1, x.block < W.heap.size := by obtain ⟨m, hm⟩ := kk1; exact DataW.trod_lt m _ _ _ hm
  clear hA0
  have hT := tables hL hsh
  refine (walk o0 l0 a0 n0 c0 o1 l1 a1 n1 c1 W w0 u0 w1 u1 hT).mono fun e W' ⟨he, bel⟩ => ?_
  subst he
  exact ⟨_, rfl, _, _, _, [], _, [], hW', trodAll_mk1 (shut_bool Tryz.underlying4 _), (trodAll_cons_mk (Below.trod laidOut (by kernel_rfl) (of_decide_eq_true (by kernel_rfl)) kk0 bel lt0) (trodAll_cons_mk (Below.trod laidOut (by kernel_rfl) (of_decide_eq_true (by kernel_rfl)) kk1 bel lt1) trodAll_mk0)), rfl, bel.frame _, fun h => by cases h⟩
theorem witness_shaped {H : Type} {enc : TypeId × Value → H} {C : Checked} {os : Os} {f : FuncId} {fn : Func} {s : OpenSpec} {conds : List PathCond} {apart : Bool} {laid : List (String × DataW Unit)} (modest : Bool) (w0 : World) (args : Array Value) (hos : w0.os = os)
    (hsh : (w0.forCall (fun _ _ => 0) ⟨#[], args, []⟩).Shaped C.prog) (hok : Input.okWideB C.prog (w0.forCall (fun _ _ => 0) ⟨#[], args, []⟩) f ⟨#[], args, []⟩ = true)
    (hrow : s.preRow enc C.prog fn conds apart laid (w0.forCall (fun _ _ => 0) ⟨#[], args, []⟩).memory args) :
    ∃ (w : World) (tape : Tape) (i : Input), w.os = os ∧ (w.forCall tape i).Shaped C.prog ∧ i.vars = [] ∧ Input.okWide C.prog (w.forCall tape i) .any w.heap.size f i ∧
      s.preRow enc C.prog fn conds apart laid (w.forCall tape i).memory i.args ∧ ({ modest := modest } : Assume).holds C.prog (lone (Frame.enter C.prog f i.args .normal) [] (w.forCall tape i)) :=
  ⟨w0, fun _ _ => 0, ⟨#[], args, []⟩, hos, hsh, (Input.okWide_of_okWideB (base := 0) hok).1, (Input.okWide_of_okWideB hok).2, hrow, by
    simp only [Assume.holds]
    exact ⟨by simp, by simp, fun _ => Modest.zero, by simp, by simp⟩⟩
set_option maxRecDepth 1000000 in
theorem laid_met (os : Os) : laidMetH Tryz.prog Rows.scriptTextsRow.laid ((World.laidAll Tryz.prog os Rows.scriptTextsRow.laid).forCall (fun _ _ => 0) ⟨#[], #[.agg #[.int .i64 0, .slice none 0 0], .agg #[.int .i64 0, .slice none 0 0]], []⟩).memory := by
  rw [MakeChecks.laidMetH_plain _ _ _ (by kernel_rfl)]
  exact laidMet_laidAll _ (by kernel_rfl) (by kernel_rfl)
set_option maxRecDepth 1000000 in
theorem reads (os : Os) {H : Type} (enc : TypeId × Value → H) : ∃ places, DataW.whole enc Tryz.prog ((World.laidAll Tryz.prog os Rows.scriptTextsRow.laid).forCall (fun _ _ => 0) ⟨#[], #[.agg #[.int .i64 0, .slice none 0 0], .agg #[.int .i64 0, .slice none 0 0]], []⟩).memory Tryz.f4.params.toList Rows.scriptTextsSpec.vars false (#[.agg #[.int .i64 0, .slice none 0 0], .agg #[.int .i64 0, .slice none 0 0]] : Array Value).toList 8 = some ([.agg [.lit (.int .i64 0), .nil], .agg [.lit (.int .i64 0), .nil]], [], places) := ⟨[], by kernel_rfl⟩
set_option maxRecDepth 1000000 in
theorem lifted (os : Os) (started : os.Started) (H : Type) (enc : TypeId × Value → H) (F : Stop.Interp) :
    ReturnsInHanded {} Tryz.checked os 4 .any ((OpenSpec.ofChange Rows.scriptTextsSpec).preRow enc Tryz.prog Tryz.f4 Rows.scriptTextsRow.domain false Rows.scriptTextsRow.laid) (((OpenSpec.ofChange Rows.scriptTextsSpec).at F).post enc Tryz.prog Tryz.f4 false true false false) := by
  obtain ⟨places, hx⟩ := reads os enc
  refine returnsInHanded_of_row (C := Tryz.checked) (s := OpenSpec.ofChange Rows.scriptTextsSpec) own started (by kernel_rfl) Tryz.func4
    (witness_shaped (enc := enc) (C := Tryz.checked) false (World.laidAll Tryz.prog os Rows.scriptTextsRow.laid) #[.agg #[.int .i64 0, .slice none 0 0], .agg #[.int .i64 0, .slice none 0 0]] (World.laidAll_os _ _ _) (World.shaped_of_ZipB (by kernel_rfl) (by kernel_rfl)) (by kernel_rfl)
      (OpenSpec.preRow_of_cond 8 hx (by kernel_rfl) (fun k hk => by cases hk) (by kernel_rfl) (laid_met os))) ?_
  intro W base args ds gs before hval hW _ _ _ hL hsh _
  exact contract H enc W base args ds gs before hval hW hL hsh
theorem said : Rows.ScriptTextsSaid :=
  OpenClaim.holds_of_cond 4 Tryz.f4 rfl rfl rfl rfl rfl rfl rfl ⟨rfl, rfl, rfl, rfl, rfl⟩ rfl rfl rfl rfl rfl (by kernel_rfl) Tryz.func4 (by kernel_rfl)
    (of_decide_eq_true (by kernel_rfl)) (by unfold Func.isWrapper; first | (rw [if_pos (by decide +kernel)]; kernel_rfl) | (rw [if_neg (by decide +kernel)]; exact ⟨rfl, rfl⟩))
    (fun os started H enc _ F => by rw [OpenClaim.pre_eq_preRow]; exact lifted os started H enc F)
theorem plain (f : FuncId) (fn : Func) (hf : Tryz.pinned.checked.prog.funcNamed "selfsame/selfsamelaw25.ScriptTexts" = some f) (hfn : Tryz.pinned.checked.prog.funcs[f]? = some fn) :
    true = Tryz.pinned.checked.prog.looks [] ∧ ∀ (j : Nat) t, fn.params[j]? = some t → Tryz.pinned.checked.prog.wantsStandIn t = false := by
  obtain rfl : f = 4 := Option.some.inj ((show Tryz.prog.funcNamed "selfsame/selfsamelaw25.ScriptTexts" = some 4 by kernel_rfl).symm.trans hf) |>.symm
  obtain rfl : fn = Tryz.f4 := (Option.some.inj (Tryz.func4.symm.trans hfn)).symm
  refine ⟨by kernel_rfl, fun j t ht => ?_⟩
  rw [Tryz.params4] at ht
  have hm := Array.mem_of_getElem? ht
  simp only [List.mem_toArray, List.mem_cons, List.not_mem_nil, or_false] at hm
  rcases hm with rfl | rfl
  · exact (show Tryz.prog.wantsStandIn 38 = false by kernel_rfl)
  · exact (show Tryz.prog.wantsStandIn 38 = false by kernel_rfl)
theorem proved : Rows.ScriptTextsCardSaid :=
  Claim7.holds_tied_plain_at .later [] _ _ _ _ said (fun _ h => by cases h) (by kernel_rfl) (fun _ h => by cases h) scriptTexts_row_tie rfl ⟨rfl, rfl⟩ (by kernel_rfl) rfl plain (by kernel_rfl)
end Go.Proofs.YtlodoilihminaaaGreatDoor.scriptTexts

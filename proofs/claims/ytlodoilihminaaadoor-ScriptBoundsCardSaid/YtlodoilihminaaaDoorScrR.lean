/-
  ref25.EndText: how an end is told.
-/
import Derived.Test.YtlodoilihminaaaDoorScrQ
namespace Go.Proofs.YtlodoilihminaaaDoor
open Go.ChangeShapes Go.WideShapes Go.ChangeAt Go.RowKit
set_option linter.unusedVariables false
set_option linter.unusedSimpArgs false
set_option maxHeartbeats 4000000 in
set_option maxRecDepth 100000 in
theorem rEndText_any (w : World) (k c st : Int) (f : Bool) (c0 : 0 ≤ c) (c1 : c ≤ 4294967295) (h0 : -9223372036854775808 ≤ st) (h1 : st ≤ 9223372036854775807) (hT : Tab w) : Calls Tryd.prog 16 #[.agg #[.int .i64 k, .int .u32 c, .int .i64 st, .bool f]] w fun e w' => e = .returned (.string (endW k c f ++ ⟨#[32]⟩ ++ S (Lib.itoa st))) ∧ Below w.heap.size w w' := by
  have hw := wrap32_bd c
  have hz := itoaB_size (wrap32 c) (by omega) (by omega)
  have hq0 := heap_alloc_new w (.cells #[.int .i64 k, .int .u32 c, .int .i64 st, .bool f] 40)
  have hb0 := sbelow1 w (.cells #[.int .i64 k, .int .u32 c, .int .i64 st, .bool f] 40)
  have HD := Lib.hid (rdec_any c c0 c1)
  have HI := Lib.hid fun (V : World) (hV : Below w.heap.size w V) => Tryd.strconv_Itoa st h0 h1 V (hT.below hV)
  have si : (S (Lib.itoa st)).size ≤ 21 := by rw [S_size]; exact Lib.itoa_length_le st h0 h1
  clear hT hw
  go_enter Tryd.func16, Tryd.ntmps16
  go_upto_region 1 with fail
  have hs1 : (w.alloc (.cells #[.int .i64 k, .int .u32 c, .int .i64 st, .bool f] 40)).heap.size = w.heap.size + 1 := by simp
  generalize w.alloc (.cells #[.int .i64 k, .int .u32 c, .int .i64 st, .bool f] 40) = W1 at hq0 hb0 hs1 ⊢
  have hq2 := heap_alloc_new W1 (.cells #[.string ⟨#[110, 111, 110, 101]⟩, .string ⟨#[104, 97, 108, 116]⟩, .string ⟨#[116, 114, 97, 112]⟩, .string ⟨#[115, 116, 97, 99, 107]⟩, .string ⟨#[104, 101, 97, 112]⟩, .string ⟨#[115, 116, 111, 114, 101]⟩, .string ⟨#[109, 101, 109, 111, 114, 121]⟩, .string ⟨#[119, 111, 114, 100]⟩] 9)
  have hb2 := hb0.trans ((sbelow1 W1 (.cells #[.string ⟨#[110, 111, 110, 101]⟩, .string ⟨#[104, 97, 108, 116]⟩, .string ⟨#[116, 114, 97, 112]⟩, .string ⟨#[115, 116, 97, 99, 107]⟩, .string ⟨#[104, 101, 97, 112]⟩, .string ⟨#[115, 116, 111, 114, 101]⟩, .string ⟨#[109, 101, 109, 111, 114, 121]⟩, .string ⟨#[119, 111, 114, 100]⟩] 9)).mono hb0.size)
  have hq3 := (Below.heap_alloc W1 (.cells #[.string ⟨#[110, 111, 110, 101]⟩, .string ⟨#[104, 97, 108, 116]⟩, .string ⟨#[116, 114, 97, 112]⟩, .string ⟨#[115, 116, 97, 99, 107]⟩, .string ⟨#[104, 101, 97, 112]⟩, .string ⟨#[115, 116, 111, 114, 101]⟩, .string ⟨#[109, 101, 109, 111, 114, 121]⟩, .string ⟨#[119, 111, 114, 100]⟩] 9) _ (Array.getElem?_eq_some_iff.1 hq0).1).trans hq0
  go_upto_region 2 with fail
  generalize W1.alloc (.cells #[.string ⟨#[110, 111, 110, 101]⟩, .string ⟨#[104, 97, 108, 116]⟩, .string ⟨#[116, 114, 97, 112]⟩, .string ⟨#[115, 116, 97, 99, 107]⟩, .string ⟨#[104, 101, 97, 112]⟩, .string ⟨#[115, 116, 111, 114, 101]⟩, .string ⟨#[109, 101, 109, 111, 114, 121]⟩, .string ⟨#[119, 111, 114, 100]⟩] 9) = W2 at hq2 hb2 hq3 ⊢
  rw [hs1] at hq2
  have k0 : W2.cell? ⟨w.heap.size, 0, none⟩ = some (.int .i64 k) := by rw [World.cell?, hq3]; rfl
  have k1 : W2.cell? ⟨w.heap.size, 1, none⟩ = some (.int .u32 c) := by rw [World.cell?, hq3]; rfl
  have k2 : W2.cell? ⟨w.heap.size, 2, none⟩ = some (.int .i64 st) := by rw [World.cell?, hq3]; rfl
  have k3 : W2.cell? ⟨w.heap.size, 3, none⟩ = some (.bool f) := by rw [World.cell?, hq3]; rfl
  have j0 : W2.cell? ⟨w.heap.size + 1, 0, none⟩ = some (.string ⟨#[110, 111, 110, 101]⟩) := by rw [World.cell?, hq2]; rfl
  have j1 : W2.cell? ⟨w.heap.size + 1, 1, none⟩ = some (.string ⟨#[104, 97, 108, 116]⟩) := by rw [World.cell?, hq2]; rfl
  have j2 : W2.cell? ⟨w.heap.size + 1, 2, none⟩ = some (.string ⟨#[116, 114, 97, 112]⟩) := by rw [World.cell?, hq2]; rfl
  have j3 : W2.cell? ⟨w.heap.size + 1, 3, none⟩ = some (.string ⟨#[115, 116, 97, 99, 107]⟩) := by rw [World.cell?, hq2]; rfl
  have j4 : W2.cell? ⟨w.heap.size + 1, 4, none⟩ = some (.string ⟨#[104, 101, 97, 112]⟩) := by rw [World.cell?, hq2]; rfl
  have j5 : W2.cell? ⟨w.heap.size + 1, 5, none⟩ = some (.string ⟨#[115, 116, 111, 114, 101]⟩) := by rw [World.cell?, hq2]; rfl
  have j6 : W2.cell? ⟨w.heap.size + 1, 6, none⟩ = some (.string ⟨#[109, 101, 109, 111, 114, 121]⟩) := by rw [World.cell?, hq2]; rfl
  have j7 : W2.cell? ⟨w.heap.size + 1, 7, none⟩ = some (.string ⟨#[119, 111, 114, 100]⟩) := by rw [World.cell?, hq2]; rfl
  have HB := Lib.hid hb2
  have HDD := Lib.hid (HD.out W2)
  have HII := Lib.hid (HI.out W2 hb2)
  have HQ : Hid (∀ V, Below W2.heap.size W2 V → V.cell? ⟨w.heap.size, 0, none⟩ = some (.int .i64 k) ∧ V.cell? ⟨w.heap.size, 1, none⟩ = some (.int .u32 c) ∧ V.cell? ⟨w.heap.size, 2, none⟩ = some (.int .i64 st) ∧ V.cell? ⟨w.heap.size, 3, none⟩ = some (.bool f)) := Lib.hid fun V hV => ⟨(hV.cell (World.block_lt_of_cell? _ _ k0)).trans k0, (hV.cell (World.block_lt_of_cell? _ _ k1)).trans k1, (hV.cell (World.block_lt_of_cell? _ _ k2)).trans k2, (hV.cell (World.block_lt_of_cell? _ _ k3)).trans k3⟩
  clear hq0 hb0 hs1 hq2 hb2 hq3 HD
  generalize hit : itoaB (wrap32 c) = tx at HDD hz
  have HIT := Lib.hid hit
  clear hit
  have HE : Hid (∀ B : ByteArray, endW k c f = B → Ending.returned (.string (B ++ ⟨#[32]⟩ ++ S (Lib.itoa st))) = Ending.returned (.string (endW k c f ++ ⟨#[32]⟩ ++ S (Lib.itoa st)))) := Lib.hid (fun B h => by rw [h])
  have HITO : Hid (∀ V, Below W2.heap.size W2 V → Calls Tryd.prog 31 #[.int .i64 st] V fun e w' => e = .returned (.string (S (Lib.itoa st))) ∧ Below w.heap.size w w') := Lib.hid fun V hV => (HI.out V (HB.out.trans (hV.mono HB.out.size))).mono fun e v ⟨he, kk, os, hw⟩ => ⟨he, (HB.out.trans (hV.mono HB.out.size)).trans (by rw [hw]; exact (grow_below _ _ _).mono (Nat.le_trans HB.out.size hV.size))⟩
  clear HI HII
  by_cases e1 : k = 1
  · subst e1
    cases f with
    | true =>
      go_wp2_with (first | (go_at_call 45; (with_reducible refine HDD.out.mono ?_); rintro e w' ⟨rfl, hb⟩; have HV := Lib.hid hb; obtain ⟨g0, g1, g2, g3⟩ := HQ.out _ hb; clear hb) | (go_at_call 31; (with_reducible refine (HITO.out _ HV.out).mono ?_); rintro e w' ⟨rfl, hb⟩; have HBE := Lib.hid hb; clear hb))
      go_ret
      exact ⟨HE.out _ (by unfold endW; rfl), HBE.out⟩
    | false =>
      go_wp2_with (first | (go_at_call 45; (with_reducible refine HDD.out.mono ?_); rintro e w' ⟨rfl, hb⟩; have HV := Lib.hid hb; obtain ⟨g0, g1, g2, g3⟩ := HQ.out _ hb; clear hb) | (go_at_call 31; (with_reducible refine (HITO.out _ HV.out).mono ?_); rintro e w' ⟨rfl, hb⟩; have HBE := Lib.hid hb; clear hb))
      go_ret
      exact ⟨HE.out _ (by unfold endW; rw [HIT.out]; rw [if_neg (by decide)]; rw [if_pos rfl]; apply ByteArray.ext; simp [ByteArray.data_append]), HBE.out⟩
  by_cases e2 : k = 2
  · subst e2
    cases f with
    | true =>
      go_wp2_with (first | (go_at_call 45; (with_reducible refine HDD.out.mono ?_); rintro e w' ⟨rfl, hb⟩; have HV := Lib.hid hb; obtain ⟨g0, g1, g2, g3⟩ := HQ.out _ hb; clear hb) | (go_at_call 31; (with_reducible refine (HITO.out _ HV.out).mono ?_); rintro e w' ⟨rfl, hb⟩; have HBE := Lib.hid hb; clear hb))
      go_ret
      exact ⟨HE.out _ (by unfold endW; rfl), HBE.out⟩
    | false =>
      go_wp2_with (first | (go_at_call 45; (with_reducible refine HDD.out.mono ?_); rintro e w' ⟨rfl, hb⟩; have HV := Lib.hid hb; obtain ⟨g0, g1, g2, g3⟩ := HQ.out _ hb; clear hb) | (go_at_call 31; (with_reducible refine (HITO.out _ HV.out).mono ?_); rintro e w' ⟨rfl, hb⟩; have HBE := Lib.hid hb; clear hb))
      go_ret
      exact ⟨HE.out _ (by unfold endW; rw [HIT.out]; rw [if_neg (by decide)]; rw [if_neg (by decide)]; rw [if_pos rfl]; apply ByteArray.ext; simp [ByteArray.data_append]), HBE.out⟩
  by_cases e3 : k = 3
  · subst e3
    cases f with
    | true =>
      have HV : Hid (Below W2.heap.size W2 W2) := Lib.hid (Below.refl _ _)
      go_wp2_with (go_at_call 31; (with_reducible refine (HITO.out _ HV.out).mono ?_); rintro e w' ⟨rfl, hb⟩; have HBE := Lib.hid hb; clear hb)
      go_ret
      exact ⟨HE.out _ (by unfold endW; rfl), HBE.out⟩
    | false =>
      have HV : Hid (Below W2.heap.size W2 W2) := Lib.hid (Below.refl _ _)
      go_wp2_with (go_at_call 31; (with_reducible refine (HITO.out _ HV.out).mono ?_); rintro e w' ⟨rfl, hb⟩; have HBE := Lib.hid hb; clear hb)
      go_ret
      exact ⟨HE.out _ (by unfold endW; rfl), HBE.out⟩
  by_cases e4 : k = 4
  · subst e4
    cases f with
    | true =>
      have HV : Hid (Below W2.heap.size W2 W2) := Lib.hid (Below.refl _ _)
      go_wp2_with (go_at_call 31; (with_reducible refine (HITO.out _ HV.out).mono ?_); rintro e w' ⟨rfl, hb⟩; have HBE := Lib.hid hb; clear hb)
      go_ret
      exact ⟨HE.out _ (by unfold endW; rfl), HBE.out⟩
    | false =>
      have HV : Hid (Below W2.heap.size W2 W2) := Lib.hid (Below.refl _ _)
      go_wp2_with (go_at_call 31; (with_reducible refine (HITO.out _ HV.out).mono ?_); rintro e w' ⟨rfl, hb⟩; have HBE := Lib.hid hb; clear hb)
      go_ret
      exact ⟨HE.out _ (by unfold endW; rfl), HBE.out⟩
  by_cases e5 : k = 5
  · subst e5
    cases f with
    | true =>
      have HV : Hid (Below W2.heap.size W2 W2) := Lib.hid (Below.refl _ _)
      go_wp2_with (go_at_call 31; (with_reducible refine (HITO.out _ HV.out).mono ?_); rintro e w' ⟨rfl, hb⟩; have HBE := Lib.hid hb; clear hb)
      go_ret
      exact ⟨HE.out _ (by unfold endW; rfl), HBE.out⟩
    | false =>
      have HV : Hid (Below W2.heap.size W2 W2) := Lib.hid (Below.refl _ _)
      go_wp2_with (go_at_call 31; (with_reducible refine (HITO.out _ HV.out).mono ?_); rintro e w' ⟨rfl, hb⟩; have HBE := Lib.hid hb; clear hb)
      go_ret
      exact ⟨HE.out _ (by unfold endW; rfl), HBE.out⟩
  by_cases e6 : k = 6
  · subst e6
    cases f with
    | true =>
      have HV : Hid (Below W2.heap.size W2 W2) := Lib.hid (Below.refl _ _)
      go_wp2_with (go_at_call 31; (with_reducible refine (HITO.out _ HV.out).mono ?_); rintro e w' ⟨rfl, hb⟩; have HBE := Lib.hid hb; clear hb)
      go_ret
      exact ⟨HE.out _ (by unfold endW; rfl), HBE.out⟩
    | false =>
      have HV : Hid (Below W2.heap.size W2 W2) := Lib.hid (Below.refl _ _)
      go_wp2_with (go_at_call 31; (with_reducible refine (HITO.out _ HV.out).mono ?_); rintro e w' ⟨rfl, hb⟩; have HBE := Lib.hid hb; clear hb)
      go_ret
      exact ⟨HE.out _ (by unfold endW; rfl), HBE.out⟩
  by_cases e7 : k = 7
  · subst e7
    cases f with
    | true =>
      have HV : Hid (Below W2.heap.size W2 W2) := Lib.hid (Below.refl _ _)
      go_wp2_with (go_at_call 31; (with_reducible refine (HITO.out _ HV.out).mono ?_); rintro e w' ⟨rfl, hb⟩; have HBE := Lib.hid hb; clear hb)
      go_ret
      exact ⟨HE.out _ (by unfold endW; rfl), HBE.out⟩
    | false =>
      have HV : Hid (Below W2.heap.size W2 W2) := Lib.hid (Below.refl _ _)
      go_wp2_with (go_at_call 31; (with_reducible refine (HITO.out _ HV.out).mono ?_); rintro e w' ⟨rfl, hb⟩; have HBE := Lib.hid hb; clear hb)
      go_ret
      exact ⟨HE.out _ (by unfold endW; rfl), HBE.out⟩
  have HN : Hid (endW k c false = (⟨#[110, 111, 110, 101]⟩ : ByteArray)) := Lib.hid (by unfold endW; rw [if_neg (by decide), if_neg e1, if_neg e2, if_neg e3, if_neg e4, if_neg e5, if_neg e6, if_neg e7])
  have HV : Hid (Below W2.heap.size W2 W2) := Lib.hid (Below.refl _ _)
  have b1 : (k == 1) = false := by simpa using e1
  have b2 : (k == 2) = false := by simpa using e2
  have ho : k < 1 ∨ 7 < k := by omega
  clear e1 e2 e3 e4 e5 e6 e7
  cases f with
  | true =>
    rcases ho with ho | ho
    all_goals go_wp2_with (go_at_call 31; (with_reducible refine (HITO.out _ HV.out).mono ?_); rintro e w' ⟨rfl, hb⟩; have HBE := Lib.hid hb; clear hb)
    all_goals go_ret
    all_goals exact ⟨HE.out _ (by unfold endW; rfl), HBE.out⟩
  | false =>
    rcases ho with ho | ho
    all_goals go_wp2_with (go_at_call 31; (with_reducible refine (HITO.out _ HV.out).mono ?_); rintro e w' ⟨rfl, hb⟩; have HBE := Lib.hid hb; clear hb)
    all_goals go_ret
    all_goals exact ⟨HE.out _ HN.out, HBE.out⟩
end Go.Proofs.YtlodoilihminaaaDoor

/-
  script.EndText: how an end is told.
-/
import Derived.Test.YtlodoilihminaaaGreatDoorScrO
import Derived.Test.YtlodoilihminaaaGreatDoorTextA
namespace Go.Proofs.YtlodoilihminaaaGreatDoor
open Go.ChangeShapes Go.WideShapes Go.ChangeAt Go.RowKit
set_option linter.unusedVariables false
set_option linter.unusedSimpArgs false
def endW (k c : Int) (f : Bool) : ByteArray :=
  if f = true then (⟨#[102, 117, 101, 108]⟩ : ByteArray) else if k = 1 then (⟨#[104, 97, 108, 116, 32]⟩ : ByteArray) ++ itoaB (wrap32 c) else if k = 2 then (⟨#[116, 114, 97, 112, 32]⟩ : ByteArray) ++ itoaB (wrap32 c) else if k = 3 then (⟨#[115, 116, 97, 99, 107]⟩ : ByteArray) else if k = 4 then (⟨#[104, 101, 97, 112]⟩ : ByteArray) else if k = 5 then (⟨#[115, 116, 111, 114, 101]⟩ : ByteArray) else if k = 6 then (⟨#[109, 101, 109, 111, 114, 121]⟩ : ByteArray) else if k = 7 then (⟨#[119, 111, 114, 100]⟩ : ByteArray) else (⟨#[110, 111, 110, 101]⟩ : ByteArray)
theorem itoaB_size (n : Int) (h0 : -9223372036854775808 ≤ n) (h1 : n ≤ 9223372036854775807) : (itoaB n).size ≤ 21 := by
  have := Lib.itoa_length_le n h0 h1
  unfold itoaB
  first | (rw [S_size]; exact this) | (show (S (Lib.itoa n)).size ≤ 21; rw [S_size]; exact this)
set_option maxHeartbeats 4000000 in
theorem endWord_any (w : World) (k c st : Int) (f : Bool) (hT : Tab w) : Calls Tryz.prog 51 #[.agg #[.int .i64 k, .int .u32 c, .int .i64 st, .bool f]] w fun e w' => e = .returned (.string (endW k c f)) ∧ Below w.heap.size w w' := by
  have hw := wrap32_bd c
  have hz := itoaB_size (wrap32 c) (by omega) (by omega)
  have hq0 := heap_alloc_new w (.cells #[.int .i64 k, .int .u32 c, .int .i64 st, .bool f] 58)
  have hb0 := sbelow1 w (.cells #[.int .i64 k, .int .u32 c, .int .i64 st, .bool f] 58)
  have HD := Lib.hid (dec_any c)
  have HT := Lib.hid hT
  clear hT
  go_enter Tryz.func51, Tryz.ntmps51
  go_upto_region 1 with fail
  generalize w.alloc (.cells #[.int .i64 k, .int .u32 c, .int .i64 st, .bool f] 58) = W1 at hq0 hb0 ⊢
  have k0 : W1.cell? ⟨w.heap.size, 0, none⟩ = some (.int .i64 k) := by rw [World.cell?, hq0]; rfl
  have k1 : W1.cell? ⟨w.heap.size, 1, none⟩ = some (.int .u32 c) := by rw [World.cell?, hq0]; rfl
  have k3 : W1.cell? ⟨w.heap.size, 3, none⟩ = some (.bool f) := by rw [World.cell?, hq0]; rfl
  have HB := Lib.hid hb0
  have HDD := Lib.hid (HD.out W1 (HT.out.below hb0))
  clear hq0 hb0 HD
  generalize hit : itoaB (wrap32 c) = tx at HDD hz
  have HIT := Lib.hid hit
  clear hit
  have hE : ∀ B : ByteArray, endW k c f = B → Ending.returned (.string B) = Ending.returned (.string (endW k c f)) := fun B h => by rw [h]
  have HE := Lib.hid hE
  clear hE
  cases f with
  | true =>
    go_wp2_with fail
    go_ret
    exact ⟨HE.out _ (by unfold endW; rfl), HB.out⟩
  | false =>
    by_cases h1 : k = 1
    · subst h1
      go_wp2_with (go_at_call 70; (with_reducible refine HDD.out.mono ?_); rintro e w' ⟨rfl, hb⟩; have HB2 := Lib.hid (HB.out.trans (hb.mono HB.out.size)); clear hb)
      go_ret
      exact ⟨HE.out _ (by unfold endW; rw [HIT.out]; rfl), HB2.out⟩
    by_cases h2 : k = 2
    · subst h2
      go_wp2_with (go_at_call 70; (with_reducible refine HDD.out.mono ?_); rintro e w' ⟨rfl, hb⟩; have HB2 := Lib.hid (HB.out.trans (hb.mono HB.out.size)); clear hb)
      go_ret
      exact ⟨HE.out _ (by unfold endW; rw [HIT.out]; rfl), HB2.out⟩
    by_cases h3 : k = 3
    · subst h3
      go_wp2_with fail
      go_ret
      exact ⟨HE.out _ (by unfold endW; rfl), HB.out⟩
    by_cases h4 : k = 4
    · subst h4
      go_wp2_with fail
      go_ret
      exact ⟨HE.out _ (by unfold endW; rfl), HB.out⟩
    by_cases h5 : k = 5
    · subst h5
      go_wp2_with fail
      go_ret
      exact ⟨HE.out _ (by unfold endW; rfl), HB.out⟩
    by_cases h6 : k = 6
    · subst h6
      go_wp2_with fail
      go_ret
      exact ⟨HE.out _ (by unfold endW; rfl), HB.out⟩
    by_cases h7 : k = 7
    · subst h7
      go_wp2_with fail
      go_ret
      exact ⟨HE.out _ (by unfold endW; rfl), HB.out⟩
    have HN : Hid (endW k c false = (⟨#[110, 111, 110, 101]⟩ : ByteArray)) := Lib.hid (by unfold endW; rw [if_neg (by decide), if_neg h1, if_neg h2, if_neg h3, if_neg h4, if_neg h5, if_neg h6, if_neg h7])
    have e1 : (k == 1) = false := by simpa using h1
    have e2 : (k == 2) = false := by simpa using h2
    have e3 : (k == 3) = false := by simpa using h3
    have e4 : (k == 4) = false := by simpa using h4
    have e5 : (k == 5) = false := by simpa using h5
    have e6 : (k == 6) = false := by simpa using h6
    have e7 : (k == 7) = false := by simpa using h7
    clear h1 h2 h3 h4 h5 h6 h7
    go_wp2_with fail
    go_ret
    exact ⟨HE.out _ HN.out, HB.out⟩
theorem endW_size (k c : Int) (f : Bool) : (endW k c f).size ≤ 40 := by
  have hw := wrap32_bd c
  have hz := itoaB_size (wrap32 c) (by omega) (by omega)
  unfold endW
  repeat' split
  all_goals first
    | (rw [ByteArray.size_append]; have h5 : ∀ a b c d e : UInt8, (⟨#[a, b, c, d, e]⟩ : ByteArray).size = 5 := fun _ _ _ _ _ => rfl; rw [h5]; omega)
    | decide
set_option maxHeartbeats 4000000 in
theorem endText_any (w : World) (k c st : Int) (f : Bool) (h0 : -9223372036854775808 ≤ st) (h1 : st ≤ 9223372036854775807) (hT : Tab w) : Calls Tryz.prog 21 #[.agg #[.int .i64 k, .int .u32 c, .int .i64 st, .bool f]] w fun e w' => e = .returned (.string (endW k c f ++ ⟨#[32]⟩ ++ S (Lib.itoa st))) ∧ Below w.heap.size w w' := by
  have hq0 := heap_alloc_new w (.cells #[.int .i64 k, .int .u32 c, .int .i64 st, .bool f] 58)
  have hb0 := sbelow1 w (.cells #[.int .i64 k, .int .u32 c, .int .i64 st, .bool f] 58)
  have HW := Lib.hid fun (V : World) (hV : Below w.heap.size w V) => endWord_any V k c st f (hT.below hV)
  have HI := Lib.hid fun (V : World) (hV : Below w.heap.size w V) => Tryz.strconv_Itoa st h0 h1 V (hT.below hV)
  have se := endW_size k c f
  have si : (S (Lib.itoa st)).size ≤ 21 := by rw [S_size]; exact Lib.itoa_length_le st h0 h1
  have s1 : ¬ 9223372036854775807 < (endW k c f).size + 1 := by omega
  have s2 : ¬ 9223372036854775807 < (endW k c f).size + 1 + (S (Lib.itoa st)).size := by omega
  clear hT
  go_enter Tryz.func21, Tryz.ntmps21
  go_upto_region 1 with fail
  generalize w.alloc (.cells #[.int .i64 k, .int .u32 c, .int .i64 st, .bool f] 58) = W1 at hq0 hb0 ⊢
  have k0 : W1.cell? ⟨w.heap.size, 0, none⟩ = some (.int .i64 k) := by rw [World.cell?, hq0]; rfl
  have k1 : W1.cell? ⟨w.heap.size, 1, none⟩ = some (.int .u32 c) := by rw [World.cell?, hq0]; rfl
  have k2 : W1.cell? ⟨w.heap.size, 2, none⟩ = some (.int .i64 st) := by rw [World.cell?, hq0]; rfl
  have k3 : W1.cell? ⟨w.heap.size, 3, none⟩ = some (.bool f) := by rw [World.cell?, hq0]; rfl
  have HP : Hid (∀ v : World, Below W1.heap.size W1 v → Below w.heap.size w v ∧ v.cell? ⟨w.heap.size, 0, none⟩ = some (.int .i64 k) ∧ v.cell? ⟨w.heap.size, 1, none⟩ = some (.int .u32 c) ∧ v.cell? ⟨w.heap.size, 2, none⟩ = some (.int .i64 st) ∧ v.cell? ⟨w.heap.size, 3, none⟩ = some (.bool f)) := Lib.hid fun v hv => ⟨hb0.trans (hv.mono hb0.size), (hv.cell (World.block_lt_of_cell? _ _ k0)).trans k0, (hv.cell (World.block_lt_of_cell? _ _ k1)).trans k1, (hv.cell (World.block_lt_of_cell? _ _ k2)).trans k2, (hv.cell (World.block_lt_of_cell? _ _ k3)).trans k3⟩
  have HQ : Hid (∀ V v : World, V.heap.size > w.heap.size → (Below w.heap.size w V ∧ V.cell? ⟨w.heap.size, 0, none⟩ = some (.int .i64 k) ∧ V.cell? ⟨w.heap.size, 1, none⟩ = some (.int .u32 c) ∧ V.cell? ⟨w.heap.size, 2, none⟩ = some (.int .i64 st) ∧ V.cell? ⟨w.heap.size, 3, none⟩ = some (.bool f)) → Below V.heap.size V v → Below w.heap.size w v ∧ v.cell? ⟨w.heap.size, 0, none⟩ = some (.int .i64 k) ∧ v.cell? ⟨w.heap.size, 1, none⟩ = some (.int .u32 c) ∧ v.cell? ⟨w.heap.size, 2, none⟩ = some (.int .i64 st) ∧ v.cell? ⟨w.heap.size, 3, none⟩ = some (.bool f)) := Lib.hid fun V v hs ⟨h0, h1, h2, h3, h4⟩ hv => ⟨h0.trans (hv.mono h0.size), (hv.cell hs).trans h1, (hv.cell hs).trans h2, (hv.cell hs).trans h3, (hv.cell hs).trans h4⟩
  have HW2 : Hid (∀ V : World, (Below w.heap.size w V ∧ V.cell? ⟨w.heap.size, 0, none⟩ = some (.int .i64 k) ∧ V.cell? ⟨w.heap.size, 1, none⟩ = some (.int .u32 c) ∧ V.cell? ⟨w.heap.size, 2, none⟩ = some (.int .i64 st) ∧ V.cell? ⟨w.heap.size, 3, none⟩ = some (.bool f)) → Calls Tryz.prog 51 #[.agg #[.int .i64 k, .int .u32 c, .int .i64 st, .bool f]] V fun e v => e = .returned (.string (endW k c f)) ∧ Below w.heap.size w v ∧ v.cell? ⟨w.heap.size, 0, none⟩ = some (.int .i64 k) ∧ v.cell? ⟨w.heap.size, 1, none⟩ = some (.int .u32 c) ∧ v.cell? ⟨w.heap.size, 2, none⟩ = some (.int .i64 st) ∧ v.cell? ⟨w.heap.size, 3, none⟩ = some (.bool f)) := Lib.hid fun V hV => (HW.out V hV.1).mono fun e v ⟨he, hb⟩ => ⟨he, HQ.out V v (World.block_lt_of_cell? _ _ hV.2.1) hV hb⟩
  have HI2 : Hid (∀ V : World, (Below w.heap.size w V ∧ V.cell? ⟨w.heap.size, 0, none⟩ = some (.int .i64 k) ∧ V.cell? ⟨w.heap.size, 1, none⟩ = some (.int .u32 c) ∧ V.cell? ⟨w.heap.size, 2, none⟩ = some (.int .i64 st) ∧ V.cell? ⟨w.heap.size, 3, none⟩ = some (.bool f)) → Calls Tryz.prog 41 #[.int .i64 st] V fun e v => e = .returned (.string (S (Lib.itoa st))) ∧ Below w.heap.size w v ∧ v.cell? ⟨w.heap.size, 0, none⟩ = some (.int .i64 k) ∧ v.cell? ⟨w.heap.size, 1, none⟩ = some (.int .u32 c) ∧ v.cell? ⟨w.heap.size, 2, none⟩ = some (.int .i64 st) ∧ v.cell? ⟨w.heap.size, 3, none⟩ = some (.bool f)) := Lib.hid fun V hV => (HI.out V hV.1).mono fun e v ⟨he, kk, os, hw⟩ => ⟨he, HQ.out V v (World.block_lt_of_cell? _ _ hV.2.1) hV (by rw [hw]; exact grow_below _ _ _)⟩
  obtain ⟨d0, d1, d2, d3, d4⟩ := HP.out W1.drew ((Below.refl _ _).drew)
  go_region_held3 (fun V => Below w.heap.size w V ∧ V.cell? ⟨w.heap.size, 0, none⟩ = some (.int .i64 k) ∧ V.cell? ⟨w.heap.size, 1, none⟩ = some (.int .u32 c) ∧ V.cell? ⟨w.heap.size, 2, none⟩ = some (.int .i64 st) ∧ V.cell? ⟨w.heap.size, 3, none⟩ = some (.bool f)) (first | exact ⟨d0, d1, d2, d3, d4⟩ | exact ⟨p0, p1, p2, p3, p4⟩ | go_keep) ((first | (go_at_call 51; (with_reducible refine (HW2.out _ ⟨by assumption, by assumption, by assumption, by assumption, by assumption⟩).mono ?_); rintro e v ⟨rfl, p0, p1, p2, p3, p4⟩) | (go_at_call 41; (with_reducible refine (HI2.out _ ⟨by assumption, by assumption, by assumption, by assumption, by assumption⟩).mono ?_); rintro e v ⟨rfl, p0, p1, p2, p3, p4⟩)))
  all_goals go_wp2_with fail
  all_goals go_ret
  all_goals exact ⟨rfl, by assumption⟩
end Go.Proofs.YtlodoilihminaaaGreatDoor

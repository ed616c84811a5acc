/-
  Names and keywords: contracts of pack.MayName, pack.Keyword and of the document's own.
-/
import Derived.Test.YtjncpeecdiiclaaBase
import Derived.WalkKit
import Derived.ProofKit
import Derived.KernelRfl
namespace Go.Proofs.Ytjncpeecdiiclaa
open Go.ChangeShapes Go.WideShapes Go.ChangeAt Go.RowKit
set_option linter.unusedVariables false
set_option linter.unusedSimpArgs false
def kwL : List (List UInt8) := [[65, 82, 82, 65, 89], [66, 69, 71, 73, 78], [67, 79, 78, 83, 84], [68, 73, 86], [68, 79], [69, 76, 83, 69], [69, 76, 83, 73, 70], [69, 78, 68], [70, 65, 76, 83, 69], [73, 70], [73, 77, 80, 79, 82, 84], [73, 78], [77, 79, 68], [77, 79, 68, 85, 76, 69], [78, 73, 76], [79, 70], [79, 82], [80, 79, 73, 78, 84, 69, 82], [80, 82, 79, 67, 69, 68, 85, 82, 69], [82, 69, 67, 79, 82, 68], [82, 69, 80, 69, 65, 84], [82, 69, 84, 85, 82, 78], [84, 72, 69, 78], [84, 79], [84, 82, 85, 69], [84, 89, 80, 69], [85, 78, 84, 73, 76], [86, 65, 82], [87, 72, 73, 76, 69]]
def kw (s : ByteArray) : Bool := kwL.any fun k => s.toList == k
def letB (c : Int) : Bool := decide ((65 ≤ c ∧ c ≤ 90) ∨ (97 ≤ c ∧ c ≤ 122))
def digB (c : Int) : Bool := decide (48 ≤ c ∧ c ≤ 57)
def okB (c : UInt8) : Bool := letB (c.toNat : Int) || digB (c.toNat : Int)
theorem letter_any (c : Int) (w : World) : Calls Try.prog 20 #[.int .u8 c] w fun e w' => e = .returned (.bool (letB c)) ∧ w = w' := by
  have h : c < 65 ∨ (65 ≤ c ∧ c ≤ 90) ∨ (90 < c ∧ c < 97) ∨ (97 ≤ c ∧ c ≤ 122) ∨ 122 < c := by omega
  rcases h with h | h | h | h | h
  all_goals
    go_enter Try.func20, Try.ntmps20
    go_wp2
    go_ret
    exact ⟨ret_bool (by unfold letB; first | (rw [eq_comm, decide_eq_true_eq]; omega) | (rw [eq_comm, decide_eq_false_iff_not]; omega) | (rw [Bool.eq_iff_iff]; simp only [Bool.or_eq_true, decide_eq_true_eq]; omega)), rfl⟩
set_option maxHeartbeats 4000000 in
theorem kw_any (s : ByteArray) (w : World) : Calls Try.prog 13 #[.string s] w fun e w' => e = .returned (.bool (kw s)) ∧ w = w' := by
  go_enter Try.func13, Try.ntmps13
  go_wp2
  all_goals first | (exfalso; simp_all; done) | (go_ret; exact ⟨ret_bool (by simp only [kw, kwL, List.any_cons, List.any_nil, *, Bool.true_or, Bool.false_or, Bool.or_false]), rfl⟩)
theorem keywords_any (w : World) : Calls Try.prog 15 #[] w fun e w' => e = .returned (.slice (some ⟨w.heap.size, 0, none⟩) 29 29) ∧ w' = w.alloc (.cells (kwL.map fun k => Value.string ⟨k.toArray⟩).toArray 9) := by
  go_enter Try.func15, Try.ntmps15
  go_wp2
  go_ret
  exact ⟨rfl, rfl⟩
def kwAt (k : Nat) : List UInt8 := kwL.getD k []
def kwB (k : Nat) : ByteArray := ⟨(kwAt k).toArray⟩
theorem getD_at {k : Nat} (h : k < kwL.length) : kwL.getD k [] = kwL[k] := by simp [List.getD, List.getElem?_eq_getElem h]
theorem kwB_list (k : Nat) : (kwB k).toList = kwAt k := by rw [ByteArray.toList_eq]; rfl
theorem kw_at {s : ByteArray} {k : Nat} (hk : k < 29) (h : (s.toList == kwAt k) = true) : kw s = true := by
  refine List.any_eq_true.2 ⟨kwAt k, ?_, h⟩
  unfold kwAt
  rw [getD_at (show k < kwL.length from hk)]
  exact List.getElem_mem _
theorem kw_no {s : ByteArray} (h : ∀ j, j < 29 → (s.toList == kwAt j) = false) : kw s = false := by
  refine List.any_eq_false.2 fun x hx => ?_
  obtain ⟨i, hi, rfl⟩ := List.getElem_of_mem hx
  have := h i hi
  unfold kwAt at this
  rw [getD_at hi] at this
  simp [this]
theorem kw_cell (p : Nat) (w : World) (t : TypeId) (hb : w.heap[p]? = some (.cells (kwL.map fun k => Value.string ⟨k.toArray⟩).toArray t (0, 0))) (k : Nat) (hk : k < 29) : w.cell? ⟨p, k, none⟩ = some (.string (kwB k)) := by
  have e : w.cell? ⟨p, k, none⟩ = (kwL.map fun k => Value.string ⟨k.toArray⟩).toArray[k]? := by simp [World.cell?, hb]
  rw [e, List.getElem?_toArray, List.getElem?_map, List.getElem?_eq_getElem (show k < kwL.length from hk)]
  unfold kwB kwAt
  rw [getD_at (show k < kwL.length from hk)]
  rfl
set_option maxHeartbeats 1000000 in
theorem among_any (s : ByteArray) (p : Nat) (t : TypeId) (w : World) (hb : w.heap[p]? = some (.cells (kwL.map fun k => Value.string ⟨k.toArray⟩).toArray t (0, 0))) :
    Calls Try.prog 14 #[.string s, .slice (some ⟨p, 0, none⟩) 29 29] w fun e w' => e = .returned (.bool (kw s)) ∧ w = w' := by
  have HC := Lib.hid (kw_cell p w t hb)
  clear hb
  go_enter Try.func14, Try.ntmps14
  go_wp2
  go_loop [5] (fun i => ∃ k : Nat, k ≤ 29 ∧ i = .int .i64 k ∧ Hid (∀ j, j < k → (s.toList == kwAt j) = false)) (fun i => 29 - (intOf i).toNat)
  case atStart => exact ⟨0, by omega, rfl, Lib.hid fun j hj => by omega⟩
  case round =>
    obtain ⟨k, hk, rfl, hR⟩ := hrel
    by_cases hlt : k < 29
    · have hcell := HC.out k hlt
      have hlt1 : (k : Int) < 29 := by omega
      have HE := Lib.hid (kwB_list k)
      cases hq : ((kwB k).toList == s.toList) with
      | true =>
        have HQ := Lib.hid (kw_at (s := s) hlt (by rw [← HE.out]; rw [BEq.comm]; exact hq))
        go_wp2
        go_ret
        exact ⟨ret_bool (by rw [HQ.out]), rfl⟩
      | false =>
        have HQ := Lib.hid (show (s.toList == kwAt k) = false by rw [← HE.out]; rw [BEq.comm]; exact hq)
        go_wp2
        go_round
        case rel => exact ⟨k + 1, by omega, rfl, Lib.hid fun j hj => by
          by_cases h : j < k
          · exact hR.out j h
          · obtain rfl : j = k := by omega
            exact HQ.out⟩
        case measure => simp [intOf]; omega
    · have : k = 29 := by omega
      subst this
      go_wp2
      go_ret
      exact ⟨ret_bool (by rw [kw_no hR.out]), rfl⟩
theorem rkw_any (s : ByteArray) (w : World) : Calls Try.prog 8 #[.string s] w fun e w' => e = .returned (.bool (kw s)) ∧ Below w.heap.size w w' := by
  go_enter Try.func8, Try.ntmps8
  go_wp2_with fail
  refine (keywords_any _).mono ?_
  rintro e w' ⟨rfl, rfl⟩
  go_wp2_with fail
  refine (among_any s w.heap.size 9 _ (heap_alloc_new _ _)).mono ?_
  rintro e w' ⟨rfl, rfl⟩
  go_wp2
  go_ret
  exact ⟨rfl, (Below.refl _ _).alloc (Nat.le_refl _) _⟩
def nameB (s : ByteArray) : Bool := decide (1 ≤ s.size ∧ s.size ≤ 15) && (letB ((s.data.toList.headD 0).toNat : Int) && s.data.toList.all okB)
theorem all_succ (s : ByteArray) (k : Nat) (h : k < s.size) : (s.data.toList.take (k + 1)).all okB = ((s.data.toList.take k).all okB && okB s[k]) := by
  rw [List.take_succ_eq_append_getElem (by simpa using h), List.all_append]
  simp
  rfl
theorem all_no (s : ByteArray) (k : Nat) (h : k < s.size) (hn : okB s[k] = false) : s.data.toList.all okB = false := by
  refine List.all_eq_false.2 ⟨s[k], ?_, by simp [hn]⟩
  exact List.getElem_mem (l := s.data.toList) (by simpa using h)
theorem head_at (s : ByteArray) (h : 0 < s.size) : s.data.toList.headD 0 = s[0] := by
  have hl : 0 < s.data.toList.length := by simpa using h
  cases hs : s.data.toList with
  | nil => rw [hs] at hl; simp at hl
  | cons c l =>
    have : s.data.toList[0] = c := by simp [hs]
    rw [← this]; rfl
theorem ok_let {c : UInt8} (h : letB (c.toNat : Int) = true) : okB c = true := by unfold okB; rw [h]; rfl
theorem ok_dig {c : UInt8} (h0 : 48 ≤ (c.toNat : Int)) (h1 : (c.toNat : Int) ≤ 57) : okB c = true := by unfold okB digB; rw [decide_eq_true (And.intro h0 h1), Bool.or_true]
theorem ok_no {c : UInt8} (h : letB (c.toNat : Int) = false) (hd : (c.toNat : Int) < 48 ∨ 57 < (c.toNat : Int)) : okB c = false := by unfold okB digB; rw [h, decide_eq_false (by omega)]; rfl
set_option maxHeartbeats 2000000 in
theorem name_any (s : ByteArray) (hs : s.size ≤ maxLen) (w : World) : Calls Try.prog 12 #[.string s] w fun e w' => e = .returned (.bool (nameB s)) ∧ w = w' := by
  unfold maxLen at hs
  by_cases h1 : s.size < 1
  · have e := Lib.hid (show nameB s = false by unfold nameB; rw [decide_eq_false (by omega)]; rfl)
    go_enter Try.func12, Try.ntmps12
    go_wp2_with fail
    go_ret
    exact ⟨ret_bool e.out.symm, rfl⟩
  by_cases h2 : 15 < s.size
  · have e := Lib.hid (show nameB s = false by unfold nameB; rw [decide_eq_false (by omega)]; rfl)
    go_enter Try.func12, Try.ntmps12
    go_wp2_with fail
    go_ret
    exact ⟨ret_bool e.out.symm, rfl⟩
  have h0 : 0 < s.size := by omega
  have hh := head_at s h0
  have e := Lib.hid (show nameB s = (letB (s[0].toNat : Int) && s.data.toList.all okB) by unfold nameB; rw [decide_eq_true (by omega), hh]; rfl)
  clear hh
  cases hl : letB (s[0].toNat : Int) with
  | false =>
    rw [hl] at e
    go_enter Try.func12, Try.ntmps12
    go_wp2_with (go_at_call 20; refine (letter_any _ _).mono ?_; rintro e w' ⟨rfl, rfl⟩; rw [hl])
    go_ret
    exact ⟨ret_bool e.out.symm, rfl⟩
  | true =>
    rw [hl] at e
    go_enter Try.func12, Try.ntmps12
    go_wp2_with (go_at_call 20; refine (letter_any _ _).mono ?_; rintro e w' ⟨rfl, rfl⟩; rw [hl])
    go_loop [3, 4, 21] (fun x y i => ∃ k : Nat, k ≤ s.size ∧ i = .int .i64 k ∧ Hid ((s.data.toList.take k).all okB = true)) (fun _ _ i => s.size - (intOf i).toNat)
    case atStart => exact ⟨0, Nat.zero_le _, rfl, Lib.hid rfl⟩
    case round =>
      obtain ⟨k, hk, rfl, hR⟩ := hrel
      by_cases hlt : k < s.size
      · have HS := Lib.hid (all_succ s k hlt)
        have HN := Lib.hid (all_no s k hlt)
        cases hc : letB (s[k].toNat : Int) with
        | true =>
          have HO := Lib.hid (ok_let hc)
          go_wp2_with (go_at_call 20; refine (letter_any _ _).mono ?_; rintro e w' ⟨rfl, rfl⟩; rw [hc])
          go_round
          case rel => exact ⟨k + 1, by omega, rfl, Lib.hid (by rw [HS.out, hR.out, HO.out]; rfl)⟩
          case measure => simp [intOf]; omega
        | false =>
          have hd : (s[k].toNat : Int) < 48 ∨ 57 < (s[k].toNat : Int) ∨ (48 ≤ (s[k].toNat : Int) ∧ (s[k].toNat : Int) ≤ 57) := by omega
          rcases hd with hd | hd | hd
          · have HO := Lib.hid (ok_no hc (.inl hd))
            go_wp2_with (go_at_call 20; refine (letter_any _ _).mono ?_; rintro e w' ⟨rfl, rfl⟩; rw [hc])
            go_ret
            exact ⟨ret_bool (by rw [e.out, HN.out HO.out]; rfl), rfl⟩
          · have HO := Lib.hid (ok_no hc (.inr hd))
            go_wp2_with (go_at_call 20; refine (letter_any _ _).mono ?_; rintro e w' ⟨rfl, rfl⟩; rw [hc])
            go_ret
            exact ⟨ret_bool (by rw [e.out, HN.out HO.out]; rfl), rfl⟩
          · have HO := Lib.hid (ok_dig hd.1 hd.2)
            go_wp2_with (go_at_call 20; refine (letter_any _ _).mono ?_; rintro e w' ⟨rfl, rfl⟩; rw [hc])
            go_round
            case rel => exact ⟨k + 1, by omega, rfl, Lib.hid (by rw [HS.out, hR.out, HO.out]; rfl)⟩
            case measure => simp [intOf]; omega
      · have hk' : k = s.size := by omega
        go_wp2_with fail
        go_ret
        exact ⟨ret_bool (by rw [e.out]; have := hR.out; rw [List.take_of_length_le (by simp; omega)] at this; rw [this]; rfl), rfl⟩
set_option maxHeartbeats 4000000 in
theorem rname_any (s : ByteArray) (hs : s.size ≤ maxLen) (w : World) : Calls Try.prog 6 #[.string s] w fun e w' => e = .returned (.bool (nameB s && !kw s)) ∧ Below w.heap.size w w' := by
  unfold maxLen at hs
  by_cases h1 : s.size < 1
  · have e := Lib.hid (show nameB s = false by unfold nameB; rw [decide_eq_false (by omega)]; rfl)
    go_enter Try.func6, Try.ntmps6
    go_wp2_with fail
    go_ret
    exact ⟨ret_bool (by rw [e.out]; rfl), Below.refl _ _⟩
  by_cases h2 : 15 < s.size
  · have e := Lib.hid (show nameB s = false by unfold nameB; rw [decide_eq_false (by omega)]; rfl)
    go_enter Try.func6, Try.ntmps6
    go_wp2_with fail
    go_ret
    exact ⟨ret_bool (by rw [e.out]; rfl), Below.refl _ _⟩
  have h0 : 0 < s.size := by omega
  have hh := head_at s h0
  have e := Lib.hid (show nameB s = (letB (s[0].toNat : Int) && s.data.toList.all okB) by unfold nameB; rw [decide_eq_true (by omega), hh]; rfl)
  clear hh
  cases hkw : kw s with
  | true =>
    go_enter Try.func6, Try.ntmps6
    go_wp2_with fail
    refine (rkw_any s _).mono ?_
    rintro e w' ⟨rfl, hB⟩
    rw [hkw]
    go_wp2_with fail
    go_ret
    exact ⟨ret_bool (by simp), hB⟩
  | false =>
    go_enter Try.func6, Try.ntmps6
    go_wp2_with fail
    refine (rkw_any s _).mono ?_
    rintro e w' ⟨rfl, hB⟩
    rw [hkw]
    go_wp2_with fail
    go_loop [3, 4] (fun i y => ∃ k : Nat, k ≤ s.size ∧ i = .int .i64 k ∧ Hid ((s.data.toList.take k).all okB = true) ∧ Hid (1 ≤ k → letB (s[0].toNat : Int) = true)) (fun i _ => s.size - (intOf i).toNat)
    case atStart => exact ⟨0, Nat.zero_le _, rfl, Lib.hid rfl, Lib.hid fun h => by omega⟩
    case round =>
      obtain ⟨k, hk, rfl, hR, hL⟩ := hrel
      by_cases hlt : k < s.size
      · have HS := Lib.hid (all_succ s k hlt)
        have HN := Lib.hid (all_no s k hlt)
        have hc : (s[k].toNat : Int) < 48 ∨ (48 ≤ (s[k].toNat : Int) ∧ (s[k].toNat : Int) ≤ 57) ∨ (57 < (s[k].toNat : Int) ∧ (s[k].toNat : Int) < 65) ∨ (65 ≤ (s[k].toNat : Int) ∧ (s[k].toNat : Int) ≤ 90) ∨ (90 < (s[k].toNat : Int) ∧ (s[k].toNat : Int) < 97) ∨ (97 ≤ (s[k].toNat : Int) ∧ (s[k].toNat : Int) ≤ 122) ∨ 122 < (s[k].toNat : Int) := by omega
        by_cases hz : k = 0
        · subst hz
          have hkz : ((0 : Nat) : Int) = 0 := rfl
          by_cases hle : letB (s[0].toNat : Int) = true
          · have HO := Lib.hid (ok_let hle)
            have HL := Lib.hid hle
            have hc2 : (65 ≤ (s[0].toNat : Int) ∧ (s[0].toNat : Int) ≤ 90) ∨ (97 ≤ (s[0].toNat : Int) ∧ (s[0].toNat : Int) ≤ 122) := by unfold letB at hle; exact of_decide_eq_true hle
            clear hc hle
            rcases hc2 with hc | hc
            all_goals
              go_wp2_with fail
              go_round
              case rel => exact ⟨0 + 1, by omega, rfl, Lib.hid (by rw [HS.out, hR.out, HO.out]; rfl), Lib.hid fun _ => HL.out⟩
              case measure => simp [intOf]; omega
          · have HL := Lib.hid (show letB (s[0].toNat : Int) = false by simpa using hle)
            have hc2 : ¬ ((65 ≤ (s[0].toNat : Int) ∧ (s[0].toNat : Int) ≤ 90) ∨ (97 ≤ (s[0].toNat : Int) ∧ (s[0].toNat : Int) ≤ 122)) := by unfold letB at hle; intro h; exact hle (decide_eq_true h)
            clear hle
            have hc3 : (s[0].toNat : Int) < 65 ∨ (90 < (s[0].toNat : Int) ∧ (s[0].toNat : Int) < 97) ∨ 122 < (s[0].toNat : Int) := by omega
            clear hc hc2
            rcases hc3 with hc | hc | hc
            all_goals
              go_wp2_with fail
              all_goals first | (go_ret; exact ⟨ret_bool (by rw [e.out, HL.out]; rfl), hB⟩) | (exfalso; rename_i hx; simp at hx; omega)
        · have hkz : ((k : Int) == 0) = false := by simp; omega
          have hl0 := Lib.hid (hL.out (by omega))
          rcases hc with hc | hc | hc | hc | hc | hc | hc
          · have HO := Lib.hid (ok_no (show letB (s[k].toNat : Int) = false by unfold letB; exact decide_eq_false (by omega)) (.inl (by omega)))
            go_wp2_with fail
            all_goals first | (go_ret; exact ⟨ret_bool (by rw [e.out, HN.out HO.out, Bool.and_false]; try rfl), hB⟩) | (exfalso; rename_i hx; simp at hx; omega)
          · have HO := Lib.hid (ok_dig hc.1 hc.2)
            go_wp2_with fail
            go_round
            case rel => exact ⟨k + 1, by omega, rfl, Lib.hid (by rw [HS.out, hR.out, HO.out]; rfl), Lib.hid fun _ => hl0.out⟩
            case measure => simp [intOf]; omega
          · have HO := Lib.hid (ok_no (show letB (s[k].toNat : Int) = false by unfold letB; exact decide_eq_false (by omega)) (.inr (by omega)))
            go_wp2_with fail
            all_goals first | (go_ret; exact ⟨ret_bool (by rw [e.out, HN.out HO.out, Bool.and_false]; try rfl), hB⟩) | (exfalso; rename_i hx; simp at hx; omega)
          · have HO := Lib.hid (ok_let (show letB (s[k].toNat : Int) = true by unfold letB; exact decide_eq_true (.inl hc)))
            go_wp2_with fail
            go_round
            case rel => exact ⟨k + 1, by omega, rfl, Lib.hid (by rw [HS.out, hR.out, HO.out]; rfl), Lib.hid fun _ => hl0.out⟩
            case measure => simp [intOf]; omega
          · have HO := Lib.hid (ok_no (show letB (s[k].toNat : Int) = false by unfold letB; exact decide_eq_false (by omega)) (.inr (by omega)))
            go_wp2_with fail
            all_goals first | (go_ret; exact ⟨ret_bool (by rw [e.out, HN.out HO.out, Bool.and_false]; try rfl), hB⟩) | (exfalso; rename_i hx; simp at hx; omega)
          · have HO := Lib.hid (ok_let (show letB (s[k].toNat : Int) = true by unfold letB; exact decide_eq_true (.inr hc)))
            go_wp2_with fail
            go_round
            case rel => exact ⟨k + 1, by omega, rfl, Lib.hid (by rw [HS.out, hR.out, HO.out]; rfl), Lib.hid fun _ => hl0.out⟩
            case measure => simp [intOf]; omega
          · have HO := Lib.hid (ok_no (show letB (s[k].toNat : Int) = false by unfold letB; exact decide_eq_false (by omega)) (.inr (by omega)))
            go_wp2_with fail
            all_goals first | (go_ret; exact ⟨ret_bool (by rw [e.out, HN.out HO.out, Bool.and_false]; try rfl), hB⟩) | (exfalso; rename_i hx; simp at hx; omega)
      · have hk' : k = s.size := by omega
        have hl0 := Lib.hid (hL.out (by omega))
        have HA := hR.out
        rw [List.take_of_length_le (by simp; omega)] at HA
        have HA2 := Lib.hid HA
        clear HA
        go_wp2_with fail
        go_ret
        exact ⟨ret_bool (by rw [e.out, hl0.out, HA2.out]; rfl), hB⟩
theorem tkw_any (s : ByteArray) (w : World) : Calls Try.prog 7 #[.string s] w fun e w' => e = .returned (.bool (kw s)) ∧ w = w' := by
  go_enter Try.func7, Try.ntmps7
  go_wp2_with fail
  refine (kw_any s _).mono ?_
  rintro e w' ⟨rfl, rfl⟩
  go_wp2
  go_ret
  exact ⟨rfl, rfl⟩
theorem tname_any (s : ByteArray) (hs : s.size ≤ maxLen) (w : World) : Calls Try.prog 5 #[.string s] w fun e w' => e = .returned (.bool (nameB s && !kw s)) ∧ w = w' := by
  cases hn : nameB s with
  | false =>
    go_enter Try.func5, Try.ntmps5
    go_wp2_with fail
    refine (name_any s hs _).mono ?_
    rintro e w' ⟨rfl, rfl⟩
    rw [hn]
    go_wp2_with fail
    go_ret
    exact ⟨rfl, rfl⟩
  | true =>
    go_enter Try.func5, Try.ntmps5
    go_wp2_with fail
    refine (name_any s hs _).mono ?_
    rintro e w' ⟨rfl, rfl⟩
    rw [hn]
    go_wp2_with fail
    refine (tkw_any s _).mono ?_
    rintro e w' ⟨rfl, rfl⟩
    go_wp2_with fail
    go_ret
    exact ⟨rfl, rfl⟩
end Go.Proofs.Ytjncpeecdiiclaa

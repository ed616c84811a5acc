/-
  Modules' names, numbers, plain bytes, lists of names: contracts.
-/
import Derived.Test.YtlodoilihminaaaGreatDoorScrA
import Derived.Lib.IndexAny
namespace Go.Proofs.YtlodoilihminaaaGreatDoor
open Go.ChangeShapes Go.WideShapes Go.ChangeAt Go.RowKit
set_option linter.unusedVariables false
set_option linter.unusedSimpArgs false
theorem dotB_contains (l : List UInt8) : dotB l = l.contains 46 := by
  induction l with
  | nil => rfl
  | cons c l ih =>
    unfold dotB at ih ⊢
    rw [List.any_cons, ih, List.contains_cons]
    congr 1
    rw [Bool.eq_iff_iff]
    simp only [decide_eq_true_eq, beq_iff_eq]
    constructor
    · intro h; exact (UInt8.toNat_inj.1 (by have : (46 : UInt8).toNat = 46 := rfl; omega)).symm
    · intro h; rw [← h]; rfl
theorem dotB_index (l : List UInt8) : decide (0 ≤ Lib.indexByte l 46) = dotB l := by rw [dotB_contains, Lib.contains_iff_indexByte]
theorem smod_any (s : ByteArray) (hs : s.size ≤ maxLen) (w : World) : Calls Tryz.prog 64 #[.string s] w fun e w' => e = .returned (.bool (modB s.data.toList)) ∧ w = w' := by
  have HC := Lib.hid (Tryz.strings_Contains_one s 46 w)
  rw [dotB_index] at HC
  cases hf : fnB s.data.toList with
  | false =>
    have e := Lib.hid (show modB s.data.toList = false by unfold modB; rw [hf]; rfl)
    go_enter Tryz.func64, Tryz.ntmps64
    go_wp2_with (go_at_call 63; refine (sname_any _ hs _).mono ?_; rintro e w' ⟨rfl, rfl⟩; rw [hf])
    go_ret
    exact ⟨ret_bool e.out.symm, rfl⟩
  | true =>
    by_cases h15 : s.size ≤ 15
    · have e := Lib.hid (show modB s.data.toList = !dotB s.data.toList by unfold modB; rw [hf, slen, decide_eq_true h15]; rfl)
      obtain ⟨d, hd⟩ : ∃ d, d = dotB s.data.toList := ⟨_, rfl⟩
      rw [← hd] at HC e
      clear hd
      go_enter Tryz.func64, Tryz.ntmps64
      go_wp2_with (first
        | (go_at_call 63; (with_reducible refine (sname_any _ hs _).mono ?_); rintro e w' ⟨rfl, rfl⟩; rw [hf])
        | (go_at_call 82; (with_reducible refine HC.out.mono ?_); rintro e w' ⟨rfl, rfl⟩))
      go_ret
      exact ⟨ret_bool (by rw [e.out]), rfl⟩
    · have e := Lib.hid (show modB s.data.toList = false by unfold modB; rw [hf, slen, decide_eq_false h15]; rfl)
      go_enter Tryz.func64, Tryz.ntmps64
      go_wp2_with (go_at_call 63; refine (sname_any _ hs _).mono ?_; rintro e w' ⟨rfl, rfl⟩; rw [hf])
      go_ret
      exact ⟨ret_bool e.out.symm, rfl⟩
theorem dot_no (s : ByteArray) (h : ∀ j (h : j < s.size), ¬ (s[j].toNat : Int) = 46) : dotB s.data.toList = false := by
  unfold dotB
  rw [List.any_eq_false]
  intro c hc
  obtain ⟨j, hj, rfl⟩ := List.getElem_of_mem hc
  have := h j (by simpa using hj)
  intro e
  rw [decide_eq_true_eq] at e
  exact this e
theorem dot_yes (s : ByteArray) (j : Nat) (hj : j < s.size) (h : (s[j].toNat : Int) = 46) : dotB s.data.toList = true := by
  unfold dotB
  rw [List.any_eq_true]
  exact ⟨s[j], List.getElem_mem (l := s.data.toList) (by simpa using hj), by simpa using h⟩
theorem rmod_any (s : ByteArray) (hs : s.size ≤ maxLen) (w : World) : Calls Tryz.prog 60 #[.string s] w fun e w' => e = .returned (.bool (modB s.data.toList)) ∧ w = w' := by
  have hs' := hs
  unfold maxLen at hs
  go_enter Tryz.func60, Tryz.ntmps60
  go_wp2_with fail
  go_loop [3] (fun i => ∃ k : Nat, k ≤ s.size ∧ i = .int .i64 k ∧ Hid (∀ j (h : j < s.size), j < k → ¬ (s[j].toNat : Int) = 46)) (fun i => s.size - (intOf i).toNat)
  case atStart => exact ⟨0, Nat.zero_le _, rfl, Lib.hid fun j _ h => by omega⟩
  case round =>
    obtain ⟨k, hk, rfl, hR⟩ := hrel
    by_cases hlt : k < s.size
    · by_cases h46 : (s[k].toNat : Int) = 46
      · have e := Lib.hid (show modB s.data.toList = false by unfold modB; rw [dot_yes s k hlt h46]; simp)
        go_wp2_with fail
        go_ret
        exact ⟨ret_bool e.out.symm, rfl⟩
      · have HN : Hid (∀ j (h : j < s.size), j < k + 1 → ¬ (s[j].toNat : Int) = 46) := Lib.hid fun j hj hjk => by
          by_cases e : j = k
          · subst e; exact h46
          · exact hR.out j hj (by omega)
        go_wp2_with fail
        go_round
        case rel => exact ⟨k + 1, by omega, rfl, HN⟩
        case measure => simp [intOf]; omega
    · have hk' : k = s.size := by omega
      have e := Lib.hid (show modB s.data.toList = (fnB s.data.toList && decide (s.size ≤ 15)) by
        unfold modB
        rw [dot_no s (fun j hj => hR.out j hj (by omega)), slen]
        simp)
      cases hf : fnB s.data.toList with
      | false =>
        rw [hf] at e
        go_wp2_with (go_at_call 58; refine (rsname_any _ hs' _).mono ?_; rintro e w' ⟨rfl, rfl⟩; rw [hf])
        go_ret
        exact ⟨ret_bool (by rw [e.out]; rfl), rfl⟩
      | true =>
        rw [hf] at e
        go_wp2_with (go_at_call 58; refine (rsname_any _ hs' _).mono ?_; rintro e w' ⟨rfl, rfl⟩; rw [hf])
        go_ret
        exact ⟨ret_bool (by rw [e.out, Bool.true_and, Bool.eq_iff_iff]; simp only [decide_eq_true_eq]; omega), rfl⟩
theorem snum_any (n : Int) (w : World) : Calls Tryz.prog 66 #[.int .i64 n] w fun e w' => e = .returned (.bool (numB n)) ∧ w = w' := by
  have h : n < 0 ∨ (0 ≤ n ∧ n ≤ 1099511627776) ∨ 1099511627776 < n := by omega
  rcases h with h | h | h
  all_goals
    go_enter Tryz.func66, Tryz.ntmps66
    go_wp2
    go_ret
    exact ⟨ret_bool (by unfold numB; first | (rw [eq_comm, decide_eq_true_eq]; omega) | (rw [eq_comm, decide_eq_false_iff_not]; omega) | (rw [Bool.eq_iff_iff]; simp only [Bool.and_eq_true, decide_eq_true_eq]; omega)), rfl⟩
theorem rnum_any (n : Int) (w : World) : Calls Tryz.prog 61 #[.int .i64 n] w fun e w' => e = .returned (.bool (numB n)) ∧ w = w' := by
  have h : n < 0 ∨ (0 ≤ n ∧ n ≤ 1099511627776) ∨ 1099511627776 < n := by omega
  rcases h with h | h | h
  all_goals
    go_enter Tryz.func61, Tryz.ntmps61
    go_wp2
    go_ret
    exact ⟨ret_bool (by unfold numB; first | (rw [eq_comm, decide_eq_true_eq]; omega) | (rw [eq_comm, decide_eq_false_iff_not]; omega) | (rw [Bool.eq_iff_iff]; simp only [Bool.and_eq_true, decide_eq_true_eq]; omega)), rfl⟩
/-! ### plain bytes -/
def plB (c : Int) : Bool := decide (32 ≤ c ∧ c ≤ 126)
theorem pln_eq (b : List Int) : plnB b = (b.all plB && decide (b.length ≤ 200)) := rfl
theorem pl_succ (b : List Int) (k : Nat) (h : k < b.length) : (b.take (k + 1)).all plB = ((b.take k).all plB && plB (nth b k)) := by
  rw [take_nth b k h, List.all_append]
  simp
theorem pl_no (b : List Int) (k : Nat) (h : k < b.length) (hn : plB (nth b k) = false) : plnB b = false := by
  rw [pln_eq, show b.all plB = false from List.all_eq_false.2 ⟨nth b k, by rw [nth_eq b k h]; exact List.getElem_mem h, by simp [hn]⟩]
  rfl
theorem added_any (A : Option Addr) (n c : Nat) (b : List Int) (w : World) (hr : Rd w w.heap.size .u8 A n b) (hn : n ≤ maxLen) : Calls Tryz.prog 65 #[.slice A n c] w fun e w' => e = .returned (.bool (plnB b)) ∧ w = w' := by
  obtain ⟨hl, hcell⟩ := hr
  have HC := Lib.hid hcell
  have HL := Lib.hid hl
  unfold maxLen at hn
  clear hcell hl
  go_enter Tryz.func65, Tryz.ntmps65
  go_wp2_with fail
  go_loop [4, 7] (fun x i => ∃ k : Nat, k ≤ n ∧ i = .int .i64 k ∧ Hid ((b.take k).all plB = true)) (fun x i => n - (intOf i).toNat)
  case atStart => exact ⟨0, Nat.zero_le _, rfl, Lib.hid rfl⟩
  case round =>
    obtain ⟨k, hk, rfl, hR⟩ := hrel
    by_cases hlt : k < n
    · obtain ⟨x, rfl, hx, hcell⟩ := HC.out (by omega)
      have hc := hcell k hlt
      clear hcell
      have HS := Lib.hid (pl_succ b k (by rw [HL.out]; exact hlt))
      have HN := Lib.hid (pl_no b k (by rw [HL.out]; exact hlt))
      obtain ⟨z, hz⟩ : ∃ z, z = nth b k := ⟨_, rfl⟩
      rw [← hz] at hc HS HN
      clear hz
      have hcase : z < 32 ∨ 126 < z ∨ (32 ≤ z ∧ z ≤ 126) := by omega
      rcases hcase with h | h | h
      · have e := HN.out (by unfold plB; rw [decide_eq_false (by omega)])
        have HE := Lib.hid e
        clear e
        go_wp2_with fail
        go_ret
        exact ⟨ret_bool HE.out.symm, rfl⟩
      · have e := HN.out (by unfold plB; rw [decide_eq_false (by omega)])
        have HE := Lib.hid e
        clear e
        go_wp2_with fail
        go_ret
        exact ⟨ret_bool HE.out.symm, rfl⟩
      · have HO : Hid (plB z = true) := Lib.hid (by unfold plB; rw [decide_eq_true (by omega)])
        go_wp2_with fail
        go_round
        case rel => exact ⟨k + 1, by omega, by go_num, Lib.hid (by rw [HS.out, hR.out, HO.out]; rfl)⟩
        case measure => simp [intOf]; omega
    · have hk' : k = n := by omega
      have e := Lib.hid (show plnB b = decide (n ≤ 200) by
        have h := hR.out
        rw [List.take_of_length_le (by rw [HL.out]; omega)] at h
        rw [pln_eq, h, HL.out]; rfl)
      go_wp2_with fail
      go_ret
      exact ⟨ret_bool (by rw [e.out, Bool.eq_iff_iff]; simp only [decide_eq_true_eq]; omega), rfl⟩
theorem plain_any (A : Option Addr) (n c : Nat) (b : List Int) (w : World) (hr : Rd w w.heap.size .u8 A n b) (hn : n ≤ maxLen) : Calls Tryz.prog 59 #[.slice A n c] w fun e w' => e = .returned (.bool (plnB b)) ∧ w = w' := by
  obtain ⟨hl, hcell⟩ := hr
  have HC := Lib.hid hcell
  have HL := Lib.hid hl
  unfold maxLen at hn
  clear hcell hl
  go_enter Tryz.func59, Tryz.ntmps59
  go_wp2_with fail
  go_loop [3] (fun i => ∃ k : Nat, k ≤ n ∧ i = .int .i64 k ∧ Hid ((b.take k).all plB = true)) (fun i => n - (intOf i).toNat)
  case atStart => exact ⟨0, Nat.zero_le _, rfl, Lib.hid rfl⟩
  case round =>
    obtain ⟨k, hk, rfl, hR⟩ := hrel
    by_cases hlt : k < n
    · obtain ⟨x, rfl, hx, hcell⟩ := HC.out (by omega)
      have hc := hcell k hlt
      clear hcell
      have HS := Lib.hid (pl_succ b k (by rw [HL.out]; exact hlt))
      have HN := Lib.hid (pl_no b k (by rw [HL.out]; exact hlt))
      obtain ⟨z, hz⟩ : ∃ z, z = nth b k := ⟨_, rfl⟩
      rw [← hz] at hc HS HN
      clear hz
      have hcase : z < 32 ∨ 126 < z ∨ (32 ≤ z ∧ z ≤ 126) := by omega
      rcases hcase with h | h | h
      · have e := HN.out (by unfold plB; rw [decide_eq_false (by omega)])
        have HE := Lib.hid e
        clear e
        go_wp2_with fail
        go_ret
        exact ⟨ret_bool HE.out.symm, rfl⟩
      · have e := HN.out (by unfold plB; rw [decide_eq_false (by omega)])
        have HE := Lib.hid e
        clear e
        go_wp2_with fail
        go_ret
        exact ⟨ret_bool HE.out.symm, rfl⟩
      · have HO : Hid (plB z = true) := Lib.hid (by unfold plB; rw [decide_eq_true (by omega)])
        go_wp2_with fail
        go_round
        case rel => exact ⟨k + 1, by omega, by go_num, Lib.hid (by rw [HS.out, hR.out, HO.out]; rfl)⟩
        case measure => simp [intOf]; omega
    · have hk' : k = n := by omega
      have e := Lib.hid (show plnB b = decide (n ≤ 200) by
        have h := hR.out
        rw [List.take_of_length_le (by rw [HL.out]; omega)] at h
        rw [pln_eq, h, HL.out]; rfl)
      go_wp2_with fail
      go_ret
      exact ⟨ret_bool (by rw [e.out, Bool.eq_iff_iff]; simp only [decide_eq_true_eq]; omega), rfl⟩
/-! ### names -/
def NmRow (w : World) (B : Nat) (A : Option Addr) (n : Nat) (ls : List (List UInt8)) : Prop :=
  ls.length = n ∧ (∀ l ∈ ls, l.length ≤ maxLen) ∧ (0 < n → ∃ x, A = some x ∧ x.block < B ∧ ∀ i l, ls[i]? = some l → w.cell? (x.add i) = some (.string (S l)))
theorem NmRow.below {w w' : World} {B n : Nat} {A : Option Addr} {ls : List (List UInt8)} (h : NmRow w B A n ls) (hb : Below B w w') : NmRow w' B A n ls :=
  ⟨h.1, h.2.1, fun hn => by
    obtain ⟨x, e, hx, hc⟩ := h.2.2 hn
    exact ⟨x, e, hx, fun i l hi => (hb.cell (by rw [block_add]; exact hx)).trans (hc i l hi)⟩⟩
theorem NmRow.more {w : World} {B B' n : Nat} {A : Option Addr} {ls : List (List UInt8)} (h : NmRow w B A n ls) (hB : B ≤ B') : NmRow w B' A n ls :=
  ⟨h.1, h.2.1, fun hn => by obtain ⟨x, e, hx, hc⟩ := h.2.2 hn; exact ⟨x, e, by omega, hc⟩⟩
theorem NmRow.at {w : World} {B n : Nat} {A : Option Addr} {ls : List (List UInt8)} (h : NmRow w B A n ls) {k : Nat} (hk : k < n) : ∃ x l, A = some x ∧ x.block < B ∧ ls[k]? = some l ∧ l.length ≤ maxLen ∧ w.cell? (x.add k) = some (.string (S l)) := by
  obtain ⟨x, e, hx, hc⟩ := h.2.2 (by omega)
  have hl : k < ls.length := by rw [h.1]; exact hk
  exact ⟨x, ls[k], e, hx, List.getElem?_eq_getElem hl, h.2.1 _ (List.getElem_mem hl), hc k _ (List.getElem?_eq_getElem hl)⟩
theorem nm_succ (ls : List (List UInt8)) (k : Nat) {l : List UInt8} (h : ls[k]? = some l) : (ls.take (k + 1)).all fnB = ((ls.take k).all fnB && fnB l) := by
  obtain ⟨hk, rfl⟩ := List.getElem?_eq_some_iff.1 h
  rw [List.take_succ_eq_append_getElem hk, List.all_append]
  simp
theorem nm_no (ls : List (List UInt8)) (k : Nat) {l : List UInt8} (h : ls[k]? = some l) (hn : fnB l = false) : nmsB ls = false := by
  unfold nmsB
  rw [show ls.all fnB = false from List.all_eq_false.2 ⟨l, List.mem_of_getElem? h, by simp [hn]⟩]
  rfl
theorem Sd (l : List UInt8) : (S l).data.toList = l := rfl
theorem names_any (A : Option Addr) (n c : Nat) (ls : List (List UInt8)) (w : World) (hr : NmRow w w.heap.size A n ls) (hn : n ≤ maxLen) : Calls Tryz.prog 67 #[.slice A n c] w fun e w' => e = .returned (.bool (nmsB ls)) ∧ w = w' := by
  have HR := Lib.hid hr
  unfold maxLen at hn
  clear hr
  go_enter Tryz.func67, Tryz.ntmps67
  go_wp2_with fail
  go_loop [4, 7] (fun x i => ∃ k : Nat, k ≤ n ∧ i = .int .i64 k ∧ Hid ((ls.take k).all fnB = true)) (fun x i => n - (intOf i).toNat)
  case atStart => exact ⟨0, Nat.zero_le _, rfl, Lib.hid rfl⟩
  case round =>
    obtain ⟨k, hk, rfl, hR⟩ := hrel
    by_cases hlt : k < n
    · obtain ⟨x, l, rfl, hx, hl, hm, hc⟩ := HR.out.at hlt
      have HS := Lib.hid (nm_succ ls k hl)
      have HN := Lib.hid (nm_no ls k hl)
      have HMN := Lib.hid (sname_any (S l) (by rw [S_size]; exact hm))
      rw [Sd] at HMN
      clear hl hm
      cases hf : fnB l with
      | false =>
        have HE := Lib.hid (HN.out hf)
        rw [hf] at HMN
        go_wp2_with (go_at_call 63; (with_reducible refine (HMN.out _).mono ?_); rintro e w' ⟨rfl, rfl⟩)
        go_ret
        exact ⟨ret_bool HE.out.symm, rfl⟩
      | true =>
        have HO := Lib.hid hf
        rw [hf] at HMN
        clear hf
        go_wp2_with (go_at_call 63; (with_reducible refine (HMN.out _).mono ?_); rintro e w' ⟨rfl, rfl⟩)
        go_round
        case rel => exact ⟨k + 1, by omega, by go_num, Lib.hid (by rw [HS.out, hR.out, HO.out]; rfl)⟩
        case measure => simp [intOf]; omega
    · have hk' : k = n := by omega
      have e := Lib.hid (show nmsB ls = (decide (1 ≤ n) && decide (n ≤ 16)) by
        have h := hR.out
        rw [List.take_of_length_le (by rw [HR.out.1]; omega)] at h
        unfold nmsB
        rw [h, HR.out.1, Bool.eq_iff_iff]
        simp)
      by_cases h1 : 1 ≤ n
      · go_wp2_with fail
        go_ret
        exact ⟨ret_bool (by rw [e.out, Bool.eq_iff_iff]; simp only [Bool.and_eq_true, decide_eq_true_eq]; omega), rfl⟩
      · go_wp2_with fail
        go_ret
        exact ⟨ret_bool (by rw [e.out, decide_eq_false h1]; rfl), rfl⟩
end Go.Proofs.YtlodoilihminaaaGreatDoor

/-
  ref25.Big.
-/
import Derived.Test.YtlodoilihminaaaGreatDoorScrM
namespace Go.Proofs.YtlodoilihminaaaGreatDoor
open Go.ChangeShapes Go.WideShapes Go.ChangeAt Go.RowKit
set_option linter.unusedVariables false
set_option linter.unusedSimpArgs false
def cp (n : Nat) : Nat := min n 70001
def nmN (ls : List (List UInt8)) : Nat := (ls.map fun l => cp l.length).sum
def bigN (a : Ac) (j : Nat) : Nat := cp a.bytes.length + cp a.name.length + nmN (a.names.take j)
def bigB (a : Ac) : Bool := decide (70000 < bigN a 101) || decide (100 < a.names.length)
theorem nmN_le (ls : List (List UInt8)) : nmN ls ≤ 70001 * ls.length := by
  induction ls with
  | nil => simp [nmN]
  | cons l ls ih =>
    have e : nmN (l :: ls) = cp l.length + nmN ls := by simp [nmN]
    have h : cp l.length ≤ 70001 := Nat.min_le_right _ _
    rw [e, List.length_cons]
    omega
theorem bigN_le (a : Ac) (j : Nat) (hj : j ≤ 101) : bigN a j ≤ 8000000 := by
  have h1 : cp a.bytes.length ≤ 70001 := Nat.min_le_right _ _
  have h2 : cp a.name.length ≤ 70001 := Nat.min_le_right _ _
  have h3 := nmN_le (a.names.take j)
  have h4 : (a.names.take j).length ≤ 101 := by rw [List.length_take]; omega
  unfold bigN
  omega
theorem bigN_succ (a : Ac) (j : Nat) (l : List UInt8) (h : a.names[j]? = some l) : bigN a (j + 1) = bigN a j + cp l.length := by
  unfold bigN nmN
  rw [List.take_add_one, h]
  simp
  omega
theorem cp_int (n : Nat) : min (n : Int) 70001 = ((cp n : Nat) : Int) := by unfold cp; omega
set_option maxHeartbeats 4000000 in
set_option maxRecDepth 100000 in
theorem rbig_any (w : World) (a : Ac) (bA : Option Addr) (bn bc : Nat) (nA : Option Addr) (nn nc : Nat) (h : ActAt w a bA bn bc nA nn nc) :
    Calls Tryz.prog 19 #[.agg (actC a.kind a.name bA bn bc nA nn nc a.mem a.fuel)] w fun e w' => e = .returned (.bool (bigB a)) ∧ Below w.heap.size w w' := by
  have HA := Lib.hid h
  have hmx := h.hnn
  have hmb := h.hbn
  have hmn := h.hnm
  unfold maxLen at hmx hmb hmn
  clear h
  unfold actC at *
  have hq0 := heap_alloc_new w (.cells #[.int .i64 a.kind, .string (S a.name), .slice bA bn bc, .slice nA nn nc, .int .i64 a.mem, .int .i64 a.fuel] 27)
  have hb0 := sbelow1 w (.cells #[.int .i64 a.kind, .string (S a.name), .slice bA bn bc, .slice nA nn nc, .int .i64 a.mem, .int .i64 a.fuel] 27)
  go_enter Tryz.func19, Tryz.ntmps19
  go_upto_region 1 with fail
  generalize w.alloc (.cells #[.int .i64 a.kind, .string (S a.name), .slice bA bn bc, .slice nA nn nc, .int .i64 a.mem, .int .i64 a.fuel] 27) = W1 at hq0 hb0 ⊢
  have k1 : W1.cell? ⟨w.heap.size, 1, none⟩ = some (.string (S a.name)) := by rw [World.cell?, hq0]; rfl
  have k2 : W1.cell? ⟨w.heap.size, 2, none⟩ = some (.slice bA bn bc) := by rw [World.cell?, hq0]; rfl
  have k3 : W1.cell? ⟨w.heap.size, 3, none⟩ = some (.slice nA nn nc) := by rw [World.cell?, hq0]; rfl
  have HB := Lib.hid hb0
  have hsz : (S a.name).size = a.name.length := S_size _
  have HSZ := Lib.hid hsz
  clear hq0 hb0 hsz
  go_wp2_with fail
  have HLN : Hid (a.names.length = nn) := Lib.hid HA.out.hnr.1
  have hst : min (bn : Int) 70001 + min ((S a.name).size : Int) 70001 = ((bigN a 0 : Nat) : Int) := by
    rw [cp_int, HSZ.out, cp_int]
    unfold bigN nmN
    rw [HA.out.hbr.1]
    simp
  have HST := Lib.hid hst
  clear hst hmb hmn
  go_loop [3, 4] (fun nv iv => ∃ k N : Nat, k ≤ nn ∧ k ≤ 101 ∧ iv = .int .i64 (k : Int) ∧ nv = .int .i64 (N : Int) ∧ Hid (N = bigN a k)) (fun _ iv => 101 - (intOf iv).toNat)
  case atStart => exact ⟨0, _, Nat.zero_le _, by omega, rfl, by rw [HST.out], Lib.hid rfl⟩
  case round =>
    obtain ⟨k, N, hk, hk2, rfl, rfl, HN⟩ := hrel
    have hNl : N ≤ 8000000 := by rw [HN.out]; exact bigN_le a k hk2
    by_cases hlt : k < nn ∧ k ≤ 100
    · obtain ⟨hlt, h100⟩ := hlt
      obtain ⟨x, l, rfl, hx, hl, hm2, hc⟩ := (HA.out.below HB.out).hnr.at hlt
      have HS := Lib.hid (bigN_succ a k l hl)
      have HL := Lib.hid (S_size l)
      have hsl : (S l).size ≤ 9223372036854775807 := by rw [S_size]; unfold maxLen at hm2; omega
      clear hl hm2 hx
      generalize S l = sl at *
      go_wp2_with fail
      go_round
      case rel => exact ⟨k + 1, N + cp l.length, by omega, by omega, by go_num, by rw [cp_int, HL.out]; push_cast; rfl, Lib.hid (by rw [HS.out, HN.out])⟩
      case measure => simp [intOf]; omega
    · have HE : Hid (bigB a = (decide (70000 < N) || decide (100 < nn))) := Lib.hid (by
        unfold bigB
        rw [HLN.out]
        have e : bigN a 101 = N := by
          rw [HN.out]
          by_cases h1 : k = 101
          · rw [h1]
          · have h2 : k = nn := by omega
            unfold bigN
            rw [List.take_of_length_le (by rw [HLN.out]; omega), List.take_of_length_le (by rw [HLN.out]; omega)]
        rw [e])
      clear HN HST HLN HSZ
      have hgo : (k = nn ∧ k ≤ 101) ∨ (k < nn ∧ k = 101) := by omega
      clear hlt
      by_cases hN : 70000 < N <;> by_cases h1 : 100 < nn <;> rcases hgo with ⟨rfl, hg⟩ | ⟨hg, rfl⟩
      all_goals first
        | (exfalso; omega)
        | (go_wp2_with fail; go_ret; exact ⟨ret_bool (by rw [HE.out]; first | (rw [Bool.eq_iff_iff]; simp only [Bool.or_eq_true, decide_eq_true_eq]; omega) | (simp_all; done) | (simp_all; omega)), HB.out⟩)
end Go.Proofs.YtlodoilihminaaaGreatDoor

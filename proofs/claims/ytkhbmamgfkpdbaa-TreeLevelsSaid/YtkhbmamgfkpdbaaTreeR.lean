/-
  The document's own rank of an operator; how much of a node there is: a number, whatever.
-/
import Derived.Test.YtkhbmamgfkpdbaaTreeH
namespace Go.Proofs.Ytkhbmamgfkpdbaa
open Go.ChangeShapes Go.WideShapes Go.ChangeAt Go.RowKit
set_option linter.unusedVariables false
def lsAt (L : List (List UInt8)) (k : Nat) : List UInt8 := L.getD k []
def lsB (L : List (List UInt8)) (k : Nat) : ByteArray := ⟨(lsAt L k).toArray⟩
def inL (L : List (List UInt8)) (s : ByteArray) : Bool := L.any fun k => s.toList == k
section
variable {L : List (List UInt8)}
theorem lgetD_at {k : Nat} (h : k < L.length) : L.getD k [] = L[k] := by simp [List.getD, List.getElem?_eq_getElem h]
theorem lsB_list (L : List (List UInt8)) (k : Nat) : (lsB L k).toList = lsAt L k := by rw [ByteArray.toList_eq]; rfl
theorem in_at {s : ByteArray} {k : Nat} (hk : k < L.length) (h : (s.toList == lsAt L k) = true) : inL L s = true := by
  refine List.any_eq_true.2 ⟨lsAt L k, ?_, h⟩
  unfold lsAt
  rw [lgetD_at hk]
  exact List.getElem_mem _
theorem in_no {s : ByteArray} (h : ∀ j, j < L.length → (s.toList == lsAt L j) = false) : inL L s = false := by
  refine List.any_eq_false.2 fun x hx => ?_
  obtain ⟨i, hi, rfl⟩ := List.getElem_of_mem hx
  have := h i hi
  unfold lsAt at this
  rw [lgetD_at hi] at this
  simp [this]
theorem ls_cell (p : Nat) (w : World) (t : TypeId) (hb : w.heap[p]? = some (.cells (L.map fun k => Value.string ⟨k.toArray⟩).toArray t (0, 0))) (k : Nat) (hk : k < L.length) : w.cell? ⟨p, k, none⟩ = some (.string (lsB L k)) := by
  have e : w.cell? ⟨p, k, none⟩ = (L.map fun k => Value.string ⟨k.toArray⟩).toArray[k]? := by simp [World.cell?, hb]
  rw [e, List.getElem?_toArray, List.getElem?_map, List.getElem?_eq_getElem hk]
  unfold lsB lsAt
  rw [lgetD_at hk]
  rfl
set_option maxHeartbeats 1000000 in
theorem among_g (s : ByteArray) (p : Nat) (t : TypeId) (w : World) (n : Nat) (hn : n = L.length) (h9 : n ≤ 9) (hb : w.heap[p]? = some (.cells (L.map fun k => Value.string ⟨k.toArray⟩).toArray t (0, 0))) :
    Calls Try.prog 45 #[.string s, .slice (some ⟨p, 0, none⟩) n n] w fun e w' => e = .returned (.bool (inL L s)) ∧ w = w' := by
  have HC := Lib.hid (ls_cell p w t hb)
  have HL := Lib.hid hn
  clear hb hn
  go_enter Try.func45, Try.ntmps45
  go_wp2
  go_loop [5] (fun i => ∃ k : Nat, k ≤ n ∧ i = .int .i64 k ∧ Hid (∀ j, j < k → (s.toList == lsAt L j) = false)) (fun i => n - (intOf i).toNat)
  case atStart => exact ⟨0, by omega, rfl, Lib.hid fun j hj => by omega⟩
  case round =>
    obtain ⟨k, hk, rfl, hR⟩ := hrel
    by_cases hlt : k < n
    · have hcell := HC.out k (by rw [← HL.out]; exact hlt)
      have HE := Lib.hid (lsB_list L k)
      cases hq : ((lsB L k).toList == s.toList) with
      | true =>
        have HQ := Lib.hid (in_at (s := s) (L := L) (by rw [← HL.out]; exact hlt) (by rw [← HE.out]; rw [BEq.comm]; exact hq))
        go_wp2
        go_ret
        exact ⟨ret_bool (by rw [HQ.out]), rfl⟩
      | false =>
        have HQ := Lib.hid (show (s.toList == lsAt L k) = false by rw [← HE.out]; rw [BEq.comm]; exact hq)
        go_wp2
        go_round
        case rel => exact ⟨k + 1, by omega, rfl, Lib.hid fun j hj => by
          by_cases h : j < k
          · exact hR.out j h
          · obtain rfl : j = k := by omega
            exact HQ.out⟩
        case measure => simp [intOf]; omega
    · have : k = n := by omega
      subst this
      go_wp2
      go_ret
      exact ⟨ret_bool (by rw [in_no (by rw [← HL.out]; exact hR.out)]), rfl⟩
end
def L1 : List (List UInt8) := [[42], [47], [68, 73, 86], [77, 79, 68], [38]]
def L2 : List (List UInt8) := [[43], [45], [79, 82]]
def L3 : List (List UInt8) := [[61], [35], [60], [60, 61], [62], [62, 61], [73, 78]]
theorem rk_eq (s : ByteArray) : rk s = if inL L1 s then 1 else if inL L2 s then 2 else if inL L3 s then 3 else 0 := by
  unfold rk inL L1 L2 L3
  simp
theorem rank_any (s : ByteArray) (w : World) : Calls Try.prog 27 #[.string s] w fun e w' => e = .returned (.int .i64 (rk s)) ∧ Below w.heap.size w w' := by
  rw [rk_eq]
  cases h1 : inL L1 s with
  | true =>
    have A1 := Lib.hid (fun W => among_g (L := L1) s w.heap.size 9 W 5 rfl (by omega))
    rw [h1] at A1
    go_enter Try.func27, Try.ntmps27
    go_wp2_with fail
    refine (A1.out _ (heap_alloc_new _ _)).mono ?_
    rintro e w' ⟨rfl, rfl⟩
    go_wp2_with fail
    go_ret
    exact ⟨rfl, below1 w _⟩
  | false =>
    have A1 := Lib.hid (fun W => among_g (L := L1) s w.heap.size 9 W 5 rfl (by omega))
    rw [h1] at A1
    go_enter Try.func27, Try.ntmps27
    go_wp2_with fail
    refine (A1.out _ (heap_alloc_new _ _)).mono ?_
    rintro e w' ⟨rfl, rfl⟩
    go_wp2_with fail
    have hs1 : (w.alloc (.cells (L1.map fun k => Value.string ⟨k.toArray⟩).toArray 9)).heap.size = w.heap.size + 1 := by simp
    have bl1 := below1 w (.cells (L1.map fun k => Value.string ⟨k.toArray⟩).toArray 9)
    generalize w.alloc (.cells (L1.map fun k => Value.string ⟨k.toArray⟩).toArray 9) = W1 at *
    have A2 := Lib.hid (fun W => among_g (L := L2) s (w.heap.size + 1) 9 W 3 rfl (by omega))
    have H2 : (W1.alloc (.cells (L2.map fun k => Value.string ⟨k.toArray⟩).toArray 9)).heap[w.heap.size + 1]? = some (.cells (L2.map fun k => Value.string ⟨k.toArray⟩).toArray 9 (0, 0)) := by rw [← hs1]; exact heap_alloc_new _ _
    refine (A2.out _ H2).mono ?_
    rintro e w' ⟨rfl, rfl⟩
    have bl2 : Below w.heap.size w (W1.alloc (.cells (L2.map fun k => Value.string ⟨k.toArray⟩).toArray 9)) := bl1.alloc (by omega) _
    have hs2 : (W1.alloc (.cells (L2.map fun k => Value.string ⟨k.toArray⟩).toArray 9)).heap.size = w.heap.size + 2 := by simp [hs1]
    clear H2 A2 A1
    generalize W1.alloc (.cells (L2.map fun k => Value.string ⟨k.toArray⟩).toArray 9) = W2 at *
    cases h2 : inL L2 s with
    | true =>
      go_wp2_with fail
      go_ret
      exact ⟨rfl, bl2⟩
    | false =>
      go_wp2_with fail
      have A3 := Lib.hid (fun W => among_g (L := L3) s (w.heap.size + 2) 9 W 7 rfl (by omega))
      have H3 : (W2.alloc (.cells (L3.map fun k => Value.string ⟨k.toArray⟩).toArray 9)).heap[w.heap.size + 2]? = some (.cells (L3.map fun k => Value.string ⟨k.toArray⟩).toArray 9 (0, 0)) := by rw [← hs2]; exact heap_alloc_new _ _
      refine (A3.out _ H3).mono ?_
      rintro e w' ⟨rfl, rfl⟩
      have bl3 : Below w.heap.size w (W2.alloc (.cells (L3.map fun k => Value.string ⟨k.toArray⟩).toArray 9)) := bl2.alloc (by omega) _
      clear H3 A3
      generalize W2.alloc (.cells (L3.map fun k => Value.string ⟨k.toArray⟩).toArray 9) = W3 at *
      cases h3 : inL L3 s with
      | true =>
        go_wp2_with fail
        go_ret
        exact ⟨rfl, bl3⟩
      | false =>
        go_wp2_with fail
        go_ret
        exact ⟨rfl, bl3⟩
end Go.Proofs.Ytkhbmamgfkpdbaa

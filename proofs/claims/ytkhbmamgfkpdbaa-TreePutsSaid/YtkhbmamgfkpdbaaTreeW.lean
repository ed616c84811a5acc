/-
  tree.Size of a node, told.
-/
import Derived.Test.YtkhbmamgfkpdbaaTreeV
namespace Go.Proofs.Ytkhbmamgfkpdbaa
open Go.ChangeShapes Go.WideShapes Go.ChangeAt Go.RowKit
set_option linter.unusedVariables false
def SizeT (w : World) (t : Tr) (u : Value) : Prop := ∀ W, Below w.heap.size w W → t.count ≤ 100000 → Calls Try.prog 12 #[u] W fun e W' => e = .returned (.int .i64 t.count) ∧ Below W.heap.size W W'
theorem SizeT.call {w W : World} {t : Tr} {u : Value} (h : SizeT w t u) (hb : Below w.heap.size w W) (h1 : t.count ≤ 100000) : Calls Try.prog 12 #[u] W fun e W' => e = .returned (.int .i64 t.count) ∧ Below W.heap.size W W' := h W hb h1
section
variable {w0 : World} {k : Int} {s : ByteArray} {v : Int} {m : Bool} {a : Option Addr} {len cap : Nat} {ts : List Tr}
theorem take_count {j : Nat} (h : j < ts.length) : Tr.countL ts = Tr.countL (ts.take j) + Tr.countL (ts.drop j) := by
  induction ts generalizing j with
  | nil => simp at h
  | cons t ts ih =>
    cases j with
    | zero => simp [Tr.countL]
    | succ j =>
      simp only [List.take_succ_cons, List.drop_succ_cons, Tr.countL]
      rw [ih (by simpa using h)]
      omega
theorem take_succ_count {j : Nat} (h : j < ts.length) : Tr.countL (ts.take (j + 1)) = Tr.countL (ts.take j) + ts[j].count := by
  induction ts generalizing j with
  | nil => simp at h
  | cons t ts ih =>
    cases j with
    | zero => simp [Tr.countL]
    | succ j =>
      simp only [List.take_succ_cons, Tr.countL, List.getElem_cons_succ]
      rw [ih (by simpa using h)]
      omega
theorem take_le {j : Nat} : Tr.countL (ts.take j) ≤ Tr.countL ts := by
  induction ts generalizing j with
  | nil => simp
  | cons t ts ih =>
    cases j with
    | zero => simp [Tr.countL]
    | succ j =>
      simp only [List.take_succ_cons, Tr.countL]
      have := ih (j := j)
      omega
set_option maxHeartbeats 2000000 in
theorem sizeT_one (hl : len ≤ maxLen) (ht : ts.length = len) (hk : 0 < len → ∃ x, a = some x ∧ x.block < w0.heap.size ∧ ∀ j (h : j < ts.length), KidIs w0 x j (SizeT w0 ts[j])) : SizeT w0 (.mk k s v m ts) (nd k s v m a len cap) := by
  intro w hw hc
  have HK := Lib.hid hk
  have HO := Lib.hid (Own.start w k s v m a len cap)
  have HT := Lib.hid ht
  have HB : Hid (Tr.count (.mk k s v m ts) = 1 + Tr.countL ts) := Lib.hid (by unfold Tr.count; rfl)
  have HC := Lib.hid hc
  clear hk ht hc
  generalize Tr.count (.mk k s v m ts) = R at *
  unfold maxLen at hl
  unfold nd at *
  go_enter Try.func12, Try.ntmps12
  go_wp2
  generalize w.alloc (.cells #[.int .i64 k, .string s, .int .u32 v, .bool m, .slice a len cap] 26) = V at *
  go_loopw [3, 9] (fun q i wr => ∃ (r j : Nat), q = .int .i64 r ∧ j ≤ len ∧ i = .int .i64 j ∧ r ≤ 100000 ∧ Hid (r = 1 + Tr.countL (ts.take j)) ∧ Hid (Own w wr k s v m a len cap)) (fun _ i _ => len - (intOf i).toNat)
  case atStart => exact ⟨1, 0, rfl, Nat.zero_le _, rfl, by omega, Lib.hid (by simp [Tr.countL]), HO⟩
  case round =>
    obtain ⟨r, j, rfl, hj, rfl, r1, HE, HR⟩ := hrel
    obtain ⟨e0, e1, e2, e3, e4, hbr, hlt0⟩ := HR.out
    by_cases hlt : j < len
    · have hjt : j < ts.length := by rw [HT.out]; exact hlt
      obtain ⟨⟨b, o, x⟩, rfl, hb, hKK⟩ := HK.out (by omega)
      obtain ⟨k', s', v', m', a', l', c', hkid, hex⟩ := hKK j hjt
      have hwr := hw.trans (hbr.mono hw.size)
      obtain ⟨g0, g1, g2, g3, g4⟩ := (hkid.below hb hwr).at
      have HX := Lib.hid hex
      have HW := Lib.hid (hwr.alloc hwr.size (.cells #[.int .i64 k', .string s', .int .u32 v', .bool m', .slice a' l' c'] 26))
      have HR2 := Lib.hid (HR.out.next (below1 wr (.cells #[.int .i64 k', .string s', .int .u32 v', .bool m', .slice a' l' c'] 26)))
      have h5 := take_succ_count hjt
      have h6 := take_le (ts := ts) (j := j + 1)
      have h7 := HE.out
      have h8 := HB.out
      have h9 := HC.out
      have hcj : ts[j].count ≤ 100000 := by omega
      have hsum : r + ts[j].count ≤ 100000 := by omega
      have HE2 : Hid (r + ts[j].count = 1 + Tr.countL (ts.take (j + 1))) := Lib.hid (by omega)
      clear hkid hex hwr hKK h5 h6 h7 h8 h9
      generalize ts[j] = t at *
      unfold nd at *
      go_wp2_with (go_at_call 12; refine (SizeT.call HX.out HW.out hcj).mono ?_; rintro e w2 ⟨rfl, hb2⟩; have HN := Lib.hid (HR2.out.next hb2); clear hb2)
      exact ⟨⟨r + t.count, j + 1, by simp, by omega, by simp, hsum, HE2, HN⟩, by simp [intOf]; omega⟩
    · obtain rfl : j = len := by omega
      have HE3 : Hid (R = r) := Lib.hid (by rw [HE.out, List.take_of_length_le (by rw [HT.out]; exact Nat.le_refl _)]; exact HB.out)
      go_wp2_with fail
      go_ret
      exact ⟨ret_int (by rw [HE3.out]), hbr⟩
end
theorem sizeT_all {w0 : World} : ∀ (t : Tr) (u : Value), Reads w0 t u → SizeT w0 t u
  | .mk k s v m ts, u, h => by
    unfold Reads at h
    obtain ⟨a, len, cap, rfl, hs, _, _, ht, hl, hc, hk⟩ := h
    refine sizeT_one (by omega) ht fun h0 => ?_
    obtain ⟨x, hx, hb, hL⟩ := hk h0
    refine ⟨x, hx, hb, fun j hj => ?_⟩
    obtain ⟨k', s', v', m', a', l', c', g1, g2⟩ := readsL_get ts 0 j ts[j] hL (List.getElem?_eq_getElem hj)
    rw [Nat.zero_add] at g1
    have hd : SizeOf.sizeOf ts[j] < SizeOf.sizeOf ts := List.sizeOf_lt_of_mem (List.getElem_mem hj)
    exact ⟨k', s', v', m', a', l', c', g1, sizeT_all ts[j] _ g2⟩
  termination_by t => SizeOf.sizeOf t
  decreasing_by
    simp
    omega
end Go.Proofs.Ytkhbmamgfkpdbaa

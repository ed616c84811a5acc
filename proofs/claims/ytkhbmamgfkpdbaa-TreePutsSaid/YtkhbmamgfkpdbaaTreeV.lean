/-
  ref.Big of a node, told.
-/
import Derived.Test.YtkhbmamgfkpdbaaTreeU
namespace Go.Proofs.Ytkhbmamgfkpdbaa
open Go.ChangeShapes Go.WideShapes Go.ChangeAt Go.RowKit
set_option linter.unusedVariables false
def BigT (w : World) (t : Tr) (u : Value) : Prop := ∀ W, Below w.heap.size w W → ∀ n : Int, 0 ≤ n → n ≤ 1000000 → Calls Try.prog 25 #[u, .int .i64 n] W fun e W' => e = .returned (.int .i64 (t.big n)) ∧ Below W.heap.size W W'
theorem BigT.call {w W : World} {t : Tr} {u : Value} (h : BigT w t u) (hb : Below w.heap.size w W) (n : Int) (h0 : 0 ≤ n) (h1 : n ≤ 1000000) : Calls Try.prog 25 #[u, .int .i64 n] W fun e W' => e = .returned (.int .i64 (t.big n)) ∧ Below W.heap.size W W' := h W hb n h0 h1
section
variable {w0 : World} {k : Int} {s : ByteArray} {v : Int} {m : Bool} {a : Option Addr} {len cap : Nat} {ts : List Tr}
theorem drop_big {j : Nat} (h : j < ts.length) (r : Int) (hr : 0 ≤ r) : Tr.bigL (ts.drop j) r = Tr.bigL (ts.drop (j + 1)) (ts[j].big r) := by
  rw [List.drop_eq_getElem_cons h]
  conv => lhs; unfold Tr.bigL
  rw [if_neg (by omega)]
theorem neg_big (ts : List Tr) (r : Int) (hr : r < 0) : Tr.bigL ts r = r := by
  cases ts with
  | nil => unfold Tr.bigL; rfl
  | cons t ts => unfold Tr.bigL; rw [if_pos hr]
set_option maxHeartbeats 2000000 in
theorem bigT_one (hs : s.size ≤ maxLen) (hl : len ≤ maxLen) (ht : ts.length = len) (hk : 0 < len → ∃ x, a = some x ∧ x.block < w0.heap.size ∧ ∀ j (h : j < ts.length), KidIs w0 x j (BigT w0 ts[j])) : BigT w0 (.mk k s v m ts) (nd k s v m a len cap) := by
  intro w hw n n0 n1
  have HK := Lib.hid hk
  have HO := Lib.hid (Own.start w k s v m a len cap)
  have HT := Lib.hid ht
  have HB : Hid (Tr.big (.mk k s v m ts) n = Tr.bigL ts (n - 1 - ((min s.size 100000 : Nat) : Int) / 16)) := Lib.hid (by unfold Tr.big; rfl)
  clear hk ht
  generalize Tr.big (.mk k s v m ts) n = R at *
  unfold maxLen at hs hl
  unfold nd at *
  go_enter Try.func25, Try.ntmps25
  go_wp2
  all_goals
    generalize w.alloc (.cells #[.int .i64 k, .string s, .int .u32 v, .bool m, .slice a len cap] 26) = V at *
    go_loopw [1, 5] (fun q i wr => ∃ (r : Int) (j : Nat), q = .int .i64 r ∧ j ≤ len ∧ i = .int .i64 j ∧ -6251 ≤ r ∧ r ≤ 1000000 ∧ Hid (R = Tr.bigL (ts.drop j) r) ∧ Hid (Own w wr k s v m a len cap)) (fun _ i _ => len - (intOf i).toNat)
    case atStart => refine ⟨_, 0, rfl, Nat.zero_le _, rfl, by omega, by omega, Lib.hid ?_, HO⟩; rw [HB.out, List.drop_zero]; congr 1; omega
    case round =>
      obtain ⟨r, j, rfl, hj, rfl, r0, r1, HE, HR⟩ := hrel
      obtain ⟨e0, e1, e2, e3, e4, hbr, hlt0⟩ := HR.out
      by_cases hlt : j < len
      · by_cases hr : 0 ≤ r
        · have hjt : j < ts.length := by rw [HT.out]; exact hlt
          obtain ⟨⟨b, o, x⟩, rfl, hb, hKK⟩ := HK.out (by omega)
          obtain ⟨k', s', v', m', a', l', c', hkid, hex⟩ := hKK j hjt
          have hwr := hw.trans (hbr.mono hw.size)
          obtain ⟨g0, g1, g2, g3, g4⟩ := (hkid.below hb hwr).at
          have HX := Lib.hid hex
          have HW := Lib.hid hwr
          have h3 := big_le ts[j] r
          have h4 := big_ge ts[j] r hr
          have HE2 := Lib.hid (HE.out.trans (drop_big hjt r hr))
          clear hkid hex hwr hKK
          generalize ts[j] = t at *
          unfold nd at *
          go_wp2_with (go_at_call 25; refine (BigT.call HX.out HW.out r hr r1).mono ?_; rintro e w2 ⟨rfl, hb2⟩; have HN := Lib.hid (HR.out.next hb2); clear hb2)
          exact ⟨⟨_, j + 1, rfl, by omega, by simp, by omega, by omega, HE2, HN⟩, by simp [intOf]; omega⟩
        · have HE3 := Lib.hid (HE.out.trans (neg_big _ r (by omega)))
          go_wp2_with fail
          go_ret
          exact ⟨ret_int HE3.out.symm, hbr⟩
      · obtain rfl : j = len := by omega
        have HE3 : Hid (R = r) := Lib.hid (by rw [HE.out, List.drop_of_length_le (by rw [HT.out]; exact Nat.le_refl _)]; unfold Tr.bigL; rfl)
        go_wp2_with fail
        go_ret
        exact ⟨ret_int HE3.out.symm, hbr⟩
end
theorem bigT_all {w0 : World} : ∀ (t : Tr) (u : Value), Reads w0 t u → BigT w0 t u
  | .mk k s v m ts, u, h => by
    unfold Reads at h
    obtain ⟨a, len, cap, rfl, hs, _, _, ht, hl, hc, hk⟩ := h
    refine bigT_one hs (by omega) ht fun h0 => ?_
    obtain ⟨x, hx, hb, hL⟩ := hk h0
    refine ⟨x, hx, hb, fun j hj => ?_⟩
    obtain ⟨k', s', v', m', a', l', c', g1, g2⟩ := readsL_get ts 0 j ts[j] hL (List.getElem?_eq_getElem hj)
    rw [Nat.zero_add] at g1
    have hd : SizeOf.sizeOf ts[j] < SizeOf.sizeOf ts := List.sizeOf_lt_of_mem (List.getElem_mem hj)
    exact ⟨k', s', v', m', a', l', c', g1, bigT_all ts[j] _ g2⟩
  termination_by t => SizeOf.sizeOf t
  decreasing_by
    simp
    omega
end Go.Proofs.Ytkhbmamgfkpdbaa

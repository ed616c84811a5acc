/-
  How much of a node there is: a number, whatever.
-/
import Derived.Test.YtkhbmamgfkpdbaaTreeH
namespace Go.Proofs.Ytkhbmamgfkpdbaa
open Go.ChangeShapes Go.WideShapes Go.ChangeAt Go.RowKit
set_option linter.unusedVariables false
def BigR (w : World) (u : Value) : Prop := ∀ W, Below w.heap.size w W → ∀ n : Int, Calls Try.prog 25 #[u, .int .i64 n] W fun e W' => (∃ r, e = .returned (.int .i64 r)) ∧ Below W.heap.size W W'
theorem BigR.call {w W : World} {u : Value} (h : BigR w u) (hb : Below w.heap.size w W) (n : Int) : Calls Try.prog 25 #[u, .int .i64 n] W fun e W' => (∃ r, e = .returned (.int .i64 r)) ∧ Below W.heap.size W W' := h W hb n
section
variable {w0 : World} {k : Int} {s : ByteArray} {v : Int} {m : Bool} {a : Option Addr} {len cap : Nat}
set_option maxHeartbeats 2000000 in
theorem big_one (hs : s.size ≤ maxLen) (hl : len ≤ maxLen) (hk : 0 < len → ∃ x, a = some x ∧ Kids w0 (BigR w0) x len) : BigR w0 (nd k s v m a len cap) := by
  intro w hw n
  have HK := Lib.hid hk
  have HO := Lib.hid (Own.start w k s v m a len cap)
  clear hk
  unfold maxLen at hs hl
  unfold nd at *
  go_enter Try.func25, Try.ntmps25
  go_wp2
  all_goals
    generalize w.alloc (.cells #[.int .i64 k, .string s, .int .u32 v, .bool m, .slice a len cap] 26) = V at *
    go_loopw [1, 5] (fun q i wr => ∃ (r : Int) (j : Nat), q = .int .i64 r ∧ j ≤ len ∧ i = .int .i64 j ∧ Hid (Own w wr k s v m a len cap)) (fun _ i _ => len - (intOf i).toNat)
    case atStart => exact ⟨_, 0, rfl, Nat.zero_le _, rfl, HO⟩
    case round =>
      obtain ⟨r, j, rfl, hj, rfl, HR⟩ := hrel
      obtain ⟨e0, e1, e2, e3, e4, hbr, hlt0⟩ := HR.out
      by_cases hlt : j < len
      · obtain ⟨⟨b, o, x⟩, rfl, hb, hKK⟩ := HK.out (by omega)
        obtain ⟨k', s', v', m', a', l', c', hkid, hex⟩ := hKK j hlt
        have hwr := hw.trans (hbr.mono hw.size)
        obtain ⟨g0, g1, g2, g3, g4⟩ := (hkid.below hb hwr).at
        have HX := Lib.hid hex
        have HW := Lib.hid hwr
        clear hkid hex hwr hKK
        unfold nd at *
        go_wp2_with (go_at_call 25; refine (HX.out.call HW.out r).mono ?_; rintro e w2 ⟨⟨r2, rfl⟩, hb2⟩; have HN := Lib.hid (HR.out.next hb2); clear hb2)
        · exact ⟨⟨r2, j + 1, rfl, by omega, by simp, HN⟩, by simp [intOf]; omega⟩
        · go_ret
          exact ⟨⟨_, rfl⟩, hbr⟩
      · obtain rfl : j = len := by omega
        go_wp2_with fail
        go_ret
        exact ⟨⟨_, rfl⟩, hbr⟩
end
theorem big_all {w0 : World} : ∀ (d : Nat) (u : Value), At w0 d u → BigR w0 u
  | 0, _, h => h.elim
  | d + 1, u, h => by
    obtain ⟨k, s, v, m, a, len, cap, rfl, hs, _, _, hl, hc, hk⟩ := h
    exact big_one hs (by omega) fun h0 => by
      obtain ⟨x, hx, hK⟩ := hk h0
      exact ⟨x, hx, hK.imp (big_all d)⟩
end Go.Proofs.Ytkhbmamgfkpdbaa

/-
  mayParam; MayStmts, mayStmt.
-/
import Derived.Test.YtkhbmamgfkpdbaaTreeNC
namespace Go.Proofs.Ytkhbmamgfkpdbaa
open Go.ChangeShapes Go.WideShapes Go.ChangeAt Go.RowKit
set_option linter.unusedVariables false
section
variable {w0 : World} {k : Int} {s : ByteArray} {v : Int} {m : Bool} {a : Option Addr} {len cap : Nat} {K : Nat → Sm}
theorem prm_no (hl : len ≤ maxLen) (hp : shB k v len 9 (-1) = false) : Prm w0 (nd k s v m a len cap) false := by
  intro w hw
  have HP := Lib.hid (shaped_any k s v m a len cap 9 (-1))
  have HO := Lib.hid (Own.start w k s v m a len cap)
  unfold nd at *
  rw [hp] at HP
  clear hp
  unfold maxLen at hl
  go_enter Try.func60, Try.ntmps60
  go_wp2_with (first | (go_at_call 31; refine (HP.out _).mono ?_; rintro e w' ⟨rfl, hb2⟩; have HO := Lib.hid (HO.out.next hb2); obtain ⟨e0, e1, e2, e3, e4, -, -⟩ := HO.out; clear hb2))
  go_ret
  exact ⟨rfl, HO.out.bel⟩
theorem prm_nm (hl : len ≤ maxLen) (he : emB s = false) (hp : shB k v len 9 (-1) = true) : Prm w0 (nd k s v m a len cap) false := by
  intro w hw
  have HP := Lib.hid (shaped_any k s v m a len cap 9 (-1))
  have he' : (s.toList == []) = false := he
  have HO := Lib.hid (Own.start w k s v m a len cap)
  unfold nd at *
  rw [hp] at HP
  clear hp he
  unfold maxLen at hl
  go_enter Try.func60, Try.ntmps60
  go_wp2_with (first | (go_at_call 31; refine (HP.out _).mono ?_; rintro e w' ⟨rfl, hb2⟩; have HO := Lib.hid (HO.out.next hb2); obtain ⟨e0, e1, e2, e3, e4, -, -⟩ := HO.out; clear hb2))
  go_ret
  exact ⟨rfl, HO.out.bel⟩
theorem prm_0 (he : emB s = true) (hp : shB k v 0 9 (-1) = true) : Prm w0 (nd k s v m a 0 cap) false := by
  intro w hw
  have HP := Lib.hid (shaped_any k s v m a 0 cap 9 (-1))
  have he' : s.toList = [] := by simpa [emB] using he
  have HO := Lib.hid (Own.start w k s v m a 0 cap)
  unfold nd at *
  rw [hp] at HP
  clear hp he
  go_enter Try.func60, Try.ntmps60
  go_wp2_with (first | (go_at_call 31; refine (HP.out _).mono ?_; rintro e w' ⟨rfl, hb2⟩; have HO := Lib.hid (HO.out.next hb2); obtain ⟨e0, e1, e2, e3, e4, -, -⟩ := HO.out; clear hb2))
  go_ret
  exact ⟨rfl, HO.out.bel⟩
theorem prm_1 (he : emB s = true) (hp : shB k v 1 9 (-1) = true) : Prm w0 (nd k s v m a 1 cap) false := by
  intro w hw
  have HP := Lib.hid (shaped_any k s v m a 1 cap 9 (-1))
  have he' : s.toList = [] := by simpa [emB] using he
  have HO := Lib.hid (Own.start w k s v m a 1 cap)
  unfold nd at *
  rw [hp] at HP
  clear hp he
  go_enter Try.func60, Try.ntmps60
  go_wp2_with (first | (go_at_call 31; refine (HP.out _).mono ?_; rintro e w' ⟨rfl, hb2⟩; have HO := Lib.hid (HO.out.next hb2); obtain ⟨e0, e1, e2, e3, e4, -, -⟩ := HO.out; clear hb2))
  go_ret
  exact ⟨rfl, HO.out.bel⟩
theorem prm_a {xb xo : Nat} {xe : Option Nat} (hx : xb < w0.heap.size) {n : Nat} (hn : 0 < n) (hl : n + 1 ≤ cap) (hc : cap ≤ maxLen) {k0 : Int} {s0 : ByteArray} {v0 : Int} {m0 : Bool} {a0 : Option Addr} {l0 c0 : Nat} (hK0 : Kid w0 xb (xo + n * 5) (if n = 0 then xe else none) k0 s0 v0 m0 a0 l0 c0) (he : emB s = true) (ha : AllI w0 (.slice (some ⟨xb, xo, xe⟩) n cap) false) (hp : shB k v (n + 1) 9 (-1) = true) : Prm w0 (nd k s v m (some ⟨xb, xo, xe⟩) (n + 1) cap) false := by
  intro w hw
  have HP := Lib.hid (shaped_any k s v m (some ⟨xb, xo, xe⟩) (n + 1) cap 9 (-1))
  have he' : s.toList = [] := by simpa [emB] using he
  have HK := Lib.hid hK0
  have HA := Lib.hid ha
  have HO := Lib.hid (Own.start w k s v m (some ⟨xb, xo, xe⟩) (n + 1) cap)
  clear hK0 ha
  unfold nd at *
  rw [hp] at HP
  clear hp he
  unfold maxLen at hc
  go_enter Try.func60, Try.ntmps60
  go_wp2_with (first | (go_at_call 31; refine (HP.out _).mono ?_; rintro e w' ⟨rfl, hb2⟩; have HO := Lib.hid (HO.out.next hb2); obtain ⟨e0, e1, e2, e3, e4, -, -⟩ := HO.out; clear hb2; have hww := hw.trans (HO.out.bel.mono hw.size); obtain ⟨g0, g1, g2, g3, g4⟩ := (HK.out.below hx hww).at; clear hww) | (go_at_call 38; (with_reducible refine (AllI.call HA.out (hw.trans (HO.out.bel.mono hw.size))).mono ?_); rintro e w' ⟨rfl, hb2⟩; have HO := Lib.hid (HO.out.next hb2); obtain ⟨e0, e1, e2, e3, e4, -, -⟩ := HO.out; clear hb2; have hww := hw.trans (HO.out.bel.mono hw.size); obtain ⟨g0, g1, g2, g3, g4⟩ := (HK.out.below hx hww).at; clear hww))
  go_ret
  exact ⟨rfl, HO.out.bel⟩
theorem prm_b {xb xo : Nat} {xe : Option Nat} (hx : xb < w0.heap.size) {n : Nat} (hn : 0 < n) (hl : n + 1 ≤ cap) (hc : cap ≤ maxLen) {k0 : Int} {s0 : ByteArray} {v0 : Int} {m0 : Bool} {a0 : Option Addr} {l0 c0 : Nat} (hK0 : Kid w0 xb (xo + n * 5) (if n = 0 then xe else none) k0 s0 v0 m0 a0 l0 c0) (he : emB s = true) (ha : AllI w0 (.slice (some ⟨xb, xo, xe⟩) n cap) true) (hq : Qua w0 (nd k0 s0 v0 m0 a0 l0 c0) true) (hp : shB k v (n + 1) 9 (-1) = true) : Prm w0 (nd k s v m (some ⟨xb, xo, xe⟩) (n + 1) cap) true := by
  intro w hw
  have HP := Lib.hid (shaped_any k s v m (some ⟨xb, xo, xe⟩) (n + 1) cap 9 (-1))
  have he' : s.toList = [] := by simpa [emB] using he
  have HK := Lib.hid hK0
  have HA := Lib.hid ha
  have HQ := Lib.hid hq
  have HO := Lib.hid (Own.start w k s v m (some ⟨xb, xo, xe⟩) (n + 1) cap)
  clear hK0 ha hq
  unfold nd at *
  rw [hp] at HP
  clear hp he
  unfold maxLen at hc
  go_enter Try.func60, Try.ntmps60
  go_wp2_with (first | (go_at_call 31; refine (HP.out _).mono ?_; rintro e w' ⟨rfl, hb2⟩; have HO := Lib.hid (HO.out.next hb2); obtain ⟨e0, e1, e2, e3, e4, -, -⟩ := HO.out; clear hb2; have hww := hw.trans (HO.out.bel.mono hw.size); obtain ⟨g0, g1, g2, g3, g4⟩ := (HK.out.below hx hww).at; clear hww) | (go_at_call 38; (with_reducible refine (AllI.call HA.out (hw.trans (HO.out.bel.mono hw.size))).mono ?_); rintro e w' ⟨rfl, hb2⟩; have HO := Lib.hid (HO.out.next hb2); obtain ⟨e0, e1, e2, e3, e4, -, -⟩ := HO.out; clear hb2; have hww := hw.trans (HO.out.bel.mono hw.size); obtain ⟨g0, g1, g2, g3, g4⟩ := (HK.out.below hx hww).at; clear hww) | (go_at_call 40; (with_reducible refine (Qua.call HQ.out (hw.trans (HO.out.bel.mono hw.size))).mono ?_); rintro e w' ⟨rfl, hb2⟩; have HO := Lib.hid (HO.out.next hb2); obtain ⟨e0, e1, e2, e3, e4, -, -⟩ := HO.out; clear hb2; have hww := hw.trans (HO.out.bel.mono hw.size); obtain ⟨g0, g1, g2, g3, g4⟩ := (HK.out.below hx hww).at; clear hww))
  go_ret
  exact ⟨rfl, HO.out.bel⟩
theorem prm_c {xb xo : Nat} {xe : Option Nat} (hx : xb < w0.heap.size) {n : Nat} (hn : 0 < n) (hl : n + 1 ≤ cap) (hc : cap ≤ maxLen) {k0 : Int} {s0 : ByteArray} {v0 : Int} {m0 : Bool} {a0 : Option Addr} {l0 c0 : Nat} (hK0 : Kid w0 xb (xo + n * 5) (if n = 0 then xe else none) k0 s0 v0 m0 a0 l0 c0) (he : emB s = true) (ha : AllI w0 (.slice (some ⟨xb, xo, xe⟩) n cap) true) (hq : Qua w0 (nd k0 s0 v0 m0 a0 l0 c0) false) (hb : baB k0 s0 v0 m0 l0 13 1 = false) (hp : shB k v (n + 1) 9 (-1) = true) : Prm w0 (nd k s v m (some ⟨xb, xo, xe⟩) (n + 1) cap) false := by
  intro w hw
  have HP := Lib.hid (shaped_any k s v m (some ⟨xb, xo, xe⟩) (n + 1) cap 9 (-1))
  have he' : s.toList = [] := by simpa [emB] using he
  have HK := Lib.hid hK0
  have HA := Lib.hid ha
  have HQ := Lib.hid hq
  have HB0 := Lib.hid (bare_any k0 s0 v0 m0 a0 l0 c0 13 1)
  have HO := Lib.hid (Own.start w k s v m (some ⟨xb, xo, xe⟩) (n + 1) cap)
  clear hK0 ha hq
  unfold nd at *
  rw [hb] at HB0
  clear hb
  rw [hp] at HP
  clear hp he
  unfold maxLen at hc
  go_enter Try.func60, Try.ntmps60
  go_wp2_with (first | (go_at_call 31; refine (HP.out _).mono ?_; rintro e w' ⟨rfl, hb2⟩; have HO := Lib.hid (HO.out.next hb2); obtain ⟨e0, e1, e2, e3, e4, -, -⟩ := HO.out; clear hb2; have hww := hw.trans (HO.out.bel.mono hw.size); obtain ⟨g0, g1, g2, g3, g4⟩ := (HK.out.below hx hww).at; clear hww) | (go_at_call 38; (with_reducible refine (AllI.call HA.out (hw.trans (HO.out.bel.mono hw.size))).mono ?_); rintro e w' ⟨rfl, hb2⟩; have HO := Lib.hid (HO.out.next hb2); obtain ⟨e0, e1, e2, e3, e4, -, -⟩ := HO.out; clear hb2; have hww := hw.trans (HO.out.bel.mono hw.size); obtain ⟨g0, g1, g2, g3, g4⟩ := (HK.out.below hx hww).at; clear hww) | (go_at_call 40; (with_reducible refine (Qua.call HQ.out (hw.trans (HO.out.bel.mono hw.size))).mono ?_); rintro e w' ⟨rfl, hb2⟩; have HO := Lib.hid (HO.out.next hb2); obtain ⟨e0, e1, e2, e3, e4, -, -⟩ := HO.out; clear hb2; have hww := hw.trans (HO.out.bel.mono hw.size); obtain ⟨g0, g1, g2, g3, g4⟩ := (HK.out.below hx hww).at; clear hww) | (go_at_call 37; refine (HB0.out _).mono ?_; rintro e w' ⟨rfl, hb2⟩; have HO := Lib.hid (HO.out.next hb2); obtain ⟨e0, e1, e2, e3, e4, -, -⟩ := HO.out; clear hb2; have hww := hw.trans (HO.out.bel.mono hw.size); obtain ⟨g0, g1, g2, g3, g4⟩ := (HK.out.below hx hww).at; clear hww))
  go_ret
  exact ⟨rfl, HO.out.bel⟩
theorem prm_d {xb xo : Nat} {xe : Option Nat} (hx : xb < w0.heap.size) {n : Nat} (hn : 0 < n) (hl : n + 1 ≤ cap) (hc : cap ≤ maxLen) {k0 : Int} {s0 : ByteArray} {v0 : Int} {m0 : Bool} {c0 : Nat} {yb yo : Nat} {ye : Option Nat} (hK0 : Kid w0 xb (xo + n * 5) (if n = 0 then xe else none) k0 s0 v0 m0 (some ⟨yb, yo, ye⟩) 1 c0) (hy : yb < w0.heap.size) {k1 : Int} {s1 : ByteArray} {v1 : Int} {m1 : Bool} {a1 : Option Addr} {l1 c1 : Nat} (hK1 : Kid w0 yb yo ye k1 s1 v1 m1 a1 l1 c1) (he : emB s = true) (ha : AllI w0 (.slice (some ⟨xb, xo, xe⟩) n cap) true) (hq : Qua w0 (nd k0 s0 v0 m0 (some ⟨yb, yo, ye⟩) 1 c0) false) (hb : baB k0 s0 v0 m0 1 13 1 = true) {z : Bool} (hz : Qua w0 (nd k1 s1 v1 m1 a1 l1 c1) z) (hp : shB k v (n + 1) 9 (-1) = true) : Prm w0 (nd k s v m (some ⟨xb, xo, xe⟩) (n + 1) cap) z := by
  intro w hw
  have HP := Lib.hid (shaped_any k s v m (some ⟨xb, xo, xe⟩) (n + 1) cap 9 (-1))
  have he' : s.toList = [] := by simpa [emB] using he
  have HK := Lib.hid hK0
  have HA := Lib.hid ha
  have HG := Lib.hid hK1
  have HQ := Lib.hid hq
  have HZ := Lib.hid hz
  have HB0 := Lib.hid (bare_any k0 s0 v0 m0 (some ⟨yb, yo, ye⟩) 1 c0 13 1)
  have HO := Lib.hid (Own.start w k s v m (some ⟨xb, xo, xe⟩) (n + 1) cap)
  clear hK0 hK1 ha hq hz
  unfold nd at *
  rw [hb] at HB0
  clear hb
  rw [hp] at HP
  clear hp he
  unfold maxLen at hc
  cases z
  all_goals
    go_enter Try.func60, Try.ntmps60
    go_wp2_with (first | (go_at_call 31; refine (HP.out _).mono ?_; rintro e w' ⟨rfl, hb2⟩; have HO := Lib.hid (HO.out.next hb2); obtain ⟨e0, e1, e2, e3, e4, -, -⟩ := HO.out; clear hb2; have hww := hw.trans (HO.out.bel.mono hw.size); obtain ⟨g0, g1, g2, g3, g4⟩ := (HK.out.below hx hww).at; obtain ⟨i0, i1, i2, i3, i4⟩ := (HG.out.below hy hww); clear hww) | (go_at_call 38; (with_reducible refine (AllI.call HA.out (hw.trans (HO.out.bel.mono hw.size))).mono ?_); rintro e w' ⟨rfl, hb2⟩; have HO := Lib.hid (HO.out.next hb2); obtain ⟨e0, e1, e2, e3, e4, -, -⟩ := HO.out; clear hb2; have hww := hw.trans (HO.out.bel.mono hw.size); obtain ⟨g0, g1, g2, g3, g4⟩ := (HK.out.below hx hww).at; obtain ⟨i0, i1, i2, i3, i4⟩ := (HG.out.below hy hww); clear hww) | (go_at_call 40; (first | (with_reducible refine (Qua.call HQ.out (hw.trans (HO.out.bel.mono hw.size))).mono ?_) | (with_reducible refine (Qua.call HZ.out (hw.trans (HO.out.bel.mono hw.size))).mono ?_)); rintro e w' ⟨rfl, hb2⟩; have HO := Lib.hid (HO.out.next hb2); obtain ⟨e0, e1, e2, e3, e4, -, -⟩ := HO.out; clear hb2; have hww := hw.trans (HO.out.bel.mono hw.size); obtain ⟨g0, g1, g2, g3, g4⟩ := (HK.out.below hx hww).at; obtain ⟨i0, i1, i2, i3, i4⟩ := (HG.out.below hy hww); clear hww) | (go_at_call 37; refine (HB0.out _).mono ?_; rintro e w' ⟨rfl, hb2⟩; have HO := Lib.hid (HO.out.next hb2); obtain ⟨e0, e1, e2, e3, e4, -, -⟩ := HO.out; clear hb2; have hww := hw.trans (HO.out.bel.mono hw.size); obtain ⟨g0, g1, g2, g3, g4⟩ := (HK.out.below hx hww).at; obtain ⟨i0, i1, i2, i3, i4⟩ := (HG.out.below hy hww); clear hww))
  all_goals
    go_ret
    exact ⟨ret_bool (by rfl), HO.out.bel⟩
theorem prm_row (hs : s.size ≤ maxLen) (hl : len ≤ cap) (hc : cap ≤ maxLen) (hk : RowK w0 a len K) : Prm w0 (nd k s v m a len cap) (prmF k s v len K) := by
  unfold prmF
  cases hp : shB k v len 9 (-1) with
  | false => exact prm_no (by omega) hp
  | true =>
    rw [Bool.true_and]
    cases he : emB s with
    | false => exact prm_nm (by omega) he hp
    | true =>
      rw [Bool.true_and]
      cases len with
      | zero => exact prm_0 he hp
      | succ n =>
        by_cases hn : n = 0
        · subst hn; exact prm_1 he hp
        · obtain ⟨b, o, e, rfl, -⟩ := hk (by omega)
          obtain ⟨hb, k', s', v', m', a', l', c', hkid, h⟩ := hk.last
          rw [decide_eq_true (show 1 < n + 1 by omega), Bool.true_and, Nat.add_sub_cancel]
          have ha := allI_row (cap := cap) (by omega) (hk.less (Nat.le_succ n))
          cases hA : upto n fun j => (K j).idt with
          | false => rw [hA] at ha; exact prm_a hb (by omega) hl hc hkid he ha hp
          | true =>
            rw [hA] at ha
            have hq := h.qual
            cases hQ : (K n).qual with
            | true => rw [hQ] at hq; exact prm_b hb (by omega) hl hc hkid he ha hq hp
            | false =>
              rw [hQ] at hq
              cases hb2 : baB k' s' v' m' l' 13 1 with
              | false => rw [h.opn0 hb2]; exact prm_c hb (by omega) hl hc hkid he ha hq hb2 hp
              | true =>
                obtain ⟨b2, o2, e2, k2, s2, v2, m2, a2, l2, c2, rfl, rfl, hb3, hkid2, hz⟩ := h.opn1 hb2
                exact prm_d hb (by omega) hl hc hkid hb3 hkid2 he ha hq hb2 hz hp
theorem sms_no (hp : baB k s v m len 19 (-1) = false) : Sms w0 (nd k s v m a len cap) false := by
  intro w hw
  have HP := Lib.hid (bare_any k s v m a len cap 19 (-1))
  have HO := Lib.hid (Own.start w k s v m a len cap)
  unfold nd at *
  rw [hp] at HP
  clear hp
  go_enter Try.func22, Try.ntmps22
  go_wp2_with (first | (go_at_call 37; refine (HP.out _).mono ?_; rintro e w' ⟨rfl, hb2⟩; have HO := Lib.hid (HO.out.next hb2); obtain ⟨e0, e1, e2, e3, e4, -, -⟩ := HO.out; clear hb2))
  go_ret
  exact ⟨rfl, HO.out.bel⟩
theorem sms_yes {q : Bool} (ha : AllS w0 (.slice a len cap) q) (hp : baB k s v m len 19 (-1) = true) : Sms w0 (nd k s v m a len cap) q := by
  intro w hw
  have HP := Lib.hid (bare_any k s v m a len cap 19 (-1))
  have HA := Lib.hid ha
  have HO := Lib.hid (Own.start w k s v m a len cap)
  clear ha
  unfold nd at *
  rw [hp] at HP
  clear hp
  cases q
  all_goals
    go_enter Try.func22, Try.ntmps22
    go_wp2_with (first | (go_at_call 37; refine (HP.out _).mono ?_; rintro e w' ⟨rfl, hb2⟩; have HO := Lib.hid (HO.out.next hb2); obtain ⟨e0, e1, e2, e3, e4, -, -⟩ := HO.out; clear hb2) | (go_at_call 38; (with_reducible refine (AllS.call HA.out (hw.trans (HO.out.bel.mono hw.size))).mono ?_); rintro e w' ⟨rfl, hb2⟩; have HO := Lib.hid (HO.out.next hb2); obtain ⟨e0, e1, e2, e3, e4, -, -⟩ := HO.out; clear hb2))
  all_goals
    go_ret
    exact ⟨ret_bool (by rfl), HO.out.bel⟩
theorem sms_row (hl : len ≤ maxLen) (hk : RowK w0 a len K) : Sms w0 (nd k s v m a len cap) (smsF k s v m len K) := by
  unfold smsF
  cases hp : baB k s v m len 19 (-1) with
  | false => exact sms_no hp
  | true => rw [Bool.true_and]; exact sms_yes (allS_row hl hk) hp
theorem stm20_no (hp : baB 20 s v m len 20 2 = false) : Stm w0 (nd 20 s v m a len cap) false := by
  intro w hw
  have HP := Lib.hid (bare_any 20 s v m a len cap 20 2)
  have HO := Lib.hid (Own.start w 20 s v m a len cap)
  unfold nd at *
  rw [hp] at HP
  clear hp
  go_enter Try.func39, Try.ntmps39
  go_wp2_with (first | (go_at_call 37; refine (HP.out _).mono ?_; rintro e w' ⟨rfl, hb2⟩; have HO := Lib.hid (HO.out.next hb2); obtain ⟨e0, e1, e2, e3, e4, -, -⟩ := HO.out; clear hb2))
  go_ret
  exact ⟨rfl, HO.out.bel⟩
theorem stm20_yes {xb xo : Nat} {xe : Option Nat} (hx : xb < w0.heap.size) {k0 : Int} {s0 : ByteArray} {v0 : Int} {m0 : Bool} {a0 : Option Addr} {l0 c0 : Nat} (hK0 : Kid w0 xb xo xe k0 s0 v0 m0 a0 l0 c0) {k1 : Int} {s1 : ByteArray} {v1 : Int} {m1 : Bool} {a1 : Option Addr} {l1 c1 : Nat} (hK1 : Kid w0 xb (xo + 5) none k1 s1 v1 m1 a1 l1 c1) {r q : Bool} (h0 : Desig w0 (nd k0 s0 v0 m0 a0 l0 c0) r) (h1 : Ex w0 (nd k1 s1 v1 m1 a1 l1 c1) q) (hp : baB 20 s v m 2 20 2 = true) : Stm w0 (nd 20 s v m (some ⟨xb, xo, xe⟩) 2 cap) (r && q) := by
  intro w hw
  have HP := Lib.hid (bare_any 20 s v m (some ⟨xb, xo, xe⟩) 2 cap 20 2)
  have HK0 := Lib.hid hK0
  have HK1 := Lib.hid hK1
  have HD0 := Lib.hid h0
  have HD1 := Lib.hid h1
  have HO := Lib.hid (Own.start w 20 s v m (some ⟨xb, xo, xe⟩) 2 cap)
  clear hK0 h0 hK1 h1
  unfold nd at *
  rw [hp] at HP
  clear hp
  cases r <;> cases q
  all_goals
    go_enter Try.func39, Try.ntmps39
    go_wp2_with (first | (go_at_call 37; refine (HP.out _).mono ?_; rintro e w' ⟨rfl, hb2⟩; have HO := Lib.hid (HO.out.next hb2); obtain ⟨e0, e1, e2, e3, e4, -, -⟩ := HO.out; clear hb2; have hww := hw.trans (HO.out.bel.mono hw.size); obtain ⟨g0, g1, g2, g3, g4⟩ := (HK0.out.below hx hww); obtain ⟨j0, j1, j2, j3, j4⟩ := (HK1.out.below hx hww); clear hww) | (go_at_call 51; (with_reducible refine (Desig.call HD0.out (hw.trans (HO.out.bel.mono hw.size))).mono ?_); rintro e w' ⟨rfl, hb2⟩; have HO := Lib.hid (HO.out.next hb2); obtain ⟨e0, e1, e2, e3, e4, -, -⟩ := HO.out; clear hb2; have hww := hw.trans (HO.out.bel.mono hw.size); obtain ⟨g0, g1, g2, g3, g4⟩ := (HK0.out.below hx hww); obtain ⟨j0, j1, j2, j3, j4⟩ := (HK1.out.below hx hww); clear hww) | (go_at_call 21; (with_reducible refine (Ex.call HD1.out (hw.trans (HO.out.bel.mono hw.size))).mono ?_); rintro e w' ⟨rfl, hb2⟩; have HO := Lib.hid (HO.out.next hb2); obtain ⟨e0, e1, e2, e3, e4, -, -⟩ := HO.out; clear hb2; have hww := hw.trans (HO.out.bel.mono hw.size); obtain ⟨g0, g1, g2, g3, g4⟩ := (HK0.out.below hx hww); obtain ⟨j0, j1, j2, j3, j4⟩ := (HK1.out.below hx hww); clear hww))
  all_goals
    go_ret
    exact ⟨ret_bool (by rfl), HO.out.bel⟩
theorem stm21 {r : Bool} (h : CallR w0 (nd 21 s v m a len cap) r) : Stm w0 (nd 21 s v m a len cap) r := by
  intro w hw
  have HD := Lib.hid h
  have HO := Lib.hid (Own.start w 21 s v m a len cap)
  clear h
  unfold nd at *
  go_enter Try.func39, Try.ntmps39
  go_wp2_with (first | (go_at_call 52; (with_reducible refine (CallR.call HD.out (hw.trans (HO.out.bel.mono hw.size))).mono ?_); rintro e w' ⟨rfl, hb2⟩; have HO := Lib.hid (HO.out.next hb2); obtain ⟨e0, e1, e2, e3, e4, -, -⟩ := HO.out; clear hb2))
  go_ret
  exact ⟨rfl, HO.out.bel⟩
theorem stm23_no (hp : baB 23 s v m len 23 2 = false) : Stm w0 (nd 23 s v m a len cap) false := by
  intro w hw
  have HP := Lib.hid (bare_any 23 s v m a len cap 23 2)
  have HO := Lib.hid (Own.start w 23 s v m a len cap)
  unfold nd at *
  rw [hp] at HP
  clear hp
  go_enter Try.func39, Try.ntmps39
  go_wp2_with (first | (go_at_call 37; refine (HP.out _).mono ?_; rintro e w' ⟨rfl, hb2⟩; have HO := Lib.hid (HO.out.next hb2); obtain ⟨e0, e1, e2, e3, e4, -, -⟩ := HO.out; clear hb2))
  go_ret
  exact ⟨rfl, HO.out.bel⟩
theorem stm23_yes {xb xo : Nat} {xe : Option Nat} (hx : xb < w0.heap.size) {k0 : Int} {s0 : ByteArray} {v0 : Int} {m0 : Bool} {a0 : Option Addr} {l0 c0 : Nat} (hK0 : Kid w0 xb xo xe k0 s0 v0 m0 a0 l0 c0) {k1 : Int} {s1 : ByteArray} {v1 : Int} {m1 : Bool} {a1 : Option Addr} {l1 c1 : Nat} (hK1 : Kid w0 xb (xo + 5) none k1 s1 v1 m1 a1 l1 c1) {r q : Bool} (h0 : Ex w0 (nd k0 s0 v0 m0 a0 l0 c0) r) (h1 : Sms w0 (nd k1 s1 v1 m1 a1 l1 c1) q) (hp : baB 23 s v m 2 23 2 = true) : Stm w0 (nd 23 s v m (some ⟨xb, xo, xe⟩) 2 cap) (r && q) := by
  intro w hw
  have HP := Lib.hid (bare_any 23 s v m (some ⟨xb, xo, xe⟩) 2 cap 23 2)
  have HK0 := Lib.hid hK0
  have HK1 := Lib.hid hK1
  have HD0 := Lib.hid h0
  have HD1 := Lib.hid h1
  have HO := Lib.hid (Own.start w 23 s v m (some ⟨xb, xo, xe⟩) 2 cap)
  clear hK0 h0 hK1 h1
  unfold nd at *
  rw [hp] at HP
  clear hp
  cases r <;> cases q
  all_goals
    go_enter Try.func39, Try.ntmps39
    go_wp2_with (first | (go_at_call 37; refine (HP.out _).mono ?_; rintro e w' ⟨rfl, hb2⟩; have HO := Lib.hid (HO.out.next hb2); obtain ⟨e0, e1, e2, e3, e4, -, -⟩ := HO.out; clear hb2; have hww := hw.trans (HO.out.bel.mono hw.size); obtain ⟨g0, g1, g2, g3, g4⟩ := (HK0.out.below hx hww); obtain ⟨j0, j1, j2, j3, j4⟩ := (HK1.out.below hx hww); clear hww) | (go_at_call 21; (with_reducible refine (Ex.call HD0.out (hw.trans (HO.out.bel.mono hw.size))).mono ?_); rintro e w' ⟨rfl, hb2⟩; have HO := Lib.hid (HO.out.next hb2); obtain ⟨e0, e1, e2, e3, e4, -, -⟩ := HO.out; clear hb2; have hww := hw.trans (HO.out.bel.mono hw.size); obtain ⟨g0, g1, g2, g3, g4⟩ := (HK0.out.below hx hww); obtain ⟨j0, j1, j2, j3, j4⟩ := (HK1.out.below hx hww); clear hww) | (go_at_call 22; (with_reducible refine (Sms.call HD1.out (hw.trans (HO.out.bel.mono hw.size))).mono ?_); rintro e w' ⟨rfl, hb2⟩; have HO := Lib.hid (HO.out.next hb2); obtain ⟨e0, e1, e2, e3, e4, -, -⟩ := HO.out; clear hb2; have hww := hw.trans (HO.out.bel.mono hw.size); obtain ⟨g0, g1, g2, g3, g4⟩ := (HK0.out.below hx hww); obtain ⟨j0, j1, j2, j3, j4⟩ := (HK1.out.below hx hww); clear hww))
  all_goals
    go_ret
    exact ⟨ret_bool (by rfl), HO.out.bel⟩
theorem stm24_no (hp : baB 24 s v m len 24 2 = false) : Stm w0 (nd 24 s v m a len cap) false := by
  intro w hw
  have HP := Lib.hid (bare_any 24 s v m a len cap 24 2)
  have HO := Lib.hid (Own.start w 24 s v m a len cap)
  unfold nd at *
  rw [hp] at HP
  clear hp
  go_enter Try.func39, Try.ntmps39
  go_wp2_with (first | (go_at_call 37; refine (HP.out _).mono ?_; rintro e w' ⟨rfl, hb2⟩; have HO := Lib.hid (HO.out.next hb2); obtain ⟨e0, e1, e2, e3, e4, -, -⟩ := HO.out; clear hb2))
  go_ret
  exact ⟨rfl, HO.out.bel⟩
theorem stm24_yes {xb xo : Nat} {xe : Option Nat} (hx : xb < w0.heap.size) {k0 : Int} {s0 : ByteArray} {v0 : Int} {m0 : Bool} {a0 : Option Addr} {l0 c0 : Nat} (hK0 : Kid w0 xb xo xe k0 s0 v0 m0 a0 l0 c0) {k1 : Int} {s1 : ByteArray} {v1 : Int} {m1 : Bool} {a1 : Option Addr} {l1 c1 : Nat} (hK1 : Kid w0 xb (xo + 5) none k1 s1 v1 m1 a1 l1 c1) {r q : Bool} (h0 : Sms w0 (nd k0 s0 v0 m0 a0 l0 c0) r) (h1 : Ex w0 (nd k1 s1 v1 m1 a1 l1 c1) q) (hp : baB 24 s v m 2 24 2 = true) : Stm w0 (nd 24 s v m (some ⟨xb, xo, xe⟩) 2 cap) (r && q) := by
  intro w hw
  have HP := Lib.hid (bare_any 24 s v m (some ⟨xb, xo, xe⟩) 2 cap 24 2)
  have HK0 := Lib.hid hK0
  have HK1 := Lib.hid hK1
  have HD0 := Lib.hid h0
  have HD1 := Lib.hid h1
  have HO := Lib.hid (Own.start w 24 s v m (some ⟨xb, xo, xe⟩) 2 cap)
  clear hK0 h0 hK1 h1
  unfold nd at *
  rw [hp] at HP
  clear hp
  cases r <;> cases q
  all_goals
    go_enter Try.func39, Try.ntmps39
    go_wp2_with (first | (go_at_call 37; refine (HP.out _).mono ?_; rintro e w' ⟨rfl, hb2⟩; have HO := Lib.hid (HO.out.next hb2); obtain ⟨e0, e1, e2, e3, e4, -, -⟩ := HO.out; clear hb2; have hww := hw.trans (HO.out.bel.mono hw.size); obtain ⟨g0, g1, g2, g3, g4⟩ := (HK0.out.below hx hww); obtain ⟨j0, j1, j2, j3, j4⟩ := (HK1.out.below hx hww); clear hww) | (go_at_call 22; (with_reducible refine (Sms.call HD0.out (hw.trans (HO.out.bel.mono hw.size))).mono ?_); rintro e w' ⟨rfl, hb2⟩; have HO := Lib.hid (HO.out.next hb2); obtain ⟨e0, e1, e2, e3, e4, -, -⟩ := HO.out; clear hb2; have hww := hw.trans (HO.out.bel.mono hw.size); obtain ⟨g0, g1, g2, g3, g4⟩ := (HK0.out.below hx hww); obtain ⟨j0, j1, j2, j3, j4⟩ := (HK1.out.below hx hww); clear hww) | (go_at_call 21; (with_reducible refine (Ex.call HD1.out (hw.trans (HO.out.bel.mono hw.size))).mono ?_); rintro e w' ⟨rfl, hb2⟩; have HO := Lib.hid (HO.out.next hb2); obtain ⟨e0, e1, e2, e3, e4, -, -⟩ := HO.out; clear hb2; have hww := hw.trans (HO.out.bel.mono hw.size); obtain ⟨g0, g1, g2, g3, g4⟩ := (HK0.out.below hx hww); obtain ⟨j0, j1, j2, j3, j4⟩ := (HK1.out.below hx hww); clear hww))
  all_goals
    go_ret
    exact ⟨ret_bool (by rfl), HO.out.bel⟩
theorem stmN (h0 : k ≠ 20) (h1 : k ≠ 21) (h2 : k ≠ 23) (h3 : k ≠ 24) (h4 : k ≠ 22) : Stm w0 (nd k s v m a len cap) false := by
  intro w hw
  have d0 : (k == 20) = false := by simpa using h0
  have d1 : (k == 21) = false := by simpa using h1
  have d2 : (k == 23) = false := by simpa using h2
  have d3 : (k == 24) = false := by simpa using h3
  have d4 : (k == 22) = false := by simpa using h4
  have HO := Lib.hid (Own.start w k s v m a len cap)
  unfold nd at *
  go_enter Try.func39, Try.ntmps39
  go_wp2_with (fail)
  go_ret
  exact ⟨rfl, HO.out.bel⟩
end
end Go.Proofs.Ytkhbmamgfkpdbaa

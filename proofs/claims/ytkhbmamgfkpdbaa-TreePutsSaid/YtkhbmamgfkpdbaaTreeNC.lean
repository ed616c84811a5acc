/-
  MayType, mayFields, mayParam.
-/
import Derived.Test.YtkhbmamgfkpdbaaTreeNB
namespace Go.Proofs.Ytkhbmamgfkpdbaa
open Go.ChangeShapes Go.WideShapes Go.ChangeAt Go.RowKit
set_option linter.unusedVariables false
section
variable {w0 : World} {k : Int} {s : ByteArray} {v : Int} {m : Bool} {a : Option Addr} {len cap : Nat} {K : Nat → Sm}
theorem typ11 {r : Bool} (h : Qua w0 (nd 11 s v m a len cap) r) : Typ w0 (nd 11 s v m a len cap) r := by
  intro w hw
  have HD := Lib.hid h
  have HO := Lib.hid (Own.start w 11 s v m a len cap)
  clear h
  unfold nd at *
  go_enter Try.func23, Try.ntmps23
  go_wp2_with (first | (go_at_call 40; (with_reducible refine (Qua.call HD.out (hw.trans (HO.out.bel.mono hw.size))).mono ?_); rintro e w' ⟨rfl, hb2⟩; have HO := Lib.hid (HO.out.next hb2); obtain ⟨e0, e1, e2, e3, e4, -, -⟩ := HO.out; clear hb2))
  go_ret
  exact ⟨rfl, HO.out.bel⟩
theorem typ12 {r : Bool} (h : Qua w0 (nd 12 s v m a len cap) r) : Typ w0 (nd 12 s v m a len cap) r := by
  intro w hw
  have HD := Lib.hid h
  have HO := Lib.hid (Own.start w 12 s v m a len cap)
  clear h
  unfold nd at *
  go_enter Try.func23, Try.ntmps23
  go_wp2_with (first | (go_at_call 40; (with_reducible refine (Qua.call HD.out (hw.trans (HO.out.bel.mono hw.size))).mono ?_); rintro e w' ⟨rfl, hb2⟩; have HO := Lib.hid (HO.out.next hb2); obtain ⟨e0, e1, e2, e3, e4, -, -⟩ := HO.out; clear hb2))
  go_ret
  exact ⟨rfl, HO.out.bel⟩
theorem typ14_no (hp : baB 14 s v m len 14 2 = false) : Typ w0 (nd 14 s v m a len cap) false := by
  intro w hw
  have HP := Lib.hid (bare_any 14 s v m a len cap 14 2)
  have HO := Lib.hid (Own.start w 14 s v m a len cap)
  unfold nd at *
  rw [hp] at HP
  clear hp
  go_enter Try.func23, Try.ntmps23
  go_wp2_with (first | (go_at_call 37; refine (HP.out _).mono ?_; rintro e w' ⟨rfl, hb2⟩; have HO := Lib.hid (HO.out.next hb2); obtain ⟨e0, e1, e2, e3, e4, -, -⟩ := HO.out; clear hb2))
  go_ret
  exact ⟨rfl, HO.out.bel⟩
theorem typ14_yes {xb xo : Nat} {xe : Option Nat} (hx : xb < w0.heap.size) {k0 : Int} {s0 : ByteArray} {v0 : Int} {m0 : Bool} {a0 : Option Addr} {l0 c0 : Nat} (hK0 : Kid w0 xb xo xe k0 s0 v0 m0 a0 l0 c0) {k1 : Int} {s1 : ByteArray} {v1 : Int} {m1 : Bool} {a1 : Option Addr} {l1 c1 : Nat} (hK1 : Kid w0 xb (xo + 5) none k1 s1 v1 m1 a1 l1 c1) {r q : Bool} (h0 : Ex w0 (nd k0 s0 v0 m0 a0 l0 c0) r) (h1 : Typ w0 (nd k1 s1 v1 m1 a1 l1 c1) q) (hp : baB 14 s v m 2 14 2 = true) : Typ w0 (nd 14 s v m (some ⟨xb, xo, xe⟩) 2 cap) (r && q) := by
  intro w hw
  have HP := Lib.hid (bare_any 14 s v m (some ⟨xb, xo, xe⟩) 2 cap 14 2)
  have HK0 := Lib.hid hK0
  have HK1 := Lib.hid hK1
  have HD0 := Lib.hid h0
  have HD1 := Lib.hid h1
  have HO := Lib.hid (Own.start w 14 s v m (some ⟨xb, xo, xe⟩) 2 cap)
  clear hK0 h0 hK1 h1
  unfold nd at *
  rw [hp] at HP
  clear hp
  cases r <;> cases q
  all_goals
    go_enter Try.func23, Try.ntmps23
    go_wp2_with (first | (go_at_call 37; refine (HP.out _).mono ?_; rintro e w' ⟨rfl, hb2⟩; have HO := Lib.hid (HO.out.next hb2); obtain ⟨e0, e1, e2, e3, e4, -, -⟩ := HO.out; clear hb2; have hww := hw.trans (HO.out.bel.mono hw.size); obtain ⟨g0, g1, g2, g3, g4⟩ := (HK0.out.below hx hww); obtain ⟨j0, j1, j2, j3, j4⟩ := (HK1.out.below hx hww); clear hww) | (go_at_call 21; (with_reducible refine (Ex.call HD0.out (hw.trans (HO.out.bel.mono hw.size))).mono ?_); rintro e w' ⟨rfl, hb2⟩; have HO := Lib.hid (HO.out.next hb2); obtain ⟨e0, e1, e2, e3, e4, -, -⟩ := HO.out; clear hb2; have hww := hw.trans (HO.out.bel.mono hw.size); obtain ⟨g0, g1, g2, g3, g4⟩ := (HK0.out.below hx hww); obtain ⟨j0, j1, j2, j3, j4⟩ := (HK1.out.below hx hww); clear hww) | (go_at_call 23; (with_reducible refine (Typ.call HD1.out (hw.trans (HO.out.bel.mono hw.size))).mono ?_); rintro e w' ⟨rfl, hb2⟩; have HO := Lib.hid (HO.out.next hb2); obtain ⟨e0, e1, e2, e3, e4, -, -⟩ := HO.out; clear hb2; have hww := hw.trans (HO.out.bel.mono hw.size); obtain ⟨g0, g1, g2, g3, g4⟩ := (HK0.out.below hx hww); obtain ⟨j0, j1, j2, j3, j4⟩ := (HK1.out.below hx hww); clear hww))
  all_goals
    go_ret
    exact ⟨ret_bool (by rfl), HO.out.bel⟩
theorem typ15_no (hp : baB 15 s v m len 15 (-1) = false) : Typ w0 (nd 15 s v m a len cap) false := by
  intro w hw
  have HP := Lib.hid (bare_any 15 s v m a len cap 15 (-1))
  have HO := Lib.hid (Own.start w 15 s v m a len cap)
  unfold nd at *
  rw [hp] at HP
  clear hp
  go_enter Try.func23, Try.ntmps23
  go_wp2_with (first | (go_at_call 37; refine (HP.out _).mono ?_; rintro e w' ⟨rfl, hb2⟩; have HO := Lib.hid (HO.out.next hb2); obtain ⟨e0, e1, e2, e3, e4, -, -⟩ := HO.out; clear hb2))
  go_ret
  exact ⟨rfl, HO.out.bel⟩
theorem typ15_yes {q : Bool} (ha : AllFl w0 (.slice a len cap) q) (hp : baB 15 s v m len 15 (-1) = true) : Typ w0 (nd 15 s v m a len cap) q := by
  intro w hw
  have HP := Lib.hid (bare_any 15 s v m a len cap 15 (-1))
  have HA := Lib.hid ha
  have HO := Lib.hid (Own.start w 15 s v m a len cap)
  clear ha
  unfold nd at *
  rw [hp] at HP
  clear hp
  cases q
  all_goals
    go_enter Try.func23, Try.ntmps23
    go_wp2_with (first | (go_at_call 37; refine (HP.out _).mono ?_; rintro e w' ⟨rfl, hb2⟩; have HO := Lib.hid (HO.out.next hb2); obtain ⟨e0, e1, e2, e3, e4, -, -⟩ := HO.out; clear hb2) | (go_at_call 38; (with_reducible refine (AllFl.call HA.out (hw.trans (HO.out.bel.mono hw.size))).mono ?_); rintro e w' ⟨rfl, hb2⟩; have HO := Lib.hid (HO.out.next hb2); obtain ⟨e0, e1, e2, e3, e4, -, -⟩ := HO.out; clear hb2))
  all_goals
    go_ret
    exact ⟨ret_bool (by rfl), HO.out.bel⟩
theorem typ17_no (hp : baB 17 s v m len 17 1 = false) : Typ w0 (nd 17 s v m a len cap) false := by
  intro w hw
  have HP := Lib.hid (bare_any 17 s v m a len cap 17 1)
  have HO := Lib.hid (Own.start w 17 s v m a len cap)
  unfold nd at *
  rw [hp] at HP
  clear hp
  go_enter Try.func23, Try.ntmps23
  go_wp2_with (first | (go_at_call 37; refine (HP.out _).mono ?_; rintro e w' ⟨rfl, hb2⟩; have HO := Lib.hid (HO.out.next hb2); obtain ⟨e0, e1, e2, e3, e4, -, -⟩ := HO.out; clear hb2))
  go_ret
  exact ⟨rfl, HO.out.bel⟩
theorem typ17_yes {xb xo : Nat} {xe : Option Nat} (hx : xb < w0.heap.size) {k0 : Int} {s0 : ByteArray} {v0 : Int} {m0 : Bool} {a0 : Option Addr} {l0 c0 : Nat} (hK0 : Kid w0 xb xo xe k0 s0 v0 m0 a0 l0 c0) {r : Bool} (h0 : Typ w0 (nd k0 s0 v0 m0 a0 l0 c0) r) (hp : baB 17 s v m 1 17 1 = true) : Typ w0 (nd 17 s v m (some ⟨xb, xo, xe⟩) 1 cap) (r) := by
  intro w hw
  have HP := Lib.hid (bare_any 17 s v m (some ⟨xb, xo, xe⟩) 1 cap 17 1)
  have HK0 := Lib.hid hK0
  have HD0 := Lib.hid h0
  have HO := Lib.hid (Own.start w 17 s v m (some ⟨xb, xo, xe⟩) 1 cap)
  clear hK0 h0
  unfold nd at *
  rw [hp] at HP
  clear hp
  cases r
  all_goals
    go_enter Try.func23, Try.ntmps23
    go_wp2_with (first | (go_at_call 37; refine (HP.out _).mono ?_; rintro e w' ⟨rfl, hb2⟩; have HO := Lib.hid (HO.out.next hb2); obtain ⟨e0, e1, e2, e3, e4, -, -⟩ := HO.out; clear hb2; have hww := hw.trans (HO.out.bel.mono hw.size); obtain ⟨g0, g1, g2, g3, g4⟩ := (HK0.out.below hx hww); clear hww) | (go_at_call 23; (with_reducible refine (Typ.call HD0.out (hw.trans (HO.out.bel.mono hw.size))).mono ?_); rintro e w' ⟨rfl, hb2⟩; have HO := Lib.hid (HO.out.next hb2); obtain ⟨e0, e1, e2, e3, e4, -, -⟩ := HO.out; clear hb2; have hww := hw.trans (HO.out.bel.mono hw.size); obtain ⟨g0, g1, g2, g3, g4⟩ := (HK0.out.below hx hww); clear hww))
  all_goals
    go_ret
    exact ⟨ret_bool (by rfl), HO.out.bel⟩
theorem typN (h0 : k ≠ 11) (h1 : k ≠ 12) (h2 : k ≠ 14) (h3 : k ≠ 15) (h4 : k ≠ 17) : Typ w0 (nd k s v m a len cap) false := by
  intro w hw
  have d0 : (k == 11) = false := by simpa using h0
  have d1 : (k == 12) = false := by simpa using h1
  have d2 : (k == 14) = false := by simpa using h2
  have d3 : (k == 15) = false := by simpa using h3
  have d4 : (k == 17) = false := by simpa using h4
  have HO := Lib.hid (Own.start w k s v m a len cap)
  unfold nd at *
  go_enter Try.func23, Try.ntmps23
  go_wp2_with (fail)
  go_ret
  exact ⟨rfl, HO.out.bel⟩
theorem typ_row (hs : s.size ≤ maxLen) (hl : len ≤ cap) (hc : cap ≤ maxLen) (hk : RowK w0 a len K) : Typ w0 (nd k s v m a len cap) (typF k s v m len K) := by
  unfold typF
  by_cases h0 : k = 11
  · subst h0; rw [if_pos (by decide)]; exact typ11 (qua_row hs hk)
  by_cases h1 : k = 12
  · subst h1; rw [if_pos (by decide)]; exact typ12 (qua_row hs hk)
  rw [if_neg (by omega)]
  by_cases h2 : k = 14
  · subst h2
    rw [if_pos rfl]
    cases hp : baB 14 s v m len 14 2 with
    | false => exact typ14_no hp
    | true =>
      have hl : len = 2 := by unfold baB shB at hp; simp at hp; omega
      subst hl
      obtain ⟨b, o, e, rfl, -⟩ := hk (by omega)
      obtain ⟨hb, k', s', v', m', a', l', c', hkid, h⟩ := hk.k0 (by omega)
      obtain ⟨k2, s2, v2, m2, a2, l2, c2, hkid2, h2⟩ := hk.kj 0 (by omega)
      rw [Bool.true_and]
      exact typ14_yes hb hkid (by simpa using hkid2) h.exp h2.typ hp
  rw [if_neg h2]
  by_cases h3 : k = 15
  · subst h3
    rw [if_pos rfl]
    cases hp : baB 15 s v m len 15 (-1) with
    | false => exact typ15_no hp
    | true => rw [Bool.true_and]; exact typ15_yes (allFl_row (by omega) hk) hp
  rw [if_neg h3]
  by_cases h4 : k = 17
  · subst h4
    rw [if_pos rfl]
    cases hp : baB 17 s v m len 17 1 with
    | false => exact typ17_no hp
    | true =>
      have hl : len = 1 := by unfold baB shB at hp; simp at hp; omega
      subst hl
      obtain ⟨b, o, e, rfl, -⟩ := hk (by omega)
      obtain ⟨hb, k', s', v', m', a', l', c', hkid, h⟩ := hk.k0 (by omega)
      rw [Bool.true_and]
      exact typ17_yes hb hkid h.typ hp
  rw [if_neg h4]
  exact typN h0 h1 h2 h3 h4
theorem fld_no (hl : len ≤ maxLen) (hp : baB k s v m len 16 (-1) = false) : Fld w0 (nd k s v m a len cap) false := by
  intro w hw
  have HP := Lib.hid (bare_any k s v m a len cap 16 (-1))
  have HO := Lib.hid (Own.start w k s v m a len cap)
  unfold nd at *
  rw [hp] at HP
  clear hp
  unfold maxLen at hl
  go_enter Try.func41, Try.ntmps41
  go_wp2_with (first | (go_at_call 37; refine (HP.out _).mono ?_; rintro e w' ⟨rfl, hb2⟩; have HO := Lib.hid (HO.out.next hb2); obtain ⟨e0, e1, e2, e3, e4, -, -⟩ := HO.out; clear hb2))
  go_ret
  exact ⟨rfl, HO.out.bel⟩
theorem fld_0 (hp : baB k s v m 0 16 (-1) = true) : Fld w0 (nd k s v m a 0 cap) false := by
  intro w hw
  have HP := Lib.hid (bare_any k s v m a 0 cap 16 (-1))
  have HO := Lib.hid (Own.start w k s v m a 0 cap)
  unfold nd at *
  rw [hp] at HP
  clear hp
  go_enter Try.func41, Try.ntmps41
  go_wp2_with (first | (go_at_call 37; refine (HP.out _).mono ?_; rintro e w' ⟨rfl, hb2⟩; have HO := Lib.hid (HO.out.next hb2); obtain ⟨e0, e1, e2, e3, e4, -, -⟩ := HO.out; clear hb2))
  go_ret
  exact ⟨rfl, HO.out.bel⟩
theorem fld_1 (hp : baB k s v m 1 16 (-1) = true) : Fld w0 (nd k s v m a 1 cap) false := by
  intro w hw
  have HP := Lib.hid (bare_any k s v m a 1 cap 16 (-1))
  have HO := Lib.hid (Own.start w k s v m a 1 cap)
  unfold nd at *
  rw [hp] at HP
  clear hp
  go_enter Try.func41, Try.ntmps41
  go_wp2_with (first | (go_at_call 37; refine (HP.out _).mono ?_; rintro e w' ⟨rfl, hb2⟩; have HO := Lib.hid (HO.out.next hb2); obtain ⟨e0, e1, e2, e3, e4, -, -⟩ := HO.out; clear hb2))
  go_ret
  exact ⟨rfl, HO.out.bel⟩
theorem fld_yes {xb xo : Nat} {xe : Option Nat} (hx : xb < w0.heap.size) {n : Nat} (hn : 0 < n) (hl : n + 1 ≤ cap) (hc : cap ≤ maxLen) {k0 : Int} {s0 : ByteArray} {v0 : Int} {m0 : Bool} {a0 : Option Addr} {l0 c0 : Nat} (hK0 : Kid w0 xb (xo + n * 5) (if n = 0 then xe else none) k0 s0 v0 m0 a0 l0 c0) {q r : Bool} (ha : AllI w0 (.slice (some ⟨xb, xo, xe⟩) n cap) q) (hd : Typ w0 (nd k0 s0 v0 m0 a0 l0 c0) r) (hp : baB k s v m (n + 1) 16 (-1) = true) : Fld w0 (nd k s v m (some ⟨xb, xo, xe⟩) (n + 1) cap) (q && r) := by
  intro w hw
  have HP := Lib.hid (bare_any k s v m (some ⟨xb, xo, xe⟩) (n + 1) cap 16 (-1))
  have HK := Lib.hid hK0
  have HA := Lib.hid ha
  have HD := Lib.hid hd
  have HO := Lib.hid (Own.start w k s v m (some ⟨xb, xo, xe⟩) (n + 1) cap)
  clear hK0 ha hd
  unfold nd at *
  rw [hp] at HP
  clear hp
  unfold maxLen at hc
  cases q <;> cases r
  all_goals
    go_enter Try.func41, Try.ntmps41
    go_wp2_with (first | (go_at_call 37; refine (HP.out _).mono ?_; rintro e w' ⟨rfl, hb2⟩; have HO := Lib.hid (HO.out.next hb2); obtain ⟨e0, e1, e2, e3, e4, -, -⟩ := HO.out; clear hb2; have hww := hw.trans (HO.out.bel.mono hw.size); obtain ⟨g0, g1, g2, g3, g4⟩ := (HK.out.below hx hww).at; clear hww) | (go_at_call 38; (with_reducible refine (AllI.call HA.out (hw.trans (HO.out.bel.mono hw.size))).mono ?_); rintro e w' ⟨rfl, hb2⟩; have HO := Lib.hid (HO.out.next hb2); obtain ⟨e0, e1, e2, e3, e4, -, -⟩ := HO.out; clear hb2; have hww := hw.trans (HO.out.bel.mono hw.size); obtain ⟨g0, g1, g2, g3, g4⟩ := (HK.out.below hx hww).at; clear hww) | (go_at_call 23; (with_reducible refine (Typ.call HD.out (hw.trans (HO.out.bel.mono hw.size))).mono ?_); rintro e w' ⟨rfl, hb2⟩; have HO := Lib.hid (HO.out.next hb2); obtain ⟨e0, e1, e2, e3, e4, -, -⟩ := HO.out; clear hb2; have hww := hw.trans (HO.out.bel.mono hw.size); obtain ⟨g0, g1, g2, g3, g4⟩ := (HK.out.below hx hww).at; clear hww))
  all_goals
    go_ret
    exact ⟨ret_bool (by rfl), HO.out.bel⟩
theorem RowK.last {w : World} {b o : Nat} {e : Option Nat} {n : Nat} (h : RowK w (some ⟨b, o, e⟩) (n + 1) K) : b < w.heap.size ∧ ∃ k s v m a l c, Kid w b (o + n * 5) (if n = 0 then e else none) k s v m a l c ∧ SmOK w k s v m a l c (K n) := by
  obtain ⟨b, o, e, h1, h2, h3⟩ := h (by omega)
  cases h1
  exact ⟨h2, h3 n (by omega)⟩
theorem fld_row (hs : s.size ≤ maxLen) (hl : len ≤ cap) (hc : cap ≤ maxLen) (hk : RowK w0 a len K) : Fld w0 (nd k s v m a len cap) (fldF k s v m len K) := by
  unfold fldF
  cases hp : baB k s v m len 16 (-1) with
  | false => exact fld_no (by omega) hp
  | true =>
    rw [Bool.true_and]
    cases len with
    | zero => exact fld_0 hp
    | succ n =>
      by_cases hn : n = 0
      · subst hn; exact fld_1 hp
      · obtain ⟨b, o, e, rfl, -⟩ := hk (by omega)
        obtain ⟨hb, k', s', v', m', a', l', c', hkid, h⟩ := hk.last
        rw [decide_eq_true (show 1 < n + 1 by omega), Bool.true_and, Nat.add_sub_cancel]
        exact fld_yes hb (by omega) hl hc hkid (allI_row (by omega) (hk.less (by omega))) h.typ hp
end
end Go.Proofs.Ytkhbmamgfkpdbaa

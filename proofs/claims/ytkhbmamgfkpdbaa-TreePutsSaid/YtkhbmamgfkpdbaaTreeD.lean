/-
  What mayDesignator tells, kind by kind.
-/
import Derived.Test.YtkhbmamgfkpdbaaTreeC
namespace Go.Proofs.Ytkhbmamgfkpdbaa
open Go.ChangeShapes Go.WideShapes Go.ChangeAt Go.RowKit
set_option linter.unusedVariables false
section
variable {w0 : World} {k : Int} {s : ByteArray} {v : Int} {m : Bool} {a : Option Addr} {len cap : Nat}
theorem des11 (hs : s.size ≤ maxLen) : Desig w0 (nd 11 s v m a len cap) (idB 11 s v m len) := by
  intro w hw
  have HI := Lib.hid (ident_any 11 s v m a len cap hs)
  have HO := Lib.hid (Own.start w 11 s v m a len cap)
  unfold nd at *
  go_enter Try.func51, Try.ntmps51
  go_wp2_with ((go_at_call 48; refine (HI.out _).mono ?_; rintro e w' ⟨rfl, hb2⟩; have HO := Lib.hid (HO.out.next hb2); obtain ⟨e0, e1, e2, e3, e4, -, -⟩ := HO.out; clear hb2))
  go_ret
  exact ⟨rfl, HO.out.bel⟩
theorem des36_no (hp : shB 36 v len 36 1 = false) : Desig w0 (nd 36 s v m a len cap) false := by
  intro w hw
  have HP := Lib.hid (shaped_any 36 s v m a len cap 36 1)
  rw [hp] at HP
  have HO := Lib.hid (Own.start w 36 s v m a len cap)
  clear hp
  unfold nd at *
  go_enter Try.func51, Try.ntmps51
  go_wp2_with ((go_at_call 31; refine (HP.out _).mono ?_; rintro e w' ⟨rfl, hb2⟩; have HO := Lib.hid (HO.out.next hb2); obtain ⟨e0, e1, e2, e3, e4, -, -⟩ := HO.out; clear hb2))
  go_ret
  exact ⟨rfl, HO.out.bel⟩
theorem des36_yes {xb xo : Nat} {xe : Option Nat} (hx : xb < w0.heap.size) {k' : Int} {s' : ByteArray} {v' : Int} {m' : Bool} {a' : Option Addr} {l' c' : Nat} (hK : Kid w0 xb xo xe k' s' v' m' a' l' c') (hs : s.size ≤ maxLen) {r : Bool} (hd : Desig w0 (nd k' s' v' m' a' l' c') r) (hp : shB 36 v 1 36 1 = true) : Desig w0 (nd 36 s v m (some ⟨xb, xo, xe⟩) 1 cap) ((nameB s && !kw s) && (!m && r)) := by
  intro w hw
  have HP := Lib.hid (shaped_any 36 s v m (some ⟨xb, xo, xe⟩) 1 cap 36 1)
  rw [hp] at HP
  have HO := Lib.hid (Own.start w 36 s v m (some ⟨xb, xo, xe⟩) 1 cap)
  have HK := Lib.hid hK
  have HN := Lib.hid (tname_any s hs)
  have HD := Lib.hid hd
  clear hd hs
  clear hp hK
  unfold nd at *
  generalize (nameB s && !kw s) = c at *
  cases c <;> cases m <;> cases r
  all_goals
    go_enter Try.func51, Try.ntmps51
    go_wp2_with (first | (go_at_call 31; refine (HP.out _).mono ?_; rintro e w' ⟨rfl, hb2⟩; have HO := Lib.hid (HO.out.next hb2); obtain ⟨e0, e1, e2, e3, e4, -, -⟩ := HO.out; clear hb2; have hww := hw.trans (HO.out.bel.mono hw.size); obtain ⟨g0, g1, g2, g3, g4⟩ := HK.out.below hx hww; clear hww) | (go_at_call 32; refine (HN.out _).mono ?_; rintro e w2 ⟨rfl, rfl⟩) | (go_at_call 51; refine (HD.out _ (hw.trans (HO.out.bel.mono hw.size))).mono ?_; rintro e w' ⟨rfl, hb2⟩; have HO := Lib.hid (HO.out.next hb2); obtain ⟨e0, e1, e2, e3, e4, -, -⟩ := HO.out; clear hb2; have hww := hw.trans (HO.out.bel.mono hw.size); obtain ⟨g0, g1, g2, g3, g4⟩ := HK.out.below hx hww; clear hww))
    go_ret
    exact ⟨ret_bool (by rfl), HO.out.bel⟩
theorem des37_no (hp : baB 37 s v m len 37 2 = false) : Desig w0 (nd 37 s v m a len cap) false := by
  intro w hw
  have HP := Lib.hid (bare_any 37 s v m a len cap 37 2)
  rw [hp] at HP
  have HO := Lib.hid (Own.start w 37 s v m a len cap)
  clear hp
  unfold nd at *
  go_enter Try.func51, Try.ntmps51
  go_wp2_with ((go_at_call 37; refine (HP.out _).mono ?_; rintro e w' ⟨rfl, hb2⟩; have HO := Lib.hid (HO.out.next hb2); obtain ⟨e0, e1, e2, e3, e4, -, -⟩ := HO.out; clear hb2))
  go_ret
  exact ⟨rfl, HO.out.bel⟩
theorem des37_yes {xb xo : Nat} {xe : Option Nat} (hx : xb < w0.heap.size) {k' : Int} {s' : ByteArray} {v' : Int} {m' : Bool} {a' : Option Addr} {l' c' : Nat} (hK : Kid w0 xb xo xe k' s' v' m' a' l' c') {k2 : Int} {s2 : ByteArray} {v2 : Int} {m2 : Bool} {a2 : Option Addr} {l2 c2 : Nat} (hJ : Kid w0 xb (xo + 5) none k2 s2 v2 m2 a2 l2 c2) {r q : Bool} (hd : Desig w0 (nd k' s' v' m' a' l' c') r) (he : Ex w0 (nd k2 s2 v2 m2 a2 l2 c2) q) (hp : baB 37 s v m 2 37 2 = true) : Desig w0 (nd 37 s v m (some ⟨xb, xo, xe⟩) 2 cap) (r && q) := by
  intro w hw
  have HP := Lib.hid (bare_any 37 s v m (some ⟨xb, xo, xe⟩) 2 cap 37 2)
  rw [hp] at HP
  have HO := Lib.hid (Own.start w 37 s v m (some ⟨xb, xo, xe⟩) 2 cap)
  have HK := Lib.hid hK
  have HJ := Lib.hid hJ
  have HD := Lib.hid hd
  have HE := Lib.hid he
  clear hd he
  clear hp hK hJ
  unfold nd at *
  cases r <;> cases q
  all_goals
    go_enter Try.func51, Try.ntmps51
    go_wp2_with (first | (go_at_call 37; refine (HP.out _).mono ?_; rintro e w' ⟨rfl, hb2⟩; have HO := Lib.hid (HO.out.next hb2); obtain ⟨e0, e1, e2, e3, e4, -, -⟩ := HO.out; clear hb2; have hww := hw.trans (HO.out.bel.mono hw.size); obtain ⟨g0, g1, g2, g3, g4⟩ := HK.out.below hx hww; obtain ⟨i0, i1, i2, i3, i4⟩ := HJ.out.below hx hww; clear hww) | (go_at_call 51; refine (HD.out _ (hw.trans (HO.out.bel.mono hw.size))).mono ?_; rintro e w' ⟨rfl, hb2⟩; have HO := Lib.hid (HO.out.next hb2); obtain ⟨e0, e1, e2, e3, e4, -, -⟩ := HO.out; clear hb2; have hww := hw.trans (HO.out.bel.mono hw.size); obtain ⟨g0, g1, g2, g3, g4⟩ := HK.out.below hx hww; obtain ⟨i0, i1, i2, i3, i4⟩ := HJ.out.below hx hww; clear hww) | (go_at_call 21; refine (HE.out _ (hw.trans (HO.out.bel.mono hw.size))).mono ?_; rintro e w' ⟨rfl, hb2⟩; have HO := Lib.hid (HO.out.next hb2); obtain ⟨e0, e1, e2, e3, e4, -, -⟩ := HO.out; clear hb2; have hww := hw.trans (HO.out.bel.mono hw.size); obtain ⟨g0, g1, g2, g3, g4⟩ := HK.out.below hx hww; obtain ⟨i0, i1, i2, i3, i4⟩ := HJ.out.below hx hww; clear hww))
    go_ret
    exact ⟨ret_bool (by rfl), HO.out.bel⟩
theorem des38_no (hp : baB 38 s v m len 38 1 = false) : Desig w0 (nd 38 s v m a len cap) false := by
  intro w hw
  have HP := Lib.hid (bare_any 38 s v m a len cap 38 1)
  rw [hp] at HP
  have HO := Lib.hid (Own.start w 38 s v m a len cap)
  clear hp
  unfold nd at *
  go_enter Try.func51, Try.ntmps51
  go_wp2_with ((go_at_call 37; refine (HP.out _).mono ?_; rintro e w' ⟨rfl, hb2⟩; have HO := Lib.hid (HO.out.next hb2); obtain ⟨e0, e1, e2, e3, e4, -, -⟩ := HO.out; clear hb2))
  go_ret
  exact ⟨rfl, HO.out.bel⟩
theorem des38_yes {xb xo : Nat} {xe : Option Nat} (hx : xb < w0.heap.size) {k' : Int} {s' : ByteArray} {v' : Int} {m' : Bool} {a' : Option Addr} {l' c' : Nat} (hK : Kid w0 xb xo xe k' s' v' m' a' l' c') {r : Bool} (hd : Desig w0 (nd k' s' v' m' a' l' c') r) (hp : baB 38 s v m 1 38 1 = true) : Desig w0 (nd 38 s v m (some ⟨xb, xo, xe⟩) 1 cap) (r) := by
  intro w hw
  have HP := Lib.hid (bare_any 38 s v m (some ⟨xb, xo, xe⟩) 1 cap 38 1)
  rw [hp] at HP
  have HO := Lib.hid (Own.start w 38 s v m (some ⟨xb, xo, xe⟩) 1 cap)
  have HK := Lib.hid hK
  have HD := Lib.hid hd
  clear hd
  clear hp hK
  unfold nd at *
  cases r
  all_goals
    go_enter Try.func51, Try.ntmps51
    go_wp2_with (first | (go_at_call 37; refine (HP.out _).mono ?_; rintro e w' ⟨rfl, hb2⟩; have HO := Lib.hid (HO.out.next hb2); obtain ⟨e0, e1, e2, e3, e4, -, -⟩ := HO.out; clear hb2; have hww := hw.trans (HO.out.bel.mono hw.size); obtain ⟨g0, g1, g2, g3, g4⟩ := HK.out.below hx hww; clear hww) | (go_at_call 51; refine (HD.out _ (hw.trans (HO.out.bel.mono hw.size))).mono ?_; rintro e w' ⟨rfl, hb2⟩; have HO := Lib.hid (HO.out.next hb2); obtain ⟨e0, e1, e2, e3, e4, -, -⟩ := HO.out; clear hb2; have hww := hw.trans (HO.out.bel.mono hw.size); obtain ⟨g0, g1, g2, g3, g4⟩ := HK.out.below hx hww; clear hww))
    go_ret
    exact ⟨ret_bool (by rfl), HO.out.bel⟩
theorem desN (h1 : k ≠ 11) (h2 : k ≠ 36) (h3 : k ≠ 37) (h4 : k ≠ 38) : Desig w0 (nd k s v m a len cap) false := by
  intro w hw
  have HO := Lib.hid (Own.start w k s v m a len cap)
  have d1 : (k == 11) = false := by simpa using h1
  have d2 : (k == 36) = false := by simpa using h2
  have d3 : (k == 37) = false := by simpa using h3
  have d4 : (k == 38) = false := by simpa using h4
  unfold nd at *
  go_enter Try.func51, Try.ntmps51
  go_wp2_with fail
  go_ret
  exact ⟨rfl, HO.out.bel⟩
/-- whatever the node -/
theorem des_any (hs : s.size ≤ maxLen) (hk : 0 < len → ∃ x, a = some x ∧ Kids w0 (Good w0) x len) : ∃ r, Desig w0 (nd k s v m a len cap) r := by
  by_cases h1 : k = 11
  · subst h1; exact ⟨_, des11 hs⟩
  by_cases h2 : k = 36
  · subst h2
    cases hp : shB 36 v len 36 1 with
    | false => exact ⟨_, des36_no hp⟩
    | true =>
      have hl : len = 1 := by unfold shB at hp; simp at hp; omega
      subst hl
      obtain ⟨⟨xb, xo, xe⟩, rfl, hK⟩ := hk (by omega)
      obtain ⟨k', s', v', m', a', l', c', hkid, r, l, hd, -⟩ := hK.k0 (by omega)
      exact ⟨_, des36_yes hK.1 hkid hs hd hp⟩
  by_cases h3 : k = 37
  · subst h3
    cases hp : baB 37 s v m len 37 2 with
    | false => exact ⟨_, des37_no hp⟩
    | true =>
      have hl : len = 2 := by unfold baB shB at hp; simp at hp; omega
      subst hl
      obtain ⟨⟨xb, xo, xe⟩, rfl, hK⟩ := hk (by omega)
      obtain ⟨k', s', v', m', a', l', c', hkid, r, l, hd, -⟩ := hK.k0 (by omega)
      obtain ⟨k2, s2, v2, m2, a2, l2, c2, hkid2, r2, q2, -, -, he, -⟩ := hK.k1 (by omega)
      exact ⟨_, des37_yes hK.1 hkid hkid2 hd he hp⟩
  by_cases h4 : k = 38
  · subst h4
    cases hp : baB 38 s v m len 38 1 with
    | false => exact ⟨_, des38_no hp⟩
    | true =>
      have hl : len = 1 := by unfold baB shB at hp; simp at hp; omega
      subst hl
      obtain ⟨⟨xb, xo, xe⟩, rfl, hK⟩ := hk (by omega)
      obtain ⟨k', s', v', m', a', l', c', hkid, r, l, hd, -⟩ := hK.k0 (by omega)
      exact ⟨_, des38_yes hK.1 hkid hd hp⟩
  exact ⟨_, desN h1 h2 h3 h4⟩
end
end Go.Proofs.Ytkhbmamgfkpdbaa

/-
  What mayFactor tells, kind by kind.
-/
import Derived.Test.YtkhbmamgfkpdbaaTreeE
namespace Go.Proofs.Ytkhbmamgfkpdbaa
open Go.ChangeShapes Go.WideShapes Go.ChangeAt Go.RowKit
set_option linter.unusedVariables false
section
variable {w0 : World} {k : Int} {s : ByteArray} {v : Int} {m : Bool} {a : Option Addr} {len cap : Nat}
def Fac (w : World) (u : Value) (r : Bool) : Prop := ∀ W, Below w.heap.size w W → Calls Try.prog 44 #[u] W fun e W' => e = .returned (.bool r) ∧ Below W.heap.size W W'
def Bel (w : World) (u : Value) (n : Int) (r : Bool) : Prop := ∀ W, Below w.heap.size w W → Calls Try.prog 43 #[u, .int .i64 n] W fun e W' => e = .returned (.bool r) ∧ Below W.heap.size W W'
theorem below_any {l : Int} (h : Lev w0 (nd k s v m a len cap) l) (n : Int) : Bel w0 (nd k s v m a len cap) n (!(l == -1) && decide (l ≤ n)) := by
  intro w hw
  have HL := Lib.hid h
  clear h
  unfold nd at *
  go_enter Try.func43, Try.ntmps43
  have HO := Lib.hid (Own.start w k s v m a len cap)
  go_wp2_with (go_at_call 26; refine (HL.out _ (hw.trans (HO.out.bel.mono hw.size))).mono ?_; rintro e w' ⟨rfl, hb2⟩; have HO := Lib.hid (HO.out.next hb2); obtain ⟨e0, e1, e2, e3, e4, -, -⟩ := HO.out; clear hb2)
  all_goals
    go_ret
    exact ⟨ret_bool (by first | (simp [*]; done) | rfl), HO.out.bel⟩
theorem fac11 {r : Bool} (h : Desig w0 (nd 11 s v m a len cap) r) : Fac w0 (nd 11 s v m a len cap) r := by
  intro w hw
  have HD := Lib.hid h
  have HO := Lib.hid (Own.start w 11 s v m a len cap)
  clear h
  unfold nd at *
  go_enter Try.func44, Try.ntmps44
  go_wp2_with ((go_at_call 51; refine (HD.out _ (hw.trans (HO.out.bel.mono hw.size))).mono ?_; rintro e w' ⟨rfl, hb2⟩; have HO := Lib.hid (HO.out.next hb2); obtain ⟨e0, e1, e2, e3, e4, -, -⟩ := HO.out; clear hb2))
  go_ret
  exact ⟨rfl, HO.out.bel⟩
theorem fac36 {r : Bool} (h : Desig w0 (nd 36 s v m a len cap) r) : Fac w0 (nd 36 s v m a len cap) r := by
  intro w hw
  have HD := Lib.hid h
  have HO := Lib.hid (Own.start w 36 s v m a len cap)
  clear h
  unfold nd at *
  go_enter Try.func44, Try.ntmps44
  go_wp2_with ((go_at_call 51; refine (HD.out _ (hw.trans (HO.out.bel.mono hw.size))).mono ?_; rintro e w' ⟨rfl, hb2⟩; have HO := Lib.hid (HO.out.next hb2); obtain ⟨e0, e1, e2, e3, e4, -, -⟩ := HO.out; clear hb2))
  go_ret
  exact ⟨rfl, HO.out.bel⟩
theorem fac37 {r : Bool} (h : Desig w0 (nd 37 s v m a len cap) r) : Fac w0 (nd 37 s v m a len cap) r := by
  intro w hw
  have HD := Lib.hid h
  have HO := Lib.hid (Own.start w 37 s v m a len cap)
  clear h
  unfold nd at *
  go_enter Try.func44, Try.ntmps44
  go_wp2_with ((go_at_call 51; refine (HD.out _ (hw.trans (HO.out.bel.mono hw.size))).mono ?_; rintro e w' ⟨rfl, hb2⟩; have HO := Lib.hid (HO.out.next hb2); obtain ⟨e0, e1, e2, e3, e4, -, -⟩ := HO.out; clear hb2))
  go_ret
  exact ⟨rfl, HO.out.bel⟩
theorem fac38 {r : Bool} (h : Desig w0 (nd 38 s v m a len cap) r) : Fac w0 (nd 38 s v m a len cap) r := by
  intro w hw
  have HD := Lib.hid h
  have HO := Lib.hid (Own.start w 38 s v m a len cap)
  clear h
  unfold nd at *
  go_enter Try.func44, Try.ntmps44
  go_wp2_with ((go_at_call 51; refine (HD.out _ (hw.trans (HO.out.bel.mono hw.size))).mono ?_; rintro e w' ⟨rfl, hb2⟩; have HO := Lib.hid (HO.out.next hb2); obtain ⟨e0, e1, e2, e3, e4, -, -⟩ := HO.out; clear hb2))
  go_ret
  exact ⟨rfl, HO.out.bel⟩
theorem fac21 {r : Bool} (h : CallR w0 (nd 21 s v m a len cap) r) : Fac w0 (nd 21 s v m a len cap) r := by
  intro w hw
  have HD := Lib.hid h
  have HO := Lib.hid (Own.start w 21 s v m a len cap)
  clear h
  unfold nd at *
  go_enter Try.func44, Try.ntmps44
  go_wp2_with ((go_at_call 52; refine (HD.out _ (hw.trans (HO.out.bel.mono hw.size))).mono ?_; rintro e w' ⟨rfl, hb2⟩; have HO := Lib.hid (HO.out.next hb2); obtain ⟨e0, e1, e2, e3, e4, -, -⟩ := HO.out; clear hb2))
  go_ret
  exact ⟨rfl, HO.out.bel⟩
theorem fac25 : Fac w0 (nd 25 s v m a len cap) (baB 25 s 0 m len 25 0) := by
  intro w hw
  have HP := Lib.hid (bare_any 25 s 0 m a len cap 25 0)
  have HO := Lib.hid (Own.start w 25 s 0 m a len cap)
  unfold nd at *
  go_enter Try.func44, Try.ntmps44
  go_wp2_with (go_at_call 37; refine (HP.out _).mono ?_; rintro e w' ⟨rfl, hb2⟩)
  go_ret
  exact ⟨rfl, (HO.out.next hb2).bel⟩
theorem fac26 (hv : v ≤ 255) : Fac w0 (nd 26 s v m a len cap) (baB 26 s 0 m len 26 0) := by
  intro w hw
  have HP := Lib.hid (bare_any 26 s 0 m a len cap 26 0)
  have HO := Lib.hid (Own.start w 26 s 0 m a len cap)
  unfold nd at *
  go_enter Try.func44, Try.ntmps44
  go_wp2_with (go_at_call 37; refine (HP.out _).mono ?_; rintro e w' ⟨rfl, hb2⟩)
  go_ret
  exact ⟨rfl, (HO.out.next hb2).bel⟩
theorem fac26_no (hv : 255 < v) : Fac w0 (nd 26 s v m a len cap) false := by
  intro w hw
  unfold nd at *
  go_enter Try.func44, Try.ntmps44
  go_wp2_with fail
  go_ret
  exact ⟨rfl, below1 w _⟩
theorem fac27_no (hp : shB 27 v len 27 0 = false) : Fac w0 (nd 27 s v m a len cap) false := by
  intro w hw
  have HP := Lib.hid (shaped_any 27 s v m a len cap 27 0)
  rw [hp] at HP
  have HO := Lib.hid (Own.start w 27 s v m a len cap)
  clear hp
  unfold nd at *
  go_enter Try.func44, Try.ntmps44
  go_wp2_with ((go_at_call 31; refine (HP.out _).mono ?_; rintro e w' ⟨rfl, hb2⟩; have HO := Lib.hid (HO.out.next hb2); obtain ⟨e0, e1, e2, e3, e4, -, -⟩ := HO.out; clear hb2))
  go_ret
  exact ⟨rfl, HO.out.bel⟩
theorem fac27_yes (hs : s.size ≤ maxLen) (hp : shB 27 v len 27 0 = true) : Fac w0 (nd 27 s v m a len cap) (!m && strB s) := by
  intro w hw
  have HP := Lib.hid (shaped_any 27 s v m a len cap 27 0)
  rw [hp] at HP
  have HO := Lib.hid (Own.start w 27 s v m a len cap)
  have HN := Lib.hid (string_any s hs)
  clear hp hs
  unfold nd at *
  generalize strB s = c at *
  cases c <;> cases m
  all_goals
    go_enter Try.func44, Try.ntmps44
    go_wp2_with (first | (go_at_call 31; refine (HP.out _).mono ?_; rintro e w' ⟨rfl, hb2⟩; have HO := Lib.hid (HO.out.next hb2); obtain ⟨e0, e1, e2, e3, e4, -, -⟩ := HO.out; clear hb2) | (go_at_call 54; refine (HN.out _).mono ?_; rintro e w2 ⟨rfl, rfl⟩))
    go_ret
    exact ⟨ret_bool (by rfl), HO.out.bel⟩
theorem fac28 : Fac w0 (nd 28 s v m a len cap) (baB 28 s v m len 28 0) := by
  intro w hw
  have HP := Lib.hid (bare_any 28 s v m a len cap 28 0)
  have HO := Lib.hid (Own.start w 28 s v m a len cap)
  unfold nd at *
  go_enter Try.func44, Try.ntmps44
  go_wp2_with ((go_at_call 37; refine (HP.out _).mono ?_; rintro e w' ⟨rfl, hb2⟩; have HO := Lib.hid (HO.out.next hb2); obtain ⟨e0, e1, e2, e3, e4, -, -⟩ := HO.out; clear hb2))
  go_ret
  exact ⟨rfl, HO.out.bel⟩
theorem fac29 : Fac w0 (nd 29 s v m a len cap) (baB 29 s v m len 29 0) := by
  intro w hw
  have HP := Lib.hid (bare_any 29 s v m a len cap 29 0)
  have HO := Lib.hid (Own.start w 29 s v m a len cap)
  unfold nd at *
  go_enter Try.func44, Try.ntmps44
  go_wp2_with ((go_at_call 37; refine (HP.out _).mono ?_; rintro e w' ⟨rfl, hb2⟩; have HO := Lib.hid (HO.out.next hb2); obtain ⟨e0, e1, e2, e3, e4, -, -⟩ := HO.out; clear hb2))
  go_ret
  exact ⟨rfl, HO.out.bel⟩
theorem fac30 : Fac w0 (nd 30 s v m a len cap) (baB 30 s v m len 30 0) := by
  intro w hw
  have HP := Lib.hid (bare_any 30 s v m a len cap 30 0)
  have HO := Lib.hid (Own.start w 30 s v m a len cap)
  unfold nd at *
  go_enter Try.func44, Try.ntmps44
  go_wp2_with ((go_at_call 37; refine (HP.out _).mono ?_; rintro e w' ⟨rfl, hb2⟩; have HO := Lib.hid (HO.out.next hb2); obtain ⟨e0, e1, e2, e3, e4, -, -⟩ := HO.out; clear hb2))
  go_ret
  exact ⟨rfl, HO.out.bel⟩
theorem fac31_no (hp : baB 31 s v m len 31 (-1) = false) : Fac w0 (nd 31 s v m a len cap) false := by
  intro w hw
  have HP := Lib.hid (bare_any 31 s v m a len cap 31 (-1))
  rw [hp] at HP
  have HO := Lib.hid (Own.start w 31 s v m a len cap)
  clear hp
  unfold nd at *
  go_enter Try.func44, Try.ntmps44
  go_wp2_with ((go_at_call 37; refine (HP.out _).mono ?_; rintro e w' ⟨rfl, hb2⟩; have HO := Lib.hid (HO.out.next hb2); obtain ⟨e0, e1, e2, e3, e4, -, -⟩ := HO.out; clear hb2))
  go_ret
  exact ⟨rfl, HO.out.bel⟩
theorem fac31_yes {q : Bool} (ha : AllG w0 (.slice a len cap) q) (hp : baB 31 s v m len 31 (-1) = true) : Fac w0 (nd 31 s v m a len cap) q := by
  intro w hw
  have HP := Lib.hid (bare_any 31 s v m a len cap 31 (-1))
  rw [hp] at HP
  have HO := Lib.hid (Own.start w 31 s v m a len cap)
  have HA := Lib.hid ha
  clear hp ha
  unfold nd at *
  cases q
  all_goals
    go_enter Try.func44, Try.ntmps44
    go_wp2_with (first | (go_at_call 37; refine (HP.out _).mono ?_; rintro e w' ⟨rfl, hb2⟩; have HO := Lib.hid (HO.out.next hb2); obtain ⟨e0, e1, e2, e3, e4, -, -⟩ := HO.out; clear hb2) | (go_at_call 38; refine (HA.out _ (hw.trans (HO.out.bel.mono hw.size))).mono ?_; rintro e w' ⟨rfl, hb2⟩; have HO := Lib.hid (HO.out.next hb2); obtain ⟨e0, e1, e2, e3, e4, -, -⟩ := HO.out; clear hb2))
    go_ret
    exact ⟨ret_bool (by rfl), HO.out.bel⟩
theorem fac32_no (hp : baB 32 s v m len 32 1 = false) : Fac w0 (nd 32 s v m a len cap) false := by
  intro w hw
  have HP := Lib.hid (bare_any 32 s v m a len cap 32 1)
  rw [hp] at HP
  have HO := Lib.hid (Own.start w 32 s v m a len cap)
  clear hp
  unfold nd at *
  go_enter Try.func44, Try.ntmps44
  go_wp2_with ((go_at_call 37; refine (HP.out _).mono ?_; rintro e w' ⟨rfl, hb2⟩; have HO := Lib.hid (HO.out.next hb2); obtain ⟨e0, e1, e2, e3, e4, -, -⟩ := HO.out; clear hb2))
  go_ret
  exact ⟨rfl, HO.out.bel⟩
theorem fac32_yes {xb xo : Nat} {xe : Option Nat} (hx : xb < w0.heap.size) {k' : Int} {s' : ByteArray} {v' : Int} {m' : Bool} {a' : Option Addr} {l' c' : Nat} (hK : Kid w0 xb xo xe k' s' v' m' a' l' c') {q : Bool} (he : Ex w0 (nd k' s' v' m' a' l' c') q) (hp : baB 32 s v m 1 32 1 = true) : Fac w0 (nd 32 s v m (some ⟨xb, xo, xe⟩) 1 cap) (q) := by
  intro w hw
  have HP := Lib.hid (bare_any 32 s v m (some ⟨xb, xo, xe⟩) 1 cap 32 1)
  rw [hp] at HP
  have HO := Lib.hid (Own.start w 32 s v m (some ⟨xb, xo, xe⟩) 1 cap)
  have HK := Lib.hid hK
  have HE := Lib.hid he
  clear he
  clear hp hK
  unfold nd at *
  cases q
  all_goals
    go_enter Try.func44, Try.ntmps44
    go_wp2_with (first | (go_at_call 37; refine (HP.out _).mono ?_; rintro e w' ⟨rfl, hb2⟩; have HO := Lib.hid (HO.out.next hb2); obtain ⟨e0, e1, e2, e3, e4, -, -⟩ := HO.out; clear hb2; have hww := hw.trans (HO.out.bel.mono hw.size); obtain ⟨g0, g1, g2, g3, g4⟩ := HK.out.below hx hww; clear hww) | (go_at_call 21; refine (HE.out _ (hw.trans (HO.out.bel.mono hw.size))).mono ?_; rintro e w' ⟨rfl, hb2⟩; have HO := Lib.hid (HO.out.next hb2); obtain ⟨e0, e1, e2, e3, e4, -, -⟩ := HO.out; clear hb2; have hww := hw.trans (HO.out.bel.mono hw.size); obtain ⟨g0, g1, g2, g3, g4⟩ := HK.out.below hx hww; clear hww))
    go_ret
    exact ⟨ret_bool (by rfl), HO.out.bel⟩
theorem fac33_no (hp : baB 33 s v m len 33 1 = false) : Fac w0 (nd 33 s v m a len cap) false := by
  intro w hw
  have HP := Lib.hid (bare_any 33 s v m a len cap 33 1)
  rw [hp] at HP
  have HO := Lib.hid (Own.start w 33 s v m a len cap)
  clear hp
  unfold nd at *
  go_enter Try.func44, Try.ntmps44
  go_wp2_with ((go_at_call 37; refine (HP.out _).mono ?_; rintro e w' ⟨rfl, hb2⟩; have HO := Lib.hid (HO.out.next hb2); obtain ⟨e0, e1, e2, e3, e4, -, -⟩ := HO.out; clear hb2))
  go_ret
  exact ⟨rfl, HO.out.bel⟩
theorem fac33_yes {xb xo : Nat} {xe : Option Nat} (hx : xb < w0.heap.size) {k' : Int} {s' : ByteArray} {v' : Int} {m' : Bool} {a' : Option Addr} {l' c' : Nat} (hK : Kid w0 xb xo xe k' s' v' m' a' l' c') {q : Bool} (he : Bel w0 (nd k' s' v' m' a' l' c') 0 q) (hp : baB 33 s v m 1 33 1 = true) : Fac w0 (nd 33 s v m (some ⟨xb, xo, xe⟩) 1 cap) (q) := by
  intro w hw
  have HP := Lib.hid (bare_any 33 s v m (some ⟨xb, xo, xe⟩) 1 cap 33 1)
  rw [hp] at HP
  have HO := Lib.hid (Own.start w 33 s v m (some ⟨xb, xo, xe⟩) 1 cap)
  have HK := Lib.hid hK
  have HE := Lib.hid he
  clear he
  clear hp hK
  unfold nd at *
  cases q
  all_goals
    go_enter Try.func44, Try.ntmps44
    go_wp2_with (first | (go_at_call 37; refine (HP.out _).mono ?_; rintro e w' ⟨rfl, hb2⟩; have HO := Lib.hid (HO.out.next hb2); obtain ⟨e0, e1, e2, e3, e4, -, -⟩ := HO.out; clear hb2; have hww := hw.trans (HO.out.bel.mono hw.size); obtain ⟨g0, g1, g2, g3, g4⟩ := HK.out.below hx hww; clear hww) | (go_at_call 43; refine (HE.out _ (hw.trans (HO.out.bel.mono hw.size))).mono ?_; rintro e w' ⟨rfl, hb2⟩; have HO := Lib.hid (HO.out.next hb2); obtain ⟨e0, e1, e2, e3, e4, -, -⟩ := HO.out; clear hb2; have hww := hw.trans (HO.out.bel.mono hw.size); obtain ⟨g0, g1, g2, g3, g4⟩ := HK.out.below hx hww; clear hww))
    go_ret
    exact ⟨ret_bool (by rfl), HO.out.bel⟩
theorem facN (h0 : k ≠ 11) (h1 : k ≠ 36) (h2 : k ≠ 37) (h3 : k ≠ 38) (h4 : k ≠ 21) (h5 : k ≠ 25) (h6 : k ≠ 26) (h7 : k ≠ 27) (h8 : k ≠ 28) (h9 : k ≠ 29) (h10 : k ≠ 30) (h11 : k ≠ 31) (h12 : k ≠ 32) (h13 : k ≠ 33) : Fac w0 (nd k s v m a len cap) false := by
  intro w hw
  have HO := Lib.hid (Own.start w k s v m a len cap)
  have d0 : (k == 11) = false := by simpa using h0
  have d1 : (k == 36) = false := by simpa using h1
  have d2 : (k == 37) = false := by simpa using h2
  have d3 : (k == 38) = false := by simpa using h3
  have d4 : (k == 21) = false := by simpa using h4
  have d5 : (k == 25) = false := by simpa using h5
  have d6 : (k == 26) = false := by simpa using h6
  have d7 : (k == 27) = false := by simpa using h7
  have d8 : (k == 28) = false := by simpa using h8
  have d9 : (k == 29) = false := by simpa using h9
  have d10 : (k == 30) = false := by simpa using h10
  have d11 : (k == 31) = false := by simpa using h11
  have d12 : (k == 32) = false := by simpa using h12
  have d13 : (k == 33) = false := by simpa using h13
  unfold nd at *
  go_enter Try.func44, Try.ntmps44
  go_wp2_with fail
  go_ret
  exact ⟨rfl, HO.out.bel⟩
/-- whatever the node -/
theorem fac_any (hs : s.size ≤ maxLen) (hl : len ≤ cap) (hc : cap ≤ maxLen) (hk : 0 < len → ∃ x, a = some x ∧ Kids w0 (Good w0) x len) : ∃ r, Fac w0 (nd k s v m a len cap) r := by
  obtain ⟨rd, hd⟩ := des_any (k := k) (v := v) (m := m) (cap := cap) hs hk
  obtain ⟨rc, hcall⟩ := call_any' (k := k) (s := s) (v := v) (m := m) hl hc hk
  obtain ⟨ra, hall⟩ := all_g (w0 := w0) (cap := cap) (by omega) hk
  by_cases h0 : k = 11
  · subst h0
    exact ⟨_, fac11 hd⟩
  by_cases h1 : k = 36
  · subst h1
    exact ⟨_, fac36 hd⟩
  by_cases h2 : k = 37
  · subst h2
    exact ⟨_, fac37 hd⟩
  by_cases h3 : k = 38
  · subst h3
    exact ⟨_, fac38 hd⟩
  by_cases h4 : k = 21
  · subst h4
    exact ⟨_, fac21 hcall⟩
  by_cases h5 : k = 25
  · subst h5
    exact ⟨_, fac25⟩
  by_cases h6 : k = 26
  · subst h6
    by_cases hv : v ≤ 255
    · exact ⟨_, fac26 hv⟩
    · exact ⟨_, fac26_no (by omega)⟩
  by_cases h7 : k = 27
  · subst h7
    cases hp : shB 27 v len 27 0 with
    | false => exact ⟨_, fac27_no hp⟩
    | true => exact ⟨_, fac27_yes hs hp⟩
  by_cases h8 : k = 28
  · subst h8
    exact ⟨_, fac28⟩
  by_cases h9 : k = 29
  · subst h9
    exact ⟨_, fac29⟩
  by_cases h10 : k = 30
  · subst h10
    exact ⟨_, fac30⟩
  by_cases h11 : k = 31
  · subst h11
    cases hp : baB 31 s v m len 31 (-1) with
    | false => exact ⟨_, fac31_no hp⟩
    | true => exact ⟨_, fac31_yes hall hp⟩
  by_cases h12 : k = 32
  · subst h12
    cases hp : baB 32 s v m len 32 1 with
    | false => exact ⟨_, fac32_no hp⟩
    | true =>
      have hl : len = 1 := by unfold baB shB at hp; simp at hp; omega
      subst hl
      obtain ⟨⟨xb, xo, xe⟩, rfl, hK⟩ := hk (by omega)
      obtain ⟨k', s', v', m', a', l', c', hkid, r, l, -, hlev, he, -⟩ := hK.k0 (by omega)
      exact ⟨_, fac32_yes hK.1 hkid he hp⟩
  by_cases h13 : k = 33
  · subst h13
    cases hp : baB 33 s v m len 33 1 with
    | false => exact ⟨_, fac33_no hp⟩
    | true =>
      have hl : len = 1 := by unfold baB shB at hp; simp at hp; omega
      subst hl
      obtain ⟨⟨xb, xo, xe⟩, rfl, hK⟩ := hk (by omega)
      obtain ⟨k', s', v', m', a', l', c', hkid, r, l, -, hlev, he, -⟩ := hK.k0 (by omega)
      exact ⟨_, fac33_yes hK.1 hkid (below_any hlev 0) hp⟩
  exact ⟨_, facN h0 h1 h2 h3 h4 h5 h6 h7 h8 h9 h10 h11 h12 h13⟩
end
end Go.Proofs.Ytkhbmamgfkpdbaa

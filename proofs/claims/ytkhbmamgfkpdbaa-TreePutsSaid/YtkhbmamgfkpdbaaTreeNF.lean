/-
  Declarations: mayNamed, mayNone, mayProc, mayDecl, mayDecls; mayImports, May.
-/
import Derived.Test.YtkhbmamgfkpdbaaTreeNE
namespace Go.Proofs.Ytkhbmamgfkpdbaa
open Go.ChangeShapes Go.WideShapes Go.ChangeAt Go.RowKit
set_option linter.unusedVariables false
theorem named_any (k : Int) (s : ByteArray) (v : Int) (m : Bool) (a : Option Addr) (len cap : Nat) (hs : s.size ≤ maxLen) (c : Int) (i : Bool) (w : World) :
    Calls Try.prog 57 #[nd k s v m a len cap, .int .i64 c, .bool i] w fun e w' => e = .returned (.bool (naB k s v m len c i)) ∧ Below w.heap.size w w' := by
  have HS := Lib.hid (shaped_any k s v m a len cap k c)
  have HO := Lib.hid (Own.start w k s v m a len cap)
  have HN := Lib.hid (tname_any s hs)
  clear hs
  unfold nd at *
  unfold naB
  generalize shB k v len k c = b at *
  generalize (nameB s && !kw s) = n at *
  cases b <;> cases n <;> cases m <;> cases i
  all_goals
    go_enter Try.func57, Try.ntmps57
    go_wp2_with (first | (go_at_call 31; refine (HS.out _).mono ?_; rintro e w' ⟨rfl, hb2⟩; have HO := Lib.hid (HO.out.next hb2); obtain ⟨e0, e1, e2, e3, e4, -, -⟩ := HO.out; clear hb2) | (go_at_call 32; refine (HN.out _).mono ?_; rintro e w2 ⟨rfl, rfl⟩))
    go_ret
    exact ⟨ret_bool (by rfl), HO.out.bel⟩
theorem non_any (k : Int) (s : ByteArray) (v : Int) (m : Bool) (a : Option Addr) (len cap : Nat) (w : World) :
    Calls Try.prog 61 #[nd k s v m a len cap] w fun e w' => e = .returned (.bool (baB k s v m len 18 0)) ∧ Below w.heap.size w w' := by
  have HS := Lib.hid (bare_any k s v m a len cap 18 0)
  have HO := Lib.hid (Own.start w k s v m a len cap)
  unfold nd at *
  go_enter Try.func61, Try.ntmps61
  go_wp2_with (go_at_call 37; refine (HS.out _).mono ?_; rintro e w' ⟨rfl, hb2⟩; have HO := Lib.hid (HO.out.next hb2); obtain ⟨e0, e1, e2, e3, e4, -, -⟩ := HO.out; clear hb2)
  go_ret
  exact ⟨rfl, HO.out.bel⟩
/-- what a call boxes of its node, and a Bool behind it -/
structure Own2 (w : World) (k : Int) (s : ByteArray) (v : Int) (m : Bool) (a : Option Addr) (len cap : Nat) (i : Bool) (W : World) : Prop where
  own : Own w W k s v m a len cap
  inn : W.heap[w.heap.size + 1]? = some (.cells #[.bool i] 4 (0, 0))
section
variable {w0 w : World} {k : Int} {s : ByteArray} {v : Int} {m : Bool} {a : Option Addr} {len cap : Nat} {K : Nat → Sm} {i : Bool}
theorem Own2.next {W W' : World} (h : Own2 w k s v m a len cap i W) (hb : Below W.heap.size W W') : Own2 w k s v m a len cap i W' :=
  ⟨h.own.next hb, by rw [hb.block _ (lt_blk h.inn)]; exact h.inn⟩
theorem Own2.c {W : World} (h : Own2 w k s v m a len cap i W) : W.cell? ⟨w.heap.size + 1, 0, none⟩ = some (.bool i) := cell0 h.inn
theorem Own2.start (w : World) (k : Int) (s : ByteArray) (v : Int) (m : Bool) (a : Option Addr) (len cap : Nat) (i : Bool) : Own2 w k s v m a len cap i ((w.alloc (.cells #[.int .i64 k, .string s, .int .u32 v, .bool m, .slice a len cap] 26)).alloc (.cells #[.bool i] 4)) :=
  ⟨(Own.start w k s v m a len cap).next (below1 _ _), by
    have := heap_alloc_new (w.alloc (.cells #[.int .i64 k, .string s, .int .u32 v, .bool m, .slice a len cap] 26)) (.cells #[.bool i] 4)
    simpa using this⟩
theorem vr_clo {k' : Int} {s' : ByteArray} {v' : Int} {m' : Bool} {a' : Option Addr} {l' c' : Nat} (hs : s'.size ≤ maxLen) (W : World) (hJ : Own2 w k s v m a len cap i W) :
    Calls Try.prog 58 #[nd k' s' v' m' a' l' c', .pointer (some ⟨w.heap.size + 1, 0, none⟩)] W fun e W' => e = .returned (.bool ((k' == 10) && naB k' s' v' m' l' 0 i)) ∧ Below w.heap.size w W' ∧ Own2 w k s v m a len cap i W' := by
  have HN := Lib.hid (named_any k' s' v' m' a' l' c' hs 0 i)
  have hlt := lt_blk hJ.inn
  have HO := Lib.hid (Own.start W k' s' v' m' a' l' c')
  have HJ := Lib.hid (hJ.next (below1 W (.cells #[.int .i64 k', .string s', .int .u32 v', .bool m', .slice a' l' c'] 26)))
  have q1 := HJ.out.c
  clear hJ hs
  unfold nd at *
  by_cases h1 : k' = 10
  · rw [show (k' == 10) = true by simpa using h1, Bool.true_and]
    subst h1
    go_enter Try.func58, Try.ntmps58
    go_wp2_with (go_at_call 57; refine (HN.out _).mono ?_; rintro e w' ⟨rfl, hb2⟩; have HJ2 := Lib.hid (HJ.out.next hb2); clear hb2)
    go_ret
    exact ⟨rfl, HJ2.out.own.bel, HJ2.out⟩
  · have h2 : (k' == 10) = false := by simpa using h1
    rw [h2, Bool.false_and]
    go_enter Try.func58, Try.ntmps58
    go_wp2_with fail
    go_ret
    exact ⟨rfl, HJ.out.own.bel, HJ.out⟩
theorem allVr_row (hw : Below w0.heap.size w0 w) {n : Nat} {c2 : Nat} (hl : n ≤ maxLen) {A : Option Addr} (hk : RowK w0 A n K) (W : World) (hJ : Own2 w k s v m a len cap i W) :
    Calls Try.prog 38 #[.slice A n c2, .func (.func 58) #[] #[.pointer (some ⟨w.heap.size + 1, 0, none⟩)]] W fun e W' => e = .returned (.bool (upto n fun j => (K j).df i)) ∧ Below w.heap.size w W' := by
  by_cases h0 : n = 0
  · subst h0; exact allVr_zero _ _ _ _ _ _ hJ.own.bel
  obtain ⟨b, o, e, rfl, hb, hK⟩ := hk (by omega)
  refine allVr_any w b o e n c2 (Nat.lt_of_lt_of_le hb hw.size) hl _ _ (fun _ => Own2 w k s v m a len cap i) (fun _ _ h => h.own.bel) (fun _ _ _ h g => h.next g) (fun j hj => ?_) W hJ
  obtain ⟨k, s, v, m, a, l, c, h1, h2⟩ := hK j hj
  refine ⟨k, s, v, m, a, l, c, h1.below hb hw, fun W hJ => ?_⟩
  rw [h2.df i]
  exact vr_clo h2.hs W hJ
def Pro (w : World) (u : Value) (r : Bool) : Prop := ∀ W, Below w.heap.size w W → Calls Try.prog 59 #[u] W fun e W' => e = .returned (.bool r) ∧ Below W.heap.size W W'
theorem Pro.call {w W : World} {u : Value} {r : Bool} (h : Pro w u r) (hb : Below w.heap.size w W) : Calls Try.prog 59 #[u] W fun e W' => e = .returned (.bool r) ∧ Below W.heap.size W W' := h W hb
theorem dcl4_no (hs : s.size ≤ maxLen) (hp : naB 4 s v m len 1 i = false) : Dcl w0 (nd 4 s v m a len cap) i false := by
  intro w hw
  have HP := Lib.hid (named_any 4 s v m a len cap hs 1 i)
  have HO := Lib.hid (Own2.start w 4 s v m a len cap i)
  clear hs
  unfold nd at *
  rw [hp] at HP
  clear hp
  go_enter Try.func50, Try.ntmps50
  go_wp2_with (first | (go_at_call 57; refine (HP.out _).mono ?_; rintro e w' ⟨rfl, hb2⟩; have HO := Lib.hid (HO.out.next hb2); obtain ⟨⟨e0, e1, e2, e3, e4, -, -⟩, -⟩ := HO.out; have e5 := HO.out.c; clear hb2))
  go_ret
  exact ⟨rfl, HO.out.own.bel⟩
theorem dcl4_yes {xb xo : Nat} {xe : Option Nat} (hx : xb < w0.heap.size) {k0 : Int} {s0 : ByteArray} {v0 : Int} {m0 : Bool} {a0 : Option Addr} {l0 c0 : Nat} (hK0 : Kid w0 xb xo xe k0 s0 v0 m0 a0 l0 c0) (hs : s.size ≤ maxLen) {r : Bool} (hd : Ex w0 (nd k0 s0 v0 m0 a0 l0 c0) r) (hp : naB 4 s v m 1 1 i = true) : Dcl w0 (nd 4 s v m (some ⟨xb, xo, xe⟩) 1 cap) i r := by
  intro w hw
  have HP := Lib.hid (named_any 4 s v m (some ⟨xb, xo, xe⟩) 1 cap hs 1 i)
  have HK := Lib.hid hK0
  have HD := Lib.hid hd
  have HO := Lib.hid (Own2.start w 4 s v m (some ⟨xb, xo, xe⟩) 1 cap i)
  clear hs hK0 hd
  unfold nd at *
  rw [hp] at HP
  clear hp
  cases r
  all_goals
    go_enter Try.func50, Try.ntmps50
    go_wp2_with (first | (go_at_call 57; refine (HP.out _).mono ?_; rintro e w' ⟨rfl, hb2⟩; have HO := Lib.hid (HO.out.next hb2); obtain ⟨⟨e0, e1, e2, e3, e4, -, -⟩, -⟩ := HO.out; have e5 := HO.out.c; clear hb2; have hww := hw.trans (HO.out.own.bel.mono hw.size); obtain ⟨g0, g1, g2, g3, g4⟩ := (HK.out.below hx hww); clear hww) | (go_at_call 21; (with_reducible refine (Ex.call HD.out (hw.trans (HO.out.own.bel.mono hw.size))).mono ?_); rintro e w' ⟨rfl, hb2⟩; have HO := Lib.hid (HO.out.next hb2); obtain ⟨⟨e0, e1, e2, e3, e4, -, -⟩, -⟩ := HO.out; have e5 := HO.out.c; clear hb2; have hww := hw.trans (HO.out.own.bel.mono hw.size); obtain ⟨g0, g1, g2, g3, g4⟩ := (HK.out.below hx hww); clear hww))
  all_goals
    go_ret
    exact ⟨ret_bool (by rfl), HO.out.own.bel⟩
theorem dcl5_no (hs : s.size ≤ maxLen) (hp : naB 5 s v m len 1 i = false) : Dcl w0 (nd 5 s v m a len cap) i false := by
  intro w hw
  have HP := Lib.hid (named_any 5 s v m a len cap hs 1 i)
  have HO := Lib.hid (Own2.start w 5 s v m a len cap i)
  clear hs
  unfold nd at *
  rw [hp] at HP
  clear hp
  go_enter Try.func50, Try.ntmps50
  go_wp2_with (first | (go_at_call 57; refine (HP.out _).mono ?_; rintro e w' ⟨rfl, hb2⟩; have HO := Lib.hid (HO.out.next hb2); obtain ⟨⟨e0, e1, e2, e3, e4, -, -⟩, -⟩ := HO.out; have e5 := HO.out.c; clear hb2))
  go_ret
  exact ⟨rfl, HO.out.own.bel⟩
theorem dcl5_yes {xb xo : Nat} {xe : Option Nat} (hx : xb < w0.heap.size) {k0 : Int} {s0 : ByteArray} {v0 : Int} {m0 : Bool} {a0 : Option Addr} {l0 c0 : Nat} (hK0 : Kid w0 xb xo xe k0 s0 v0 m0 a0 l0 c0) (hs : s.size ≤ maxLen) {r : Bool} (hd : Typ w0 (nd k0 s0 v0 m0 a0 l0 c0) r) (hp : naB 5 s v m 1 1 i = true) : Dcl w0 (nd 5 s v m (some ⟨xb, xo, xe⟩) 1 cap) i r := by
  intro w hw
  have HP := Lib.hid (named_any 5 s v m (some ⟨xb, xo, xe⟩) 1 cap hs 1 i)
  have HK := Lib.hid hK0
  have HD := Lib.hid hd
  have HO := Lib.hid (Own2.start w 5 s v m (some ⟨xb, xo, xe⟩) 1 cap i)
  clear hs hK0 hd
  unfold nd at *
  rw [hp] at HP
  clear hp
  cases r
  all_goals
    go_enter Try.func50, Try.ntmps50
    go_wp2_with (first | (go_at_call 57; refine (HP.out _).mono ?_; rintro e w' ⟨rfl, hb2⟩; have HO := Lib.hid (HO.out.next hb2); obtain ⟨⟨e0, e1, e2, e3, e4, -, -⟩, -⟩ := HO.out; have e5 := HO.out.c; clear hb2; have hww := hw.trans (HO.out.own.bel.mono hw.size); obtain ⟨g0, g1, g2, g3, g4⟩ := (HK.out.below hx hww); clear hww) | (go_at_call 23; (with_reducible refine (Typ.call HD.out (hw.trans (HO.out.own.bel.mono hw.size))).mono ?_); rintro e w' ⟨rfl, hb2⟩; have HO := Lib.hid (HO.out.next hb2); obtain ⟨⟨e0, e1, e2, e3, e4, -, -⟩, -⟩ := HO.out; have e5 := HO.out.c; clear hb2; have hww := hw.trans (HO.out.own.bel.mono hw.size); obtain ⟨g0, g1, g2, g3, g4⟩ := (HK.out.below hx hww); clear hww))
  all_goals
    go_ret
    exact ⟨ret_bool (by rfl), HO.out.own.bel⟩
theorem dcl7_no (hs : s.size ≤ maxLen) (hp : naB 7 s v m len 5 i = false) : Dcl w0 (nd 7 s v m a len cap) i false := by
  intro w hw
  have HP := Lib.hid (named_any 7 s v m a len cap hs 5 i)
  have HO := Lib.hid (Own2.start w 7 s v m a len cap i)
  clear hs
  unfold nd at *
  rw [hp] at HP
  clear hp
  go_enter Try.func50, Try.ntmps50
  go_wp2_with (first | (go_at_call 57; refine (HP.out _).mono ?_; rintro e w' ⟨rfl, hb2⟩; have HO := Lib.hid (HO.out.next hb2); obtain ⟨⟨e0, e1, e2, e3, e4, -, -⟩, -⟩ := HO.out; have e5 := HO.out.c; clear hb2))
  go_ret
  exact ⟨rfl, HO.out.own.bel⟩
theorem dcl7_yes (hs : s.size ≤ maxLen) {r : Bool} (hd : Pro w0 (nd 7 s v m a len cap) r) (hp : naB 7 s v m len 5 i = true) : Dcl w0 (nd 7 s v m a len cap) i r := by
  intro w hw
  have HP := Lib.hid (named_any 7 s v m a len cap hs 5 i)
  have HD := Lib.hid hd
  have HO := Lib.hid (Own2.start w 7 s v m a len cap i)
  clear hs hd
  unfold nd at *
  rw [hp] at HP
  clear hp
  cases r
  all_goals
    go_enter Try.func50, Try.ntmps50
    go_wp2_with (first | (go_at_call 57; refine (HP.out _).mono ?_; rintro e w' ⟨rfl, hb2⟩; have HO := Lib.hid (HO.out.next hb2); obtain ⟨⟨e0, e1, e2, e3, e4, -, -⟩, -⟩ := HO.out; have e5 := HO.out.c; clear hb2) | (go_at_call 59; (with_reducible refine (Pro.call HD.out (hw.trans (HO.out.own.bel.mono hw.size))).mono ?_); rintro e w' ⟨rfl, hb2⟩; have HO := Lib.hid (HO.out.next hb2); obtain ⟨⟨e0, e1, e2, e3, e4, -, -⟩, -⟩ := HO.out; have e5 := HO.out.c; clear hb2))
  all_goals
    go_ret
    exact ⟨ret_bool (by rfl), HO.out.own.bel⟩
theorem dclN (h0 : k ≠ 4) (h1 : k ≠ 5) (h2 : k ≠ 6) (h3 : k ≠ 7) : Dcl w0 (nd k s v m a len cap) i false := by
  intro w hw
  have d0 : (k == 4) = false := by simpa using h0
  have d1 : (k == 5) = false := by simpa using h1
  have d2 : (k == 6) = false := by simpa using h2
  have d3 : (k == 7) = false := by simpa using h3
  have HO := Lib.hid (Own2.start w k s v m a len cap i)
  unfold nd at *
  go_enter Try.func50, Try.ntmps50
  go_wp2_with (fail)
  go_ret
  exact ⟨rfl, HO.out.own.bel⟩
theorem dcl6_no (hl : len ≤ maxLen) (hp : baB 6 s v m len 6 (-1) = false) : Dcl w0 (nd 6 s v m a len cap) i false := by
  intro w hw
  have HP := Lib.hid (bare_any 6 s v m a len cap 6 (-1))
  have HO := Lib.hid (Own2.start w 6 s v m a len cap i)
  unfold nd at *
  rw [hp] at HP
  clear hp
  unfold maxLen at hl
  go_enter Try.func50, Try.ntmps50
  go_wp2_with (first | (go_at_call 37; refine (HP.out _).mono ?_; rintro e w' ⟨rfl, hb2⟩; have HO := Lib.hid (HO.out.next hb2); obtain ⟨⟨e0, e1, e2, e3, e4, -, -⟩, -⟩ := HO.out; have e5 := HO.out.c; clear hb2))
  go_ret
  exact ⟨rfl, HO.out.own.bel⟩
theorem dcl6_0 (hp : baB 6 s v m 0 6 (-1) = true) : Dcl w0 (nd 6 s v m a 0 cap) i false := by
  intro w hw
  have HP := Lib.hid (bare_any 6 s v m a 0 cap 6 (-1))
  have HO := Lib.hid (Own2.start w 6 s v m a 0 cap i)
  unfold nd at *
  rw [hp] at HP
  clear hp
  go_enter Try.func50, Try.ntmps50
  go_wp2_with (first | (go_at_call 37; refine (HP.out _).mono ?_; rintro e w' ⟨rfl, hb2⟩; have HO := Lib.hid (HO.out.next hb2); obtain ⟨⟨e0, e1, e2, e3, e4, -, -⟩, -⟩ := HO.out; have e5 := HO.out.c; clear hb2))
  go_ret
  exact ⟨rfl, HO.out.own.bel⟩
theorem dcl6_1 (hp : baB 6 s v m 1 6 (-1) = true) : Dcl w0 (nd 6 s v m a 1 cap) i false := by
  intro w hw
  have HP := Lib.hid (bare_any 6 s v m a 1 cap 6 (-1))
  have HO := Lib.hid (Own2.start w 6 s v m a 1 cap i)
  unfold nd at *
  rw [hp] at HP
  clear hp
  go_enter Try.func50, Try.ntmps50
  go_wp2_with (first | (go_at_call 37; refine (HP.out _).mono ?_; rintro e w' ⟨rfl, hb2⟩; have HO := Lib.hid (HO.out.next hb2); obtain ⟨⟨e0, e1, e2, e3, e4, -, -⟩, -⟩ := HO.out; have e5 := HO.out.c; clear hb2))
  go_ret
  exact ⟨rfl, HO.out.own.bel⟩
theorem dcl6_a {xb xo : Nat} {xe : Option Nat} (hx : xb < w0.heap.size) {n : Nat} (hn : 0 < n) (hl : n + 1 ≤ cap) (hc : cap ≤ maxLen) {k0 : Int} {s0 : ByteArray} {v0 : Int} {m0 : Bool} {a0 : Option Addr} {l0 c0 : Nat} (hK0 : Kid w0 xb (xo + n * 5) (if n = 0 then xe else none) k0 s0 v0 m0 a0 l0 c0) (hd : Typ w0 (nd k0 s0 v0 m0 a0 l0 c0) false) (hp : baB 6 s v m (n + 1) 6 (-1) = true) : Dcl w0 (nd 6 s v m (some ⟨xb, xo, xe⟩) (n + 1) cap) i false := by
  intro w hw
  have HP := Lib.hid (bare_any 6 s v m (some ⟨xb, xo, xe⟩) (n + 1) cap 6 (-1))
  have HK := Lib.hid hK0
  have HD := Lib.hid hd
  have HO := Lib.hid (Own2.start w 6 s v m (some ⟨xb, xo, xe⟩) (n + 1) cap i)
  clear hK0 hd
  unfold nd at *
  rw [hp] at HP
  clear hp
  unfold maxLen at hc
  go_enter Try.func50, Try.ntmps50
  go_wp2_with (first | (go_at_call 37; refine (HP.out _).mono ?_; rintro e w' ⟨rfl, hb2⟩; have HO := Lib.hid (HO.out.next hb2); obtain ⟨⟨e0, e1, e2, e3, e4, -, -⟩, -⟩ := HO.out; have e5 := HO.out.c; clear hb2; have hww := hw.trans (HO.out.own.bel.mono hw.size); obtain ⟨g0, g1, g2, g3, g4⟩ := (HK.out.below hx hww).at; clear hww) | (go_at_call 23; (with_reducible refine (Typ.call HD.out (hw.trans (HO.out.own.bel.mono hw.size))).mono ?_); rintro e w' ⟨rfl, hb2⟩; have HO := Lib.hid (HO.out.next hb2); obtain ⟨⟨e0, e1, e2, e3, e4, -, -⟩, -⟩ := HO.out; have e5 := HO.out.c; clear hb2; have hww := hw.trans (HO.out.own.bel.mono hw.size); obtain ⟨g0, g1, g2, g3, g4⟩ := (HK.out.below hx hww).at; clear hww))
  go_ret
  exact ⟨rfl, HO.out.own.bel⟩
theorem dcl6_b {xb xo : Nat} {xe : Option Nat} (hx : xb < w0.heap.size) {n : Nat} (hn : 0 < n) (hl : n + 1 ≤ cap) (hc : cap ≤ maxLen) {k0 : Int} {s0 : ByteArray} {v0 : Int} {m0 : Bool} {a0 : Option Addr} {l0 c0 : Nat} (hK0 : Kid w0 xb (xo + n * 5) (if n = 0 then xe else none) k0 s0 v0 m0 a0 l0 c0) (hd : Typ w0 (nd k0 s0 v0 m0 a0 l0 c0) true) (hk : RowK w0 (some ⟨xb, xo, xe⟩) (n + 1) K) (hp : baB 6 s v m (n + 1) 6 (-1) = true) : Dcl w0 (nd 6 s v m (some ⟨xb, xo, xe⟩) (n + 1) cap) i (upto n fun j => (K j).df i) := by
  intro w hw
  have HP := Lib.hid (bare_any 6 s v m (some ⟨xb, xo, xe⟩) (n + 1) cap 6 (-1))
  have HK := Lib.hid hK0
  have HD := Lib.hid hd
  have HA := Lib.hid (fun W hJ => allVr_row (k := 6) (s := s) (v := v) (m := m) (a := (some ⟨xb, xo, xe⟩)) (len := n + 1) (cap := cap) (i := i) (c2 := cap) hw (show n ≤ maxLen by omega) (hk.less (Nat.le_succ n)) W hJ)
  have HO := Lib.hid (Own2.start w 6 s v m (some ⟨xb, xo, xe⟩) (n + 1) cap i)
  clear hK0 hd hk
  unfold nd at *
  rw [hp] at HP
  clear hp
  unfold maxLen at hc
  generalize (upto n fun j => (K j).df i) = q at *
  cases q
  all_goals
    go_enter Try.func50, Try.ntmps50
    go_wp2_with (first | (go_at_call 37; refine (HP.out _).mono ?_; rintro e w' ⟨rfl, hb2⟩; have HO := Lib.hid (HO.out.next hb2); obtain ⟨⟨e0, e1, e2, e3, e4, -, -⟩, -⟩ := HO.out; have e5 := HO.out.c; clear hb2; have hww := hw.trans (HO.out.own.bel.mono hw.size); obtain ⟨g0, g1, g2, g3, g4⟩ := (HK.out.below hx hww).at; clear hww) | (go_at_call 23; (with_reducible refine (Typ.call HD.out (hw.trans (HO.out.own.bel.mono hw.size))).mono ?_); rintro e w' ⟨rfl, hb2⟩; have HO := Lib.hid (HO.out.next hb2); obtain ⟨⟨e0, e1, e2, e3, e4, -, -⟩, -⟩ := HO.out; have e5 := HO.out.c; clear hb2; have hww := hw.trans (HO.out.own.bel.mono hw.size); obtain ⟨g0, g1, g2, g3, g4⟩ := (HK.out.below hx hww).at; clear hww) | (go_at_call 38; refine (HA.out _ HO.out).mono ?_; rintro e w' ⟨rfl, hb2⟩; have HB := Lib.hid hb2; clear hb2))
  all_goals
    go_ret
    exact ⟨ret_bool (by rfl), HB.out⟩
set_option maxHeartbeats 4000000 in
theorem pro_yes {xb xo : Nat} {xe : Option Nat} (hx : xb < w0.heap.size) {k0 : Int} {s0 : ByteArray} {v0 : Int} {m0 : Bool} {a0 : Option Addr} {l0 c0 : Nat} (hK0 : Kid w0 xb xo xe k0 s0 v0 m0 a0 l0 c0) {k1 : Int} {s1 : ByteArray} {v1 : Int} {m1 : Bool} {a1 : Option Addr} {l1 c1 : Nat} (hK1 : Kid w0 xb (xo + 5) none k1 s1 v1 m1 a1 l1 c1) {k2 : Int} {s2 : ByteArray} {v2 : Int} {m2 : Bool} {a2 : Option Addr} {l2 c2 : Nat} (hK2 : Kid w0 xb (xo + 10) none k2 s2 v2 m2 a2 l2 c2) {k3 : Int} {s3 : ByteArray} {v3 : Int} {m3 : Bool} {a3 : Option Addr} {l3 c3 : Nat} (hK3 : Kid w0 xb (xo + 15) none k3 s3 v3 m3 a3 l3 c3) {k4 : Int} {s4 : ByteArray} {v4 : Int} {m4 : Bool} {a4 : Option Addr} {l4 c4 : Nat} (hK4 : Kid w0 xb (xo + 20) none k4 s4 v4 m4 a4 l4 c4) {q0 q1 q2 q3 q4 : Bool} (ha : AllPrm w0 (.slice a0 l0 c0) q0) (hq : Qua w0 (nd k1 s1 v1 m1 a1 l1 c1) q1) (hd : Dcs w0 (nd k2 s2 v2 m2 a2 l2 c2) true q2) (hs : Sms w0 (nd k3 s3 v3 m3 a3 l3 c3) q3) (he : Ex w0 (nd k4 s4 v4 m4 a4 l4 c4) q4) : Pro w0 (nd k s v m (some ⟨xb, xo, xe⟩) 5 cap) ((baB k0 s0 v0 m0 l0 8 (-1) && q0) && ((baB k1 s1 v1 m1 l1 18 0 || q1) && (q2 && (q3 && (baB k4 s4 v4 m4 l4 18 0 || q4))))) := by
  intro w hw
  have HB0 := Lib.hid (bare_any k0 s0 v0 m0 a0 l0 c0 8 (-1))
  have HN1 := Lib.hid (non_any k1 s1 v1 m1 a1 l1 c1)
  have HN4 := Lib.hid (non_any k4 s4 v4 m4 a4 l4 c4)
  have HO := Lib.hid (Own.start w k s v m (some ⟨xb, xo, xe⟩) 5 cap)
  have HA := Lib.hid ha
  have HQ := Lib.hid hq
  have HC := Lib.hid hd
  have HS := Lib.hid hs
  have HE := Lib.hid he
  have HK0 := Lib.hid hK0
  have HK1 := Lib.hid hK1
  have HK2 := Lib.hid hK2
  have HK3 := Lib.hid hK3
  have HK4 := Lib.hid hK4
  have start := HO.out.bel
  have hw1 := hw.trans (start.mono hw.size)
  obtain ⟨g0, g1, g2, g3, g4⟩ := HK0.out.below hx hw1
  obtain ⟨i0, i1, i2, i3, i4⟩ := HK1.out.below hx hw1
  obtain ⟨j0, j1, j2, j3, j4⟩ := HK2.out.below hx hw1
  obtain ⟨f0, f1, f2, f3, f4⟩ := HK3.out.below hx hw1
  obtain ⟨d0, d1, d2, d3, d4⟩ := HK4.out.below hx hw1
  clear ha hq hd hs he hK0 hK1 hK2 hK3 hK4 start hw1
  unfold nd at *
  generalize baB k0 s0 v0 m0 l0 8 (-1) = p0 at *
  generalize baB k1 s1 v1 m1 l1 18 0 = p1 at *
  generalize baB k4 s4 v4 m4 l4 18 0 = p4 at *
  cases p0 with
  | false =>
    go_enter Try.func59, Try.ntmps59
    go_wp2_with (first | (go_at_call 37; refine (HB0.out _).mono ?_; rintro e w' ⟨rfl, hb2⟩; have HO := Lib.hid (HO.out.next hb2); obtain ⟨e0, e1, e2, e3, e4, -, -⟩ := HO.out; clear hb2; have hww := hw.trans (HO.out.bel.mono hw.size); obtain ⟨g0, g1, g2, g3, g4⟩ := (HK0.out.below hx hww); obtain ⟨i0, i1, i2, i3, i4⟩ := (HK1.out.below hx hww); obtain ⟨j0, j1, j2, j3, j4⟩ := (HK2.out.below hx hww); obtain ⟨f0, f1, f2, f3, f4⟩ := (HK3.out.below hx hww); obtain ⟨d0, d1, d2, d3, d4⟩ := (HK4.out.below hx hww); clear hww) | (go_at_call 38; (with_reducible refine (AllPrm.call HA.out (hw.trans (HO.out.bel.mono hw.size))).mono ?_); rintro e w' ⟨rfl, hb2⟩; have HO := Lib.hid (HO.out.next hb2); obtain ⟨e0, e1, e2, e3, e4, -, -⟩ := HO.out; clear hb2; have hww := hw.trans (HO.out.bel.mono hw.size); obtain ⟨g0, g1, g2, g3, g4⟩ := (HK0.out.below hx hww); obtain ⟨i0, i1, i2, i3, i4⟩ := (HK1.out.below hx hww); obtain ⟨j0, j1, j2, j3, j4⟩ := (HK2.out.below hx hww); obtain ⟨f0, f1, f2, f3, f4⟩ := (HK3.out.below hx hww); obtain ⟨d0, d1, d2, d3, d4⟩ := (HK4.out.below hx hww); clear hww) | (go_at_call 61; (first | (with_reducible refine (HN1.out _).mono ?_) | (with_reducible refine (HN4.out _).mono ?_)); rintro e w' ⟨rfl, hb2⟩; have HO := Lib.hid (HO.out.next hb2); obtain ⟨e0, e1, e2, e3, e4, -, -⟩ := HO.out; clear hb2; have hww := hw.trans (HO.out.bel.mono hw.size); obtain ⟨g0, g1, g2, g3, g4⟩ := (HK0.out.below hx hww); obtain ⟨i0, i1, i2, i3, i4⟩ := (HK1.out.below hx hww); obtain ⟨j0, j1, j2, j3, j4⟩ := (HK2.out.below hx hww); obtain ⟨f0, f1, f2, f3, f4⟩ := (HK3.out.below hx hww); obtain ⟨d0, d1, d2, d3, d4⟩ := (HK4.out.below hx hww); clear hww) | (go_at_call 40; (with_reducible refine (Qua.call HQ.out (hw.trans (HO.out.bel.mono hw.size))).mono ?_); rintro e w' ⟨rfl, hb2⟩; have HO := Lib.hid (HO.out.next hb2); obtain ⟨e0, e1, e2, e3, e4, -, -⟩ := HO.out; clear hb2; have hww := hw.trans (HO.out.bel.mono hw.size); obtain ⟨g0, g1, g2, g3, g4⟩ := (HK0.out.below hx hww); obtain ⟨i0, i1, i2, i3, i4⟩ := (HK1.out.below hx hww); obtain ⟨j0, j1, j2, j3, j4⟩ := (HK2.out.below hx hww); obtain ⟨f0, f1, f2, f3, f4⟩ := (HK3.out.below hx hww); obtain ⟨d0, d1, d2, d3, d4⟩ := (HK4.out.below hx hww); clear hww) | (go_at_call 34; (with_reducible refine (Dcs.call HC.out (hw.trans (HO.out.bel.mono hw.size))).mono ?_); rintro e w' ⟨rfl, hb2⟩; have HO := Lib.hid (HO.out.next hb2); obtain ⟨e0, e1, e2, e3, e4, -, -⟩ := HO.out; clear hb2; have hww := hw.trans (HO.out.bel.mono hw.size); obtain ⟨g0, g1, g2, g3, g4⟩ := (HK0.out.below hx hww); obtain ⟨i0, i1, i2, i3, i4⟩ := (HK1.out.below hx hww); obtain ⟨j0, j1, j2, j3, j4⟩ := (HK2.out.below hx hww); obtain ⟨f0, f1, f2, f3, f4⟩ := (HK3.out.below hx hww); obtain ⟨d0, d1, d2, d3, d4⟩ := (HK4.out.below hx hww); clear hww) | (go_at_call 22; (with_reducible refine (Sms.call HS.out (hw.trans (HO.out.bel.mono hw.size))).mono ?_); rintro e w' ⟨rfl, hb2⟩; have HO := Lib.hid (HO.out.next hb2); obtain ⟨e0, e1, e2, e3, e4, -, -⟩ := HO.out; clear hb2; have hww := hw.trans (HO.out.bel.mono hw.size); obtain ⟨g0, g1, g2, g3, g4⟩ := (HK0.out.below hx hww); obtain ⟨i0, i1, i2, i3, i4⟩ := (HK1.out.below hx hww); obtain ⟨j0, j1, j2, j3, j4⟩ := (HK2.out.below hx hww); obtain ⟨f0, f1, f2, f3, f4⟩ := (HK3.out.below hx hww); obtain ⟨d0, d1, d2, d3, d4⟩ := (HK4.out.below hx hww); clear hww) | (go_at_call 21; (with_reducible refine (Ex.call HE.out (hw.trans (HO.out.bel.mono hw.size))).mono ?_); rintro e w' ⟨rfl, hb2⟩; have HO := Lib.hid (HO.out.next hb2); obtain ⟨e0, e1, e2, e3, e4, -, -⟩ := HO.out; clear hb2; have hww := hw.trans (HO.out.bel.mono hw.size); obtain ⟨g0, g1, g2, g3, g4⟩ := (HK0.out.below hx hww); obtain ⟨i0, i1, i2, i3, i4⟩ := (HK1.out.below hx hww); obtain ⟨j0, j1, j2, j3, j4⟩ := (HK2.out.below hx hww); obtain ⟨f0, f1, f2, f3, f4⟩ := (HK3.out.below hx hww); obtain ⟨d0, d1, d2, d3, d4⟩ := (HK4.out.below hx hww); clear hww))
    go_ret
    exact ⟨ret_bool (by rfl), HO.out.bel⟩
  | true =>
    cases q0 with
    | false =>
      go_enter Try.func59, Try.ntmps59
      go_wp2_with (first | (go_at_call 37; refine (HB0.out _).mono ?_; rintro e w' ⟨rfl, hb2⟩; have HO := Lib.hid (HO.out.next hb2); obtain ⟨e0, e1, e2, e3, e4, -, -⟩ := HO.out; clear hb2; have hww := hw.trans (HO.out.bel.mono hw.size); obtain ⟨g0, g1, g2, g3, g4⟩ := (HK0.out.below hx hww); obtain ⟨i0, i1, i2, i3, i4⟩ := (HK1.out.below hx hww); obtain ⟨j0, j1, j2, j3, j4⟩ := (HK2.out.below hx hww); obtain ⟨f0, f1, f2, f3, f4⟩ := (HK3.out.below hx hww); obtain ⟨d0, d1, d2, d3, d4⟩ := (HK4.out.below hx hww); clear hww) | (go_at_call 38; (with_reducible refine (AllPrm.call HA.out (hw.trans (HO.out.bel.mono hw.size))).mono ?_); rintro e w' ⟨rfl, hb2⟩; have HO := Lib.hid (HO.out.next hb2); obtain ⟨e0, e1, e2, e3, e4, -, -⟩ := HO.out; clear hb2; have hww := hw.trans (HO.out.bel.mono hw.size); obtain ⟨g0, g1, g2, g3, g4⟩ := (HK0.out.below hx hww); obtain ⟨i0, i1, i2, i3, i4⟩ := (HK1.out.below hx hww); obtain ⟨j0, j1, j2, j3, j4⟩ := (HK2.out.below hx hww); obtain ⟨f0, f1, f2, f3, f4⟩ := (HK3.out.below hx hww); obtain ⟨d0, d1, d2, d3, d4⟩ := (HK4.out.below hx hww); clear hww) | (go_at_call 61; (first | (with_reducible refine (HN1.out _).mono ?_) | (with_reducible refine (HN4.out _).mono ?_)); rintro e w' ⟨rfl, hb2⟩; have HO := Lib.hid (HO.out.next hb2); obtain ⟨e0, e1, e2, e3, e4, -, -⟩ := HO.out; clear hb2; have hww := hw.trans (HO.out.bel.mono hw.size); obtain ⟨g0, g1, g2, g3, g4⟩ := (HK0.out.below hx hww); obtain ⟨i0, i1, i2, i3, i4⟩ := (HK1.out.below hx hww); obtain ⟨j0, j1, j2, j3, j4⟩ := (HK2.out.below hx hww); obtain ⟨f0, f1, f2, f3, f4⟩ := (HK3.out.below hx hww); obtain ⟨d0, d1, d2, d3, d4⟩ := (HK4.out.below hx hww); clear hww) | (go_at_call 40; (with_reducible refine (Qua.call HQ.out (hw.trans (HO.out.bel.mono hw.size))).mono ?_); rintro e w' ⟨rfl, hb2⟩; have HO := Lib.hid (HO.out.next hb2); obtain ⟨e0, e1, e2, e3, e4, -, -⟩ := HO.out; clear hb2; have hww := hw.trans (HO.out.bel.mono hw.size); obtain ⟨g0, g1, g2, g3, g4⟩ := (HK0.out.below hx hww); obtain ⟨i0, i1, i2, i3, i4⟩ := (HK1.out.below hx hww); obtain ⟨j0, j1, j2, j3, j4⟩ := (HK2.out.below hx hww); obtain ⟨f0, f1, f2, f3, f4⟩ := (HK3.out.below hx hww); obtain ⟨d0, d1, d2, d3, d4⟩ := (HK4.out.below hx hww); clear hww) | (go_at_call 34; (with_reducible refine (Dcs.call HC.out (hw.trans (HO.out.bel.mono hw.size))).mono ?_); rintro e w' ⟨rfl, hb2⟩; have HO := Lib.hid (HO.out.next hb2); obtain ⟨e0, e1, e2, e3, e4, -, -⟩ := HO.out; clear hb2; have hww := hw.trans (HO.out.bel.mono hw.size); obtain ⟨g0, g1, g2, g3, g4⟩ := (HK0.out.below hx hww); obtain ⟨i0, i1, i2, i3, i4⟩ := (HK1.out.below hx hww); obtain ⟨j0, j1, j2, j3, j4⟩ := (HK2.out.below hx hww); obtain ⟨f0, f1, f2, f3, f4⟩ := (HK3.out.below hx hww); obtain ⟨d0, d1, d2, d3, d4⟩ := (HK4.out.below hx hww); clear hww) | (go_at_call 22; (with_reducible refine (Sms.call HS.out (hw.trans (HO.out.bel.mono hw.size))).mono ?_); rintro e w' ⟨rfl, hb2⟩; have HO := Lib.hid (HO.out.next hb2); obtain ⟨e0, e1, e2, e3, e4, -, -⟩ := HO.out; clear hb2; have hww := hw.trans (HO.out.bel.mono hw.size); obtain ⟨g0, g1, g2, g3, g4⟩ := (HK0.out.below hx hww); obtain ⟨i0, i1, i2, i3, i4⟩ := (HK1.out.below hx hww); obtain ⟨j0, j1, j2, j3, j4⟩ := (HK2.out.below hx hww); obtain ⟨f0, f1, f2, f3, f4⟩ := (HK3.out.below hx hww); obtain ⟨d0, d1, d2, d3, d4⟩ := (HK4.out.below hx hww); clear hww) | (go_at_call 21; (with_reducible refine (Ex.call HE.out (hw.trans (HO.out.bel.mono hw.size))).mono ?_); rintro e w' ⟨rfl, hb2⟩; have HO := Lib.hid (HO.out.next hb2); obtain ⟨e0, e1, e2, e3, e4, -, -⟩ := HO.out; clear hb2; have hww := hw.trans (HO.out.bel.mono hw.size); obtain ⟨g0, g1, g2, g3, g4⟩ := (HK0.out.below hx hww); obtain ⟨i0, i1, i2, i3, i4⟩ := (HK1.out.below hx hww); obtain ⟨j0, j1, j2, j3, j4⟩ := (HK2.out.below hx hww); obtain ⟨f0, f1, f2, f3, f4⟩ := (HK3.out.below hx hww); obtain ⟨d0, d1, d2, d3, d4⟩ := (HK4.out.below hx hww); clear hww))
      go_ret
      exact ⟨ret_bool (by rfl), HO.out.bel⟩
    | true =>
      cases p1 with
      | true =>
        cases q2 with
        | false =>
          go_enter Try.func59, Try.ntmps59
          go_wp2_with (first | (go_at_call 37; refine (HB0.out _).mono ?_; rintro e w' ⟨rfl, hb2⟩; have HO := Lib.hid (HO.out.next hb2); obtain ⟨e0, e1, e2, e3, e4, -, -⟩ := HO.out; clear hb2; have hww := hw.trans (HO.out.bel.mono hw.size); obtain ⟨g0, g1, g2, g3, g4⟩ := (HK0.out.below hx hww); obtain ⟨i0, i1, i2, i3, i4⟩ := (HK1.out.below hx hww); obtain ⟨j0, j1, j2, j3, j4⟩ := (HK2.out.below hx hww); obtain ⟨f0, f1, f2, f3, f4⟩ := (HK3.out.below hx hww); obtain ⟨d0, d1, d2, d3, d4⟩ := (HK4.out.below hx hww); clear hww) | (go_at_call 38; (with_reducible refine (AllPrm.call HA.out (hw.trans (HO.out.bel.mono hw.size))).mono ?_); rintro e w' ⟨rfl, hb2⟩; have HO := Lib.hid (HO.out.next hb2); obtain ⟨e0, e1, e2, e3, e4, -, -⟩ := HO.out; clear hb2; have hww := hw.trans (HO.out.bel.mono hw.size); obtain ⟨g0, g1, g2, g3, g4⟩ := (HK0.out.below hx hww); obtain ⟨i0, i1, i2, i3, i4⟩ := (HK1.out.below hx hww); obtain ⟨j0, j1, j2, j3, j4⟩ := (HK2.out.below hx hww); obtain ⟨f0, f1, f2, f3, f4⟩ := (HK3.out.below hx hww); obtain ⟨d0, d1, d2, d3, d4⟩ := (HK4.out.below hx hww); clear hww) | (go_at_call 61; (first | (with_reducible refine (HN1.out _).mono ?_) | (with_reducible refine (HN4.out _).mono ?_)); rintro e w' ⟨rfl, hb2⟩; have HO := Lib.hid (HO.out.next hb2); obtain ⟨e0, e1, e2, e3, e4, -, -⟩ := HO.out; clear hb2; have hww := hw.trans (HO.out.bel.mono hw.size); obtain ⟨g0, g1, g2, g3, g4⟩ := (HK0.out.below hx hww); obtain ⟨i0, i1, i2, i3, i4⟩ := (HK1.out.below hx hww); obtain ⟨j0, j1, j2, j3, j4⟩ := (HK2.out.below hx hww); obtain ⟨f0, f1, f2, f3, f4⟩ := (HK3.out.below hx hww); obtain ⟨d0, d1, d2, d3, d4⟩ := (HK4.out.below hx hww); clear hww) | (go_at_call 40; (with_reducible refine (Qua.call HQ.out (hw.trans (HO.out.bel.mono hw.size))).mono ?_); rintro e w' ⟨rfl, hb2⟩; have HO := Lib.hid (HO.out.next hb2); obtain ⟨e0, e1, e2, e3, e4, -, -⟩ := HO.out; clear hb2; have hww := hw.trans (HO.out.bel.mono hw.size); obtain ⟨g0, g1, g2, g3, g4⟩ := (HK0.out.below hx hww); obtain ⟨i0, i1, i2, i3, i4⟩ := (HK1.out.below hx hww); obtain ⟨j0, j1, j2, j3, j4⟩ := (HK2.out.below hx hww); obtain ⟨f0, f1, f2, f3, f4⟩ := (HK3.out.below hx hww); obtain ⟨d0, d1, d2, d3, d4⟩ := (HK4.out.below hx hww); clear hww) | (go_at_call 34; (with_reducible refine (Dcs.call HC.out (hw.trans (HO.out.bel.mono hw.size))).mono ?_); rintro e w' ⟨rfl, hb2⟩; have HO := Lib.hid (HO.out.next hb2); obtain ⟨e0, e1, e2, e3, e4, -, -⟩ := HO.out; clear hb2; have hww := hw.trans (HO.out.bel.mono hw.size); obtain ⟨g0, g1, g2, g3, g4⟩ := (HK0.out.below hx hww); obtain ⟨i0, i1, i2, i3, i4⟩ := (HK1.out.below hx hww); obtain ⟨j0, j1, j2, j3, j4⟩ := (HK2.out.below hx hww); obtain ⟨f0, f1, f2, f3, f4⟩ := (HK3.out.below hx hww); obtain ⟨d0, d1, d2, d3, d4⟩ := (HK4.out.below hx hww); clear hww) | (go_at_call 22; (with_reducible refine (Sms.call HS.out (hw.trans (HO.out.bel.mono hw.size))).mono ?_); rintro e w' ⟨rfl, hb2⟩; have HO := Lib.hid (HO.out.next hb2); obtain ⟨e0, e1, e2, e3, e4, -, -⟩ := HO.out; clear hb2; have hww := hw.trans (HO.out.bel.mono hw.size); obtain ⟨g0, g1, g2, g3, g4⟩ := (HK0.out.below hx hww); obtain ⟨i0, i1, i2, i3, i4⟩ := (HK1.out.below hx hww); obtain ⟨j0, j1, j2, j3, j4⟩ := (HK2.out.below hx hww); obtain ⟨f0, f1, f2, f3, f4⟩ := (HK3.out.below hx hww); obtain ⟨d0, d1, d2, d3, d4⟩ := (HK4.out.below hx hww); clear hww) | (go_at_call 21; (with_reducible refine (Ex.call HE.out (hw.trans (HO.out.bel.mono hw.size))).mono ?_); rintro e w' ⟨rfl, hb2⟩; have HO := Lib.hid (HO.out.next hb2); obtain ⟨e0, e1, e2, e3, e4, -, -⟩ := HO.out; clear hb2; have hww := hw.trans (HO.out.bel.mono hw.size); obtain ⟨g0, g1, g2, g3, g4⟩ := (HK0.out.below hx hww); obtain ⟨i0, i1, i2, i3, i4⟩ := (HK1.out.below hx hww); obtain ⟨j0, j1, j2, j3, j4⟩ := (HK2.out.below hx hww); obtain ⟨f0, f1, f2, f3, f4⟩ := (HK3.out.below hx hww); obtain ⟨d0, d1, d2, d3, d4⟩ := (HK4.out.below hx hww); clear hww))
          go_ret
          exact ⟨ret_bool (by rfl), HO.out.bel⟩
        | true =>
          cases q3 with
          | false =>
            go_enter Try.func59, Try.ntmps59
            go_wp2_with (first | (go_at_call 37; refine (HB0.out _).mono ?_; rintro e w' ⟨rfl, hb2⟩; have HO := Lib.hid (HO.out.next hb2); obtain ⟨e0, e1, e2, e3, e4, -, -⟩ := HO.out; clear hb2; have hww := hw.trans (HO.out.bel.mono hw.size); obtain ⟨g0, g1, g2, g3, g4⟩ := (HK0.out.below hx hww); obtain ⟨i0, i1, i2, i3, i4⟩ := (HK1.out.below hx hww); obtain ⟨j0, j1, j2, j3, j4⟩ := (HK2.out.below hx hww); obtain ⟨f0, f1, f2, f3, f4⟩ := (HK3.out.below hx hww); obtain ⟨d0, d1, d2, d3, d4⟩ := (HK4.out.below hx hww); clear hww) | (go_at_call 38; (with_reducible refine (AllPrm.call HA.out (hw.trans (HO.out.bel.mono hw.size))).mono ?_); rintro e w' ⟨rfl, hb2⟩; have HO := Lib.hid (HO.out.next hb2); obtain ⟨e0, e1, e2, e3, e4, -, -⟩ := HO.out; clear hb2; have hww := hw.trans (HO.out.bel.mono hw.size); obtain ⟨g0, g1, g2, g3, g4⟩ := (HK0.out.below hx hww); obtain ⟨i0, i1, i2, i3, i4⟩ := (HK1.out.below hx hww); obtain ⟨j0, j1, j2, j3, j4⟩ := (HK2.out.below hx hww); obtain ⟨f0, f1, f2, f3, f4⟩ := (HK3.out.below hx hww); obtain ⟨d0, d1, d2, d3, d4⟩ := (HK4.out.below hx hww); clear hww) | (go_at_call 61; (first | (with_reducible refine (HN1.out _).mono ?_) | (with_reducible refine (HN4.out _).mono ?_)); rintro e w' ⟨rfl, hb2⟩; have HO := Lib.hid (HO.out.next hb2); obtain ⟨e0, e1, e2, e3, e4, -, -⟩ := HO.out; clear hb2; have hww := hw.trans (HO.out.bel.mono hw.size); obtain ⟨g0, g1, g2, g3, g4⟩ := (HK0.out.below hx hww); obtain ⟨i0, i1, i2, i3, i4⟩ := (HK1.out.below hx hww); obtain ⟨j0, j1, j2, j3, j4⟩ := (HK2.out.below hx hww); obtain ⟨f0, f1, f2, f3, f4⟩ := (HK3.out.below hx hww); obtain ⟨d0, d1, d2, d3, d4⟩ := (HK4.out.below hx hww); clear hww) | (go_at_call 40; (with_reducible refine (Qua.call HQ.out (hw.trans (HO.out.bel.mono hw.size))).mono ?_); rintro e w' ⟨rfl, hb2⟩; have HO := Lib.hid (HO.out.next hb2); obtain ⟨e0, e1, e2, e3, e4, -, -⟩ := HO.out; clear hb2; have hww := hw.trans (HO.out.bel.mono hw.size); obtain ⟨g0, g1, g2, g3, g4⟩ := (HK0.out.below hx hww); obtain ⟨i0, i1, i2, i3, i4⟩ := (HK1.out.below hx hww); obtain ⟨j0, j1, j2, j3, j4⟩ := (HK2.out.below hx hww); obtain ⟨f0, f1, f2, f3, f4⟩ := (HK3.out.below hx hww); obtain ⟨d0, d1, d2, d3, d4⟩ := (HK4.out.below hx hww); clear hww) | (go_at_call 34; (with_reducible refine (Dcs.call HC.out (hw.trans (HO.out.bel.mono hw.size))).mono ?_); rintro e w' ⟨rfl, hb2⟩; have HO := Lib.hid (HO.out.next hb2); obtain ⟨e0, e1, e2, e3, e4, -, -⟩ := HO.out; clear hb2; have hww := hw.trans (HO.out.bel.mono hw.size); obtain ⟨g0, g1, g2, g3, g4⟩ := (HK0.out.below hx hww); obtain ⟨i0, i1, i2, i3, i4⟩ := (HK1.out.below hx hww); obtain ⟨j0, j1, j2, j3, j4⟩ := (HK2.out.below hx hww); obtain ⟨f0, f1, f2, f3, f4⟩ := (HK3.out.below hx hww); obtain ⟨d0, d1, d2, d3, d4⟩ := (HK4.out.below hx hww); clear hww) | (go_at_call 22; (with_reducible refine (Sms.call HS.out (hw.trans (HO.out.bel.mono hw.size))).mono ?_); rintro e w' ⟨rfl, hb2⟩; have HO := Lib.hid (HO.out.next hb2); obtain ⟨e0, e1, e2, e3, e4, -, -⟩ := HO.out; clear hb2; have hww := hw.trans (HO.out.bel.mono hw.size); obtain ⟨g0, g1, g2, g3, g4⟩ := (HK0.out.below hx hww); obtain ⟨i0, i1, i2, i3, i4⟩ := (HK1.out.below hx hww); obtain ⟨j0, j1, j2, j3, j4⟩ := (HK2.out.below hx hww); obtain ⟨f0, f1, f2, f3, f4⟩ := (HK3.out.below hx hww); obtain ⟨d0, d1, d2, d3, d4⟩ := (HK4.out.below hx hww); clear hww) | (go_at_call 21; (with_reducible refine (Ex.call HE.out (hw.trans (HO.out.bel.mono hw.size))).mono ?_); rintro e w' ⟨rfl, hb2⟩; have HO := Lib.hid (HO.out.next hb2); obtain ⟨e0, e1, e2, e3, e4, -, -⟩ := HO.out; clear hb2; have hww := hw.trans (HO.out.bel.mono hw.size); obtain ⟨g0, g1, g2, g3, g4⟩ := (HK0.out.below hx hww); obtain ⟨i0, i1, i2, i3, i4⟩ := (HK1.out.below hx hww); obtain ⟨j0, j1, j2, j3, j4⟩ := (HK2.out.below hx hww); obtain ⟨f0, f1, f2, f3, f4⟩ := (HK3.out.below hx hww); obtain ⟨d0, d1, d2, d3, d4⟩ := (HK4.out.below hx hww); clear hww))
            go_ret
            exact ⟨ret_bool (by rfl), HO.out.bel⟩
          | true =>
            cases p4 with
            | true =>
              go_enter Try.func59, Try.ntmps59
              go_wp2_with (first | (go_at_call 37; refine (HB0.out _).mono ?_; rintro e w' ⟨rfl, hb2⟩; have HO := Lib.hid (HO.out.next hb2); obtain ⟨e0, e1, e2, e3, e4, -, -⟩ := HO.out; clear hb2; have hww := hw.trans (HO.out.bel.mono hw.size); obtain ⟨g0, g1, g2, g3, g4⟩ := (HK0.out.below hx hww); obtain ⟨i0, i1, i2, i3, i4⟩ := (HK1.out.below hx hww); obtain ⟨j0, j1, j2, j3, j4⟩ := (HK2.out.below hx hww); obtain ⟨f0, f1, f2, f3, f4⟩ := (HK3.out.below hx hww); obtain ⟨d0, d1, d2, d3, d4⟩ := (HK4.out.below hx hww); clear hww) | (go_at_call 38; (with_reducible refine (AllPrm.call HA.out (hw.trans (HO.out.bel.mono hw.size))).mono ?_); rintro e w' ⟨rfl, hb2⟩; have HO := Lib.hid (HO.out.next hb2); obtain ⟨e0, e1, e2, e3, e4, -, -⟩ := HO.out; clear hb2; have hww := hw.trans (HO.out.bel.mono hw.size); obtain ⟨g0, g1, g2, g3, g4⟩ := (HK0.out.below hx hww); obtain ⟨i0, i1, i2, i3, i4⟩ := (HK1.out.below hx hww); obtain ⟨j0, j1, j2, j3, j4⟩ := (HK2.out.below hx hww); obtain ⟨f0, f1, f2, f3, f4⟩ := (HK3.out.below hx hww); obtain ⟨d0, d1, d2, d3, d4⟩ := (HK4.out.below hx hww); clear hww) | (go_at_call 61; (first | (with_reducible refine (HN1.out _).mono ?_) | (with_reducible refine (HN4.out _).mono ?_)); rintro e w' ⟨rfl, hb2⟩; have HO := Lib.hid (HO.out.next hb2); obtain ⟨e0, e1, e2, e3, e4, -, -⟩ := HO.out; clear hb2; have hww := hw.trans (HO.out.bel.mono hw.size); obtain ⟨g0, g1, g2, g3, g4⟩ := (HK0.out.below hx hww); obtain ⟨i0, i1, i2, i3, i4⟩ := (HK1.out.below hx hww); obtain ⟨j0, j1, j2, j3, j4⟩ := (HK2.out.below hx hww); obtain ⟨f0, f1, f2, f3, f4⟩ := (HK3.out.below hx hww); obtain ⟨d0, d1, d2, d3, d4⟩ := (HK4.out.below hx hww); clear hww) | (go_at_call 40; (with_reducible refine (Qua.call HQ.out (hw.trans (HO.out.bel.mono hw.size))).mono ?_); rintro e w' ⟨rfl, hb2⟩; have HO := Lib.hid (HO.out.next hb2); obtain ⟨e0, e1, e2, e3, e4, -, -⟩ := HO.out; clear hb2; have hww := hw.trans (HO.out.bel.mono hw.size); obtain ⟨g0, g1, g2, g3, g4⟩ := (HK0.out.below hx hww); obtain ⟨i0, i1, i2, i3, i4⟩ := (HK1.out.below hx hww); obtain ⟨j0, j1, j2, j3, j4⟩ := (HK2.out.below hx hww); obtain ⟨f0, f1, f2, f3, f4⟩ := (HK3.out.below hx hww); obtain ⟨d0, d1, d2, d3, d4⟩ := (HK4.out.below hx hww); clear hww) | (go_at_call 34; (with_reducible refine (Dcs.call HC.out (hw.trans (HO.out.bel.mono hw.size))).mono ?_); rintro e w' ⟨rfl, hb2⟩; have HO := Lib.hid (HO.out.next hb2); obtain ⟨e0, e1, e2, e3, e4, -, -⟩ := HO.out; clear hb2; have hww := hw.trans (HO.out.bel.mono hw.size); obtain ⟨g0, g1, g2, g3, g4⟩ := (HK0.out.below hx hww); obtain ⟨i0, i1, i2, i3, i4⟩ := (HK1.out.below hx hww); obtain ⟨j0, j1, j2, j3, j4⟩ := (HK2.out.below hx hww); obtain ⟨f0, f1, f2, f3, f4⟩ := (HK3.out.below hx hww); obtain ⟨d0, d1, d2, d3, d4⟩ := (HK4.out.below hx hww); clear hww) | (go_at_call 22; (with_reducible refine (Sms.call HS.out (hw.trans (HO.out.bel.mono hw.size))).mono ?_); rintro e w' ⟨rfl, hb2⟩; have HO := Lib.hid (HO.out.next hb2); obtain ⟨e0, e1, e2, e3, e4, -, -⟩ := HO.out; clear hb2; have hww := hw.trans (HO.out.bel.mono hw.size); obtain ⟨g0, g1, g2, g3, g4⟩ := (HK0.out.below hx hww); obtain ⟨i0, i1, i2, i3, i4⟩ := (HK1.out.below hx hww); obtain ⟨j0, j1, j2, j3, j4⟩ := (HK2.out.below hx hww); obtain ⟨f0, f1, f2, f3, f4⟩ := (HK3.out.below hx hww); obtain ⟨d0, d1, d2, d3, d4⟩ := (HK4.out.below hx hww); clear hww) | (go_at_call 21; (with_reducible refine (Ex.call HE.out (hw.trans (HO.out.bel.mono hw.size))).mono ?_); rintro e w' ⟨rfl, hb2⟩; have HO := Lib.hid (HO.out.next hb2); obtain ⟨e0, e1, e2, e3, e4, -, -⟩ := HO.out; clear hb2; have hww := hw.trans (HO.out.bel.mono hw.size); obtain ⟨g0, g1, g2, g3, g4⟩ := (HK0.out.below hx hww); obtain ⟨i0, i1, i2, i3, i4⟩ := (HK1.out.below hx hww); obtain ⟨j0, j1, j2, j3, j4⟩ := (HK2.out.below hx hww); obtain ⟨f0, f1, f2, f3, f4⟩ := (HK3.out.below hx hww); obtain ⟨d0, d1, d2, d3, d4⟩ := (HK4.out.below hx hww); clear hww))
              go_ret
              exact ⟨ret_bool (by rfl), HO.out.bel⟩
            | false =>
              cases q4 with
              | false =>
                go_enter Try.func59, Try.ntmps59
                go_wp2_with (first | (go_at_call 37; refine (HB0.out _).mono ?_; rintro e w' ⟨rfl, hb2⟩; have HO := Lib.hid (HO.out.next hb2); obtain ⟨e0, e1, e2, e3, e4, -, -⟩ := HO.out; clear hb2; have hww := hw.trans (HO.out.bel.mono hw.size); obtain ⟨g0, g1, g2, g3, g4⟩ := (HK0.out.below hx hww); obtain ⟨i0, i1, i2, i3, i4⟩ := (HK1.out.below hx hww); obtain ⟨j0, j1, j2, j3, j4⟩ := (HK2.out.below hx hww); obtain ⟨f0, f1, f2, f3, f4⟩ := (HK3.out.below hx hww); obtain ⟨d0, d1, d2, d3, d4⟩ := (HK4.out.below hx hww); clear hww) | (go_at_call 38; (with_reducible refine (AllPrm.call HA.out (hw.trans (HO.out.bel.mono hw.size))).mono ?_); rintro e w' ⟨rfl, hb2⟩; have HO := Lib.hid (HO.out.next hb2); obtain ⟨e0, e1, e2, e3, e4, -, -⟩ := HO.out; clear hb2; have hww := hw.trans (HO.out.bel.mono hw.size); obtain ⟨g0, g1, g2, g3, g4⟩ := (HK0.out.below hx hww); obtain ⟨i0, i1, i2, i3, i4⟩ := (HK1.out.below hx hww); obtain ⟨j0, j1, j2, j3, j4⟩ := (HK2.out.below hx hww); obtain ⟨f0, f1, f2, f3, f4⟩ := (HK3.out.below hx hww); obtain ⟨d0, d1, d2, d3, d4⟩ := (HK4.out.below hx hww); clear hww) | (go_at_call 61; (first | (with_reducible refine (HN1.out _).mono ?_) | (with_reducible refine (HN4.out _).mono ?_)); rintro e w' ⟨rfl, hb2⟩; have HO := Lib.hid (HO.out.next hb2); obtain ⟨e0, e1, e2, e3, e4, -, -⟩ := HO.out; clear hb2; have hww := hw.trans (HO.out.bel.mono hw.size); obtain ⟨g0, g1, g2, g3, g4⟩ := (HK0.out.below hx hww); obtain ⟨i0, i1, i2, i3, i4⟩ := (HK1.out.below hx hww); obtain ⟨j0, j1, j2, j3, j4⟩ := (HK2.out.below hx hww); obtain ⟨f0, f1, f2, f3, f4⟩ := (HK3.out.below hx hww); obtain ⟨d0, d1, d2, d3, d4⟩ := (HK4.out.below hx hww); clear hww) | (go_at_call 40; (with_reducible refine (Qua.call HQ.out (hw.trans (HO.out.bel.mono hw.size))).mono ?_); rintro e w' ⟨rfl, hb2⟩; have HO := Lib.hid (HO.out.next hb2); obtain ⟨e0, e1, e2, e3, e4, -, -⟩ := HO.out; clear hb2; have hww := hw.trans (HO.out.bel.mono hw.size); obtain ⟨g0, g1, g2, g3, g4⟩ := (HK0.out.below hx hww); obtain ⟨i0, i1, i2, i3, i4⟩ := (HK1.out.below hx hww); obtain ⟨j0, j1, j2, j3, j4⟩ := (HK2.out.below hx hww); obtain ⟨f0, f1, f2, f3, f4⟩ := (HK3.out.below hx hww); obtain ⟨d0, d1, d2, d3, d4⟩ := (HK4.out.below hx hww); clear hww) | (go_at_call 34; (with_reducible refine (Dcs.call HC.out (hw.trans (HO.out.bel.mono hw.size))).mono ?_); rintro e w' ⟨rfl, hb2⟩; have HO := Lib.hid (HO.out.next hb2); obtain ⟨e0, e1, e2, e3, e4, -, -⟩ := HO.out; clear hb2; have hww := hw.trans (HO.out.bel.mono hw.size); obtain ⟨g0, g1, g2, g3, g4⟩ := (HK0.out.below hx hww); obtain ⟨i0, i1, i2, i3, i4⟩ := (HK1.out.below hx hww); obtain ⟨j0, j1, j2, j3, j4⟩ := (HK2.out.below hx hww); obtain ⟨f0, f1, f2, f3, f4⟩ := (HK3.out.below hx hww); obtain ⟨d0, d1, d2, d3, d4⟩ := (HK4.out.below hx hww); clear hww) | (go_at_call 22; (with_reducible refine (Sms.call HS.out (hw.trans (HO.out.bel.mono hw.size))).mono ?_); rintro e w' ⟨rfl, hb2⟩; have HO := Lib.hid (HO.out.next hb2); obtain ⟨e0, e1, e2, e3, e4, -, -⟩ := HO.out; clear hb2; have hww := hw.trans (HO.out.bel.mono hw.size); obtain ⟨g0, g1, g2, g3, g4⟩ := (HK0.out.below hx hww); obtain ⟨i0, i1, i2, i3, i4⟩ := (HK1.out.below hx hww); obtain ⟨j0, j1, j2, j3, j4⟩ := (HK2.out.below hx hww); obtain ⟨f0, f1, f2, f3, f4⟩ := (HK3.out.below hx hww); obtain ⟨d0, d1, d2, d3, d4⟩ := (HK4.out.below hx hww); clear hww) | (go_at_call 21; (with_reducible refine (Ex.call HE.out (hw.trans (HO.out.bel.mono hw.size))).mono ?_); rintro e w' ⟨rfl, hb2⟩; have HO := Lib.hid (HO.out.next hb2); obtain ⟨e0, e1, e2, e3, e4, -, -⟩ := HO.out; clear hb2; have hww := hw.trans (HO.out.bel.mono hw.size); obtain ⟨g0, g1, g2, g3, g4⟩ := (HK0.out.below hx hww); obtain ⟨i0, i1, i2, i3, i4⟩ := (HK1.out.below hx hww); obtain ⟨j0, j1, j2, j3, j4⟩ := (HK2.out.below hx hww); obtain ⟨f0, f1, f2, f3, f4⟩ := (HK3.out.below hx hww); obtain ⟨d0, d1, d2, d3, d4⟩ := (HK4.out.below hx hww); clear hww))
                go_ret
                exact ⟨ret_bool (by rfl), HO.out.bel⟩
              | true =>
                go_enter Try.func59, Try.ntmps59
                go_wp2_with (first | (go_at_call 37; refine (HB0.out _).mono ?_; rintro e w' ⟨rfl, hb2⟩; have HO := Lib.hid (HO.out.next hb2); obtain ⟨e0, e1, e2, e3, e4, -, -⟩ := HO.out; clear hb2; have hww := hw.trans (HO.out.bel.mono hw.size); obtain ⟨g0, g1, g2, g3, g4⟩ := (HK0.out.below hx hww); obtain ⟨i0, i1, i2, i3, i4⟩ := (HK1.out.below hx hww); obtain ⟨j0, j1, j2, j3, j4⟩ := (HK2.out.below hx hww); obtain ⟨f0, f1, f2, f3, f4⟩ := (HK3.out.below hx hww); obtain ⟨d0, d1, d2, d3, d4⟩ := (HK4.out.below hx hww); clear hww) | (go_at_call 38; (with_reducible refine (AllPrm.call HA.out (hw.trans (HO.out.bel.mono hw.size))).mono ?_); rintro e w' ⟨rfl, hb2⟩; have HO := Lib.hid (HO.out.next hb2); obtain ⟨e0, e1, e2, e3, e4, -, -⟩ := HO.out; clear hb2; have hww := hw.trans (HO.out.bel.mono hw.size); obtain ⟨g0, g1, g2, g3, g4⟩ := (HK0.out.below hx hww); obtain ⟨i0, i1, i2, i3, i4⟩ := (HK1.out.below hx hww); obtain ⟨j0, j1, j2, j3, j4⟩ := (HK2.out.below hx hww); obtain ⟨f0, f1, f2, f3, f4⟩ := (HK3.out.below hx hww); obtain ⟨d0, d1, d2, d3, d4⟩ := (HK4.out.below hx hww); clear hww) | (go_at_call 61; (first | (with_reducible refine (HN1.out _).mono ?_) | (with_reducible refine (HN4.out _).mono ?_)); rintro e w' ⟨rfl, hb2⟩; have HO := Lib.hid (HO.out.next hb2); obtain ⟨e0, e1, e2, e3, e4, -, -⟩ := HO.out; clear hb2; have hww := hw.trans (HO.out.bel.mono hw.size); obtain ⟨g0, g1, g2, g3, g4⟩ := (HK0.out.below hx hww); obtain ⟨i0, i1, i2, i3, i4⟩ := (HK1.out.below hx hww); obtain ⟨j0, j1, j2, j3, j4⟩ := (HK2.out.below hx hww); obtain ⟨f0, f1, f2, f3, f4⟩ := (HK3.out.below hx hww); obtain ⟨d0, d1, d2, d3, d4⟩ := (HK4.out.below hx hww); clear hww) | (go_at_call 40; (with_reducible refine (Qua.call HQ.out (hw.trans (HO.out.bel.mono hw.size))).mono ?_); rintro e w' ⟨rfl, hb2⟩; have HO := Lib.hid (HO.out.next hb2); obtain ⟨e0, e1, e2, e3, e4, -, -⟩ := HO.out; clear hb2; have hww := hw.trans (HO.out.bel.mono hw.size); obtain ⟨g0, g1, g2, g3, g4⟩ := (HK0.out.below hx hww); obtain ⟨i0, i1, i2, i3, i4⟩ := (HK1.out.below hx hww); obtain ⟨j0, j1, j2, j3, j4⟩ := (HK2.out.below hx hww); obtain ⟨f0, f1, f2, f3, f4⟩ := (HK3.out.below hx hww); obtain ⟨d0, d1, d2, d3, d4⟩ := (HK4.out.below hx hww); clear hww) | (go_at_call 34; (with_reducible refine (Dcs.call HC.out (hw.trans (HO.out.bel.mono hw.size))).mono ?_); rintro e w' ⟨rfl, hb2⟩; have HO := Lib.hid (HO.out.next hb2); obtain ⟨e0, e1, e2, e3, e4, -, -⟩ := HO.out; clear hb2; have hww := hw.trans (HO.out.bel.mono hw.size); obtain ⟨g0, g1, g2, g3, g4⟩ := (HK0.out.below hx hww); obtain ⟨i0, i1, i2, i3, i4⟩ := (HK1.out.below hx hww); obtain ⟨j0, j1, j2, j3, j4⟩ := (HK2.out.below hx hww); obtain ⟨f0, f1, f2, f3, f4⟩ := (HK3.out.below hx hww); obtain ⟨d0, d1, d2, d3, d4⟩ := (HK4.out.below hx hww); clear hww) | (go_at_call 22; (with_reducible refine (Sms.call HS.out (hw.trans (HO.out.bel.mono hw.size))).mono ?_); rintro e w' ⟨rfl, hb2⟩; have HO := Lib.hid (HO.out.next hb2); obtain ⟨e0, e1, e2, e3, e4, -, -⟩ := HO.out; clear hb2; have hww := hw.trans (HO.out.bel.mono hw.size); obtain ⟨g0, g1, g2, g3, g4⟩ := (HK0.out.below hx hww); obtain ⟨i0, i1, i2, i3, i4⟩ := (HK1.out.below hx hww); obtain ⟨j0, j1, j2, j3, j4⟩ := (HK2.out.below hx hww); obtain ⟨f0, f1, f2, f3, f4⟩ := (HK3.out.below hx hww); obtain ⟨d0, d1, d2, d3, d4⟩ := (HK4.out.below hx hww); clear hww) | (go_at_call 21; (with_reducible refine (Ex.call HE.out (hw.trans (HO.out.bel.mono hw.size))).mono ?_); rintro e w' ⟨rfl, hb2⟩; have HO := Lib.hid (HO.out.next hb2); obtain ⟨e0, e1, e2, e3, e4, -, -⟩ := HO.out; clear hb2; have hww := hw.trans (HO.out.bel.mono hw.size); obtain ⟨g0, g1, g2, g3, g4⟩ := (HK0.out.below hx hww); obtain ⟨i0, i1, i2, i3, i4⟩ := (HK1.out.below hx hww); obtain ⟨j0, j1, j2, j3, j4⟩ := (HK2.out.below hx hww); obtain ⟨f0, f1, f2, f3, f4⟩ := (HK3.out.below hx hww); obtain ⟨d0, d1, d2, d3, d4⟩ := (HK4.out.below hx hww); clear hww))
                go_ret
                exact ⟨ret_bool (by rfl), HO.out.bel⟩
      | false =>
        cases q1 with
        | false =>
          go_enter Try.func59, Try.ntmps59
          go_wp2_with (first | (go_at_call 37; refine (HB0.out _).mono ?_; rintro e w' ⟨rfl, hb2⟩; have HO := Lib.hid (HO.out.next hb2); obtain ⟨e0, e1, e2, e3, e4, -, -⟩ := HO.out; clear hb2; have hww := hw.trans (HO.out.bel.mono hw.size); obtain ⟨g0, g1, g2, g3, g4⟩ := (HK0.out.below hx hww); obtain ⟨i0, i1, i2, i3, i4⟩ := (HK1.out.below hx hww); obtain ⟨j0, j1, j2, j3, j4⟩ := (HK2.out.below hx hww); obtain ⟨f0, f1, f2, f3, f4⟩ := (HK3.out.below hx hww); obtain ⟨d0, d1, d2, d3, d4⟩ := (HK4.out.below hx hww); clear hww) | (go_at_call 38; (with_reducible refine (AllPrm.call HA.out (hw.trans (HO.out.bel.mono hw.size))).mono ?_); rintro e w' ⟨rfl, hb2⟩; have HO := Lib.hid (HO.out.next hb2); obtain ⟨e0, e1, e2, e3, e4, -, -⟩ := HO.out; clear hb2; have hww := hw.trans (HO.out.bel.mono hw.size); obtain ⟨g0, g1, g2, g3, g4⟩ := (HK0.out.below hx hww); obtain ⟨i0, i1, i2, i3, i4⟩ := (HK1.out.below hx hww); obtain ⟨j0, j1, j2, j3, j4⟩ := (HK2.out.below hx hww); obtain ⟨f0, f1, f2, f3, f4⟩ := (HK3.out.below hx hww); obtain ⟨d0, d1, d2, d3, d4⟩ := (HK4.out.below hx hww); clear hww) | (go_at_call 61; (first | (with_reducible refine (HN1.out _).mono ?_) | (with_reducible refine (HN4.out _).mono ?_)); rintro e w' ⟨rfl, hb2⟩; have HO := Lib.hid (HO.out.next hb2); obtain ⟨e0, e1, e2, e3, e4, -, -⟩ := HO.out; clear hb2; have hww := hw.trans (HO.out.bel.mono hw.size); obtain ⟨g0, g1, g2, g3, g4⟩ := (HK0.out.below hx hww); obtain ⟨i0, i1, i2, i3, i4⟩ := (HK1.out.below hx hww); obtain ⟨j0, j1, j2, j3, j4⟩ := (HK2.out.below hx hww); obtain ⟨f0, f1, f2, f3, f4⟩ := (HK3.out.below hx hww); obtain ⟨d0, d1, d2, d3, d4⟩ := (HK4.out.below hx hww); clear hww) | (go_at_call 40; (with_reducible refine (Qua.call HQ.out (hw.trans (HO.out.bel.mono hw.size))).mono ?_); rintro e w' ⟨rfl, hb2⟩; have HO := Lib.hid (HO.out.next hb2); obtain ⟨e0, e1, e2, e3, e4, -, -⟩ := HO.out; clear hb2; have hww := hw.trans (HO.out.bel.mono hw.size); obtain ⟨g0, g1, g2, g3, g4⟩ := (HK0.out.below hx hww); obtain ⟨i0, i1, i2, i3, i4⟩ := (HK1.out.below hx hww); obtain ⟨j0, j1, j2, j3, j4⟩ := (HK2.out.below hx hww); obtain ⟨f0, f1, f2, f3, f4⟩ := (HK3.out.below hx hww); obtain ⟨d0, d1, d2, d3, d4⟩ := (HK4.out.below hx hww); clear hww) | (go_at_call 34; (with_reducible refine (Dcs.call HC.out (hw.trans (HO.out.bel.mono hw.size))).mono ?_); rintro e w' ⟨rfl, hb2⟩; have HO := Lib.hid (HO.out.next hb2); obtain ⟨e0, e1, e2, e3, e4, -, -⟩ := HO.out; clear hb2; have hww := hw.trans (HO.out.bel.mono hw.size); obtain ⟨g0, g1, g2, g3, g4⟩ := (HK0.out.below hx hww); obtain ⟨i0, i1, i2, i3, i4⟩ := (HK1.out.below hx hww); obtain ⟨j0, j1, j2, j3, j4⟩ := (HK2.out.below hx hww); obtain ⟨f0, f1, f2, f3, f4⟩ := (HK3.out.below hx hww); obtain ⟨d0, d1, d2, d3, d4⟩ := (HK4.out.below hx hww); clear hww) | (go_at_call 22; (with_reducible refine (Sms.call HS.out (hw.trans (HO.out.bel.mono hw.size))).mono ?_); rintro e w' ⟨rfl, hb2⟩; have HO := Lib.hid (HO.out.next hb2); obtain ⟨e0, e1, e2, e3, e4, -, -⟩ := HO.out; clear hb2; have hww := hw.trans (HO.out.bel.mono hw.size); obtain ⟨g0, g1, g2, g3, g4⟩ := (HK0.out.below hx hww); obtain ⟨i0, i1, i2, i3, i4⟩ := (HK1.out.below hx hww); obtain ⟨j0, j1, j2, j3, j4⟩ := (HK2.out.below hx hww); obtain ⟨f0, f1, f2, f3, f4⟩ := (HK3.out.below hx hww); obtain ⟨d0, d1, d2, d3, d4⟩ := (HK4.out.below hx hww); clear hww) | (go_at_call 21; (with_reducible refine (Ex.call HE.out (hw.trans (HO.out.bel.mono hw.size))).mono ?_); rintro e w' ⟨rfl, hb2⟩; have HO := Lib.hid (HO.out.next hb2); obtain ⟨e0, e1, e2, e3, e4, -, -⟩ := HO.out; clear hb2; have hww := hw.trans (HO.out.bel.mono hw.size); obtain ⟨g0, g1, g2, g3, g4⟩ := (HK0.out.below hx hww); obtain ⟨i0, i1, i2, i3, i4⟩ := (HK1.out.below hx hww); obtain ⟨j0, j1, j2, j3, j4⟩ := (HK2.out.below hx hww); obtain ⟨f0, f1, f2, f3, f4⟩ := (HK3.out.below hx hww); obtain ⟨d0, d1, d2, d3, d4⟩ := (HK4.out.below hx hww); clear hww))
          go_ret
          exact ⟨ret_bool (by rfl), HO.out.bel⟩
        | true =>
          cases q2 with
          | false =>
            go_enter Try.func59, Try.ntmps59
            go_wp2_with (first | (go_at_call 37; refine (HB0.out _).mono ?_; rintro e w' ⟨rfl, hb2⟩; have HO := Lib.hid (HO.out.next hb2); obtain ⟨e0, e1, e2, e3, e4, -, -⟩ := HO.out; clear hb2; have hww := hw.trans (HO.out.bel.mono hw.size); obtain ⟨g0, g1, g2, g3, g4⟩ := (HK0.out.below hx hww); obtain ⟨i0, i1, i2, i3, i4⟩ := (HK1.out.below hx hww); obtain ⟨j0, j1, j2, j3, j4⟩ := (HK2.out.below hx hww); obtain ⟨f0, f1, f2, f3, f4⟩ := (HK3.out.below hx hww); obtain ⟨d0, d1, d2, d3, d4⟩ := (HK4.out.below hx hww); clear hww) | (go_at_call 38; (with_reducible refine (AllPrm.call HA.out (hw.trans (HO.out.bel.mono hw.size))).mono ?_); rintro e w' ⟨rfl, hb2⟩; have HO := Lib.hid (HO.out.next hb2); obtain ⟨e0, e1, e2, e3, e4, -, -⟩ := HO.out; clear hb2; have hww := hw.trans (HO.out.bel.mono hw.size); obtain ⟨g0, g1, g2, g3, g4⟩ := (HK0.out.below hx hww); obtain ⟨i0, i1, i2, i3, i4⟩ := (HK1.out.below hx hww); obtain ⟨j0, j1, j2, j3, j4⟩ := (HK2.out.below hx hww); obtain ⟨f0, f1, f2, f3, f4⟩ := (HK3.out.below hx hww); obtain ⟨d0, d1, d2, d3, d4⟩ := (HK4.out.below hx hww); clear hww) | (go_at_call 61; (first | (with_reducible refine (HN1.out _).mono ?_) | (with_reducible refine (HN4.out _).mono ?_)); rintro e w' ⟨rfl, hb2⟩; have HO := Lib.hid (HO.out.next hb2); obtain ⟨e0, e1, e2, e3, e4, -, -⟩ := HO.out; clear hb2; have hww := hw.trans (HO.out.bel.mono hw.size); obtain ⟨g0, g1, g2, g3, g4⟩ := (HK0.out.below hx hww); obtain ⟨i0, i1, i2, i3, i4⟩ := (HK1.out.below hx hww); obtain ⟨j0, j1, j2, j3, j4⟩ := (HK2.out.below hx hww); obtain ⟨f0, f1, f2, f3, f4⟩ := (HK3.out.below hx hww); obtain ⟨d0, d1, d2, d3, d4⟩ := (HK4.out.below hx hww); clear hww) | (go_at_call 40; (with_reducible refine (Qua.call HQ.out (hw.trans (HO.out.bel.mono hw.size))).mono ?_); rintro e w' ⟨rfl, hb2⟩; have HO := Lib.hid (HO.out.next hb2); obtain ⟨e0, e1, e2, e3, e4, -, -⟩ := HO.out; clear hb2; have hww := hw.trans (HO.out.bel.mono hw.size); obtain ⟨g0, g1, g2, g3, g4⟩ := (HK0.out.below hx hww); obtain ⟨i0, i1, i2, i3, i4⟩ := (HK1.out.below hx hww); obtain ⟨j0, j1, j2, j3, j4⟩ := (HK2.out.below hx hww); obtain ⟨f0, f1, f2, f3, f4⟩ := (HK3.out.below hx hww); obtain ⟨d0, d1, d2, d3, d4⟩ := (HK4.out.below hx hww); clear hww) | (go_at_call 34; (with_reducible refine (Dcs.call HC.out (hw.trans (HO.out.bel.mono hw.size))).mono ?_); rintro e w' ⟨rfl, hb2⟩; have HO := Lib.hid (HO.out.next hb2); obtain ⟨e0, e1, e2, e3, e4, -, -⟩ := HO.out; clear hb2; have hww := hw.trans (HO.out.bel.mono hw.size); obtain ⟨g0, g1, g2, g3, g4⟩ := (HK0.out.below hx hww); obtain ⟨i0, i1, i2, i3, i4⟩ := (HK1.out.below hx hww); obtain ⟨j0, j1, j2, j3, j4⟩ := (HK2.out.below hx hww); obtain ⟨f0, f1, f2, f3, f4⟩ := (HK3.out.below hx hww); obtain ⟨d0, d1, d2, d3, d4⟩ := (HK4.out.below hx hww); clear hww) | (go_at_call 22; (with_reducible refine (Sms.call HS.out (hw.trans (HO.out.bel.mono hw.size))).mono ?_); rintro e w' ⟨rfl, hb2⟩; have HO := Lib.hid (HO.out.next hb2); obtain ⟨e0, e1, e2, e3, e4, -, -⟩ := HO.out; clear hb2; have hww := hw.trans (HO.out.bel.mono hw.size); obtain ⟨g0, g1, g2, g3, g4⟩ := (HK0.out.below hx hww); obtain ⟨i0, i1, i2, i3, i4⟩ := (HK1.out.below hx hww); obtain ⟨j0, j1, j2, j3, j4⟩ := (HK2.out.below hx hww); obtain ⟨f0, f1, f2, f3, f4⟩ := (HK3.out.below hx hww); obtain ⟨d0, d1, d2, d3, d4⟩ := (HK4.out.below hx hww); clear hww) | (go_at_call 21; (with_reducible refine (Ex.call HE.out (hw.trans (HO.out.bel.mono hw.size))).mono ?_); rintro e w' ⟨rfl, hb2⟩; have HO := Lib.hid (HO.out.next hb2); obtain ⟨e0, e1, e2, e3, e4, -, -⟩ := HO.out; clear hb2; have hww := hw.trans (HO.out.bel.mono hw.size); obtain ⟨g0, g1, g2, g3, g4⟩ := (HK0.out.below hx hww); obtain ⟨i0, i1, i2, i3, i4⟩ := (HK1.out.below hx hww); obtain ⟨j0, j1, j2, j3, j4⟩ := (HK2.out.below hx hww); obtain ⟨f0, f1, f2, f3, f4⟩ := (HK3.out.below hx hww); obtain ⟨d0, d1, d2, d3, d4⟩ := (HK4.out.below hx hww); clear hww))
            go_ret
            exact ⟨ret_bool (by rfl), HO.out.bel⟩
          | true =>
            cases q3 with
            | false =>
              go_enter Try.func59, Try.ntmps59
              go_wp2_with (first | (go_at_call 37; refine (HB0.out _).mono ?_; rintro e w' ⟨rfl, hb2⟩; have HO := Lib.hid (HO.out.next hb2); obtain ⟨e0, e1, e2, e3, e4, -, -⟩ := HO.out; clear hb2; have hww := hw.trans (HO.out.bel.mono hw.size); obtain ⟨g0, g1, g2, g3, g4⟩ := (HK0.out.below hx hww); obtain ⟨i0, i1, i2, i3, i4⟩ := (HK1.out.below hx hww); obtain ⟨j0, j1, j2, j3, j4⟩ := (HK2.out.below hx hww); obtain ⟨f0, f1, f2, f3, f4⟩ := (HK3.out.below hx hww); obtain ⟨d0, d1, d2, d3, d4⟩ := (HK4.out.below hx hww); clear hww) | (go_at_call 38; (with_reducible refine (AllPrm.call HA.out (hw.trans (HO.out.bel.mono hw.size))).mono ?_); rintro e w' ⟨rfl, hb2⟩; have HO := Lib.hid (HO.out.next hb2); obtain ⟨e0, e1, e2, e3, e4, -, -⟩ := HO.out; clear hb2; have hww := hw.trans (HO.out.bel.mono hw.size); obtain ⟨g0, g1, g2, g3, g4⟩ := (HK0.out.below hx hww); obtain ⟨i0, i1, i2, i3, i4⟩ := (HK1.out.below hx hww); obtain ⟨j0, j1, j2, j3, j4⟩ := (HK2.out.below hx hww); obtain ⟨f0, f1, f2, f3, f4⟩ := (HK3.out.below hx hww); obtain ⟨d0, d1, d2, d3, d4⟩ := (HK4.out.below hx hww); clear hww) | (go_at_call 61; (first | (with_reducible refine (HN1.out _).mono ?_) | (with_reducible refine (HN4.out _).mono ?_)); rintro e w' ⟨rfl, hb2⟩; have HO := Lib.hid (HO.out.next hb2); obtain ⟨e0, e1, e2, e3, e4, -, -⟩ := HO.out; clear hb2; have hww := hw.trans (HO.out.bel.mono hw.size); obtain ⟨g0, g1, g2, g3, g4⟩ := (HK0.out.below hx hww); obtain ⟨i0, i1, i2, i3, i4⟩ := (HK1.out.below hx hww); obtain ⟨j0, j1, j2, j3, j4⟩ := (HK2.out.below hx hww); obtain ⟨f0, f1, f2, f3, f4⟩ := (HK3.out.below hx hww); obtain ⟨d0, d1, d2, d3, d4⟩ := (HK4.out.below hx hww); clear hww) | (go_at_call 40; (with_reducible refine (Qua.call HQ.out (hw.trans (HO.out.bel.mono hw.size))).mono ?_); rintro e w' ⟨rfl, hb2⟩; have HO := Lib.hid (HO.out.next hb2); obtain ⟨e0, e1, e2, e3, e4, -, -⟩ := HO.out; clear hb2; have hww := hw.trans (HO.out.bel.mono hw.size); obtain ⟨g0, g1, g2, g3, g4⟩ := (HK0.out.below hx hww); obtain ⟨i0, i1, i2, i3, i4⟩ := (HK1.out.below hx hww); obtain ⟨j0, j1, j2, j3, j4⟩ := (HK2.out.below hx hww); obtain ⟨f0, f1, f2, f3, f4⟩ := (HK3.out.below hx hww); obtain ⟨d0, d1, d2, d3, d4⟩ := (HK4.out.below hx hww); clear hww) | (go_at_call 34; (with_reducible refine (Dcs.call HC.out (hw.trans (HO.out.bel.mono hw.size))).mono ?_); rintro e w' ⟨rfl, hb2⟩; have HO := Lib.hid (HO.out.next hb2); obtain ⟨e0, e1, e2, e3, e4, -, -⟩ := HO.out; clear hb2; have hww := hw.trans (HO.out.bel.mono hw.size); obtain ⟨g0, g1, g2, g3, g4⟩ := (HK0.out.below hx hww); obtain ⟨i0, i1, i2, i3, i4⟩ := (HK1.out.below hx hww); obtain ⟨j0, j1, j2, j3, j4⟩ := (HK2.out.below hx hww); obtain ⟨f0, f1, f2, f3, f4⟩ := (HK3.out.below hx hww); obtain ⟨d0, d1, d2, d3, d4⟩ := (HK4.out.below hx hww); clear hww) | (go_at_call 22; (with_reducible refine (Sms.call HS.out (hw.trans (HO.out.bel.mono hw.size))).mono ?_); rintro e w' ⟨rfl, hb2⟩; have HO := Lib.hid (HO.out.next hb2); obtain ⟨e0, e1, e2, e3, e4, -, -⟩ := HO.out; clear hb2; have hww := hw.trans (HO.out.bel.mono hw.size); obtain ⟨g0, g1, g2, g3, g4⟩ := (HK0.out.below hx hww); obtain ⟨i0, i1, i2, i3, i4⟩ := (HK1.out.below hx hww); obtain ⟨j0, j1, j2, j3, j4⟩ := (HK2.out.below hx hww); obtain ⟨f0, f1, f2, f3, f4⟩ := (HK3.out.below hx hww); obtain ⟨d0, d1, d2, d3, d4⟩ := (HK4.out.below hx hww); clear hww) | (go_at_call 21; (with_reducible refine (Ex.call HE.out (hw.trans (HO.out.bel.mono hw.size))).mono ?_); rintro e w' ⟨rfl, hb2⟩; have HO := Lib.hid (HO.out.next hb2); obtain ⟨e0, e1, e2, e3, e4, -, -⟩ := HO.out; clear hb2; have hww := hw.trans (HO.out.bel.mono hw.size); obtain ⟨g0, g1, g2, g3, g4⟩ := (HK0.out.below hx hww); obtain ⟨i0, i1, i2, i3, i4⟩ := (HK1.out.below hx hww); obtain ⟨j0, j1, j2, j3, j4⟩ := (HK2.out.below hx hww); obtain ⟨f0, f1, f2, f3, f4⟩ := (HK3.out.below hx hww); obtain ⟨d0, d1, d2, d3, d4⟩ := (HK4.out.below hx hww); clear hww))
              go_ret
              exact ⟨ret_bool (by rfl), HO.out.bel⟩
            | true =>
              cases p4 with
              | true =>
                go_enter Try.func59, Try.ntmps59
                go_wp2_with (first | (go_at_call 37; refine (HB0.out _).mono ?_; rintro e w' ⟨rfl, hb2⟩; have HO := Lib.hid (HO.out.next hb2); obtain ⟨e0, e1, e2, e3, e4, -, -⟩ := HO.out; clear hb2; have hww := hw.trans (HO.out.bel.mono hw.size); obtain ⟨g0, g1, g2, g3, g4⟩ := (HK0.out.below hx hww); obtain ⟨i0, i1, i2, i3, i4⟩ := (HK1.out.below hx hww); obtain ⟨j0, j1, j2, j3, j4⟩ := (HK2.out.below hx hww); obtain ⟨f0, f1, f2, f3, f4⟩ := (HK3.out.below hx hww); obtain ⟨d0, d1, d2, d3, d4⟩ := (HK4.out.below hx hww); clear hww) | (go_at_call 38; (with_reducible refine (AllPrm.call HA.out (hw.trans (HO.out.bel.mono hw.size))).mono ?_); rintro e w' ⟨rfl, hb2⟩; have HO := Lib.hid (HO.out.next hb2); obtain ⟨e0, e1, e2, e3, e4, -, -⟩ := HO.out; clear hb2; have hww := hw.trans (HO.out.bel.mono hw.size); obtain ⟨g0, g1, g2, g3, g4⟩ := (HK0.out.below hx hww); obtain ⟨i0, i1, i2, i3, i4⟩ := (HK1.out.below hx hww); obtain ⟨j0, j1, j2, j3, j4⟩ := (HK2.out.below hx hww); obtain ⟨f0, f1, f2, f3, f4⟩ := (HK3.out.below hx hww); obtain ⟨d0, d1, d2, d3, d4⟩ := (HK4.out.below hx hww); clear hww) | (go_at_call 61; (first | (with_reducible refine (HN1.out _).mono ?_) | (with_reducible refine (HN4.out _).mono ?_)); rintro e w' ⟨rfl, hb2⟩; have HO := Lib.hid (HO.out.next hb2); obtain ⟨e0, e1, e2, e3, e4, -, -⟩ := HO.out; clear hb2; have hww := hw.trans (HO.out.bel.mono hw.size); obtain ⟨g0, g1, g2, g3, g4⟩ := (HK0.out.below hx hww); obtain ⟨i0, i1, i2, i3, i4⟩ := (HK1.out.below hx hww); obtain ⟨j0, j1, j2, j3, j4⟩ := (HK2.out.below hx hww); obtain ⟨f0, f1, f2, f3, f4⟩ := (HK3.out.below hx hww); obtain ⟨d0, d1, d2, d3, d4⟩ := (HK4.out.below hx hww); clear hww) | (go_at_call 40; (with_reducible refine (Qua.call HQ.out (hw.trans (HO.out.bel.mono hw.size))).mono ?_); rintro e w' ⟨rfl, hb2⟩; have HO := Lib.hid (HO.out.next hb2); obtain ⟨e0, e1, e2, e3, e4, -, -⟩ := HO.out; clear hb2; have hww := hw.trans (HO.out.bel.mono hw.size); obtain ⟨g0, g1, g2, g3, g4⟩ := (HK0.out.below hx hww); obtain ⟨i0, i1, i2, i3, i4⟩ := (HK1.out.below hx hww); obtain ⟨j0, j1, j2, j3, j4⟩ := (HK2.out.below hx hww); obtain ⟨f0, f1, f2, f3, f4⟩ := (HK3.out.below hx hww); obtain ⟨d0, d1, d2, d3, d4⟩ := (HK4.out.below hx hww); clear hww) | (go_at_call 34; (with_reducible refine (Dcs.call HC.out (hw.trans (HO.out.bel.mono hw.size))).mono ?_); rintro e w' ⟨rfl, hb2⟩; have HO := Lib.hid (HO.out.next hb2); obtain ⟨e0, e1, e2, e3, e4, -, -⟩ := HO.out; clear hb2; have hww := hw.trans (HO.out.bel.mono hw.size); obtain ⟨g0, g1, g2, g3, g4⟩ := (HK0.out.below hx hww); obtain ⟨i0, i1, i2, i3, i4⟩ := (HK1.out.below hx hww); obtain ⟨j0, j1, j2, j3, j4⟩ := (HK2.out.below hx hww); obtain ⟨f0, f1, f2, f3, f4⟩ := (HK3.out.below hx hww); obtain ⟨d0, d1, d2, d3, d4⟩ := (HK4.out.below hx hww); clear hww) | (go_at_call 22; (with_reducible refine (Sms.call HS.out (hw.trans (HO.out.bel.mono hw.size))).mono ?_); rintro e w' ⟨rfl, hb2⟩; have HO := Lib.hid (HO.out.next hb2); obtain ⟨e0, e1, e2, e3, e4, -, -⟩ := HO.out; clear hb2; have hww := hw.trans (HO.out.bel.mono hw.size); obtain ⟨g0, g1, g2, g3, g4⟩ := (HK0.out.below hx hww); obtain ⟨i0, i1, i2, i3, i4⟩ := (HK1.out.below hx hww); obtain ⟨j0, j1, j2, j3, j4⟩ := (HK2.out.below hx hww); obtain ⟨f0, f1, f2, f3, f4⟩ := (HK3.out.below hx hww); obtain ⟨d0, d1, d2, d3, d4⟩ := (HK4.out.below hx hww); clear hww) | (go_at_call 21; (with_reducible refine (Ex.call HE.out (hw.trans (HO.out.bel.mono hw.size))).mono ?_); rintro e w' ⟨rfl, hb2⟩; have HO := Lib.hid (HO.out.next hb2); obtain ⟨e0, e1, e2, e3, e4, -, -⟩ := HO.out; clear hb2; have hww := hw.trans (HO.out.bel.mono hw.size); obtain ⟨g0, g1, g2, g3, g4⟩ := (HK0.out.below hx hww); obtain ⟨i0, i1, i2, i3, i4⟩ := (HK1.out.below hx hww); obtain ⟨j0, j1, j2, j3, j4⟩ := (HK2.out.below hx hww); obtain ⟨f0, f1, f2, f3, f4⟩ := (HK3.out.below hx hww); obtain ⟨d0, d1, d2, d3, d4⟩ := (HK4.out.below hx hww); clear hww))
                go_ret
                exact ⟨ret_bool (by rfl), HO.out.bel⟩
              | false =>
                cases q4 with
                | false =>
                  go_enter Try.func59, Try.ntmps59
                  go_wp2_with (first | (go_at_call 37; refine (HB0.out _).mono ?_; rintro e w' ⟨rfl, hb2⟩; have HO := Lib.hid (HO.out.next hb2); obtain ⟨e0, e1, e2, e3, e4, -, -⟩ := HO.out; clear hb2; have hww := hw.trans (HO.out.bel.mono hw.size); obtain ⟨g0, g1, g2, g3, g4⟩ := (HK0.out.below hx hww); obtain ⟨i0, i1, i2, i3, i4⟩ := (HK1.out.below hx hww); obtain ⟨j0, j1, j2, j3, j4⟩ := (HK2.out.below hx hww); obtain ⟨f0, f1, f2, f3, f4⟩ := (HK3.out.below hx hww); obtain ⟨d0, d1, d2, d3, d4⟩ := (HK4.out.below hx hww); clear hww) | (go_at_call 38; (with_reducible refine (AllPrm.call HA.out (hw.trans (HO.out.bel.mono hw.size))).mono ?_); rintro e w' ⟨rfl, hb2⟩; have HO := Lib.hid (HO.out.next hb2); obtain ⟨e0, e1, e2, e3, e4, -, -⟩ := HO.out; clear hb2; have hww := hw.trans (HO.out.bel.mono hw.size); obtain ⟨g0, g1, g2, g3, g4⟩ := (HK0.out.below hx hww); obtain ⟨i0, i1, i2, i3, i4⟩ := (HK1.out.below hx hww); obtain ⟨j0, j1, j2, j3, j4⟩ := (HK2.out.below hx hww); obtain ⟨f0, f1, f2, f3, f4⟩ := (HK3.out.below hx hww); obtain ⟨d0, d1, d2, d3, d4⟩ := (HK4.out.below hx hww); clear hww) | (go_at_call 61; (first | (with_reducible refine (HN1.out _).mono ?_) | (with_reducible refine (HN4.out _).mono ?_)); rintro e w' ⟨rfl, hb2⟩; have HO := Lib.hid (HO.out.next hb2); obtain ⟨e0, e1, e2, e3, e4, -, -⟩ := HO.out; clear hb2; have hww := hw.trans (HO.out.bel.mono hw.size); obtain ⟨g0, g1, g2, g3, g4⟩ := (HK0.out.below hx hww); obtain ⟨i0, i1, i2, i3, i4⟩ := (HK1.out.below hx hww); obtain ⟨j0, j1, j2, j3, j4⟩ := (HK2.out.below hx hww); obtain ⟨f0, f1, f2, f3, f4⟩ := (HK3.out.below hx hww); obtain ⟨d0, d1, d2, d3, d4⟩ := (HK4.out.below hx hww); clear hww) | (go_at_call 40; (with_reducible refine (Qua.call HQ.out (hw.trans (HO.out.bel.mono hw.size))).mono ?_); rintro e w' ⟨rfl, hb2⟩; have HO := Lib.hid (HO.out.next hb2); obtain ⟨e0, e1, e2, e3, e4, -, -⟩ := HO.out; clear hb2; have hww := hw.trans (HO.out.bel.mono hw.size); obtain ⟨g0, g1, g2, g3, g4⟩ := (HK0.out.below hx hww); obtain ⟨i0, i1, i2, i3, i4⟩ := (HK1.out.below hx hww); obtain ⟨j0, j1, j2, j3, j4⟩ := (HK2.out.below hx hww); obtain ⟨f0, f1, f2, f3, f4⟩ := (HK3.out.below hx hww); obtain ⟨d0, d1, d2, d3, d4⟩ := (HK4.out.below hx hww); clear hww) | (go_at_call 34; (with_reducible refine (Dcs.call HC.out (hw.trans (HO.out.bel.mono hw.size))).mono ?_); rintro e w' ⟨rfl, hb2⟩; have HO := Lib.hid (HO.out.next hb2); obtain ⟨e0, e1, e2, e3, e4, -, -⟩ := HO.out; clear hb2; have hww := hw.trans (HO.out.bel.mono hw.size); obtain ⟨g0, g1, g2, g3, g4⟩ := (HK0.out.below hx hww); obtain ⟨i0, i1, i2, i3, i4⟩ := (HK1.out.below hx hww); obtain ⟨j0, j1, j2, j3, j4⟩ := (HK2.out.below hx hww); obtain ⟨f0, f1, f2, f3, f4⟩ := (HK3.out.below hx hww); obtain ⟨d0, d1, d2, d3, d4⟩ := (HK4.out.below hx hww); clear hww) | (go_at_call 22; (with_reducible refine (Sms.call HS.out (hw.trans (HO.out.bel.mono hw.size))).mono ?_); rintro e w' ⟨rfl, hb2⟩; have HO := Lib.hid (HO.out.next hb2); obtain ⟨e0, e1, e2, e3, e4, -, -⟩ := HO.out; clear hb2; have hww := hw.trans (HO.out.bel.mono hw.size); obtain ⟨g0, g1, g2, g3, g4⟩ := (HK0.out.below hx hww); obtain ⟨i0, i1, i2, i3, i4⟩ := (HK1.out.below hx hww); obtain ⟨j0, j1, j2, j3, j4⟩ := (HK2.out.below hx hww); obtain ⟨f0, f1, f2, f3, f4⟩ := (HK3.out.below hx hww); obtain ⟨d0, d1, d2, d3, d4⟩ := (HK4.out.below hx hww); clear hww) | (go_at_call 21; (with_reducible refine (Ex.call HE.out (hw.trans (HO.out.bel.mono hw.size))).mono ?_); rintro e w' ⟨rfl, hb2⟩; have HO := Lib.hid (HO.out.next hb2); obtain ⟨e0, e1, e2, e3, e4, -, -⟩ := HO.out; clear hb2; have hww := hw.trans (HO.out.bel.mono hw.size); obtain ⟨g0, g1, g2, g3, g4⟩ := (HK0.out.below hx hww); obtain ⟨i0, i1, i2, i3, i4⟩ := (HK1.out.below hx hww); obtain ⟨j0, j1, j2, j3, j4⟩ := (HK2.out.below hx hww); obtain ⟨f0, f1, f2, f3, f4⟩ := (HK3.out.below hx hww); obtain ⟨d0, d1, d2, d3, d4⟩ := (HK4.out.below hx hww); clear hww))
                  go_ret
                  exact ⟨ret_bool (by rfl), HO.out.bel⟩
                | true =>
                  go_enter Try.func59, Try.ntmps59
                  go_wp2_with (first | (go_at_call 37; refine (HB0.out _).mono ?_; rintro e w' ⟨rfl, hb2⟩; have HO := Lib.hid (HO.out.next hb2); obtain ⟨e0, e1, e2, e3, e4, -, -⟩ := HO.out; clear hb2; have hww := hw.trans (HO.out.bel.mono hw.size); obtain ⟨g0, g1, g2, g3, g4⟩ := (HK0.out.below hx hww); obtain ⟨i0, i1, i2, i3, i4⟩ := (HK1.out.below hx hww); obtain ⟨j0, j1, j2, j3, j4⟩ := (HK2.out.below hx hww); obtain ⟨f0, f1, f2, f3, f4⟩ := (HK3.out.below hx hww); obtain ⟨d0, d1, d2, d3, d4⟩ := (HK4.out.below hx hww); clear hww) | (go_at_call 38; (with_reducible refine (AllPrm.call HA.out (hw.trans (HO.out.bel.mono hw.size))).mono ?_); rintro e w' ⟨rfl, hb2⟩; have HO := Lib.hid (HO.out.next hb2); obtain ⟨e0, e1, e2, e3, e4, -, -⟩ := HO.out; clear hb2; have hww := hw.trans (HO.out.bel.mono hw.size); obtain ⟨g0, g1, g2, g3, g4⟩ := (HK0.out.below hx hww); obtain ⟨i0, i1, i2, i3, i4⟩ := (HK1.out.below hx hww); obtain ⟨j0, j1, j2, j3, j4⟩ := (HK2.out.below hx hww); obtain ⟨f0, f1, f2, f3, f4⟩ := (HK3.out.below hx hww); obtain ⟨d0, d1, d2, d3, d4⟩ := (HK4.out.below hx hww); clear hww) | (go_at_call 61; (first | (with_reducible refine (HN1.out _).mono ?_) | (with_reducible refine (HN4.out _).mono ?_)); rintro e w' ⟨rfl, hb2⟩; have HO := Lib.hid (HO.out.next hb2); obtain ⟨e0, e1, e2, e3, e4, -, -⟩ := HO.out; clear hb2; have hww := hw.trans (HO.out.bel.mono hw.size); obtain ⟨g0, g1, g2, g3, g4⟩ := (HK0.out.below hx hww); obtain ⟨i0, i1, i2, i3, i4⟩ := (HK1.out.below hx hww); obtain ⟨j0, j1, j2, j3, j4⟩ := (HK2.out.below hx hww); obtain ⟨f0, f1, f2, f3, f4⟩ := (HK3.out.below hx hww); obtain ⟨d0, d1, d2, d3, d4⟩ := (HK4.out.below hx hww); clear hww) | (go_at_call 40; (with_reducible refine (Qua.call HQ.out (hw.trans (HO.out.bel.mono hw.size))).mono ?_); rintro e w' ⟨rfl, hb2⟩; have HO := Lib.hid (HO.out.next hb2); obtain ⟨e0, e1, e2, e3, e4, -, -⟩ := HO.out; clear hb2; have hww := hw.trans (HO.out.bel.mono hw.size); obtain ⟨g0, g1, g2, g3, g4⟩ := (HK0.out.below hx hww); obtain ⟨i0, i1, i2, i3, i4⟩ := (HK1.out.below hx hww); obtain ⟨j0, j1, j2, j3, j4⟩ := (HK2.out.below hx hww); obtain ⟨f0, f1, f2, f3, f4⟩ := (HK3.out.below hx hww); obtain ⟨d0, d1, d2, d3, d4⟩ := (HK4.out.below hx hww); clear hww) | (go_at_call 34; (with_reducible refine (Dcs.call HC.out (hw.trans (HO.out.bel.mono hw.size))).mono ?_); rintro e w' ⟨rfl, hb2⟩; have HO := Lib.hid (HO.out.next hb2); obtain ⟨e0, e1, e2, e3, e4, -, -⟩ := HO.out; clear hb2; have hww := hw.trans (HO.out.bel.mono hw.size); obtain ⟨g0, g1, g2, g3, g4⟩ := (HK0.out.below hx hww); obtain ⟨i0, i1, i2, i3, i4⟩ := (HK1.out.below hx hww); obtain ⟨j0, j1, j2, j3, j4⟩ := (HK2.out.below hx hww); obtain ⟨f0, f1, f2, f3, f4⟩ := (HK3.out.below hx hww); obtain ⟨d0, d1, d2, d3, d4⟩ := (HK4.out.below hx hww); clear hww) | (go_at_call 22; (with_reducible refine (Sms.call HS.out (hw.trans (HO.out.bel.mono hw.size))).mono ?_); rintro e w' ⟨rfl, hb2⟩; have HO := Lib.hid (HO.out.next hb2); obtain ⟨e0, e1, e2, e3, e4, -, -⟩ := HO.out; clear hb2; have hww := hw.trans (HO.out.bel.mono hw.size); obtain ⟨g0, g1, g2, g3, g4⟩ := (HK0.out.below hx hww); obtain ⟨i0, i1, i2, i3, i4⟩ := (HK1.out.below hx hww); obtain ⟨j0, j1, j2, j3, j4⟩ := (HK2.out.below hx hww); obtain ⟨f0, f1, f2, f3, f4⟩ := (HK3.out.below hx hww); obtain ⟨d0, d1, d2, d3, d4⟩ := (HK4.out.below hx hww); clear hww) | (go_at_call 21; (with_reducible refine (Ex.call HE.out (hw.trans (HO.out.bel.mono hw.size))).mono ?_); rintro e w' ⟨rfl, hb2⟩; have HO := Lib.hid (HO.out.next hb2); obtain ⟨e0, e1, e2, e3, e4, -, -⟩ := HO.out; clear hb2; have hww := hw.trans (HO.out.bel.mono hw.size); obtain ⟨g0, g1, g2, g3, g4⟩ := (HK0.out.below hx hww); obtain ⟨i0, i1, i2, i3, i4⟩ := (HK1.out.below hx hww); obtain ⟨j0, j1, j2, j3, j4⟩ := (HK2.out.below hx hww); obtain ⟨f0, f1, f2, f3, f4⟩ := (HK3.out.below hx hww); obtain ⟨d0, d1, d2, d3, d4⟩ := (HK4.out.below hx hww); clear hww))
                  go_ret
                  exact ⟨ret_bool (by rfl), HO.out.bel⟩
theorem pro_row (hk : RowK w0 a 5 K) : Pro w0 (nd k s v m a 5 cap) (proF K) := by
  obtain ⟨b, o, e, rfl, -⟩ := hk (by omega)
  obtain ⟨hb, k0, s0, v0, m0, a0, l0, c0, hK0, h0⟩ := hk.k0 (by omega)
  obtain ⟨k1, s1, v1, m1, a1, l1, c1, hK1, h1⟩ := hk.kj 0 (by omega)
  obtain ⟨k2, s2, v2, m2, a2, l2, c2, hK2, h2⟩ := hk.kj 1 (by omega)
  obtain ⟨k3, s3, v3, m3, a3, l3, c3, hK3, h3⟩ := hk.kj 2 (by omega)
  obtain ⟨k4, s4, v4, m4, a4, l4, c4, hK4, h4⟩ := hk.kj 3 (by omega)
  obtain ⟨q0, ha, e0⟩ := h0.prms
  unfold proF
  rw [e0, show (K 1).non = _ from h1.non, show (K 4).non = _ from h4.non]
  exact pro_yes hb hK0 (by simpa using hK1) (by simpa using hK2) (by simpa using hK3) (by simpa using hK4) ha h1.qual (h2.dcs true) h3.stms h4.exp
theorem dcl_row (hs : s.size ≤ maxLen) (hl : len ≤ cap) (hc : cap ≤ maxLen) (hk : RowK w0 a len K) (i : Bool) : Dcl w0 (nd k s v m a len cap) i (dclF k s v m len K i) := by
  unfold dclF
  by_cases h0 : k = 4
  · subst h0
    rw [if_pos rfl]
    cases hp : naB 4 s v m len 1 i with
    | false => exact dcl4_no hs hp
    | true =>
      have hl : len = 1 := by unfold naB shB at hp; simp at hp; omega
      subst hl
      obtain ⟨b, o, e, rfl, -⟩ := hk (by omega)
      obtain ⟨hb, k', s', v', m', a', l', c', hkid, h⟩ := hk.k0 (by omega)
      rw [Bool.true_and]
      exact dcl4_yes hb hkid hs h.exp hp
  rw [if_neg h0]
  by_cases h1 : k = 5
  · subst h1
    rw [if_pos rfl]
    cases hp : naB 5 s v m len 1 i with
    | false => exact dcl5_no hs hp
    | true =>
      have hl : len = 1 := by unfold naB shB at hp; simp at hp; omega
      subst hl
      obtain ⟨b, o, e, rfl, -⟩ := hk (by omega)
      obtain ⟨hb, k', s', v', m', a', l', c', hkid, h⟩ := hk.k0 (by omega)
      rw [Bool.true_and]
      exact dcl5_yes hb hkid hs h.typ hp
  rw [if_neg h1]
  by_cases h2 : k = 6
  · subst h2
    rw [if_pos rfl]
    cases hp : baB 6 s v m len 6 (-1) with
    | false => exact dcl6_no (by omega) hp
    | true =>
      rw [Bool.true_and]
      cases len with
      | zero => exact dcl6_0 hp
      | succ n =>
        by_cases hn : n = 0
        · subst hn; exact dcl6_1 hp
        · obtain ⟨b, o, e, rfl, -⟩ := hk (by omega)
          obtain ⟨hb, k', s', v', m', a', l', c', hkid, h⟩ := hk.last
          rw [decide_eq_true (show 1 < n + 1 by omega), Bool.true_and, Nat.add_sub_cancel]
          have ht := h.typ
          cases hT : (K n).typ with
          | false => rw [hT] at ht; exact dcl6_a hb (by omega) hl hc hkid ht hp
          | true => rw [hT] at ht; rw [Bool.true_and]; exact dcl6_b hb (by omega) hl hc hkid ht hk hp
  rw [if_neg h2]
  by_cases h3 : k = 7
  · subst h3
    rw [if_pos rfl]
    cases hp : naB 7 s v m len 5 i with
    | false => exact dcl7_no hs hp
    | true =>
      have hl : len = 5 := by unfold naB shB at hp; simp at hp; omega
      subst hl
      rw [Bool.true_and]
      exact dcl7_yes hs (pro_row hk) hp
  rw [if_neg h3]
  exact dclN h0 h1 h2 h3
/-- mayDecls' own copies, and the kind of the declaration ahead -/
structure DcJ (w : World) (k : Int) (s : ByteArray) (v : Int) (m : Bool) (a : Option Addr) (len cap : Nat) (i : Bool) (K : Nat → Sm) (j : Nat) (W : World) : Prop where
  two : Own2 w k s v m a len cap i W
  blk : W.heap[w.heap.size + 2]? = some (.cells #[.int .i64 (kdA K j)] 22 (0, 0))
theorem DcJ.next {j : Nat} {W W' : World} (h : DcJ w k s v m a len cap i K j W) (hb : Below W.heap.size W W') : DcJ w k s v m a len cap i K j W' :=
  ⟨h.two.next hb, by rw [hb.block _ (lt_blk h.blk)]; exact h.blk⟩
theorem DcJ.set {j : Nat} {W : World} (h : DcJ w k s v m a len cap i K j W) : DcJ w k s v m a len cap i K (j + 1) (W.setCell ⟨w.heap.size + 2, 0, none⟩ (.int .i64 (K j).kind)) :=
  ⟨⟨h.two.own.same (Below.heap_setCell _ _ _ _ (by simp)) (h.two.own.bel.setCell (by simp) _) (by simp [World.setCell]), by rw [Below.heap_setCell _ _ _ _ (by simp)]; exact h.two.inn⟩, set_blk (i := 0) h.blk⟩
theorem DcJ.start (w : World) (k : Int) (s : ByteArray) (v : Int) (m : Bool) (a : Option Addr) (len cap : Nat) (i : Bool) (K : Nat → Sm) : DcJ w k s v m a len cap i K 0 (((w.alloc (.cells #[.int .i64 k, .string s, .int .u32 v, .bool m, .slice a len cap] 26)).alloc (.cells #[.bool i] 4)).alloc (.cells #[.int .i64 4] 22)) :=
  ⟨(Own2.start w k s v m a len cap i).next (below1 _ _), by
    have := heap_alloc_new ((w.alloc (.cells #[.int .i64 k, .string s, .int .u32 v, .bool m, .slice a len cap] 26)).alloc (.cells #[.bool i] 4)) (.cells #[.int .i64 4] 22)
    simpa [kdA] using this⟩
theorem dc_clo (hw : Below w0.heap.size w0 w) {j : Nat} {k' : Int} {s' : ByteArray} {v' : Int} {m' : Bool} {a' : Option Addr} {l' c' : Nat} (hk : (K j).kind = k') {r : Bool} (hd : Dcl w0 (nd k' s' v' m' a' l' c') i r) (W : World) (hJ : DcJ w k s v m a len cap i K j W) :
    Calls Try.prog 49 #[nd k' s' v' m' a' l' c', .pointer (some ⟨w.heap.size + 2, 0, none⟩), .pointer (some ⟨w.heap.size + 1, 0, none⟩)] W fun e W' => e = .returned (.bool (decide (kdA K j ≤ (K j).kind) && r)) ∧ Below w.heap.size w W' ∧ DcJ w k s v m a len cap i K (j + 1) W' := by
  have hlt := lt_blk hJ.blk
  obtain ⟨i0, i1, i2, i3, i4⟩ := Has.start (W.setCell ⟨w.heap.size + 2, 0, none⟩ (.int .i64 k')) k' s' v' m' a' l' c'
  rw [size_set] at i0 i1 i2 i3 i4
  have hJ1 := hJ.next (below1 W (.cells #[.int .i64 k', .string s', .int .u32 v', .bool m', .slice a' l' c'] 26))
  have q1 := cell0 hJ1.blk
  have fz := frz0 0 hJ1.blk
  have fz0 := frz0 0 hJ.blk
  have hS := hJ.set
  rw [hk] at hS
  have HJ := Lib.hid (hS.next (below1 _ (.cells #[.int .i64 k', .string s', .int .u32 v', .bool m', .slice a' l' c'] 26)))
  have q2 := HJ.out.two.c
  have HW := Lib.hid (hw.trans (HJ.out.two.own.bel.mono hw.size))
  have HD := Lib.hid hd
  rw [hk]
  clear hJ1 hJ hd hw hS
  generalize kdA K j = A at *
  unfold nd at *
  by_cases h1 : A ≤ k'
  · rw [decide_eq_true h1, Bool.true_and]
    go_enter Try.func49, Try.ntmps49
    go_wp2_with (go_at_call 50; refine (Dcl.call HD.out HW.out).mono ?_; rintro e w' ⟨rfl, hb2⟩; have HJ2 := Lib.hid (HJ.out.next hb2); clear hb2)
    go_ret
    exact ⟨rfl, HJ2.out.two.own.bel, HJ2.out⟩
  · rw [decide_eq_false h1, Bool.false_and]
    go_enter Try.func49, Try.ntmps49
    go_wp2_with fail
    go_ret
    exact ⟨rfl, HJ.out.two.own.bel, HJ.out⟩
theorem allDc_row (hw : Below w0.heap.size w0 w) (hl : len ≤ maxLen) (hk : RowK w0 a len K) (W : World) (hJ : DcJ w k s v m a len cap i K 0 W) :
    Calls Try.prog 38 #[.slice a len cap, .func (.func 49) #[] #[.pointer (some ⟨w.heap.size + 2, 0, none⟩), .pointer (some ⟨w.heap.size + 1, 0, none⟩)]] W fun e W' => e = .returned (.bool (upto len fun j => decide (kdA K j ≤ (K j).kind) && (K j).dc i)) ∧ Below w.heap.size w W' := by
  by_cases h0 : len = 0
  · subst h0; exact allDc_zero _ _ _ _ _ _ _ hJ.two.own.bel
  obtain ⟨b, o, e, rfl, hb, hK⟩ := hk (by omega)
  refine allDc_any w b o e len cap (Nat.lt_of_lt_of_le hb hw.size) hl _ _ _ (DcJ w k s v m (some ⟨b, o, e⟩) len cap i K) (fun _ _ h => h.two.own.bel) (fun _ _ _ h g => h.next g) (fun j hj => ?_) W hJ
  obtain ⟨k, s, v, m, a, l, c, h1, h2⟩ := hK j hj
  exact ⟨k, s, v, m, a, l, c, h1.below hb hw, fun W hJ => dc_clo hw h2.kind (h2.dc i) W hJ⟩
theorem dcs_row (hl : len ≤ maxLen) (hk : RowK w0 a len K) (i : Bool) : Dcs w0 (nd k s v m a len cap) i (dcsF k s v m len K i) := by
  intro w hw
  have HP := Lib.hid (bare_any k s v m a len cap 3 (-1))
  have HO := Lib.hid (DcJ.start w k s v m a len cap i K)
  have HA := Lib.hid (fun W hJ => allDc_row (k := k) (s := s) (v := v) (m := m) (cap := cap) (i := i) hw hl hk W hJ)
  unfold dcsF
  generalize upto len (fun j => decide (kdA K j ≤ (K j).kind) && (K j).dc i) = q at *
  unfold maxLen at hl
  unfold nd at *
  clear hk
  cases hp : baB k s v m len 3 (-1) with
  | false =>
    rw [hp] at HP
    go_enter Try.func34, Try.ntmps34
    go_wp2_with (go_at_call 37; refine (HP.out _).mono ?_; rintro e w' ⟨rfl, hb2⟩; have HO := Lib.hid (HO.out.next hb2); obtain ⟨⟨⟨e0, e1, e2, e3, e4, -, -⟩, -⟩, -⟩ := HO.out; clear hb2)
    go_ret
    exact ⟨rfl, HO.out.two.own.bel⟩
  | true =>
    rw [hp] at HP
    cases q
    all_goals
      go_enter Try.func34, Try.ntmps34
      go_wp2_with (first | (go_at_call 37; refine (HP.out _).mono ?_; rintro e w' ⟨rfl, hb2⟩; have HO := Lib.hid (HO.out.next hb2); obtain ⟨⟨⟨e0, e1, e2, e3, e4, -, -⟩, -⟩, -⟩ := HO.out; clear hb2) | (go_at_call 38; refine (HA.out _ HO.out).mono ?_; rintro e w' ⟨rfl, hb2⟩; have HB := Lib.hid hb2; clear hb2))
      go_ret
      exact ⟨ret_bool (by rfl), HB.out⟩
theorem imp_no (hp : baB k s v m len 2 (-1) = false) : Imp w0 (nd k s v m a len cap) false := by
  intro w hw
  have HP := Lib.hid (bare_any k s v m a len cap 2 (-1))
  have HO := Lib.hid (Own.start w k s v m a len cap)
  unfold nd at *
  rw [hp] at HP
  clear hp
  go_enter Try.func33, Try.ntmps33
  go_wp2_with (go_at_call 37; refine (HP.out _).mono ?_; rintro e w' ⟨rfl, hb2⟩; have HO := Lib.hid (HO.out.next hb2); obtain ⟨e0, e1, e2, e3, e4, -, -⟩ := HO.out; clear hb2)
  go_ret
  exact ⟨rfl, HO.out.bel⟩
theorem imp_yes {q : Bool} (ha : AllI w0 (.slice a len cap) q) (hp : baB k s v m len 2 (-1) = true) : Imp w0 (nd k s v m a len cap) q := by
  intro w hw
  have HP := Lib.hid (bare_any k s v m a len cap 2 (-1))
  have HA := Lib.hid ha
  have HO := Lib.hid (Own.start w k s v m a len cap)
  clear ha
  unfold nd at *
  rw [hp] at HP
  clear hp
  cases q
  all_goals
    go_enter Try.func33, Try.ntmps33
    go_wp2_with (first | (go_at_call 37; refine (HP.out _).mono ?_; rintro e w' ⟨rfl, hb2⟩; have HO := Lib.hid (HO.out.next hb2); obtain ⟨e0, e1, e2, e3, e4, -, -⟩ := HO.out; clear hb2) | (go_at_call 38; (with_reducible refine (AllI.call HA.out (hw.trans (HO.out.bel.mono hw.size))).mono ?_); rintro e w' ⟨rfl, hb2⟩; have HO := Lib.hid (HO.out.next hb2); obtain ⟨e0, e1, e2, e3, e4, -, -⟩ := HO.out; clear hb2))
    go_ret
    exact ⟨ret_bool (by rfl), HO.out.bel⟩
theorem imp_row (hl : len ≤ maxLen) (hk : RowK w0 a len K) : Imp w0 (nd k s v m a len cap) (impF k s v m len K) := by
  unfold impF
  cases hp : baB k s v m len 2 (-1) with
  | false => exact imp_no hp
  | true => rw [Bool.true_and]; exact imp_yes (allI_row hl hk) hp
/-- a node, of a row of known ones -/
theorem sm_row (hs : s.size ≤ maxLen) (hl : len ≤ cap) (hc : cap ≤ maxLen) (hk : RowK w0 a len K) : SmOK w0 k s v m a len cap (step k s v m len K) where
  kind := rfl
  hs := hs
  idt := rfl
  non := rfl
  df := fun _ => rfl
  des := des_row hs hk
  lev := lev_row hs hl hc hk
  qual := qua_row hs hk
  typ := typ_row hs hl hc hk
  fld := fld_row hs hl hc hk
  prm := prm_row hs hl hc hk
  stm := stm_row hl hc hk
  stms := sms_row (by omega) hk
  imp := imp_row (by omega) hk
  dc := dcl_row hs hl hc hk
  dcs := dcs_row (by omega) hk
  prms := ⟨_, allP_row (by omega) hk, rfl⟩
  opn0 := fun h => by show (baB k s v m len 13 1 && _) = false; rw [h]; rfl
  opn1 := fun h => by
    have hl : len = 1 := by unfold baB shB at h; simp at h; omega
    subst hl
    obtain ⟨b, o, e, rfl, -⟩ := hk (by omega)
    obtain ⟨hb, k', s', v', m', a', l', c', hkid, g⟩ := hk.k0 (by omega)
    refine ⟨b, o, e, k', s', v', m', a', l', c', rfl, rfl, hb, hkid, ?_⟩
    show Qua w0 _ (baB k s v m 1 13 1 && (K 0).qual)
    rw [h]
    exact g.qual
def MayT (w : World) (u : Value) (r : Bool) : Prop := ∀ W, Below w.heap.size w W → Calls Try.prog 19 #[u] W fun e W' => e = .returned (.bool r) ∧ Below W.heap.size W W'
theorem MayT.call {w W : World} {u : Value} {r : Bool} (h : MayT w u r) (hb : Below w.heap.size w W) : Calls Try.prog 19 #[u] W fun e W' => e = .returned (.bool r) ∧ Below W.heap.size W W' := h W hb
theorem may_no (hp : shB k v len 1 3 = false) : MayT w0 (nd k s v m a len cap) false := by
  intro w hw
  have HP := Lib.hid (shaped_any k s v m a len cap 1 3)
  have HO := Lib.hid (Own.start w k s v m a len cap)
  unfold nd at *
  rw [hp] at HP
  clear hp
  go_enter Try.func19, Try.ntmps19
  go_wp2_with (first | (go_at_call 31; refine (HP.out _).mono ?_; rintro e w' ⟨rfl, hb2⟩; have HO := Lib.hid (HO.out.next hb2); obtain ⟨e0, e1, e2, e3, e4, -, -⟩ := HO.out; clear hb2))
  go_ret
  exact ⟨rfl, HO.out.bel⟩
set_option maxHeartbeats 4000000 in
theorem may_yes {xb xo : Nat} {xe : Option Nat} (hx : xb < w0.heap.size) {k0 : Int} {s0 : ByteArray} {v0 : Int} {m0 : Bool} {a0 : Option Addr} {l0 c0 : Nat} (hK0 : Kid w0 xb xo xe k0 s0 v0 m0 a0 l0 c0) {k1 : Int} {s1 : ByteArray} {v1 : Int} {m1 : Bool} {a1 : Option Addr} {l1 c1 : Nat} (hK1 : Kid w0 xb (xo + 5) none k1 s1 v1 m1 a1 l1 c1) {k2 : Int} {s2 : ByteArray} {v2 : Int} {m2 : Bool} {a2 : Option Addr} {l2 c2 : Nat} (hK2 : Kid w0 xb (xo + 10) none k2 s2 v2 m2 a2 l2 c2) (hs : s.size ≤ maxLen) {q0 q1 q2 : Bool} (h0 : Imp w0 (nd k0 s0 v0 m0 a0 l0 c0) q0) (h1 : Dcs w0 (nd k1 s1 v1 m1 a1 l1 c1) false q1) (h2 : Sms w0 (nd k2 s2 v2 m2 a2 l2 c2) q2) (hp : shB k v 3 1 3 = true) : MayT w0 (nd k s v m (some ⟨xb, xo, xe⟩) 3 cap) ((nameB s && !kw s) && (!m && (q0 && (q1 && q2)))) := by
  intro w hw
  have HP := Lib.hid (shaped_any k s v m (some ⟨xb, xo, xe⟩) 3 cap 1 3)
  have HN := Lib.hid (tname_any s hs)
  have HK0 := Lib.hid hK0
  have HK1 := Lib.hid hK1
  have HK2 := Lib.hid hK2
  have HD0 := Lib.hid h0
  have HD1 := Lib.hid h1
  have HD2 := Lib.hid h2
  have HO := Lib.hid (Own.start w k s v m (some ⟨xb, xo, xe⟩) 3 cap)
  clear hs hK0 hK1 hK2 h0 h1 h2
  unfold nd at *
  rw [hp] at HP
  clear hp
  generalize (nameB s && !kw s) = c at *
  cases c <;> cases m <;> cases q0 <;> cases q1 <;> cases q2
  all_goals
    go_enter Try.func19, Try.ntmps19
    go_wp2_with (first | (go_at_call 31; refine (HP.out _).mono ?_; rintro e w' ⟨rfl, hb2⟩; have HO := Lib.hid (HO.out.next hb2); obtain ⟨e0, e1, e2, e3, e4, -, -⟩ := HO.out; clear hb2; have hww := hw.trans (HO.out.bel.mono hw.size); obtain ⟨g0, g1, g2, g3, g4⟩ := (HK0.out.below hx hww); obtain ⟨i0, i1, i2, i3, i4⟩ := (HK1.out.below hx hww); obtain ⟨j0, j1, j2, j3, j4⟩ := (HK2.out.below hx hww); clear hww) | (go_at_call 32; refine (HN.out _).mono ?_; rintro e w2 ⟨rfl, rfl⟩) | (go_at_call 33; (with_reducible refine (Imp.call HD0.out (hw.trans (HO.out.bel.mono hw.size))).mono ?_); rintro e w' ⟨rfl, hb2⟩; have HO := Lib.hid (HO.out.next hb2); obtain ⟨e0, e1, e2, e3, e4, -, -⟩ := HO.out; clear hb2; have hww := hw.trans (HO.out.bel.mono hw.size); obtain ⟨g0, g1, g2, g3, g4⟩ := (HK0.out.below hx hww); obtain ⟨i0, i1, i2, i3, i4⟩ := (HK1.out.below hx hww); obtain ⟨j0, j1, j2, j3, j4⟩ := (HK2.out.below hx hww); clear hww) | (go_at_call 34; (with_reducible refine (Dcs.call HD1.out (hw.trans (HO.out.bel.mono hw.size))).mono ?_); rintro e w' ⟨rfl, hb2⟩; have HO := Lib.hid (HO.out.next hb2); obtain ⟨e0, e1, e2, e3, e4, -, -⟩ := HO.out; clear hb2; have hww := hw.trans (HO.out.bel.mono hw.size); obtain ⟨g0, g1, g2, g3, g4⟩ := (HK0.out.below hx hww); obtain ⟨i0, i1, i2, i3, i4⟩ := (HK1.out.below hx hww); obtain ⟨j0, j1, j2, j3, j4⟩ := (HK2.out.below hx hww); clear hww) | (go_at_call 22; (with_reducible refine (Sms.call HD2.out (hw.trans (HO.out.bel.mono hw.size))).mono ?_); rintro e w' ⟨rfl, hb2⟩; have HO := Lib.hid (HO.out.next hb2); obtain ⟨e0, e1, e2, e3, e4, -, -⟩ := HO.out; clear hb2; have hww := hw.trans (HO.out.bel.mono hw.size); obtain ⟨g0, g1, g2, g3, g4⟩ := (HK0.out.below hx hww); obtain ⟨i0, i1, i2, i3, i4⟩ := (HK1.out.below hx hww); obtain ⟨j0, j1, j2, j3, j4⟩ := (HK2.out.below hx hww); clear hww))
  all_goals
    go_ret
    exact ⟨ret_bool (by rfl), HO.out.bel⟩
theorem may_row (hs : s.size ≤ maxLen) (hk : RowK w0 a len K) : MayT w0 (nd k s v m a len cap) (mayF k s v m len K) := by
  unfold mayF
  cases hp : shB k v len 1 3 with
  | false => exact may_no hp
  | true =>
    have hl : len = 3 := by unfold shB at hp; simp at hp; omega
    subst hl
    obtain ⟨b, o, e, rfl, -⟩ := hk (by omega)
    obtain ⟨hb, k0, s0, v0, m0, a0, l0, c0, hK0, h0⟩ := hk.k0 (by omega)
    obtain ⟨k1, s1, v1, m1, a1, l1, c1, hK1, h1⟩ := hk.kj 0 (by omega)
    obtain ⟨k2, s2, v2, m2, a2, l2, c2, hK2, h2⟩ := hk.kj 1 (by omega)
    rw [Bool.true_and]
    exact may_yes hb hK0 (by simpa using hK1) (by simpa using hK2) hs h0.imp (h1.dcs false) h2.stms hp
end
end Go.Proofs.Ytkhbmamgfkpdbaa

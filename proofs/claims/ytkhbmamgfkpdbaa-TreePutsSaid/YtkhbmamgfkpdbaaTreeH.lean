/-
  What Level and MayExpr tell; whatever the node.
-/
import Derived.Test.YtkhbmamgfkpdbaaTreeG
namespace Go.Proofs.Ytkhbmamgfkpdbaa
open Go.ChangeShapes Go.WideShapes Go.ChangeAt Go.RowKit
set_option linter.unusedVariables false
section
variable {w0 : World} {k : Int} {s : ByteArray} {v : Int} {m : Bool} {a : Option Addr} {len cap : Nat}
def opF (s : ByteArray) (l0 l1 : Int) : Int := if rk s = 0 then -1 else if (!(l0 == -1) && decide (l0 ≤ min (rk s) 2)) && (!(l1 == -1) && decide (l1 ≤ rk s - 1)) then rk s else -1
theorem rk_in (s : ByteArray) : 0 ≤ rk s ∧ rk s ≤ 3 := by unfold rk; split <;> (try split) <;> (try split) <;> omega
theorem op_two {xb xo : Nat} {xe : Option Nat} (hx : xb < w0.heap.size) {k' : Int} {s' : ByteArray} {v' : Int} {m' : Bool} {a' : Option Addr} {l' c' : Nat} (hK : Kid w0 xb xo xe k' s' v' m' a' l' c') {k2 : Int} {s2 : ByteArray} {v2 : Int} {m2 : Bool} {a2 : Option Addr} {l2 c2 : Nat} (hJ : Kid w0 xb (xo + 5) none k2 s2 v2 m2 a2 l2 c2) {l0 l1 : Int} (h0 : Lev w0 (nd k' s' v' m' a' l' c') l0) (h1 : Lev w0 (nd k2 s2 v2 m2 a2 l2 c2) l1) (hp : shB 35 v 2 35 2 = true) : OpL w0 (nd 35 s v false (some ⟨xb, xo, xe⟩) 2 cap) (opF s l0 l1) := by
  by_cases g0 : s.toList = [42]
  · have hr : rk s = 1 := by simp [rk, g0]
    have := op_42_ hx hK hJ (cap := cap) (v := v) g0 (below_any h0 1) (below_any h1 0) hp
    unfold opF
    rw [hr]
    exact this
  by_cases g1 : s.toList = [47]
  · have hr : rk s = 1 := by simp [rk, g1]
    have := op_47_ hx hK hJ (cap := cap) (v := v) g1 (below_any h0 1) (below_any h1 0) hp
    unfold opF
    rw [hr]
    exact this
  by_cases g2 : s.toList = [68, 73, 86]
  · have hr : rk s = 1 := by simp [rk, g2]
    have := op_68_73_86_ hx hK hJ (cap := cap) (v := v) g2 (below_any h0 1) (below_any h1 0) hp
    unfold opF
    rw [hr]
    exact this
  by_cases g3 : s.toList = [77, 79, 68]
  · have hr : rk s = 1 := by simp [rk, g3]
    have := op_77_79_68_ hx hK hJ (cap := cap) (v := v) g3 (below_any h0 1) (below_any h1 0) hp
    unfold opF
    rw [hr]
    exact this
  by_cases g4 : s.toList = [38]
  · have hr : rk s = 1 := by simp [rk, g4]
    have := op_38_ hx hK hJ (cap := cap) (v := v) g4 (below_any h0 1) (below_any h1 0) hp
    unfold opF
    rw [hr]
    exact this
  by_cases g5 : s.toList = [43]
  · have hr : rk s = 2 := by simp [rk, g5]
    have := op_43_ hx hK hJ (cap := cap) (v := v) g5 (below_any h0 2) (below_any h1 1) hp
    unfold opF
    rw [hr]
    exact this
  by_cases g6 : s.toList = [45]
  · have hr : rk s = 2 := by simp [rk, g6]
    have := op_45_ hx hK hJ (cap := cap) (v := v) g6 (below_any h0 2) (below_any h1 1) hp
    unfold opF
    rw [hr]
    exact this
  by_cases g7 : s.toList = [79, 82]
  · have hr : rk s = 2 := by simp [rk, g7]
    have := op_79_82_ hx hK hJ (cap := cap) (v := v) g7 (below_any h0 2) (below_any h1 1) hp
    unfold opF
    rw [hr]
    exact this
  by_cases g8 : s.toList = [61]
  · have hr : rk s = 3 := by simp [rk, g8]
    have := op_61_ hx hK hJ (cap := cap) (v := v) g8 (below_any h0 2) (below_any h1 2) hp
    unfold opF
    rw [hr]
    exact this
  by_cases g9 : s.toList = [35]
  · have hr : rk s = 3 := by simp [rk, g9]
    have := op_35_ hx hK hJ (cap := cap) (v := v) g9 (below_any h0 2) (below_any h1 2) hp
    unfold opF
    rw [hr]
    exact this
  by_cases g10 : s.toList = [60]
  · have hr : rk s = 3 := by simp [rk, g10]
    have := op_60_ hx hK hJ (cap := cap) (v := v) g10 (below_any h0 2) (below_any h1 2) hp
    unfold opF
    rw [hr]
    exact this
  by_cases g11 : s.toList = [60, 61]
  · have hr : rk s = 3 := by simp [rk, g11]
    have := op_60_61_ hx hK hJ (cap := cap) (v := v) g11 (below_any h0 2) (below_any h1 2) hp
    unfold opF
    rw [hr]
    exact this
  by_cases g12 : s.toList = [62]
  · have hr : rk s = 3 := by simp [rk, g12]
    have := op_62_ hx hK hJ (cap := cap) (v := v) g12 (below_any h0 2) (below_any h1 2) hp
    unfold opF
    rw [hr]
    exact this
  by_cases g13 : s.toList = [62, 61]
  · have hr : rk s = 3 := by simp [rk, g13]
    have := op_62_61_ hx hK hJ (cap := cap) (v := v) g13 (below_any h0 2) (below_any h1 2) hp
    unfold opF
    rw [hr]
    exact this
  by_cases g14 : s.toList = [73, 78]
  · have hr : rk s = 3 := by simp [rk, g14]
    have := op_73_78_ hx hK hJ (cap := cap) (v := v) g14 (below_any h0 2) (below_any h1 2) hp
    unfold opF
    rw [hr]
    exact this
  have hr : rk s = 0 := by simp [rk, *]
  have := op_none (w0 := w0) (a := some ⟨xb, xo, xe⟩) (cap := cap) (v := v) g0 g1 g2 g3 g4 g5 g6 g7 g8 g9 g10 g11 g12 g13 g14 hp
  unfold opF
  rw [hr]
  exact this
theorem opl_any (hk : 0 < len → ∃ x, a = some x ∧ Kids w0 (Good w0) x len) : ∃ r, OpL w0 (nd 35 s v m a len cap) r ∧ -1 ≤ r ∧ r ≤ 3 := by
  cases hp : shB 35 v len 35 2 with
  | false => exact ⟨_, op_no hp, by omega, by omega⟩
  | true =>
    cases m with
    | true => exact ⟨_, op_mark hp, by omega, by omega⟩
    | false =>
      have hl : len = 2 := by unfold shB at hp; simp at hp; omega
      subst hl
      obtain ⟨⟨xb, xo, xe⟩, rfl, hK⟩ := hk (by omega)
      obtain ⟨k', s', v', m', a', l', c', hkid, r, l, -, hlev, -⟩ := hK.k0 (by omega)
      obtain ⟨k2, s2, v2, m2, a2, l2, c2, hkid2, r2, q2, -, hlev2, -⟩ := hK.k1 (by omega)
      refine ⟨_, op_two hK.1 hkid hkid2 hlev hlev2 hp, ?_⟩
      have := rk_in s
      unfold opF
      split
      · omega
      · split <;> omega
theorem Lev.call {w W : World} {u : Value} {l : Int} (h : Lev w u l) (hb : Below w.heap.size w W) : Calls Try.prog 26 #[u] W fun e W' => e = .returned (.int .i64 l) ∧ Below W.heap.size W W' := h W hb
theorem lev35 {r : Int} (h : OpL w0 (nd 35 s v m a len cap) r) : Lev w0 (nd 35 s v m a len cap) r := by
  intro w hw
  have HD := Lib.hid h
  have HO := Lib.hid (Own.start w 35 s v m a len cap)
  clear h
  unfold nd at *
  go_enter Try.func26, Try.ntmps26
  go_wp2_with ((go_at_call 42; refine (HD.out _ (hw.trans (HO.out.bel.mono hw.size))).mono ?_; rintro e w' ⟨rfl, hb2⟩; have HO := Lib.hid (HO.out.next hb2); obtain ⟨e0, e1, e2, e3, e4, -, -⟩ := HO.out; clear hb2))
  go_ret
  exact ⟨rfl, HO.out.bel⟩
theorem lev34_no (hp : shB 34 v len 34 1 = false) : Lev w0 (nd 34 s v m a len cap) (-1) := by
  intro w hw
  have HP := Lib.hid (shaped_any 34 s v m a len cap 34 1)
  rw [hp] at HP
  have HO := Lib.hid (Own.start w 34 s v m a len cap)
  clear hp
  unfold nd at *
  go_enter Try.func26, Try.ntmps26
  go_wp2_with ((go_at_call 31; refine (HP.out _).mono ?_; rintro e w' ⟨rfl, hb2⟩; have HO := Lib.hid (HO.out.next hb2); obtain ⟨e0, e1, e2, e3, e4, -, -⟩ := HO.out; clear hb2))
  go_ret
  exact ⟨rfl, HO.out.bel⟩
theorem lev34_yes {xb xo : Nat} {xe : Option Nat} (hx : xb < w0.heap.size) {k' : Int} {s' : ByteArray} {v' : Int} {m' : Bool} {a' : Option Addr} {l' c' : Nat} (hK : Kid w0 xb xo xe k' s' v' m' a' l' c') {q : Bool} (he : Bel w0 (nd k' s' v' m' a' l' c') 1 q) (hp : shB 34 v 1 34 1 = true) : Lev w0 (nd 34 s v m (some ⟨xb, xo, xe⟩) 1 cap) (if (!m && (decide (s.toList = [43]) || decide (s.toList = [45]))) && q then 2 else -1) := by
  intro w hw
  have HP := Lib.hid (shaped_any 34 s v m (some ⟨xb, xo, xe⟩) 1 cap 34 1)
  rw [hp] at HP
  have HO := Lib.hid (Own.start w 34 s v m (some ⟨xb, xo, xe⟩) 1 cap)
  have HK := Lib.hid hK
  have HE := Lib.hid he
  clear hp hK he
  unfold nd at *
  cases m <;> cases q
  all_goals
    go_enter Try.func26, Try.ntmps26
    go_wp2_with (first | (go_at_call 31; refine (HP.out _).mono ?_; rintro e w' ⟨rfl, hb2⟩; have HO := Lib.hid (HO.out.next hb2); obtain ⟨e0, e1, e2, e3, e4, -, -⟩ := HO.out; clear hb2; have hww := hw.trans (HO.out.bel.mono hw.size); obtain ⟨g0, g1, g2, g3, g4⟩ := HK.out.below hx hww; clear hww) | (go_at_call 43; refine (HE.out _ (hw.trans (HO.out.bel.mono hw.size))).mono ?_; rintro e w' ⟨rfl, hb2⟩; have HO := Lib.hid (HO.out.next hb2); obtain ⟨e0, e1, e2, e3, e4, -, -⟩ := HO.out; clear hb2; have hww := hw.trans (HO.out.bel.mono hw.size); obtain ⟨g0, g1, g2, g3, g4⟩ := HK.out.below hx hww; clear hww))
  all_goals
    go_ret
    exact ⟨ret_int (by first | rfl | (simp [*]; done)), HO.out.bel⟩
theorem levF {r : Bool} (h : Fac w0 (nd k s v m a len cap) r) (h1 : k ≠ 35) (h2 : k ≠ 34) : Lev w0 (nd k s v m a len cap) (if r then 0 else -1) := by
  intro w hw
  have HD := Lib.hid h
  have HO := Lib.hid (Own.start w k s v m a len cap)
  have d1 : (k == 35) = false := by simpa using h1
  have d2 : (k == 34) = false := by simpa using h2
  clear h
  unfold nd at *
  cases r
  all_goals
    go_enter Try.func26, Try.ntmps26
    go_wp2_with ((go_at_call 44; refine (HD.out _ (hw.trans (HO.out.bel.mono hw.size))).mono ?_; rintro e w' ⟨rfl, hb2⟩; have HO := Lib.hid (HO.out.next hb2); obtain ⟨e0, e1, e2, e3, e4, -, -⟩ := HO.out; clear hb2))
    go_ret
    exact ⟨rfl, HO.out.bel⟩
theorem ex_of {l : Int} (h : Lev w0 (nd k s v m a len cap) l) : Ex w0 (nd k s v m a len cap) (!(l == -1)) := by
  intro w hw
  have HL := Lib.hid h
  have HO := Lib.hid (Own.start w k s v m a len cap)
  clear h
  unfold nd at *
  go_enter Try.func21, Try.ntmps21
  go_wp2_with (go_at_call 26; first | (with_reducible refine (Lev.call HL.out hw).mono ?_; rintro e w' ⟨rfl, hb2⟩) | (with_reducible refine (Lev.call HL.out (hw.trans (HO.out.bel.mono hw.size))).mono ?_; rintro e w' ⟨rfl, hb2⟩; have hb2 := (HO.out.next hb2).bel))
  all_goals
    go_ret
    exact ⟨ret_bool (by first | rfl | (simp [*]; done)), hb2⟩
theorem good_any (hs : s.size ≤ maxLen) (hl : len ≤ cap) (hc : cap ≤ maxLen) (hk : 0 < len → ∃ x, a = some x ∧ Kids w0 (Good w0) x len) : Good w0 (nd k s v m a len cap) := by
  obtain ⟨rd, hd⟩ := des_any (k := k) (v := v) (m := m) (cap := cap) hs hk
  obtain ⟨rf, hf⟩ := fac_any (k := k) (v := v) (m := m) hs hl hc hk
  obtain ⟨l, hL, b1, b2⟩ : ∃ l, Lev w0 (nd k s v m a len cap) l ∧ -1 ≤ l ∧ l ≤ 3 := by
    by_cases h1 : k = 35
    · subst h1
      obtain ⟨r, hr, b⟩ := opl_any (s := s) (v := v) (m := m) (cap := cap) hk
      exact ⟨r, lev35 hr, b⟩
    by_cases h2 : k = 34
    · subst h2
      cases hp : shB 34 v len 34 1 with
      | false => exact ⟨_, lev34_no hp, by omega, by omega⟩
      | true =>
        have hl : len = 1 := by unfold shB at hp; simp at hp; omega
        subst hl
        obtain ⟨⟨xb, xo, xe⟩, rfl, hK⟩ := hk (by omega)
        obtain ⟨k', s', v', m', a', l', c', hkid, r, l, -, hlev, -⟩ := hK.k0 (by omega)
        refine ⟨_, lev34_yes hK.1 hkid (below_any hlev 1) hp, ?_⟩
        split <;> omega
    · refine ⟨_, levF hf h1 h2, ?_⟩
      split <;> omega
  exact ⟨rd, l, hd, hL, ex_of hL, b1, b2⟩
theorem Kids.imp {w : World} {P Q : Value → Prop} {x : Addr} {len : Nat} (h : Kids w P x len) (f : ∀ u, P u → Q u) : Kids w Q x len :=
  ⟨h.1, fun j hj => by obtain ⟨k, s, v, m, a, l, c, h1, h2⟩ := h.2 j hj; exact ⟨k, s, v, m, a, l, c, h1, f _ h2⟩⟩
theorem good_all : ∀ (d : Nat) (u : Value), At w0 d u → Good w0 u
  | 0, _, h => h.elim
  | d + 1, u, h => by
    obtain ⟨k, s, v, m, a, len, cap, rfl, hs, _, _, hl, hc, hk⟩ := h
    exact good_any hs hl hc fun h0 => by
      obtain ⟨x, hx, hK⟩ := hk h0
      exact ⟨x, hx, hK.imp (good_all d)⟩
end
end Go.Proofs.Ytkhbmamgfkpdbaa

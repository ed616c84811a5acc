/-
  all(l, MayExpr) of any row of kids; what mayCall tells.
-/
import Derived.Test.YtkhbmamgfkpdbaaTreeD
namespace Go.Proofs.Ytkhbmamgfkpdbaa
open Go.ChangeShapes Go.WideShapes Go.ChangeAt Go.RowKit
set_option linter.unusedVariables false
section
variable {w0 : World} {k : Int} {s : ByteArray} {v : Int} {m : Bool} {a : Option Addr} {len cap : Nat}
/-- all(l, MayExpr), of a row that begins so many nodes behind -/
def AllG (w : World) (v : Value) (r : Bool) : Prop := ∀ W, Below w.heap.size w W → Calls Try.prog 38 #[v, .func (.func 21) #[] #[]] W fun e W' => e = .returned (.bool r) ∧ Below W.heap.size W W'
theorem all_zero (a : Option Addr) (cap : Nat) : AllG w0 (.slice a 0 cap) true := by
  intro w hw
  go_enter Try.func38, Try.ntmps38
  go_wp2
  go_step3
  go_wp2
  go_step3
  go_wp2
  go_loopw [5, 10] (fun q i wr => q = .bool true ∧ i = .int .i64 0 ∧ Below w.heap.size w wr) (fun _ i _ => 0)
  case atStart => exact ⟨rfl, rfl, Below.refl _ _⟩
  case round =>
    obtain ⟨rfl, rfl, hbr⟩ := hrel
    go_wp2_with fail
    rw [Exit.noGoto_ret]
    go_ret
    exact ⟨rfl, hbr⟩
theorem all_g (hl : len ≤ maxLen) (hk : 0 < len → ∃ x, a = some x ∧ Kids w0 (Good w0) x len) : ∃ r, AllG w0 (.slice a len cap) r := by
  by_cases h0 : len = 0
  · subst h0; exact ⟨_, all_zero _ _⟩
  obtain ⟨⟨b, o, x⟩, rfl, hb, hK⟩ := hk (by omega)
  have hf : ∀ j, ∃ r : Bool, j < len → ∃ k s v m a l c, Kid w0 b (o + j * 5) (if j = 0 then x else none) k s v m a l c ∧ Ex w0 (nd k s v m a l c) r := fun j => by
    by_cases hj : j < len
    · obtain ⟨k, s, v, m, a, l, c, h1, r, q, _, _, h2, _⟩ := hK j hj
      exact ⟨_, fun _ => ⟨k, s, v, m, a, l, c, h1, h2⟩⟩
    · exact ⟨true, fun h => absurd h hj⟩
  obtain ⟨f, hf⟩ := Classical.axiomOfChoice hf
  exact ⟨_, all_any w0 b o x len cap hb hl f hf⟩
theorem kids_from1 {x : Addr} (h : Kids w0 (Good w0) x (len + 1)) : Kids w0 (Good w0) ⟨x.block, x.off + 5, none⟩ len := by
  refine ⟨h.1, fun j hj => ?_⟩
  obtain ⟨k, s, v, m, a, l, c, h1, h2⟩ := h.2 (j + 1) (by omega)
  refine ⟨k, s, v, m, a, l, c, ?_, h2⟩
  rw [show x.off + 5 + j * 5 = x.off + (j + 1) * 5 by omega]
  simpa using h1
def CallR (w : World) (u : Value) (r : Bool) : Prop := ∀ W, Below w.heap.size w W → Calls Try.prog 52 #[u] W fun e W' => e = .returned (.bool r) ∧ Below W.heap.size W W'
theorem call_no (hp : baB k s v m len 21 (-1) = false) : CallR w0 (nd k s v m a len cap) false := by
  intro w hw
  have HP := Lib.hid (bare_any k s v m a len cap 21 (-1))
  rw [hp] at HP
  have HO := Lib.hid (Own.start w k s v m a len cap)
  clear hp
  unfold nd at *
  go_enter Try.func52, Try.ntmps52
  go_wp2_with ((go_at_call 37; refine (HP.out _).mono ?_; rintro e w' ⟨rfl, hb2⟩; have HO := Lib.hid (HO.out.next hb2); obtain ⟨e0, e1, e2, e3, e4, -, -⟩ := HO.out; clear hb2))
  go_ret
  exact ⟨rfl, HO.out.bel⟩
theorem call_zero (hp : baB k s v m 0 21 (-1) = true) : CallR w0 (nd k s v m a 0 cap) false := by
  intro w hw
  have HP := Lib.hid (bare_any k s v m a 0 cap 21 (-1))
  rw [hp] at HP
  have HO := Lib.hid (Own.start w k s v m a 0 cap)
  clear hp
  unfold nd at *
  go_enter Try.func52, Try.ntmps52
  go_wp2_with ((go_at_call 37; refine (HP.out _).mono ?_; rintro e w' ⟨rfl, hb2⟩; have HO := Lib.hid (HO.out.next hb2); obtain ⟨e0, e1, e2, e3, e4, -, -⟩ := HO.out; clear hb2))
  go_ret
  exact ⟨rfl, HO.out.bel⟩
theorem call_one {xb xo : Nat} {xe : Option Nat} (hx : xb < w0.heap.size) {k' : Int} {s' : ByteArray} {v' : Int} {m' : Bool} {a' : Option Addr} {l' c' : Nat} (hK : Kid w0 xb xo xe k' s' v' m' a' l' c') {r : Bool} (hd : Desig w0 (nd k' s' v' m' a' l' c') r)
    (hp : baB k s v m 1 21 (-1) = true) : CallR w0 (nd k s v m (some ⟨xb, xo, xe⟩) 1 1) r := by
  intro w hw
  have HP := Lib.hid (bare_any k s v m (some ⟨xb, xo, xe⟩) 1 1 21 (-1))
  rw [hp] at HP
  have HO := Lib.hid (Own.start w k s v m (some ⟨xb, xo, xe⟩) 1 1)
  have HK := Lib.hid hK
  have HD := Lib.hid hd
  have HA := Lib.hid (all_zero (w0 := w0) (some ⟨xb, xo, xe⟩) 0)
  clear hp hK hd
  unfold nd at *
  cases r
  all_goals
    go_enter Try.func52, Try.ntmps52
    go_wp2_with (first | (go_at_call 37; refine (HP.out _).mono ?_; rintro e w' ⟨rfl, hb2⟩; have HO := Lib.hid (HO.out.next hb2); obtain ⟨e0, e1, e2, e3, e4, -, -⟩ := HO.out; clear hb2; have hww := hw.trans (HO.out.bel.mono hw.size); obtain ⟨g0, g1, g2, g3, g4⟩ := HK.out.below hx hww; clear hww) | (go_at_call 51; refine (HD.out _ (hw.trans (HO.out.bel.mono hw.size))).mono ?_; rintro e w' ⟨rfl, hb2⟩; have HO := Lib.hid (HO.out.next hb2); obtain ⟨e0, e1, e2, e3, e4, -, -⟩ := HO.out; clear hb2; have hww := hw.trans (HO.out.bel.mono hw.size); obtain ⟨g0, g1, g2, g3, g4⟩ := HK.out.below hx hww; clear hww) | (go_at_call 38; refine (HA.out _ (hw.trans (HO.out.bel.mono hw.size))).mono ?_; rintro e w' ⟨rfl, hb2⟩; have HO := Lib.hid (HO.out.next hb2); obtain ⟨e0, e1, e2, e3, e4, -, -⟩ := HO.out; clear hb2; have hww := hw.trans (HO.out.bel.mono hw.size); obtain ⟨g0, g1, g2, g3, g4⟩ := HK.out.below hx hww; clear hww))
    go_ret
    exact ⟨ret_bool (by rfl), HO.out.bel⟩
theorem call_yes {xb xo : Nat} {xe : Option Nat} (hx : xb < w0.heap.size) {k' : Int} {s' : ByteArray} {v' : Int} {m' : Bool} {a' : Option Addr} {l' c' : Nat} (hK : Kid w0 xb xo xe k' s' v' m' a' l' c') (hlen : len + 1 ≤ cap) (h2 : 2 ≤ cap) (hcap : cap ≤ maxLen) {r q : Bool} (hd : Desig w0 (nd k' s' v' m' a' l' c') r)
    (ha : AllG w0 (.slice (some ⟨xb, xo + 5, none⟩) len (cap - 1)) q) (hp : baB k s v m (len + 1) 21 (-1) = true) : CallR w0 (nd k s v m (some ⟨xb, xo, xe⟩) (len + 1) cap) (r && q) := by
  intro w hw
  have HP := Lib.hid (bare_any k s v m (some ⟨xb, xo, xe⟩) (len + 1) cap 21 (-1))
  rw [hp] at HP
  have HO := Lib.hid (Own.start w k s v m (some ⟨xb, xo, xe⟩) (len + 1) cap)
  have HK := Lib.hid hK
  have HD := Lib.hid hd
  have HA := Lib.hid ha
  have h3 : ¬ cap = 1 := by omega
  clear hp hK hd ha
  unfold maxLen at hcap
  unfold nd at *
  cases r <;> cases q
  all_goals
    go_enter Try.func52, Try.ntmps52
    go_wp2_with (first | (go_at_call 37; refine (HP.out _).mono ?_; rintro e w' ⟨rfl, hb2⟩; have HO := Lib.hid (HO.out.next hb2); obtain ⟨e0, e1, e2, e3, e4, -, -⟩ := HO.out; clear hb2; have hww := hw.trans (HO.out.bel.mono hw.size); obtain ⟨g0, g1, g2, g3, g4⟩ := HK.out.below hx hww; clear hww) | (go_at_call 51; refine (HD.out _ (hw.trans (HO.out.bel.mono hw.size))).mono ?_; rintro e w' ⟨rfl, hb2⟩; have HO := Lib.hid (HO.out.next hb2); obtain ⟨e0, e1, e2, e3, e4, -, -⟩ := HO.out; clear hb2; have hww := hw.trans (HO.out.bel.mono hw.size); obtain ⟨g0, g1, g2, g3, g4⟩ := HK.out.below hx hww; clear hww) | (go_at_call 38; refine (HA.out _ (hw.trans (HO.out.bel.mono hw.size))).mono ?_; rintro e w' ⟨rfl, hb2⟩; have HO := Lib.hid (HO.out.next hb2); obtain ⟨e0, e1, e2, e3, e4, -, -⟩ := HO.out; clear hb2; have hww := hw.trans (HO.out.bel.mono hw.size); obtain ⟨g0, g1, g2, g3, g4⟩ := HK.out.below hx hww; clear hww))
    go_ret
    exact ⟨ret_bool (by rfl), HO.out.bel⟩
theorem call_any' (hl : len ≤ cap) (hc : cap ≤ maxLen) (hk : 0 < len → ∃ x, a = some x ∧ Kids w0 (Good w0) x len) : ∃ r, CallR w0 (nd k s v m a len cap) r := by
  cases hp : baB k s v m len 21 (-1) with
  | false => exact ⟨_, call_no hp⟩
  | true =>
    cases len with
    | zero => exact ⟨_, call_zero hp⟩
    | succ n =>
      obtain ⟨⟨xb, xo, xe⟩, rfl, hK⟩ := hk (by omega)
      obtain ⟨k', s', v', m', a', l', c', hkid, r, l, hd, -⟩ := hK.k0 (by omega)
      by_cases h1 : cap = 1
      · subst h1
        obtain rfl : n = 0 := by omega
        exact ⟨_, call_one hK.1 hkid hd hp⟩
      · obtain ⟨q, hq⟩ := all_g (w0 := w0) (a := some ⟨xb, xo + 5, none⟩) (len := n) (cap := cap - 1) (by omega) (fun _ => ⟨_, rfl, kids_from1 hK⟩)
        exact ⟨_, call_yes hK.1 hkid hl (by omega) hc hd hq hp⟩
end
end Go.Proofs.Ytkhbmamgfkpdbaa

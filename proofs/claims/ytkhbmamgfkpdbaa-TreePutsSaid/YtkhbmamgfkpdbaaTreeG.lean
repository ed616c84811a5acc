/-
  What opLevel tells.
-/
import Derived.Test.YtkhbmamgfkpdbaaTreeF
namespace Go.Proofs.Ytkhbmamgfkpdbaa
open Go.ChangeShapes Go.WideShapes Go.ChangeAt Go.RowKit
set_option linter.unusedVariables false
section
variable {w0 : World} {k : Int} {s : ByteArray} {v : Int} {m : Bool} {a : Option Addr} {len cap : Nat}
/-- an operator's rank -/
def rk (s : ByteArray) : Int := if s.toList ∈ ([[42], [47], [68, 73, 86], [77, 79, 68], [38]] : List (List UInt8)) then 1 else if s.toList ∈ ([[43], [45], [79, 82]] : List (List UInt8)) then 2 else if s.toList ∈ ([[61], [35], [60], [60, 61], [62], [62, 61], [73, 78]] : List (List UInt8)) then 3 else 0
def OpL (w : World) (u : Value) (r : Int) : Prop := ∀ W, Below w.heap.size w W → Calls Try.prog 42 #[u] W fun e W' => e = .returned (.int .i64 r) ∧ Below W.heap.size W W'
theorem op_no (hp : shB 35 v len 35 2 = false) : OpL w0 (nd 35 s v m a len cap) (-1) := by
  intro w hw
  have HP := Lib.hid (shaped_any 35 s v m a len cap 35 2)
  rw [hp] at HP
  have HO := Lib.hid (Own.start w 35 s v m a len cap)
  clear hp
  unfold nd at *
  go_enter Try.func42, Try.ntmps42
  go_wp2_with ((go_at_call 31; refine (HP.out _).mono ?_; rintro e w' ⟨rfl, hb2⟩; have HO := Lib.hid (HO.out.next hb2); obtain ⟨e0, e1, e2, e3, e4, -, -⟩ := HO.out; clear hb2))
  go_ret
  exact ⟨rfl, HO.out.bel⟩
theorem op_mark (hp : shB 35 v len 35 2 = true) : OpL w0 (nd 35 s v true a len cap) (-1) := by
  intro w hw
  have HP := Lib.hid (shaped_any 35 s v true a len cap 35 2)
  rw [hp] at HP
  have HO := Lib.hid (Own.start w 35 s v true a len cap)
  clear hp
  unfold nd at *
  go_enter Try.func42, Try.ntmps42
  go_wp2_with ((go_at_call 31; refine (HP.out _).mono ?_; rintro e w' ⟨rfl, hb2⟩; have HO := Lib.hid (HO.out.next hb2); obtain ⟨e0, e1, e2, e3, e4, -, -⟩ := HO.out; clear hb2))
  go_ret
  exact ⟨rfl, HO.out.bel⟩
theorem op_42_ {xb xo : Nat} {xe : Option Nat} (hx : xb < w0.heap.size) {k' : Int} {s' : ByteArray} {v' : Int} {m' : Bool} {a' : Option Addr} {l' c' : Nat} (hK : Kid w0 xb xo xe k' s' v' m' a' l' c') {k2 : Int} {s2 : ByteArray} {v2 : Int} {m2 : Bool} {a2 : Option Addr} {l2 c2 : Nat} (hJ : Kid w0 xb (xo + 5) none k2 s2 v2 m2 a2 l2 c2) (hs : s.toList = [42]) {q p : Bool} (hq : Bel w0 (nd k' s' v' m' a' l' c') 1 q) (hr : Bel w0 (nd k2 s2 v2 m2 a2 l2 c2) 0 p) (hp : shB 35 v 2 35 2 = true) : OpL w0 (nd 35 s v false (some ⟨xb, xo, xe⟩) 2 cap) (if q && p then 1 else -1) := by
  intro w hw
  have HP := Lib.hid (shaped_any 35 s v false (some ⟨xb, xo, xe⟩) 2 cap 35 2)
  rw [hp] at HP
  have HO := Lib.hid (Own.start w 35 s v false (some ⟨xb, xo, xe⟩) 2 cap)
  have HK := Lib.hid hK
  have HJ := Lib.hid hJ
  have HQ := Lib.hid hq
  have HR := Lib.hid hr
  clear hp hK hJ hq hr
  unfold nd at *
  unfold Bel at HQ HR
  cases q <;> cases p
  all_goals
    go_enter Try.func42, Try.ntmps42
    go_wp2_with (first | (go_at_call 31; refine (HP.out _).mono ?_; rintro e w' ⟨rfl, hb2⟩; have HO := Lib.hid (HO.out.next hb2); obtain ⟨e0, e1, e2, e3, e4, -, -⟩ := HO.out; clear hb2; have hww := hw.trans (HO.out.bel.mono hw.size); obtain ⟨g0, g1, g2, g3, g4⟩ := HK.out.below hx hww; obtain ⟨i0, i1, i2, i3, i4⟩ := HJ.out.below hx hww; clear hww) | (go_at_call 43; (first | with_reducible refine (HQ.out _ (hw.trans (HO.out.bel.mono hw.size))).mono ?_ | with_reducible refine (HR.out _ (hw.trans (HO.out.bel.mono hw.size))).mono ?_); rintro e w' ⟨rfl, hb2⟩; have HO := Lib.hid (HO.out.next hb2); obtain ⟨e0, e1, e2, e3, e4, -, -⟩ := HO.out; clear hb2; have hww := hw.trans (HO.out.bel.mono hw.size); obtain ⟨g0, g1, g2, g3, g4⟩ := HK.out.below hx hww; obtain ⟨i0, i1, i2, i3, i4⟩ := HJ.out.below hx hww; clear hww))
    go_ret
    exact ⟨ret_int (by rfl), HO.out.bel⟩
theorem op_47_ {xb xo : Nat} {xe : Option Nat} (hx : xb < w0.heap.size) {k' : Int} {s' : ByteArray} {v' : Int} {m' : Bool} {a' : Option Addr} {l' c' : Nat} (hK : Kid w0 xb xo xe k' s' v' m' a' l' c') {k2 : Int} {s2 : ByteArray} {v2 : Int} {m2 : Bool} {a2 : Option Addr} {l2 c2 : Nat} (hJ : Kid w0 xb (xo + 5) none k2 s2 v2 m2 a2 l2 c2) (hs : s.toList = [47]) {q p : Bool} (hq : Bel w0 (nd k' s' v' m' a' l' c') 1 q) (hr : Bel w0 (nd k2 s2 v2 m2 a2 l2 c2) 0 p) (hp : shB 35 v 2 35 2 = true) : OpL w0 (nd 35 s v false (some ⟨xb, xo, xe⟩) 2 cap) (if q && p then 1 else -1) := by
  intro w hw
  have HP := Lib.hid (shaped_any 35 s v false (some ⟨xb, xo, xe⟩) 2 cap 35 2)
  rw [hp] at HP
  have HO := Lib.hid (Own.start w 35 s v false (some ⟨xb, xo, xe⟩) 2 cap)
  have HK := Lib.hid hK
  have HJ := Lib.hid hJ
  have HQ := Lib.hid hq
  have HR := Lib.hid hr
  clear hp hK hJ hq hr
  unfold nd at *
  unfold Bel at HQ HR
  cases q <;> cases p
  all_goals
    go_enter Try.func42, Try.ntmps42
    go_wp2_with (first | (go_at_call 31; refine (HP.out _).mono ?_; rintro e w' ⟨rfl, hb2⟩; have HO := Lib.hid (HO.out.next hb2); obtain ⟨e0, e1, e2, e3, e4, -, -⟩ := HO.out; clear hb2; have hww := hw.trans (HO.out.bel.mono hw.size); obtain ⟨g0, g1, g2, g3, g4⟩ := HK.out.below hx hww; obtain ⟨i0, i1, i2, i3, i4⟩ := HJ.out.below hx hww; clear hww) | (go_at_call 43; (first | with_reducible refine (HQ.out _ (hw.trans (HO.out.bel.mono hw.size))).mono ?_ | with_reducible refine (HR.out _ (hw.trans (HO.out.bel.mono hw.size))).mono ?_); rintro e w' ⟨rfl, hb2⟩; have HO := Lib.hid (HO.out.next hb2); obtain ⟨e0, e1, e2, e3, e4, -, -⟩ := HO.out; clear hb2; have hww := hw.trans (HO.out.bel.mono hw.size); obtain ⟨g0, g1, g2, g3, g4⟩ := HK.out.below hx hww; obtain ⟨i0, i1, i2, i3, i4⟩ := HJ.out.below hx hww; clear hww))
    go_ret
    exact ⟨ret_int (by rfl), HO.out.bel⟩
theorem op_68_73_86_ {xb xo : Nat} {xe : Option Nat} (hx : xb < w0.heap.size) {k' : Int} {s' : ByteArray} {v' : Int} {m' : Bool} {a' : Option Addr} {l' c' : Nat} (hK : Kid w0 xb xo xe k' s' v' m' a' l' c') {k2 : Int} {s2 : ByteArray} {v2 : Int} {m2 : Bool} {a2 : Option Addr} {l2 c2 : Nat} (hJ : Kid w0 xb (xo + 5) none k2 s2 v2 m2 a2 l2 c2) (hs : s.toList = [68, 73, 86]) {q p : Bool} (hq : Bel w0 (nd k' s' v' m' a' l' c') 1 q) (hr : Bel w0 (nd k2 s2 v2 m2 a2 l2 c2) 0 p) (hp : shB 35 v 2 35 2 = true) : OpL w0 (nd 35 s v false (some ⟨xb, xo, xe⟩) 2 cap) (if q && p then 1 else -1) := by
  intro w hw
  have HP := Lib.hid (shaped_any 35 s v false (some ⟨xb, xo, xe⟩) 2 cap 35 2)
  rw [hp] at HP
  have HO := Lib.hid (Own.start w 35 s v false (some ⟨xb, xo, xe⟩) 2 cap)
  have HK := Lib.hid hK
  have HJ := Lib.hid hJ
  have HQ := Lib.hid hq
  have HR := Lib.hid hr
  clear hp hK hJ hq hr
  unfold nd at *
  unfold Bel at HQ HR
  cases q <;> cases p
  all_goals
    go_enter Try.func42, Try.ntmps42
    go_wp2_with (first | (go_at_call 31; refine (HP.out _).mono ?_; rintro e w' ⟨rfl, hb2⟩; have HO := Lib.hid (HO.out.next hb2); obtain ⟨e0, e1, e2, e3, e4, -, -⟩ := HO.out; clear hb2; have hww := hw.trans (HO.out.bel.mono hw.size); obtain ⟨g0, g1, g2, g3, g4⟩ := HK.out.below hx hww; obtain ⟨i0, i1, i2, i3, i4⟩ := HJ.out.below hx hww; clear hww) | (go_at_call 43; (first | with_reducible refine (HQ.out _ (hw.trans (HO.out.bel.mono hw.size))).mono ?_ | with_reducible refine (HR.out _ (hw.trans (HO.out.bel.mono hw.size))).mono ?_); rintro e w' ⟨rfl, hb2⟩; have HO := Lib.hid (HO.out.next hb2); obtain ⟨e0, e1, e2, e3, e4, -, -⟩ := HO.out; clear hb2; have hww := hw.trans (HO.out.bel.mono hw.size); obtain ⟨g0, g1, g2, g3, g4⟩ := HK.out.below hx hww; obtain ⟨i0, i1, i2, i3, i4⟩ := HJ.out.below hx hww; clear hww))
    go_ret
    exact ⟨ret_int (by rfl), HO.out.bel⟩
theorem op_77_79_68_ {xb xo : Nat} {xe : Option Nat} (hx : xb < w0.heap.size) {k' : Int} {s' : ByteArray} {v' : Int} {m' : Bool} {a' : Option Addr} {l' c' : Nat} (hK : Kid w0 xb xo xe k' s' v' m' a' l' c') {k2 : Int} {s2 : ByteArray} {v2 : Int} {m2 : Bool} {a2 : Option Addr} {l2 c2 : Nat} (hJ : Kid w0 xb (xo + 5) none k2 s2 v2 m2 a2 l2 c2) (hs : s.toList = [77, 79, 68]) {q p : Bool} (hq : Bel w0 (nd k' s' v' m' a' l' c') 1 q) (hr : Bel w0 (nd k2 s2 v2 m2 a2 l2 c2) 0 p) (hp : shB 35 v 2 35 2 = true) : OpL w0 (nd 35 s v false (some ⟨xb, xo, xe⟩) 2 cap) (if q && p then 1 else -1) := by
  intro w hw
  have HP := Lib.hid (shaped_any 35 s v false (some ⟨xb, xo, xe⟩) 2 cap 35 2)
  rw [hp] at HP
  have HO := Lib.hid (Own.start w 35 s v false (some ⟨xb, xo, xe⟩) 2 cap)
  have HK := Lib.hid hK
  have HJ := Lib.hid hJ
  have HQ := Lib.hid hq
  have HR := Lib.hid hr
  clear hp hK hJ hq hr
  unfold nd at *
  unfold Bel at HQ HR
  cases q <;> cases p
  all_goals
    go_enter Try.func42, Try.ntmps42
    go_wp2_with (first | (go_at_call 31; refine (HP.out _).mono ?_; rintro e w' ⟨rfl, hb2⟩; have HO := Lib.hid (HO.out.next hb2); obtain ⟨e0, e1, e2, e3, e4, -, -⟩ := HO.out; clear hb2; have hww := hw.trans (HO.out.bel.mono hw.size); obtain ⟨g0, g1, g2, g3, g4⟩ := HK.out.below hx hww; obtain ⟨i0, i1, i2, i3, i4⟩ := HJ.out.below hx hww; clear hww) | (go_at_call 43; (first | with_reducible refine (HQ.out _ (hw.trans (HO.out.bel.mono hw.size))).mono ?_ | with_reducible refine (HR.out _ (hw.trans (HO.out.bel.mono hw.size))).mono ?_); rintro e w' ⟨rfl, hb2⟩; have HO := Lib.hid (HO.out.next hb2); obtain ⟨e0, e1, e2, e3, e4, -, -⟩ := HO.out; clear hb2; have hww := hw.trans (HO.out.bel.mono hw.size); obtain ⟨g0, g1, g2, g3, g4⟩ := HK.out.below hx hww; obtain ⟨i0, i1, i2, i3, i4⟩ := HJ.out.below hx hww; clear hww))
    go_ret
    exact ⟨ret_int (by rfl), HO.out.bel⟩
theorem op_38_ {xb xo : Nat} {xe : Option Nat} (hx : xb < w0.heap.size) {k' : Int} {s' : ByteArray} {v' : Int} {m' : Bool} {a' : Option Addr} {l' c' : Nat} (hK : Kid w0 xb xo xe k' s' v' m' a' l' c') {k2 : Int} {s2 : ByteArray} {v2 : Int} {m2 : Bool} {a2 : Option Addr} {l2 c2 : Nat} (hJ : Kid w0 xb (xo + 5) none k2 s2 v2 m2 a2 l2 c2) (hs : s.toList = [38]) {q p : Bool} (hq : Bel w0 (nd k' s' v' m' a' l' c') 1 q) (hr : Bel w0 (nd k2 s2 v2 m2 a2 l2 c2) 0 p) (hp : shB 35 v 2 35 2 = true) : OpL w0 (nd 35 s v false (some ⟨xb, xo, xe⟩) 2 cap) (if q && p then 1 else -1) := by
  intro w hw
  have HP := Lib.hid (shaped_any 35 s v false (some ⟨xb, xo, xe⟩) 2 cap 35 2)
  rw [hp] at HP
  have HO := Lib.hid (Own.start w 35 s v false (some ⟨xb, xo, xe⟩) 2 cap)
  have HK := Lib.hid hK
  have HJ := Lib.hid hJ
  have HQ := Lib.hid hq
  have HR := Lib.hid hr
  clear hp hK hJ hq hr
  unfold nd at *
  unfold Bel at HQ HR
  cases q <;> cases p
  all_goals
    go_enter Try.func42, Try.ntmps42
    go_wp2_with (first | (go_at_call 31; refine (HP.out _).mono ?_; rintro e w' ⟨rfl, hb2⟩; have HO := Lib.hid (HO.out.next hb2); obtain ⟨e0, e1, e2, e3, e4, -, -⟩ := HO.out; clear hb2; have hww := hw.trans (HO.out.bel.mono hw.size); obtain ⟨g0, g1, g2, g3, g4⟩ := HK.out.below hx hww; obtain ⟨i0, i1, i2, i3, i4⟩ := HJ.out.below hx hww; clear hww) | (go_at_call 43; (first | with_reducible refine (HQ.out _ (hw.trans (HO.out.bel.mono hw.size))).mono ?_ | with_reducible refine (HR.out _ (hw.trans (HO.out.bel.mono hw.size))).mono ?_); rintro e w' ⟨rfl, hb2⟩; have HO := Lib.hid (HO.out.next hb2); obtain ⟨e0, e1, e2, e3, e4, -, -⟩ := HO.out; clear hb2; have hww := hw.trans (HO.out.bel.mono hw.size); obtain ⟨g0, g1, g2, g3, g4⟩ := HK.out.below hx hww; obtain ⟨i0, i1, i2, i3, i4⟩ := HJ.out.below hx hww; clear hww))
    go_ret
    exact ⟨ret_int (by rfl), HO.out.bel⟩
theorem op_43_ {xb xo : Nat} {xe : Option Nat} (hx : xb < w0.heap.size) {k' : Int} {s' : ByteArray} {v' : Int} {m' : Bool} {a' : Option Addr} {l' c' : Nat} (hK : Kid w0 xb xo xe k' s' v' m' a' l' c') {k2 : Int} {s2 : ByteArray} {v2 : Int} {m2 : Bool} {a2 : Option Addr} {l2 c2 : Nat} (hJ : Kid w0 xb (xo + 5) none k2 s2 v2 m2 a2 l2 c2) (hs : s.toList = [43]) {q p : Bool} (hq : Bel w0 (nd k' s' v' m' a' l' c') 2 q) (hr : Bel w0 (nd k2 s2 v2 m2 a2 l2 c2) 1 p) (hp : shB 35 v 2 35 2 = true) : OpL w0 (nd 35 s v false (some ⟨xb, xo, xe⟩) 2 cap) (if q && p then 2 else -1) := by
  intro w hw
  have HP := Lib.hid (shaped_any 35 s v false (some ⟨xb, xo, xe⟩) 2 cap 35 2)
  rw [hp] at HP
  have HO := Lib.hid (Own.start w 35 s v false (some ⟨xb, xo, xe⟩) 2 cap)
  have HK := Lib.hid hK
  have HJ := Lib.hid hJ
  have HQ := Lib.hid hq
  have HR := Lib.hid hr
  clear hp hK hJ hq hr
  unfold nd at *
  unfold Bel at HQ HR
  cases q <;> cases p
  all_goals
    go_enter Try.func42, Try.ntmps42
    go_wp2_with (first | (go_at_call 31; refine (HP.out _).mono ?_; rintro e w' ⟨rfl, hb2⟩; have HO := Lib.hid (HO.out.next hb2); obtain ⟨e0, e1, e2, e3, e4, -, -⟩ := HO.out; clear hb2; have hww := hw.trans (HO.out.bel.mono hw.size); obtain ⟨g0, g1, g2, g3, g4⟩ := HK.out.below hx hww; obtain ⟨i0, i1, i2, i3, i4⟩ := HJ.out.below hx hww; clear hww) | (go_at_call 43; (first | with_reducible refine (HQ.out _ (hw.trans (HO.out.bel.mono hw.size))).mono ?_ | with_reducible refine (HR.out _ (hw.trans (HO.out.bel.mono hw.size))).mono ?_); rintro e w' ⟨rfl, hb2⟩; have HO := Lib.hid (HO.out.next hb2); obtain ⟨e0, e1, e2, e3, e4, -, -⟩ := HO.out; clear hb2; have hww := hw.trans (HO.out.bel.mono hw.size); obtain ⟨g0, g1, g2, g3, g4⟩ := HK.out.below hx hww; obtain ⟨i0, i1, i2, i3, i4⟩ := HJ.out.below hx hww; clear hww))
    go_ret
    exact ⟨ret_int (by rfl), HO.out.bel⟩
theorem op_45_ {xb xo : Nat} {xe : Option Nat} (hx : xb < w0.heap.size) {k' : Int} {s' : ByteArray} {v' : Int} {m' : Bool} {a' : Option Addr} {l' c' : Nat} (hK : Kid w0 xb xo xe k' s' v' m' a' l' c') {k2 : Int} {s2 : ByteArray} {v2 : Int} {m2 : Bool} {a2 : Option Addr} {l2 c2 : Nat} (hJ : Kid w0 xb (xo + 5) none k2 s2 v2 m2 a2 l2 c2) (hs : s.toList = [45]) {q p : Bool} (hq : Bel w0 (nd k' s' v' m' a' l' c') 2 q) (hr : Bel w0 (nd k2 s2 v2 m2 a2 l2 c2) 1 p) (hp : shB 35 v 2 35 2 = true) : OpL w0 (nd 35 s v false (some ⟨xb, xo, xe⟩) 2 cap) (if q && p then 2 else -1) := by
  intro w hw
  have HP := Lib.hid (shaped_any 35 s v false (some ⟨xb, xo, xe⟩) 2 cap 35 2)
  rw [hp] at HP
  have HO := Lib.hid (Own.start w 35 s v false (some ⟨xb, xo, xe⟩) 2 cap)
  have HK := Lib.hid hK
  have HJ := Lib.hid hJ
  have HQ := Lib.hid hq
  have HR := Lib.hid hr
  clear hp hK hJ hq hr
  unfold nd at *
  unfold Bel at HQ HR
  cases q <;> cases p
  all_goals
    go_enter Try.func42, Try.ntmps42
    go_wp2_with (first | (go_at_call 31; refine (HP.out _).mono ?_; rintro e w' ⟨rfl, hb2⟩; have HO := Lib.hid (HO.out.next hb2); obtain ⟨e0, e1, e2, e3, e4, -, -⟩ := HO.out; clear hb2; have hww := hw.trans (HO.out.bel.mono hw.size); obtain ⟨g0, g1, g2, g3, g4⟩ := HK.out.below hx hww; obtain ⟨i0, i1, i2, i3, i4⟩ := HJ.out.below hx hww; clear hww) | (go_at_call 43; (first | with_reducible refine (HQ.out _ (hw.trans (HO.out.bel.mono hw.size))).mono ?_ | with_reducible refine (HR.out _ (hw.trans (HO.out.bel.mono hw.size))).mono ?_); rintro e w' ⟨rfl, hb2⟩; have HO := Lib.hid (HO.out.next hb2); obtain ⟨e0, e1, e2, e3, e4, -, -⟩ := HO.out; clear hb2; have hww := hw.trans (HO.out.bel.mono hw.size); obtain ⟨g0, g1, g2, g3, g4⟩ := HK.out.below hx hww; obtain ⟨i0, i1, i2, i3, i4⟩ := HJ.out.below hx hww; clear hww))
    go_ret
    exact ⟨ret_int (by rfl), HO.out.bel⟩
theorem op_79_82_ {xb xo : Nat} {xe : Option Nat} (hx : xb < w0.heap.size) {k' : Int} {s' : ByteArray} {v' : Int} {m' : Bool} {a' : Option Addr} {l' c' : Nat} (hK : Kid w0 xb xo xe k' s' v' m' a' l' c') {k2 : Int} {s2 : ByteArray} {v2 : Int} {m2 : Bool} {a2 : Option Addr} {l2 c2 : Nat} (hJ : Kid w0 xb (xo + 5) none k2 s2 v2 m2 a2 l2 c2) (hs : s.toList = [79, 82]) {q p : Bool} (hq : Bel w0 (nd k' s' v' m' a' l' c') 2 q) (hr : Bel w0 (nd k2 s2 v2 m2 a2 l2 c2) 1 p) (hp : shB 35 v 2 35 2 = true) : OpL w0 (nd 35 s v false (some ⟨xb, xo, xe⟩) 2 cap) (if q && p then 2 else -1) := by
  intro w hw
  have HP := Lib.hid (shaped_any 35 s v false (some ⟨xb, xo, xe⟩) 2 cap 35 2)
  rw [hp] at HP
  have HO := Lib.hid (Own.start w 35 s v false (some ⟨xb, xo, xe⟩) 2 cap)
  have HK := Lib.hid hK
  have HJ := Lib.hid hJ
  have HQ := Lib.hid hq
  have HR := Lib.hid hr
  clear hp hK hJ hq hr
  unfold nd at *
  unfold Bel at HQ HR
  cases q <;> cases p
  all_goals
    go_enter Try.func42, Try.ntmps42
    go_wp2_with (first | (go_at_call 31; refine (HP.out _).mono ?_; rintro e w' ⟨rfl, hb2⟩; have HO := Lib.hid (HO.out.next hb2); obtain ⟨e0, e1, e2, e3, e4, -, -⟩ := HO.out; clear hb2; have hww := hw.trans (HO.out.bel.mono hw.size); obtain ⟨g0, g1, g2, g3, g4⟩ := HK.out.below hx hww; obtain ⟨i0, i1, i2, i3, i4⟩ := HJ.out.below hx hww; clear hww) | (go_at_call 43; (first | with_reducible refine (HQ.out _ (hw.trans (HO.out.bel.mono hw.size))).mono ?_ | with_reducible refine (HR.out _ (hw.trans (HO.out.bel.mono hw.size))).mono ?_); rintro e w' ⟨rfl, hb2⟩; have HO := Lib.hid (HO.out.next hb2); obtain ⟨e0, e1, e2, e3, e4, -, -⟩ := HO.out; clear hb2; have hww := hw.trans (HO.out.bel.mono hw.size); obtain ⟨g0, g1, g2, g3, g4⟩ := HK.out.below hx hww; obtain ⟨i0, i1, i2, i3, i4⟩ := HJ.out.below hx hww; clear hww))
    go_ret
    exact ⟨ret_int (by rfl), HO.out.bel⟩
theorem op_61_ {xb xo : Nat} {xe : Option Nat} (hx : xb < w0.heap.size) {k' : Int} {s' : ByteArray} {v' : Int} {m' : Bool} {a' : Option Addr} {l' c' : Nat} (hK : Kid w0 xb xo xe k' s' v' m' a' l' c') {k2 : Int} {s2 : ByteArray} {v2 : Int} {m2 : Bool} {a2 : Option Addr} {l2 c2 : Nat} (hJ : Kid w0 xb (xo + 5) none k2 s2 v2 m2 a2 l2 c2) (hs : s.toList = [61]) {q p : Bool} (hq : Bel w0 (nd k' s' v' m' a' l' c') 2 q) (hr : Bel w0 (nd k2 s2 v2 m2 a2 l2 c2) 2 p) (hp : shB 35 v 2 35 2 = true) : OpL w0 (nd 35 s v false (some ⟨xb, xo, xe⟩) 2 cap) (if q && p then 3 else -1) := by
  intro w hw
  have HP := Lib.hid (shaped_any 35 s v false (some ⟨xb, xo, xe⟩) 2 cap 35 2)
  rw [hp] at HP
  have HO := Lib.hid (Own.start w 35 s v false (some ⟨xb, xo, xe⟩) 2 cap)
  have HK := Lib.hid hK
  have HJ := Lib.hid hJ
  have HQ := Lib.hid hq
  have HR := Lib.hid hr
  clear hp hK hJ hq hr
  unfold nd at *
  unfold Bel at HQ HR
  cases q <;> cases p
  all_goals
    go_enter Try.func42, Try.ntmps42
    go_wp2_with (first | (go_at_call 31; refine (HP.out _).mono ?_; rintro e w' ⟨rfl, hb2⟩; have HO := Lib.hid (HO.out.next hb2); obtain ⟨e0, e1, e2, e3, e4, -, -⟩ := HO.out; clear hb2; have hww := hw.trans (HO.out.bel.mono hw.size); obtain ⟨g0, g1, g2, g3, g4⟩ := HK.out.below hx hww; obtain ⟨i0, i1, i2, i3, i4⟩ := HJ.out.below hx hww; clear hww) | (go_at_call 43; (first | with_reducible refine (HQ.out _ (hw.trans (HO.out.bel.mono hw.size))).mono ?_ | with_reducible refine (HR.out _ (hw.trans (HO.out.bel.mono hw.size))).mono ?_); rintro e w' ⟨rfl, hb2⟩; have HO := Lib.hid (HO.out.next hb2); obtain ⟨e0, e1, e2, e3, e4, -, -⟩ := HO.out; clear hb2; have hww := hw.trans (HO.out.bel.mono hw.size); obtain ⟨g0, g1, g2, g3, g4⟩ := HK.out.below hx hww; obtain ⟨i0, i1, i2, i3, i4⟩ := HJ.out.below hx hww; clear hww))
    go_ret
    exact ⟨ret_int (by rfl), HO.out.bel⟩
theorem op_35_ {xb xo : Nat} {xe : Option Nat} (hx : xb < w0.heap.size) {k' : Int} {s' : ByteArray} {v' : Int} {m' : Bool} {a' : Option Addr} {l' c' : Nat} (hK : Kid w0 xb xo xe k' s' v' m' a' l' c') {k2 : Int} {s2 : ByteArray} {v2 : Int} {m2 : Bool} {a2 : Option Addr} {l2 c2 : Nat} (hJ : Kid w0 xb (xo + 5) none k2 s2 v2 m2 a2 l2 c2) (hs : s.toList = [35]) {q p : Bool} (hq : Bel w0 (nd k' s' v' m' a' l' c') 2 q) (hr : Bel w0 (nd k2 s2 v2 m2 a2 l2 c2) 2 p) (hp : shB 35 v 2 35 2 = true) : OpL w0 (nd 35 s v false (some ⟨xb, xo, xe⟩) 2 cap) (if q && p then 3 else -1) := by
  intro w hw
  have HP := Lib.hid (shaped_any 35 s v false (some ⟨xb, xo, xe⟩) 2 cap 35 2)
  rw [hp] at HP
  have HO := Lib.hid (Own.start w 35 s v false (some ⟨xb, xo, xe⟩) 2 cap)
  have HK := Lib.hid hK
  have HJ := Lib.hid hJ
  have HQ := Lib.hid hq
  have HR := Lib.hid hr
  clear hp hK hJ hq hr
  unfold nd at *
  unfold Bel at HQ HR
  cases q <;> cases p
  all_goals
    go_enter Try.func42, Try.ntmps42
    go_wp2_with (first | (go_at_call 31; refine (HP.out _).mono ?_; rintro e w' ⟨rfl, hb2⟩; have HO := Lib.hid (HO.out.next hb2); obtain ⟨e0, e1, e2, e3, e4, -, -⟩ := HO.out; clear hb2; have hww := hw.trans (HO.out.bel.mono hw.size); obtain ⟨g0, g1, g2, g3, g4⟩ := HK.out.below hx hww; obtain ⟨i0, i1, i2, i3, i4⟩ := HJ.out.below hx hww; clear hww) | (go_at_call 43; (first | with_reducible refine (HQ.out _ (hw.trans (HO.out.bel.mono hw.size))).mono ?_ | with_reducible refine (HR.out _ (hw.trans (HO.out.bel.mono hw.size))).mono ?_); rintro e w' ⟨rfl, hb2⟩; have HO := Lib.hid (HO.out.next hb2); obtain ⟨e0, e1, e2, e3, e4, -, -⟩ := HO.out; clear hb2; have hww := hw.trans (HO.out.bel.mono hw.size); obtain ⟨g0, g1, g2, g3, g4⟩ := HK.out.below hx hww; obtain ⟨i0, i1, i2, i3, i4⟩ := HJ.out.below hx hww; clear hww))
    go_ret
    exact ⟨ret_int (by rfl), HO.out.bel⟩
theorem op_60_ {xb xo : Nat} {xe : Option Nat} (hx : xb < w0.heap.size) {k' : Int} {s' : ByteArray} {v' : Int} {m' : Bool} {a' : Option Addr} {l' c' : Nat} (hK : Kid w0 xb xo xe k' s' v' m' a' l' c') {k2 : Int} {s2 : ByteArray} {v2 : Int} {m2 : Bool} {a2 : Option Addr} {l2 c2 : Nat} (hJ : Kid w0 xb (xo + 5) none k2 s2 v2 m2 a2 l2 c2) (hs : s.toList = [60]) {q p : Bool} (hq : Bel w0 (nd k' s' v' m' a' l' c') 2 q) (hr : Bel w0 (nd k2 s2 v2 m2 a2 l2 c2) 2 p) (hp : shB 35 v 2 35 2 = true) : OpL w0 (nd 35 s v false (some ⟨xb, xo, xe⟩) 2 cap) (if q && p then 3 else -1) := by
  intro w hw
  have HP := Lib.hid (shaped_any 35 s v false (some ⟨xb, xo, xe⟩) 2 cap 35 2)
  rw [hp] at HP
  have HO := Lib.hid (Own.start w 35 s v false (some ⟨xb, xo, xe⟩) 2 cap)
  have HK := Lib.hid hK
  have HJ := Lib.hid hJ
  have HQ := Lib.hid hq
  have HR := Lib.hid hr
  clear hp hK hJ hq hr
  unfold nd at *
  unfold Bel at HQ HR
  cases q <;> cases p
  all_goals
    go_enter Try.func42, Try.ntmps42
    go_wp2_with (first | (go_at_call 31; refine (HP.out _).mono ?_; rintro e w' ⟨rfl, hb2⟩; have HO := Lib.hid (HO.out.next hb2); obtain ⟨e0, e1, e2, e3, e4, -, -⟩ := HO.out; clear hb2; have hww := hw.trans (HO.out.bel.mono hw.size); obtain ⟨g0, g1, g2, g3, g4⟩ := HK.out.below hx hww; obtain ⟨i0, i1, i2, i3, i4⟩ := HJ.out.below hx hww; clear hww) | (go_at_call 43; (first | with_reducible refine (HQ.out _ (hw.trans (HO.out.bel.mono hw.size))).mono ?_ | with_reducible refine (HR.out _ (hw.trans (HO.out.bel.mono hw.size))).mono ?_); rintro e w' ⟨rfl, hb2⟩; have HO := Lib.hid (HO.out.next hb2); obtain ⟨e0, e1, e2, e3, e4, -, -⟩ := HO.out; clear hb2; have hww := hw.trans (HO.out.bel.mono hw.size); obtain ⟨g0, g1, g2, g3, g4⟩ := HK.out.below hx hww; obtain ⟨i0, i1, i2, i3, i4⟩ := HJ.out.below hx hww; clear hww))
    go_ret
    exact ⟨ret_int (by rfl), HO.out.bel⟩
theorem op_60_61_ {xb xo : Nat} {xe : Option Nat} (hx : xb < w0.heap.size) {k' : Int} {s' : ByteArray} {v' : Int} {m' : Bool} {a' : Option Addr} {l' c' : Nat} (hK : Kid w0 xb xo xe k' s' v' m' a' l' c') {k2 : Int} {s2 : ByteArray} {v2 : Int} {m2 : Bool} {a2 : Option Addr} {l2 c2 : Nat} (hJ : Kid w0 xb (xo + 5) none k2 s2 v2 m2 a2 l2 c2) (hs : s.toList = [60, 61]) {q p : Bool} (hq : Bel w0 (nd k' s' v' m' a' l' c') 2 q) (hr : Bel w0 (nd k2 s2 v2 m2 a2 l2 c2) 2 p) (hp : shB 35 v 2 35 2 = true) : OpL w0 (nd 35 s v false (some ⟨xb, xo, xe⟩) 2 cap) (if q && p then 3 else -1) := by
  intro w hw
  have HP := Lib.hid (shaped_any 35 s v false (some ⟨xb, xo, xe⟩) 2 cap 35 2)
  rw [hp] at HP
  have HO := Lib.hid (Own.start w 35 s v false (some ⟨xb, xo, xe⟩) 2 cap)
  have HK := Lib.hid hK
  have HJ := Lib.hid hJ
  have HQ := Lib.hid hq
  have HR := Lib.hid hr
  clear hp hK hJ hq hr
  unfold nd at *
  unfold Bel at HQ HR
  cases q <;> cases p
  all_goals
    go_enter Try.func42, Try.ntmps42
    go_wp2_with (first | (go_at_call 31; refine (HP.out _).mono ?_; rintro e w' ⟨rfl, hb2⟩; have HO := Lib.hid (HO.out.next hb2); obtain ⟨e0, e1, e2, e3, e4, -, -⟩ := HO.out; clear hb2; have hww := hw.trans (HO.out.bel.mono hw.size); obtain ⟨g0, g1, g2, g3, g4⟩ := HK.out.below hx hww; obtain ⟨i0, i1, i2, i3, i4⟩ := HJ.out.below hx hww; clear hww) | (go_at_call 43; (first | with_reducible refine (HQ.out _ (hw.trans (HO.out.bel.mono hw.size))).mono ?_ | with_reducible refine (HR.out _ (hw.trans (HO.out.bel.mono hw.size))).mono ?_); rintro e w' ⟨rfl, hb2⟩; have HO := Lib.hid (HO.out.next hb2); obtain ⟨e0, e1, e2, e3, e4, -, -⟩ := HO.out; clear hb2; have hww := hw.trans (HO.out.bel.mono hw.size); obtain ⟨g0, g1, g2, g3, g4⟩ := HK.out.below hx hww; obtain ⟨i0, i1, i2, i3, i4⟩ := HJ.out.below hx hww; clear hww))
    go_ret
    exact ⟨ret_int (by rfl), HO.out.bel⟩
theorem op_62_ {xb xo : Nat} {xe : Option Nat} (hx : xb < w0.heap.size) {k' : Int} {s' : ByteArray} {v' : Int} {m' : Bool} {a' : Option Addr} {l' c' : Nat} (hK : Kid w0 xb xo xe k' s' v' m' a' l' c') {k2 : Int} {s2 : ByteArray} {v2 : Int} {m2 : Bool} {a2 : Option Addr} {l2 c2 : Nat} (hJ : Kid w0 xb (xo + 5) none k2 s2 v2 m2 a2 l2 c2) (hs : s.toList = [62]) {q p : Bool} (hq : Bel w0 (nd k' s' v' m' a' l' c') 2 q) (hr : Bel w0 (nd k2 s2 v2 m2 a2 l2 c2) 2 p) (hp : shB 35 v 2 35 2 = true) : OpL w0 (nd 35 s v false (some ⟨xb, xo, xe⟩) 2 cap) (if q && p then 3 else -1) := by
  intro w hw
  have HP := Lib.hid (shaped_any 35 s v false (some ⟨xb, xo, xe⟩) 2 cap 35 2)
  rw [hp] at HP
  have HO := Lib.hid (Own.start w 35 s v false (some ⟨xb, xo, xe⟩) 2 cap)
  have HK := Lib.hid hK
  have HJ := Lib.hid hJ
  have HQ := Lib.hid hq
  have HR := Lib.hid hr
  clear hp hK hJ hq hr
  unfold nd at *
  unfold Bel at HQ HR
  cases q <;> cases p
  all_goals
    go_enter Try.func42, Try.ntmps42
    go_wp2_with (first | (go_at_call 31; refine (HP.out _).mono ?_; rintro e w' ⟨rfl, hb2⟩; have HO := Lib.hid (HO.out.next hb2); obtain ⟨e0, e1, e2, e3, e4, -, -⟩ := HO.out; clear hb2; have hww := hw.trans (HO.out.bel.mono hw.size); obtain ⟨g0, g1, g2, g3, g4⟩ := HK.out.below hx hww; obtain ⟨i0, i1, i2, i3, i4⟩ := HJ.out.below hx hww; clear hww) | (go_at_call 43; (first | with_reducible refine (HQ.out _ (hw.trans (HO.out.bel.mono hw.size))).mono ?_ | with_reducible refine (HR.out _ (hw.trans (HO.out.bel.mono hw.size))).mono ?_); rintro e w' ⟨rfl, hb2⟩; have HO := Lib.hid (HO.out.next hb2); obtain ⟨e0, e1, e2, e3, e4, -, -⟩ := HO.out; clear hb2; have hww := hw.trans (HO.out.bel.mono hw.size); obtain ⟨g0, g1, g2, g3, g4⟩ := HK.out.below hx hww; obtain ⟨i0, i1, i2, i3, i4⟩ := HJ.out.below hx hww; clear hww))
    go_ret
    exact ⟨ret_int (by rfl), HO.out.bel⟩
theorem op_62_61_ {xb xo : Nat} {xe : Option Nat} (hx : xb < w0.heap.size) {k' : Int} {s' : ByteArray} {v' : Int} {m' : Bool} {a' : Option Addr} {l' c' : Nat} (hK : Kid w0 xb xo xe k' s' v' m' a' l' c') {k2 : Int} {s2 : ByteArray} {v2 : Int} {m2 : Bool} {a2 : Option Addr} {l2 c2 : Nat} (hJ : Kid w0 xb (xo + 5) none k2 s2 v2 m2 a2 l2 c2) (hs : s.toList = [62, 61]) {q p : Bool} (hq : Bel w0 (nd k' s' v' m' a' l' c') 2 q) (hr : Bel w0 (nd k2 s2 v2 m2 a2 l2 c2) 2 p) (hp : shB 35 v 2 35 2 = true) : OpL w0 (nd 35 s v false (some ⟨xb, xo, xe⟩) 2 cap) (if q && p then 3 else -1) := by
  intro w hw
  have HP := Lib.hid (shaped_any 35 s v false (some ⟨xb, xo, xe⟩) 2 cap 35 2)
  rw [hp] at HP
  have HO := Lib.hid (Own.start w 35 s v false (some ⟨xb, xo, xe⟩) 2 cap)
  have HK := Lib.hid hK
  have HJ := Lib.hid hJ
  have HQ := Lib.hid hq
  have HR := Lib.hid hr
  clear hp hK hJ hq hr
  unfold nd at *
  unfold Bel at HQ HR
  cases q <;> cases p
  all_goals
    go_enter Try.func42, Try.ntmps42
    go_wp2_with (first | (go_at_call 31; refine (HP.out _).mono ?_; rintro e w' ⟨rfl, hb2⟩; have HO := Lib.hid (HO.out.next hb2); obtain ⟨e0, e1, e2, e3, e4, -, -⟩ := HO.out; clear hb2; have hww := hw.trans (HO.out.bel.mono hw.size); obtain ⟨g0, g1, g2, g3, g4⟩ := HK.out.below hx hww; obtain ⟨i0, i1, i2, i3, i4⟩ := HJ.out.below hx hww; clear hww) | (go_at_call 43; (first | with_reducible refine (HQ.out _ (hw.trans (HO.out.bel.mono hw.size))).mono ?_ | with_reducible refine (HR.out _ (hw.trans (HO.out.bel.mono hw.size))).mono ?_); rintro e w' ⟨rfl, hb2⟩; have HO := Lib.hid (HO.out.next hb2); obtain ⟨e0, e1, e2, e3, e4, -, -⟩ := HO.out; clear hb2; have hww := hw.trans (HO.out.bel.mono hw.size); obtain ⟨g0, g1, g2, g3, g4⟩ := HK.out.below hx hww; obtain ⟨i0, i1, i2, i3, i4⟩ := HJ.out.below hx hww; clear hww))
    go_ret
    exact ⟨ret_int (by rfl), HO.out.bel⟩
theorem op_73_78_ {xb xo : Nat} {xe : Option Nat} (hx : xb < w0.heap.size) {k' : Int} {s' : ByteArray} {v' : Int} {m' : Bool} {a' : Option Addr} {l' c' : Nat} (hK : Kid w0 xb xo xe k' s' v' m' a' l' c') {k2 : Int} {s2 : ByteArray} {v2 : Int} {m2 : Bool} {a2 : Option Addr} {l2 c2 : Nat} (hJ : Kid w0 xb (xo + 5) none k2 s2 v2 m2 a2 l2 c2) (hs : s.toList = [73, 78]) {q p : Bool} (hq : Bel w0 (nd k' s' v' m' a' l' c') 2 q) (hr : Bel w0 (nd k2 s2 v2 m2 a2 l2 c2) 2 p) (hp : shB 35 v 2 35 2 = true) : OpL w0 (nd 35 s v false (some ⟨xb, xo, xe⟩) 2 cap) (if q && p then 3 else -1) := by
  intro w hw
  have HP := Lib.hid (shaped_any 35 s v false (some ⟨xb, xo, xe⟩) 2 cap 35 2)
  rw [hp] at HP
  have HO := Lib.hid (Own.start w 35 s v false (some ⟨xb, xo, xe⟩) 2 cap)
  have HK := Lib.hid hK
  have HJ := Lib.hid hJ
  have HQ := Lib.hid hq
  have HR := Lib.hid hr
  clear hp hK hJ hq hr
  unfold nd at *
  unfold Bel at HQ HR
  cases q <;> cases p
  all_goals
    go_enter Try.func42, Try.ntmps42
    go_wp2_with (first | (go_at_call 31; refine (HP.out _).mono ?_; rintro e w' ⟨rfl, hb2⟩; have HO := Lib.hid (HO.out.next hb2); obtain ⟨e0, e1, e2, e3, e4, -, -⟩ := HO.out; clear hb2; have hww := hw.trans (HO.out.bel.mono hw.size); obtain ⟨g0, g1, g2, g3, g4⟩ := HK.out.below hx hww; obtain ⟨i0, i1, i2, i3, i4⟩ := HJ.out.below hx hww; clear hww) | (go_at_call 43; (first | with_reducible refine (HQ.out _ (hw.trans (HO.out.bel.mono hw.size))).mono ?_ | with_reducible refine (HR.out _ (hw.trans (HO.out.bel.mono hw.size))).mono ?_); rintro e w' ⟨rfl, hb2⟩; have HO := Lib.hid (HO.out.next hb2); obtain ⟨e0, e1, e2, e3, e4, -, -⟩ := HO.out; clear hb2; have hww := hw.trans (HO.out.bel.mono hw.size); obtain ⟨g0, g1, g2, g3, g4⟩ := HK.out.below hx hww; obtain ⟨i0, i1, i2, i3, i4⟩ := HJ.out.below hx hww; clear hww))
    go_ret
    exact ⟨ret_int (by rfl), HO.out.bel⟩
set_option maxHeartbeats 2000000 in
theorem op_none  (h0 : ¬ s.toList = [42]) (h1 : ¬ s.toList = [47]) (h2 : ¬ s.toList = [68, 73, 86]) (h3 : ¬ s.toList = [77, 79, 68]) (h4 : ¬ s.toList = [38]) (h5 : ¬ s.toList = [43]) (h6 : ¬ s.toList = [45]) (h7 : ¬ s.toList = [79, 82]) (h8 : ¬ s.toList = [61]) (h9 : ¬ s.toList = [35]) (h10 : ¬ s.toList = [60]) (h11 : ¬ s.toList = [60, 61]) (h12 : ¬ s.toList = [62]) (h13 : ¬ s.toList = [62, 61]) (h14 : ¬ s.toList = [73, 78]) (hp : shB 35 v 2 35 2 = true) : OpL w0 (nd 35 s v false a 2 cap) (-1) := by
  intro w hw
  have HP := Lib.hid (shaped_any 35 s v false a 2 cap 35 2)
  rw [hp] at HP
  have HO := Lib.hid (Own.start w 35 s v false a 2 cap)
  clear hp
  have d0 : (s.toList == ([42] : List UInt8)) = false := by simpa using h0
  have d1 : (s.toList == ([47] : List UInt8)) = false := by simpa using h1
  have d2 : (s.toList == ([68, 73, 86] : List UInt8)) = false := by simpa using h2
  have d3 : (s.toList == ([77, 79, 68] : List UInt8)) = false := by simpa using h3
  have d4 : (s.toList == ([38] : List UInt8)) = false := by simpa using h4
  have d5 : (s.toList == ([43] : List UInt8)) = false := by simpa using h5
  have d6 : (s.toList == ([45] : List UInt8)) = false := by simpa using h6
  have d7 : (s.toList == ([79, 82] : List UInt8)) = false := by simpa using h7
  have d8 : (s.toList == ([61] : List UInt8)) = false := by simpa using h8
  have d9 : (s.toList == ([35] : List UInt8)) = false := by simpa using h9
  have d10 : (s.toList == ([60] : List UInt8)) = false := by simpa using h10
  have d11 : (s.toList == ([60, 61] : List UInt8)) = false := by simpa using h11
  have d12 : (s.toList == ([62] : List UInt8)) = false := by simpa using h12
  have d13 : (s.toList == ([62, 61] : List UInt8)) = false := by simpa using h13
  have d14 : (s.toList == ([73, 78] : List UInt8)) = false := by simpa using h14
  unfold nd at *
  go_enter Try.func42, Try.ntmps42
  go_wp2_with ((go_at_call 31; refine (HP.out _).mono ?_; rintro e w' ⟨rfl, hb2⟩; have HO := Lib.hid (HO.out.next hb2); obtain ⟨e0, e1, e2, e3, e4, -, -⟩ := HO.out; clear hb2))
  go_ret
  exact ⟨rfl, HO.out.bel⟩
end
end Go.Proofs.Ytkhbmamgfkpdbaa

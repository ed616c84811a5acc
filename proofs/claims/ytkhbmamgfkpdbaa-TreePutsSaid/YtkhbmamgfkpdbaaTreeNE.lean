/-
  all, of a closure that keeps something between its calls; mayStmt of an IF.
-/
import Derived.Test.YtkhbmamgfkpdbaaTreeND
import Derived.Test.YtkhbmamgfkpdbaaTreeJ
namespace Go.Proofs.Ytkhbmamgfkpdbaa
open Go.ChangeShapes Go.WideShapes Go.ChangeAt Go.RowKit
set_option linter.unusedVariables false
theorem cell_same {w W : World} {b i : Nat} {e : Option Nat} (h : W.heap[b]? = w.heap[b]?) : W.cell? ⟨b, i, e⟩ = w.cell? ⟨b, i, e⟩ := by simp only [World.cell?, h]
theorem Own.same {w W W' : World} {k : Int} {s : ByteArray} {v : Int} {m : Bool} {a : Option Addr} {len cap : Nat} (h : Own w W k s v m a len cap) (hh : W'.heap[w.heap.size]? = W.heap[w.heap.size]?) (hb : Below w.heap.size w W') (hs : W.heap.size ≤ W'.heap.size) : Own w W' k s v m a len cap :=
  ⟨by rw [cell_same hh]; exact h.e0, by rw [cell_same hh]; exact h.e1, by rw [cell_same hh]; exact h.e2, by rw [cell_same hh]; exact h.e3, by rw [cell_same hh]; exact h.e4, hb, Nat.lt_of_lt_of_le h.lt hs⟩
/-- an IF's own copy, and how many kids were looked at -/
structure IfJ (w : World) (k : Int) (s : ByteArray) (v : Int) (m : Bool) (a : Option Addr) (len cap : Nat) (j : Nat) (W : World) : Prop where
  own : Own w W k s v m a len cap
  blk : W.heap[w.heap.size + 1]? = some (.cells #[.int .i64 (j : Int)] 3 (0, 0))
section
variable {w : World} {k : Int} {s : ByteArray} {v : Int} {m : Bool} {a : Option Addr} {len cap : Nat}
theorem IfJ.next {j : Nat} {W W' : World} (h : IfJ w k s v m a len cap j W) (hb : Below W.heap.size W W') : IfJ w k s v m a len cap j W' :=
  ⟨h.own.next hb, by rw [hb.block _ (lt_blk h.blk)]; exact h.blk⟩
theorem IfJ.inc {j : Nat} {W : World} (h : IfJ w k s v m a len cap j W) : IfJ w k s v m a len cap (j + 1) (W.setCell ⟨w.heap.size + 1, 0, none⟩ (.int .i64 ((j : Int) + 1))) :=
  ⟨h.own.same (Below.heap_setCell _ _ _ _ (by simp)) (h.own.bel.setCell (by simp) _) (by simp [World.setCell]), set_blk (i := 0) h.blk⟩
/-- a node's cells, in a block -/
structure Has (W : World) (b : Nat) (k : Int) (s : ByteArray) (v : Int) (m : Bool) (a : Option Addr) (l c : Nat) : Prop where
  h0 : W.cell? ⟨b, 0, none⟩ = some (.int .i64 k)
  h1 : W.cell? ⟨b, 1, none⟩ = some (.string s)
  h2 : W.cell? ⟨b, 2, none⟩ = some (.int .u32 v)
  h3 : W.cell? ⟨b, 3, none⟩ = some (.bool m)
  h4 : W.cell? ⟨b, 4, none⟩ = some (.slice a l c)
theorem Has.start (W : World) (k : Int) (s : ByteArray) (v : Int) (m : Bool) (a : Option Addr) (l c : Nat) : Has (W.alloc (.cells #[.int .i64 k, .string s, .int .u32 v, .bool m, .slice a l c] 26)) W.heap.size k s v m a l c :=
  have h := Own.start W k s v m a l c
  ⟨h.e0, h.e1, h.e2, h.e3, h.e4⟩
theorem Has.same {W W' : World} {b : Nat} {k : Int} {s : ByteArray} {v : Int} {m : Bool} {a : Option Addr} {l c : Nat} (h : Has W b k s v m a l c) (hh : W'.heap[b]? = W.heap[b]?) : Has W' b k s v m a l c :=
  ⟨by rw [cell_same hh]; exact h.h0, by rw [cell_same hh]; exact h.h1, by rw [cell_same hh]; exact h.h2, by rw [cell_same hh]; exact h.h3, by rw [cell_same hh]; exact h.h4⟩
theorem size_set {W : World} {p : Addr} {u : Value} : (W.setCell p u).heap.size = W.heap.size := by simp [World.setCell]
theorem if_clo {w0 : World} (hw : Below w0.heap.size w0 w) {j : Nat} (hj : j < len) (hl : len ≤ maxLen) {k' : Int} {s' : ByteArray} {v' : Int} {m' : Bool} {a' : Option Addr} {l' c' : Nat} {st ex : Bool} (hs : Sms w0 (nd k' s' v' m' a' l' c') st) (he : Ex w0 (nd k' s' v' m' a' l' c') ex) (W : World) (hJ : IfJ w k s v m a len cap j W) :
    Calls Try.prog 53 #[nd k' s' v' m' a' l' c', .pointer (some ⟨w.heap.size + 1, 0, none⟩), .pointer (some ⟨w.heap.size, 0, none⟩)] W fun e W' => e = .returned (.bool (if (j + 1) % 2 = 0 ∨ j + 1 = len then st else ex)) ∧ Below w.heap.size w W' ∧ IfJ w k s v m a len cap (j + 1) W' := by
  have hlt := lt_blk hJ.blk
  obtain ⟨i0, i1, i2, i3, i4⟩ := Has.start (W.setCell ⟨w.heap.size + 1, 0, none⟩ (.int .i64 ((j : Int) + 1))) k' s' v' m' a' l' c'
  rw [size_set] at i0 i1 i2 i3 i4
  have hJ1 := hJ.next (below1 W (.cells #[.int .i64 k', .string s', .int .u32 v', .bool m', .slice a' l' c'] 26))
  have q1 := cell0 hJ1.blk
  have fz := frz0 0 hJ1.blk
  have fz0 := frz0 0 hJ.blk
  have HJ := Lib.hid (hJ.inc.next (below1 _ (.cells #[.int .i64 k', .string s', .int .u32 v', .bool m', .slice a' l' c'] 26)))
  obtain ⟨⟨e0, e1, e2, e3, e4, -, -⟩, b1⟩ := HJ.out
  have q2 := cell0 b1
  simp only [Int.natCast_add, Int.natCast_one] at q2
  have HW := Lib.hid (hw.trans (HJ.out.own.bel.mono hw.size))
  have HS := Lib.hid hs
  have HE := Lib.hid he
  clear hJ1 hJ b1 hs he hw
  unfold maxLen at hl
  unfold nd at *
  have hm : ((j : Int) + 1).tmod 2 = ((j : Int) + 1) % 2 := Int.tmod_eq_emod_of_nonneg (by omega)
  by_cases h1 : (j + 1) % 2 = 0
  · have h3 : (((j : Int) + 1).tmod 2 == 0) = true := by rw [hm]; simp; omega
    rw [if_pos (Or.inl h1)]
    go_enter Try.func53, Try.ntmps53
    go_wp2_with (go_at_call 22; refine (Sms.call HS.out HW.out).mono ?_; rintro e w' ⟨rfl, hb2⟩; have HJ2 := Lib.hid (HJ.out.next hb2); clear hb2)
    go_ret
    exact ⟨rfl, HJ2.out.own.bel, HJ2.out⟩
  have h3 : (((j : Int) + 1).tmod 2 == 0) = false := by rw [hm]; simp; omega
  by_cases h2 : j + 1 = len
  · rw [if_pos (Or.inr h2)]
    subst h2
    go_enter Try.func53, Try.ntmps53
    go_wp2_with (go_at_call 22; refine (Sms.call HS.out HW.out).mono ?_; rintro e w' ⟨rfl, hb2⟩; have HJ2 := Lib.hid (HJ.out.next hb2); clear hb2)
    go_ret
    exact ⟨rfl, HJ2.out.own.bel, HJ2.out⟩
  · rw [if_neg (by omega)]
    have h4 : (((j : Int) + 1) == (len : Int)) = false := by simp; omega
    go_enter Try.func53, Try.ntmps53
    go_wp2_with (go_at_call 21; refine (Ex.call HE.out HW.out).mono ?_; rintro e w' ⟨rfl, hb2⟩; have HJ2 := Lib.hid (HJ.out.next hb2); clear hb2)
    go_ret
    exact ⟨rfl, HJ2.out.own.bel, HJ2.out⟩
theorem allIf_any (w : World) (b o : Nat) (x : Option Nat) (len cap : Nat) (hb : b < w.heap.size) (hlen : len ≤ maxLen) (p1 p2 : Value) (f : Nat → Bool) (J : Nat → World → Prop) (hJB : ∀ j W, J j W → Below w.heap.size w W) (hJN : ∀ j W W', J j W → Below W.heap.size W W' → J j W')
    (hK : ∀ j, j < len → ∃ k s v m a l c, Kid w b (o + j * 5) (if j = 0 then x else none) k s v m a l c ∧ ∀ W, J j W → Calls Try.prog 53 #[nd k s v m a l c, p1, p2] W fun e W' => e = .returned (.bool (f j)) ∧ Below w.heap.size w W' ∧ J (j + 1) W') (W : World) (hJ : J 0 W) :
    Calls Try.prog 38 #[.slice (some ⟨b, o, x⟩) len cap, .func (.func 53) #[] #[p1, p2]] W fun e W' => e = .returned (.bool (upto len f)) ∧ Below w.heap.size w W' := by
  have HK := Lib.hid hK
  clear hK
  unfold maxLen at hlen
  unfold upto
  have HJ0 := Lib.hid hJ
  have HJB := Lib.hid hJB
  have HJN := Lib.hid hJN
  clear hJ hJB hJN
  go_enter Try.func38, Try.ntmps38
  go_wp2
  go_step3
  go_wp2
  go_step3
  go_wp2
  go_loopw [5, 10] (fun q i wr => ∃ j : Nat, j ≤ len ∧ q = .bool true ∧ i = .int .i64 j ∧ Hid (J j wr) ∧ Hid ((List.range j).all f = true)) (fun _ i _ => len - (intOf i).toNat)
  case atStart => exact ⟨0, Nat.zero_le _, rfl, rfl, HJ0, Lib.hid rfl⟩
  case round =>
    obtain ⟨j, hj, rfl, rfl, HJ, hR⟩ := hrel
    by_cases hlt : j < len
    · obtain ⟨k', s', v', m', a', l', c', hkid, hex⟩ := HK.out j hlt
      obtain ⟨g0, g1, g2, g3, g4⟩ := (hkid.below hb (HJB.out _ _ HJ.out)).at
      have HX := Lib.hid hex
      have HA := Lib.hid (HJN.out _ _ _ HJ.out (below1 wr (.cells #[.int .i64 k', .string s', .int .u32 v', .bool m', .slice a' l' c'] 26)))
      clear hkid hex
      unfold nd at *
      cases hf : f j with
      | true =>
        rw [hf] at HX
        go_wp2_with (go_at_call 53; refine (HX.out _ HA.out).mono ?_; rintro e w2 ⟨rfl, -, hb2⟩; have HB2 := Lib.hid hb2; clear hb2)
        go_roundw
        case rel => exact ⟨j + 1, by omega, rfl, by simp, HB2, Lib.hid (by rw [List.range_succ, List.all_append, hR.out]; simp [hf])⟩
        case measure => simp [intOf]; omega
      | false =>
        rw [hf] at HX
        have hno : (List.range len).all f = false := List.all_eq_false.2 ⟨j, by simpa using hlt, by simp [hf]⟩
        go_wp2_with (go_at_call 53; refine (HX.out _ HA.out).mono ?_; rintro e w2 ⟨rfl, hb2, -⟩; have HB2 := Lib.hid hb2; clear hb2)
        rw [Exit.noGoto_ret]
        go_ret
        exact ⟨ret_bool hno.symm, HB2.out⟩
    · obtain rfl : j = len := by omega
      go_wp2_with fail
      rw [Exit.noGoto_ret]
      go_ret
      exact ⟨ret_bool hR.out.symm, HJB.out _ _ HJ.out⟩
theorem allIf_zero (w : World) (a : Option Addr) (cap : Nat) (p1 p2 : Value) (f : Nat → Bool) (W : World) (hJ : Below w.heap.size w W) :
    Calls Try.prog 38 #[.slice a 0 cap, .func (.func 53) #[] #[p1, p2]] W fun e W' => e = .returned (.bool (upto 0 f)) ∧ Below w.heap.size w W' := by
  have HJ0 := Lib.hid hJ
  clear hJ
  go_enter Try.func38, Try.ntmps38
  go_wp2
  go_step3
  go_wp2
  go_step3
  go_wp2
  go_loopw [5, 10] (fun q i wr => q = .bool true ∧ i = .int .i64 0 ∧ Below w.heap.size w wr) (fun _ i _ => 0)
  case atStart => exact ⟨rfl, rfl, HJ0.out⟩
  case round =>
    obtain ⟨rfl, rfl, hbr⟩ := hrel
    go_wp2_with fail
    rw [Exit.noGoto_ret]
    go_ret
    exact ⟨rfl, hbr⟩
theorem allDc_any (w : World) (b o : Nat) (x : Option Nat) (len cap : Nat) (hb : b < w.heap.size) (hlen : len ≤ maxLen) (p1 p2 : Value) (f : Nat → Bool) (J : Nat → World → Prop) (hJB : ∀ j W, J j W → Below w.heap.size w W) (hJN : ∀ j W W', J j W → Below W.heap.size W W' → J j W')
    (hK : ∀ j, j < len → ∃ k s v m a l c, Kid w b (o + j * 5) (if j = 0 then x else none) k s v m a l c ∧ ∀ W, J j W → Calls Try.prog 49 #[nd k s v m a l c, p1, p2] W fun e W' => e = .returned (.bool (f j)) ∧ Below w.heap.size w W' ∧ J (j + 1) W') (W : World) (hJ : J 0 W) :
    Calls Try.prog 38 #[.slice (some ⟨b, o, x⟩) len cap, .func (.func 49) #[] #[p1, p2]] W fun e W' => e = .returned (.bool (upto len f)) ∧ Below w.heap.size w W' := by
  have HK := Lib.hid hK
  clear hK
  unfold maxLen at hlen
  unfold upto
  have HJ0 := Lib.hid hJ
  have HJB := Lib.hid hJB
  have HJN := Lib.hid hJN
  clear hJ hJB hJN
  go_enter Try.func38, Try.ntmps38
  go_wp2
  go_step3
  go_wp2
  go_step3
  go_wp2
  go_loopw [5, 10] (fun q i wr => ∃ j : Nat, j ≤ len ∧ q = .bool true ∧ i = .int .i64 j ∧ Hid (J j wr) ∧ Hid ((List.range j).all f = true)) (fun _ i _ => len - (intOf i).toNat)
  case atStart => exact ⟨0, Nat.zero_le _, rfl, rfl, HJ0, Lib.hid rfl⟩
  case round =>
    obtain ⟨j, hj, rfl, rfl, HJ, hR⟩ := hrel
    by_cases hlt : j < len
    · obtain ⟨k', s', v', m', a', l', c', hkid, hex⟩ := HK.out j hlt
      obtain ⟨g0, g1, g2, g3, g4⟩ := (hkid.below hb (HJB.out _ _ HJ.out)).at
      have HX := Lib.hid hex
      have HA := Lib.hid (HJN.out _ _ _ HJ.out (below1 wr (.cells #[.int .i64 k', .string s', .int .u32 v', .bool m', .slice a' l' c'] 26)))
      clear hkid hex
      unfold nd at *
      cases hf : f j with
      | true =>
        rw [hf] at HX
        go_wp2_with (go_at_call 49; refine (HX.out _ HA.out).mono ?_; rintro e w2 ⟨rfl, -, hb2⟩; have HB2 := Lib.hid hb2; clear hb2)
        go_roundw
        case rel => exact ⟨j + 1, by omega, rfl, by simp, HB2, Lib.hid (by rw [List.range_succ, List.all_append, hR.out]; simp [hf])⟩
        case measure => simp [intOf]; omega
      | false =>
        rw [hf] at HX
        have hno : (List.range len).all f = false := List.all_eq_false.2 ⟨j, by simpa using hlt, by simp [hf]⟩
        go_wp2_with (go_at_call 49; refine (HX.out _ HA.out).mono ?_; rintro e w2 ⟨rfl, hb2, -⟩; have HB2 := Lib.hid hb2; clear hb2)
        rw [Exit.noGoto_ret]
        go_ret
        exact ⟨ret_bool hno.symm, HB2.out⟩
    · obtain rfl : j = len := by omega
      go_wp2_with fail
      rw [Exit.noGoto_ret]
      go_ret
      exact ⟨ret_bool hR.out.symm, HJB.out _ _ HJ.out⟩
theorem allDc_zero (w : World) (a : Option Addr) (cap : Nat) (p1 p2 : Value) (f : Nat → Bool) (W : World) (hJ : Below w.heap.size w W) :
    Calls Try.prog 38 #[.slice a 0 cap, .func (.func 49) #[] #[p1, p2]] W fun e W' => e = .returned (.bool (upto 0 f)) ∧ Below w.heap.size w W' := by
  have HJ0 := Lib.hid hJ
  clear hJ
  go_enter Try.func38, Try.ntmps38
  go_wp2
  go_step3
  go_wp2
  go_step3
  go_wp2
  go_loopw [5, 10] (fun q i wr => q = .bool true ∧ i = .int .i64 0 ∧ Below w.heap.size w wr) (fun _ i _ => 0)
  case atStart => exact ⟨rfl, rfl, HJ0.out⟩
  case round =>
    obtain ⟨rfl, rfl, hbr⟩ := hrel
    go_wp2_with fail
    rw [Exit.noGoto_ret]
    go_ret
    exact ⟨rfl, hbr⟩
theorem allVr_any (w : World) (b o : Nat) (x : Option Nat) (len cap : Nat) (hb : b < w.heap.size) (hlen : len ≤ maxLen) (p1 : Value) (f : Nat → Bool) (J : Nat → World → Prop) (hJB : ∀ j W, J j W → Below w.heap.size w W) (hJN : ∀ j W W', J j W → Below W.heap.size W W' → J j W')
    (hK : ∀ j, j < len → ∃ k s v m a l c, Kid w b (o + j * 5) (if j = 0 then x else none) k s v m a l c ∧ ∀ W, J j W → Calls Try.prog 58 #[nd k s v m a l c, p1] W fun e W' => e = .returned (.bool (f j)) ∧ Below w.heap.size w W' ∧ J (j + 1) W') (W : World) (hJ : J 0 W) :
    Calls Try.prog 38 #[.slice (some ⟨b, o, x⟩) len cap, .func (.func 58) #[] #[p1]] W fun e W' => e = .returned (.bool (upto len f)) ∧ Below w.heap.size w W' := by
  have HK := Lib.hid hK
  clear hK
  unfold maxLen at hlen
  unfold upto
  have HJ0 := Lib.hid hJ
  have HJB := Lib.hid hJB
  have HJN := Lib.hid hJN
  clear hJ hJB hJN
  go_enter Try.func38, Try.ntmps38
  go_wp2
  go_step3
  go_wp2
  go_step3
  go_wp2
  go_loopw [5, 10] (fun q i wr => ∃ j : Nat, j ≤ len ∧ q = .bool true ∧ i = .int .i64 j ∧ Hid (J j wr) ∧ Hid ((List.range j).all f = true)) (fun _ i _ => len - (intOf i).toNat)
  case atStart => exact ⟨0, Nat.zero_le _, rfl, rfl, HJ0, Lib.hid rfl⟩
  case round =>
    obtain ⟨j, hj, rfl, rfl, HJ, hR⟩ := hrel
    by_cases hlt : j < len
    · obtain ⟨k', s', v', m', a', l', c', hkid, hex⟩ := HK.out j hlt
      obtain ⟨g0, g1, g2, g3, g4⟩ := (hkid.below hb (HJB.out _ _ HJ.out)).at
      have HX := Lib.hid hex
      have HA := Lib.hid (HJN.out _ _ _ HJ.out (below1 wr (.cells #[.int .i64 k', .string s', .int .u32 v', .bool m', .slice a' l' c'] 26)))
      clear hkid hex
      unfold nd at *
      cases hf : f j with
      | true =>
        rw [hf] at HX
        go_wp2_with (go_at_call 58; refine (HX.out _ HA.out).mono ?_; rintro e w2 ⟨rfl, -, hb2⟩; have HB2 := Lib.hid hb2; clear hb2)
        go_roundw
        case rel => exact ⟨j + 1, by omega, rfl, by simp, HB2, Lib.hid (by rw [List.range_succ, List.all_append, hR.out]; simp [hf])⟩
        case measure => simp [intOf]; omega
      | false =>
        rw [hf] at HX
        have hno : (List.range len).all f = false := List.all_eq_false.2 ⟨j, by simpa using hlt, by simp [hf]⟩
        go_wp2_with (go_at_call 58; refine (HX.out _ HA.out).mono ?_; rintro e w2 ⟨rfl, hb2, -⟩; have HB2 := Lib.hid hb2; clear hb2)
        rw [Exit.noGoto_ret]
        go_ret
        exact ⟨ret_bool hno.symm, HB2.out⟩
    · obtain rfl : j = len := by omega
      go_wp2_with fail
      rw [Exit.noGoto_ret]
      go_ret
      exact ⟨ret_bool hR.out.symm, HJB.out _ _ HJ.out⟩
theorem allVr_zero (w : World) (a : Option Addr) (cap : Nat) (p1 : Value) (f : Nat → Bool) (W : World) (hJ : Below w.heap.size w W) :
    Calls Try.prog 38 #[.slice a 0 cap, .func (.func 58) #[] #[p1]] W fun e W' => e = .returned (.bool (upto 0 f)) ∧ Below w.heap.size w W' := by
  have HJ0 := Lib.hid hJ
  clear hJ
  go_enter Try.func38, Try.ntmps38
  go_wp2
  go_step3
  go_wp2
  go_step3
  go_wp2
  go_loopw [5, 10] (fun q i wr => q = .bool true ∧ i = .int .i64 0 ∧ Below w.heap.size w wr) (fun _ i _ => 0)
  case atStart => exact ⟨rfl, rfl, HJ0.out⟩
  case round =>
    obtain ⟨rfl, rfl, hbr⟩ := hrel
    go_wp2_with fail
    rw [Exit.noGoto_ret]
    go_ret
    exact ⟨rfl, hbr⟩
theorem allIf_row {w0 : World} {K : Nat → Sm} (hw : Below w0.heap.size w0 w) (hl : len ≤ maxLen) (hk : RowK w0 a len K) (W : World) (hJ : IfJ w k s v m a len cap 0 W) :
    Calls Try.prog 38 #[.slice a len cap, .func (.func 53) #[] #[.pointer (some ⟨w.heap.size + 1, 0, none⟩), .pointer (some ⟨w.heap.size, 0, none⟩)]] W fun e W' => e = .returned (.bool (upto len fun j => if (j + 1) % 2 = 0 ∨ j + 1 = len then (K j).stms else (K j).exp)) ∧ Below w.heap.size w W' := by
  by_cases h0 : len = 0
  · subst h0; exact allIf_zero _ _ _ _ _ _ _ hJ.own.bel
  obtain ⟨b, o, e, rfl, hb, hK⟩ := hk (by omega)
  refine allIf_any w b o e len cap (Nat.lt_of_lt_of_le hb hw.size) hl _ _ _ (IfJ w k s v m (some ⟨b, o, e⟩) len cap) (fun _ _ h => h.own.bel) (fun _ _ _ h g => h.next g) (fun j hj => ?_) W hJ
  obtain ⟨k, s, v, m, a, l, c, h1, h2⟩ := hK j hj
  exact ⟨k, s, v, m, a, l, c, h1.below hb hw, fun W hJ => if_clo hw hj hl h2.stms h2.exp W hJ⟩
theorem IfJ.start (w : World) (k : Int) (s : ByteArray) (v : Int) (m : Bool) (a : Option Addr) (len cap : Nat) : IfJ w k s v m a len cap 0 ((w.alloc (.cells #[.int .i64 k, .string s, .int .u32 v, .bool m, .slice a len cap] 26)).alloc (.cells #[.int .i64 0] 3)) :=
  ⟨(Own.start w k s v m a len cap).next (below1 _ _), by
    have := heap_alloc_new (w.alloc (.cells #[.int .i64 k, .string s, .int .u32 v, .bool m, .slice a len cap] 26)) (.cells #[.int .i64 0] 3)
    simpa using this⟩
theorem stm22_any {w0 : World} {K : Nat → Sm} (hl : len ≤ maxLen) (hk : RowK w0 a len K) : Stm w0 (nd 22 s v m a len cap) (baB 22 s v m len 22 (-1) && ifF len K) := by
  intro w hw
  have HP := Lib.hid (bare_any 22 s v m a len cap 22 (-1))
  have HO := Lib.hid (IfJ.start w 22 s v m a len cap)
  have HA := Lib.hid (fun W hJ => allIf_row (k := 22) (s := s) (v := v) (m := m) (cap := cap) hw hl hk W hJ)
  unfold ifF
  generalize upto len (fun j => if (j + 1) % 2 = 0 ∨ j + 1 = len then (K j).stms else (K j).exp) = q at *
  unfold maxLen at hl
  unfold nd at *
  clear hk
  cases hp : baB 22 s v m len 22 (-1) with
  | false =>
    rw [hp] at HP
    go_enter Try.func39, Try.ntmps39
    go_wp2_with (go_at_call 37; refine (HP.out _).mono ?_; rintro e w' ⟨rfl, hb2⟩; have HO := Lib.hid (HO.out.next hb2); obtain ⟨⟨e0, e1, e2, e3, e4, -, -⟩, -⟩ := HO.out; clear hb2)
    go_ret
    exact ⟨rfl, HO.out.own.bel⟩
  | true =>
    rw [hp] at HP
    by_cases h2 : 2 ≤ len
    · rw [decide_eq_true h2]
      cases q
      all_goals
        go_enter Try.func39, Try.ntmps39
        go_wp2_with (first | (go_at_call 37; refine (HP.out _).mono ?_; rintro e w' ⟨rfl, hb2⟩; have HO := Lib.hid (HO.out.next hb2); obtain ⟨⟨e0, e1, e2, e3, e4, -, -⟩, -⟩ := HO.out; clear hb2) | (go_at_call 38; refine (HA.out _ HO.out).mono ?_; rintro e w' ⟨rfl, hb2⟩; have HB := Lib.hid hb2; clear hb2))
        go_ret
        exact ⟨ret_bool (by rfl), HB.out⟩
    · rw [decide_eq_false h2]
      have h3 : ¬ (len : Int) ≥ 2 := by omega
      go_enter Try.func39, Try.ntmps39
      go_wp2_with (go_at_call 37; refine (HP.out _).mono ?_; rintro e w' ⟨rfl, hb2⟩; have HO := Lib.hid (HO.out.next hb2); obtain ⟨⟨e0, e1, e2, e3, e4, -, -⟩, -⟩ := HO.out; clear hb2)
      go_ret
      exact ⟨rfl, HO.out.own.bel⟩
theorem stm_row {w0 : World} {K : Nat → Sm} (hl : len ≤ cap) (hc : cap ≤ maxLen) (hk : RowK w0 a len K) : Stm w0 (nd k s v m a len cap) (stmF k s v m len K) := by
  unfold stmF
  by_cases h0 : k = 20
  · subst h0
    rw [if_pos rfl]
    cases hp : baB 20 s v m len 20 2 with
    | false => exact stm20_no hp
    | true =>
      have hl : len = 2 := by unfold baB shB at hp; simp at hp; omega
      subst hl
      obtain ⟨b, o, e, rfl, -⟩ := hk (by omega)
      obtain ⟨hb, k', s', v', m', a', l', c', hkid, h⟩ := hk.k0 (by omega)
      obtain ⟨k2, s2, v2, m2, a2, l2, c2, hkid2, h2⟩ := hk.kj 0 (by omega)
      rw [Bool.true_and]
      exact stm20_yes hb hkid (by simpa using hkid2) h.des h2.exp hp
  rw [if_neg h0]
  by_cases h1 : k = 21
  · subst h1
    rw [if_pos rfl]
    exact stm21 (cal_row hl hc hk)
  rw [if_neg h1]
  by_cases h2 : k = 23
  · subst h2
    rw [if_pos rfl]
    cases hp : baB 23 s v m len 23 2 with
    | false => exact stm23_no hp
    | true =>
      have hl : len = 2 := by unfold baB shB at hp; simp at hp; omega
      subst hl
      obtain ⟨b, o, e, rfl, -⟩ := hk (by omega)
      obtain ⟨hb, k', s', v', m', a', l', c', hkid, h⟩ := hk.k0 (by omega)
      obtain ⟨k2, s2, v2, m2, a2, l2, c2, hkid2, h2⟩ := hk.kj 0 (by omega)
      rw [Bool.true_and]
      exact stm23_yes hb hkid (by simpa using hkid2) h.exp h2.stms hp
  rw [if_neg h2]
  by_cases h3 : k = 24
  · subst h3
    rw [if_pos rfl]
    cases hp : baB 24 s v m len 24 2 with
    | false => exact stm24_no hp
    | true =>
      have hl : len = 2 := by unfold baB shB at hp; simp at hp; omega
      subst hl
      obtain ⟨b, o, e, rfl, -⟩ := hk (by omega)
      obtain ⟨hb, k', s', v', m', a', l', c', hkid, h⟩ := hk.k0 (by omega)
      obtain ⟨k2, s2, v2, m2, a2, l2, c2, hkid2, h2⟩ := hk.kj 0 (by omega)
      rw [Bool.true_and]
      exact stm24_yes hb hkid (by simpa using hkid2) h.stms h2.exp hp
  rw [if_neg h3]
  by_cases h4 : k = 22
  · subst h4
    rw [if_pos rfl]
    exact stm22_any (by omega) hk
  rw [if_neg h4]
  exact stmN h0 h1 h2 h3 h4
end
end Go.Proofs.Ytkhbmamgfkpdbaa

/-
  all's loops over the program's functions; mayQual.
-/
import Derived.Test.YtkhbmamgfkpdbaaTreeNA
namespace Go.Proofs.Ytkhbmamgfkpdbaa
open Go.ChangeShapes Go.WideShapes Go.ChangeAt Go.RowKit
set_option linter.unusedVariables false
section
variable {w0 : World} {k : Int} {s : ByteArray} {v : Int} {m : Bool} {a : Option Addr} {len cap : Nat} {K : Nat → Sm}
theorem Qua.call {w W : World} {u : Value} {r : Bool} (h : Qua w u r) (hb : Below w.heap.size w W) : Calls Try.prog 40 #[u] W fun e W' => e = .returned (.bool r) ∧ Below W.heap.size W W' := h W hb
theorem Idt.call {w W : World} {u : Value} {r : Bool} (h : Idt w u r) (hb : Below w.heap.size w W) : Calls Try.prog 48 #[u] W fun e W' => e = .returned (.bool r) ∧ Below W.heap.size W W' := h W hb
theorem Typ.call {w W : World} {u : Value} {r : Bool} (h : Typ w u r) (hb : Below w.heap.size w W) : Calls Try.prog 23 #[u] W fun e W' => e = .returned (.bool r) ∧ Below W.heap.size W W' := h W hb
theorem Fld.call {w W : World} {u : Value} {r : Bool} (h : Fld w u r) (hb : Below w.heap.size w W) : Calls Try.prog 41 #[u] W fun e W' => e = .returned (.bool r) ∧ Below W.heap.size W W' := h W hb
theorem Prm.call {w W : World} {u : Value} {r : Bool} (h : Prm w u r) (hb : Below w.heap.size w W) : Calls Try.prog 60 #[u] W fun e W' => e = .returned (.bool r) ∧ Below W.heap.size W W' := h W hb
theorem Stm.call {w W : World} {u : Value} {r : Bool} (h : Stm w u r) (hb : Below w.heap.size w W) : Calls Try.prog 39 #[u] W fun e W' => e = .returned (.bool r) ∧ Below W.heap.size W W' := h W hb
theorem Sms.call {w W : World} {u : Value} {r : Bool} (h : Sms w u r) (hb : Below w.heap.size w W) : Calls Try.prog 22 #[u] W fun e W' => e = .returned (.bool r) ∧ Below W.heap.size W W' := h W hb
theorem Imp.call {w W : World} {u : Value} {r : Bool} (h : Imp w u r) (hb : Below w.heap.size w W) : Calls Try.prog 33 #[u] W fun e W' => e = .returned (.bool r) ∧ Below W.heap.size W W' := h W hb
theorem Desig.call {w W : World} {u : Value} {r : Bool} (h : Desig w u r) (hb : Below w.heap.size w W) : Calls Try.prog 51 #[u] W fun e W' => e = .returned (.bool r) ∧ Below W.heap.size W W' := h W hb
theorem Ex.call {w W : World} {u : Value} {r : Bool} (h : Ex w u r) (hb : Below w.heap.size w W) : Calls Try.prog 21 #[u] W fun e W' => e = .returned (.bool r) ∧ Below W.heap.size W W' := h W hb
theorem CallR.call {w W : World} {u : Value} {r : Bool} (h : CallR w u r) (hb : Below w.heap.size w W) : Calls Try.prog 52 #[u] W fun e W' => e = .returned (.bool r) ∧ Below W.heap.size W W' := h W hb
theorem AllG.call {w W : World} {u : Value} {r : Bool} (h : AllG w u r) (hb : Below w.heap.size w W) : Calls Try.prog 38 #[u, .func (.func 21) #[] #[]] W fun e W' => e = .returned (.bool r) ∧ Below W.heap.size W W' := h W hb
theorem Dcl.call {w W : World} {u : Value} {i r : Bool} (h : Dcl w u i r) (hb : Below w.heap.size w W) : Calls Try.prog 50 #[u, .bool i] W fun e W' => e = .returned (.bool r) ∧ Below W.heap.size W W' := h W hb
theorem Dcs.call {w W : World} {u : Value} {i r : Bool} (h : Dcs w u i r) (hb : Below w.heap.size w W) : Calls Try.prog 34 #[u, .bool i] W fun e W' => e = .returned (.bool r) ∧ Below W.heap.size W W' := h W hb
def AllI (w : World) (v : Value) (r : Bool) : Prop := ∀ W, Below w.heap.size w W → Calls Try.prog 38 #[v, .func (.func 48) #[] #[]] W fun e W' => e = .returned (.bool r) ∧ Below W.heap.size W W'
theorem AllI.call {w W : World} {u : Value} {r : Bool} (h : AllI w u r) (hb : Below w.heap.size w W) : Calls Try.prog 38 #[u, .func (.func 48) #[] #[]] W fun e W' => e = .returned (.bool r) ∧ Below W.heap.size W W' := h W hb
theorem allI_any (w0 : World) (b o : Nat) (x : Option Nat) (len cap : Nat) (hb : b < w0.heap.size) (hlen : len ≤ maxLen) (f : Nat → Bool)
    (hK : ∀ j, j < len → ∃ k s v m a l c, Kid w0 b (o + j * 5) (if j = 0 then x else none) k s v m a l c ∧ Idt w0 (nd k s v m a l c) (f j)) : AllI w0 (.slice (some ⟨b, o, x⟩) len cap) (upto len f) := by
  intro w hw
  have HK := Lib.hid hK
  clear hK
  unfold maxLen at hlen
  unfold upto
  go_enter Try.func38, Try.ntmps38
  go_wp2
  go_step3
  go_wp2
  go_step3
  go_wp2
  go_loopw [5, 10] (fun q i wr => ∃ j : Nat, j ≤ len ∧ q = .bool true ∧ i = .int .i64 j ∧ Below w.heap.size w wr ∧ Hid ((List.range j).all f = true)) (fun _ i _ => len - (intOf i).toNat)
  case atStart => exact ⟨0, Nat.zero_le _, rfl, rfl, Below.refl _ _, Lib.hid rfl⟩
  case round =>
    obtain ⟨j, hj, rfl, rfl, hbr, hR⟩ := hrel
    by_cases hlt : j < len
    · obtain ⟨k', s', v', m', a', l', c', hkid, hex⟩ := HK.out j hlt
      have hwr := hw.trans (hbr.mono hw.size)
      obtain ⟨g0, g1, g2, g3, g4⟩ := (hkid.below hb hwr).at
      have HX := Lib.hid hex
      have HA2 := Lib.hid (hbr.alloc hbr.size (.cells #[.int .i64 k', .string s', .int .u32 v', .bool m', .slice a' l' c'] 26))
      have HA := Lib.hid (hwr.alloc hwr.size (.cells #[.int .i64 k', .string s', .int .u32 v', .bool m', .slice a' l' c'] 26))
      clear hkid hex hwr hbr
      unfold nd at *
      cases hf : f j with
      | true =>
        rw [hf] at HX
        go_wp2_with (go_at_call 48; refine (HX.out _ HA.out).mono ?_; rintro e w2 ⟨rfl, hb2⟩; have HB2 := Lib.hid (HA2.out.trans (hb2.mono HA2.out.size)); clear hb2)
        go_roundw
        case rel => exact ⟨j + 1, by omega, rfl, by simp, HB2.out, Lib.hid (by rw [List.range_succ, List.all_append, hR.out]; simp [hf])⟩
        case measure => simp [intOf]; omega
      | false =>
        rw [hf] at HX
        have hno : (List.range len).all f = false := List.all_eq_false.2 ⟨j, by simpa using hlt, by simp [hf]⟩
        go_wp2_with (go_at_call 48; refine (HX.out _ HA.out).mono ?_; rintro e w2 ⟨rfl, hb2⟩; have HB2 := Lib.hid (HA2.out.trans (hb2.mono HA2.out.size)); clear hb2)
        rw [Exit.noGoto_ret]
        go_ret
        exact ⟨ret_bool hno.symm, HB2.out⟩
    · obtain rfl : j = len := by omega
      go_wp2_with fail
      rw [Exit.noGoto_ret]
      go_ret
      exact ⟨ret_bool hR.out.symm, hbr⟩
theorem allI_zero (a : Option Addr) (cap : Nat) (f : Nat → Bool) : AllI w0 (.slice a 0 cap) (upto 0 f) := by
  intro w hw
  go_enter Try.func38, Try.ntmps38
  go_wp2
  go_step3
  go_wp2
  go_step3
  go_wp2
  go_loopw [5, 10] (fun q i wr => q = .bool true ∧ i = .int .i64 0 ∧ Below w.heap.size w wr) (fun _ i _ => 0)
  case atStart => exact ⟨rfl, rfl, Below.refl _ _⟩
  case round =>
    obtain ⟨rfl, rfl, hbr⟩ := hrel
    go_wp2_with fail
    rw [Exit.noGoto_ret]
    go_ret
    exact ⟨rfl, hbr⟩
def AllS (w : World) (v : Value) (r : Bool) : Prop := ∀ W, Below w.heap.size w W → Calls Try.prog 38 #[v, .func (.func 39) #[] #[]] W fun e W' => e = .returned (.bool r) ∧ Below W.heap.size W W'
theorem AllS.call {w W : World} {u : Value} {r : Bool} (h : AllS w u r) (hb : Below w.heap.size w W) : Calls Try.prog 38 #[u, .func (.func 39) #[] #[]] W fun e W' => e = .returned (.bool r) ∧ Below W.heap.size W W' := h W hb
theorem allS_any (w0 : World) (b o : Nat) (x : Option Nat) (len cap : Nat) (hb : b < w0.heap.size) (hlen : len ≤ maxLen) (f : Nat → Bool)
    (hK : ∀ j, j < len → ∃ k s v m a l c, Kid w0 b (o + j * 5) (if j = 0 then x else none) k s v m a l c ∧ Stm w0 (nd k s v m a l c) (f j)) : AllS w0 (.slice (some ⟨b, o, x⟩) len cap) (upto len f) := by
  intro w hw
  have HK := Lib.hid hK
  clear hK
  unfold maxLen at hlen
  unfold upto
  go_enter Try.func38, Try.ntmps38
  go_wp2
  go_step3
  go_wp2
  go_step3
  go_wp2
  go_loopw [5, 10] (fun q i wr => ∃ j : Nat, j ≤ len ∧ q = .bool true ∧ i = .int .i64 j ∧ Below w.heap.size w wr ∧ Hid ((List.range j).all f = true)) (fun _ i _ => len - (intOf i).toNat)
  case atStart => exact ⟨0, Nat.zero_le _, rfl, rfl, Below.refl _ _, Lib.hid rfl⟩
  case round =>
    obtain ⟨j, hj, rfl, rfl, hbr, hR⟩ := hrel
    by_cases hlt : j < len
    · obtain ⟨k', s', v', m', a', l', c', hkid, hex⟩ := HK.out j hlt
      have hwr := hw.trans (hbr.mono hw.size)
      obtain ⟨g0, g1, g2, g3, g4⟩ := (hkid.below hb hwr).at
      have HX := Lib.hid hex
      have HA2 := Lib.hid (hbr.alloc hbr.size (.cells #[.int .i64 k', .string s', .int .u32 v', .bool m', .slice a' l' c'] 26))
      have HA := Lib.hid (hwr.alloc hwr.size (.cells #[.int .i64 k', .string s', .int .u32 v', .bool m', .slice a' l' c'] 26))
      clear hkid hex hwr hbr
      unfold nd at *
      cases hf : f j with
      | true =>
        rw [hf] at HX
        go_wp2_with (go_at_call 39; refine (HX.out _ HA.out).mono ?_; rintro e w2 ⟨rfl, hb2⟩; have HB2 := Lib.hid (HA2.out.trans (hb2.mono HA2.out.size)); clear hb2)
        go_roundw
        case rel => exact ⟨j + 1, by omega, rfl, by simp, HB2.out, Lib.hid (by rw [List.range_succ, List.all_append, hR.out]; simp [hf])⟩
        case measure => simp [intOf]; omega
      | false =>
        rw [hf] at HX
        have hno : (List.range len).all f = false := List.all_eq_false.2 ⟨j, by simpa using hlt, by simp [hf]⟩
        go_wp2_with (go_at_call 39; refine (HX.out _ HA.out).mono ?_; rintro e w2 ⟨rfl, hb2⟩; have HB2 := Lib.hid (HA2.out.trans (hb2.mono HA2.out.size)); clear hb2)
        rw [Exit.noGoto_ret]
        go_ret
        exact ⟨ret_bool hno.symm, HB2.out⟩
    · obtain rfl : j = len := by omega
      go_wp2_with fail
      rw [Exit.noGoto_ret]
      go_ret
      exact ⟨ret_bool hR.out.symm, hbr⟩
theorem allS_zero (a : Option Addr) (cap : Nat) (f : Nat → Bool) : AllS w0 (.slice a 0 cap) (upto 0 f) := by
  intro w hw
  go_enter Try.func38, Try.ntmps38
  go_wp2
  go_step3
  go_wp2
  go_step3
  go_wp2
  go_loopw [5, 10] (fun q i wr => q = .bool true ∧ i = .int .i64 0 ∧ Below w.heap.size w wr) (fun _ i _ => 0)
  case atStart => exact ⟨rfl, rfl, Below.refl _ _⟩
  case round =>
    obtain ⟨rfl, rfl, hbr⟩ := hrel
    go_wp2_with fail
    rw [Exit.noGoto_ret]
    go_ret
    exact ⟨rfl, hbr⟩
def AllFl (w : World) (v : Value) (r : Bool) : Prop := ∀ W, Below w.heap.size w W → Calls Try.prog 38 #[v, .func (.func 41) #[] #[]] W fun e W' => e = .returned (.bool r) ∧ Below W.heap.size W W'
theorem AllFl.call {w W : World} {u : Value} {r : Bool} (h : AllFl w u r) (hb : Below w.heap.size w W) : Calls Try.prog 38 #[u, .func (.func 41) #[] #[]] W fun e W' => e = .returned (.bool r) ∧ Below W.heap.size W W' := h W hb
theorem allFl_any (w0 : World) (b o : Nat) (x : Option Nat) (len cap : Nat) (hb : b < w0.heap.size) (hlen : len ≤ maxLen) (f : Nat → Bool)
    (hK : ∀ j, j < len → ∃ k s v m a l c, Kid w0 b (o + j * 5) (if j = 0 then x else none) k s v m a l c ∧ Fld w0 (nd k s v m a l c) (f j)) : AllFl w0 (.slice (some ⟨b, o, x⟩) len cap) (upto len f) := by
  intro w hw
  have HK := Lib.hid hK
  clear hK
  unfold maxLen at hlen
  unfold upto
  go_enter Try.func38, Try.ntmps38
  go_wp2
  go_step3
  go_wp2
  go_step3
  go_wp2
  go_loopw [5, 10] (fun q i wr => ∃ j : Nat, j ≤ len ∧ q = .bool true ∧ i = .int .i64 j ∧ Below w.heap.size w wr ∧ Hid ((List.range j).all f = true)) (fun _ i _ => len - (intOf i).toNat)
  case atStart => exact ⟨0, Nat.zero_le _, rfl, rfl, Below.refl _ _, Lib.hid rfl⟩
  case round =>
    obtain ⟨j, hj, rfl, rfl, hbr, hR⟩ := hrel
    by_cases hlt : j < len
    · obtain ⟨k', s', v', m', a', l', c', hkid, hex⟩ := HK.out j hlt
      have hwr := hw.trans (hbr.mono hw.size)
      obtain ⟨g0, g1, g2, g3, g4⟩ := (hkid.below hb hwr).at
      have HX := Lib.hid hex
      have HA2 := Lib.hid (hbr.alloc hbr.size (.cells #[.int .i64 k', .string s', .int .u32 v', .bool m', .slice a' l' c'] 26))
      have HA := Lib.hid (hwr.alloc hwr.size (.cells #[.int .i64 k', .string s', .int .u32 v', .bool m', .slice a' l' c'] 26))
      clear hkid hex hwr hbr
      unfold nd at *
      cases hf : f j with
      | true =>
        rw [hf] at HX
        go_wp2_with (go_at_call 41; refine (HX.out _ HA.out).mono ?_; rintro e w2 ⟨rfl, hb2⟩; have HB2 := Lib.hid (HA2.out.trans (hb2.mono HA2.out.size)); clear hb2)
        go_roundw
        case rel => exact ⟨j + 1, by omega, rfl, by simp, HB2.out, Lib.hid (by rw [List.range_succ, List.all_append, hR.out]; simp [hf])⟩
        case measure => simp [intOf]; omega
      | false =>
        rw [hf] at HX
        have hno : (List.range len).all f = false := List.all_eq_false.2 ⟨j, by simpa using hlt, by simp [hf]⟩
        go_wp2_with (go_at_call 41; refine (HX.out _ HA.out).mono ?_; rintro e w2 ⟨rfl, hb2⟩; have HB2 := Lib.hid (HA2.out.trans (hb2.mono HA2.out.size)); clear hb2)
        rw [Exit.noGoto_ret]
        go_ret
        exact ⟨ret_bool hno.symm, HB2.out⟩
    · obtain rfl : j = len := by omega
      go_wp2_with fail
      rw [Exit.noGoto_ret]
      go_ret
      exact ⟨ret_bool hR.out.symm, hbr⟩
theorem allFl_zero (a : Option Addr) (cap : Nat) (f : Nat → Bool) : AllFl w0 (.slice a 0 cap) (upto 0 f) := by
  intro w hw
  go_enter Try.func38, Try.ntmps38
  go_wp2
  go_step3
  go_wp2
  go_step3
  go_wp2
  go_loopw [5, 10] (fun q i wr => q = .bool true ∧ i = .int .i64 0 ∧ Below w.heap.size w wr) (fun _ i _ => 0)
  case atStart => exact ⟨rfl, rfl, Below.refl _ _⟩
  case round =>
    obtain ⟨rfl, rfl, hbr⟩ := hrel
    go_wp2_with fail
    rw [Exit.noGoto_ret]
    go_ret
    exact ⟨rfl, hbr⟩
theorem AllPrm.call {w W : World} {u : Value} {r : Bool} (h : AllPrm w u r) (hb : Below w.heap.size w W) : Calls Try.prog 38 #[u, .func (.func 60) #[] #[]] W fun e W' => e = .returned (.bool r) ∧ Below W.heap.size W W' := h W hb
theorem allP_any (w0 : World) (b o : Nat) (x : Option Nat) (len cap : Nat) (hb : b < w0.heap.size) (hlen : len ≤ maxLen) (f : Nat → Bool)
    (hK : ∀ j, j < len → ∃ k s v m a l c, Kid w0 b (o + j * 5) (if j = 0 then x else none) k s v m a l c ∧ Prm w0 (nd k s v m a l c) (f j)) : AllPrm w0 (.slice (some ⟨b, o, x⟩) len cap) (upto len f) := by
  intro w hw
  have HK := Lib.hid hK
  clear hK
  unfold maxLen at hlen
  unfold upto
  go_enter Try.func38, Try.ntmps38
  go_wp2
  go_step3
  go_wp2
  go_step3
  go_wp2
  go_loopw [5, 10] (fun q i wr => ∃ j : Nat, j ≤ len ∧ q = .bool true ∧ i = .int .i64 j ∧ Below w.heap.size w wr ∧ Hid ((List.range j).all f = true)) (fun _ i _ => len - (intOf i).toNat)
  case atStart => exact ⟨0, Nat.zero_le _, rfl, rfl, Below.refl _ _, Lib.hid rfl⟩
  case round =>
    obtain ⟨j, hj, rfl, rfl, hbr, hR⟩ := hrel
    by_cases hlt : j < len
    · obtain ⟨k', s', v', m', a', l', c', hkid, hex⟩ := HK.out j hlt
      have hwr := hw.trans (hbr.mono hw.size)
      obtain ⟨g0, g1, g2, g3, g4⟩ := (hkid.below hb hwr).at
      have HX := Lib.hid hex
      have HA2 := Lib.hid (hbr.alloc hbr.size (.cells #[.int .i64 k', .string s', .int .u32 v', .bool m', .slice a' l' c'] 26))
      have HA := Lib.hid (hwr.alloc hwr.size (.cells #[.int .i64 k', .string s', .int .u32 v', .bool m', .slice a' l' c'] 26))
      clear hkid hex hwr hbr
      unfold nd at *
      cases hf : f j with
      | true =>
        rw [hf] at HX
        go_wp2_with (go_at_call 60; refine (HX.out _ HA.out).mono ?_; rintro e w2 ⟨rfl, hb2⟩; have HB2 := Lib.hid (HA2.out.trans (hb2.mono HA2.out.size)); clear hb2)
        go_roundw
        case rel => exact ⟨j + 1, by omega, rfl, by simp, HB2.out, Lib.hid (by rw [List.range_succ, List.all_append, hR.out]; simp [hf])⟩
        case measure => simp [intOf]; omega
      | false =>
        rw [hf] at HX
        have hno : (List.range len).all f = false := List.all_eq_false.2 ⟨j, by simpa using hlt, by simp [hf]⟩
        go_wp2_with (go_at_call 60; refine (HX.out _ HA.out).mono ?_; rintro e w2 ⟨rfl, hb2⟩; have HB2 := Lib.hid (HA2.out.trans (hb2.mono HA2.out.size)); clear hb2)
        rw [Exit.noGoto_ret]
        go_ret
        exact ⟨ret_bool hno.symm, HB2.out⟩
    · obtain rfl : j = len := by omega
      go_wp2_with fail
      rw [Exit.noGoto_ret]
      go_ret
      exact ⟨ret_bool hR.out.symm, hbr⟩
theorem allP_zero (a : Option Addr) (cap : Nat) (f : Nat → Bool) : AllPrm w0 (.slice a 0 cap) (upto 0 f) := by
  intro w hw
  go_enter Try.func38, Try.ntmps38
  go_wp2
  go_step3
  go_wp2
  go_step3
  go_wp2
  go_loopw [5, 10] (fun q i wr => q = .bool true ∧ i = .int .i64 0 ∧ Below w.heap.size w wr) (fun _ i _ => 0)
  case atStart => exact ⟨rfl, rfl, Below.refl _ _⟩
  case round =>
    obtain ⟨rfl, rfl, hbr⟩ := hrel
    go_wp2_with fail
    rw [Exit.noGoto_ret]
    go_ret
    exact ⟨rfl, hbr⟩
theorem allI_row (hl : len ≤ maxLen) (hk : RowK w0 a len K) : AllI w0 (.slice a len cap) (upto len fun j => (K j).idt) := by
  by_cases h0 : len = 0
  · subst h0; exact allI_zero _ _ _
  obtain ⟨b, o, e, rfl, hb, hK⟩ := hk (by omega)
  refine allI_any w0 b o e len cap hb hl _ fun j hj => ?_
  obtain ⟨k, s, v, m, a, l, c, h1, h2⟩ := hK j hj
  exact ⟨k, s, v, m, a, l, c, h1, h2.id⟩
theorem allS_row (hl : len ≤ maxLen) (hk : RowK w0 a len K) : AllS w0 (.slice a len cap) (upto len fun j => (K j).stm) := by
  by_cases h0 : len = 0
  · subst h0; exact allS_zero _ _ _
  obtain ⟨b, o, e, rfl, hb, hK⟩ := hk (by omega)
  refine allS_any w0 b o e len cap hb hl _ fun j hj => ?_
  obtain ⟨k, s, v, m, a, l, c, h1, h2⟩ := hK j hj
  exact ⟨k, s, v, m, a, l, c, h1, h2.stm⟩
theorem allFl_row (hl : len ≤ maxLen) (hk : RowK w0 a len K) : AllFl w0 (.slice a len cap) (upto len fun j => (K j).fld) := by
  by_cases h0 : len = 0
  · subst h0; exact allFl_zero _ _ _
  obtain ⟨b, o, e, rfl, hb, hK⟩ := hk (by omega)
  refine allFl_any w0 b o e len cap hb hl _ fun j hj => ?_
  obtain ⟨k, s, v, m, a, l, c, h1, h2⟩ := hK j hj
  exact ⟨k, s, v, m, a, l, c, h1, h2.fld⟩
theorem allP_row (hl : len ≤ maxLen) (hk : RowK w0 a len K) : AllPrm w0 (.slice a len cap) (upto len fun j => (K j).prm) := by
  by_cases h0 : len = 0
  · subst h0; exact allP_zero _ _ _
  obtain ⟨b, o, e, rfl, hb, hK⟩ := hk (by omega)
  refine allP_any w0 b o e len cap hb hl _ fun j hj => ?_
  obtain ⟨k, s, v, m, a, l, c, h1, h2⟩ := hK j hj
  exact ⟨k, s, v, m, a, l, c, h1, h2.prm⟩
theorem qua_id (hs : s.size ≤ maxLen) (hi : idB k s v m len = true) : Qua w0 (nd k s v m a len cap) true := by
  intro w hw
  have HI := Lib.hid (ident_any k s v m a len cap hs)
  have HO := Lib.hid (Own.start w k s v m a len cap)
  clear hs
  unfold nd at *
  rw [hi] at HI
  clear hi
  go_enter Try.func40, Try.ntmps40
  go_wp2_with (first | (go_at_call 48; refine (HI.out _).mono ?_; rintro e w' ⟨rfl, hb2⟩; have HO := Lib.hid (HO.out.next hb2); obtain ⟨e0, e1, e2, e3, e4, -, -⟩ := HO.out; clear hb2))
  go_ret
  exact ⟨rfl, HO.out.bel⟩
theorem qua_no (hs : s.size ≤ maxLen) (hi : idB k s v m len = false) (hp : shB k v len 12 1 = false) : Qua w0 (nd k s v m a len cap) false := by
  intro w hw
  have HI := Lib.hid (ident_any k s v m a len cap hs)
  have HS := Lib.hid (shaped_any k s v m a len cap 12 1)
  have HO := Lib.hid (Own.start w k s v m a len cap)
  clear hs
  unfold nd at *
  rw [hi] at HI
  rw [hp] at HS
  clear hi hp
  go_enter Try.func40, Try.ntmps40
  go_wp2_with (first | (go_at_call 48; refine (HI.out _).mono ?_; rintro e w' ⟨rfl, hb2⟩; have HO := Lib.hid (HO.out.next hb2); obtain ⟨e0, e1, e2, e3, e4, -, -⟩ := HO.out; clear hb2) | (go_at_call 31; refine (HS.out _).mono ?_; rintro e w' ⟨rfl, hb2⟩; have HO := Lib.hid (HO.out.next hb2); obtain ⟨e0, e1, e2, e3, e4, -, -⟩ := HO.out; clear hb2))
  go_ret
  exact ⟨rfl, HO.out.bel⟩
theorem qua_yes {xb xo : Nat} {xe : Option Nat} (hx : xb < w0.heap.size) {k0 : Int} {s0 : ByteArray} {v0 : Int} {m0 : Bool} {a0 : Option Addr} {l0 c0 : Nat} (hK0 : Kid w0 xb xo xe k0 s0 v0 m0 a0 l0 c0) (hs : s.size ≤ maxLen) {r : Bool} (hd : Idt w0 (nd k0 s0 v0 m0 a0 l0 c0) r) (hi : idB k s v m 1 = false) (hp : shB k v 1 12 1 = true) : Qua w0 (nd k s v m (some ⟨xb, xo, xe⟩) 1 cap) ((nameB s && !kw s) && (!m && r)) := by
  intro w hw
  have HI := Lib.hid (ident_any k s v m (some ⟨xb, xo, xe⟩) 1 cap hs)
  have HS := Lib.hid (shaped_any k s v m (some ⟨xb, xo, xe⟩) 1 cap 12 1)
  have HK := Lib.hid hK0
  have HD := Lib.hid hd
  have HN := Lib.hid (tname_any s hs)
  have HO := Lib.hid (Own.start w k s v m (some ⟨xb, xo, xe⟩) 1 cap)
  clear hs hd hK0
  unfold nd at *
  rw [hi] at HI
  rw [hp] at HS
  clear hi hp
  generalize (nameB s && !kw s) = c at *
  cases c <;> cases m <;> cases r
  all_goals
    go_enter Try.func40, Try.ntmps40
    go_wp2_with (first | (go_at_call 48; (first | (with_reducible refine (HI.out _).mono ?_) | (with_reducible refine (Idt.call HD.out (hw.trans (HO.out.bel.mono hw.size))).mono ?_)); rintro e w' ⟨rfl, hb2⟩; have HO := Lib.hid (HO.out.next hb2); obtain ⟨e0, e1, e2, e3, e4, -, -⟩ := HO.out; clear hb2; have hww := hw.trans (HO.out.bel.mono hw.size); obtain ⟨g0, g1, g2, g3, g4⟩ := (HK.out.below hx hww); clear hww) | (go_at_call 31; refine (HS.out _).mono ?_; rintro e w' ⟨rfl, hb2⟩; have HO := Lib.hid (HO.out.next hb2); obtain ⟨e0, e1, e2, e3, e4, -, -⟩ := HO.out; clear hb2; have hww := hw.trans (HO.out.bel.mono hw.size); obtain ⟨g0, g1, g2, g3, g4⟩ := (HK.out.below hx hww); clear hww) | (go_at_call 32; refine (HN.out _).mono ?_; rintro e w2 ⟨rfl, rfl⟩))
  all_goals
    go_ret
    exact ⟨ret_bool (by rfl), HO.out.bel⟩
theorem qua_row (hs : s.size ≤ maxLen) (hk : RowK w0 a len K) : Qua w0 (nd k s v m a len cap) (quaF k s v m len K) := by
  unfold quaF
  cases hi : idB k s v m len with
  | true => exact qua_id hs hi
  | false =>
    cases hp : shB k v len 12 1 with
    | false => exact qua_no hs hi hp
    | true =>
      have hl : len = 1 := by unfold shB at hp; simp at hp; omega
      subst hl
      obtain ⟨b, o, e, rfl, -⟩ := hk (by omega)
      obtain ⟨hb, k', s', v', m', a', l', c', hkid, h⟩ := hk.k0 (by omega)
      exact qua_yes hb hkid hs h.id hi hp
end
end Go.Proofs.Ytkhbmamgfkpdbaa

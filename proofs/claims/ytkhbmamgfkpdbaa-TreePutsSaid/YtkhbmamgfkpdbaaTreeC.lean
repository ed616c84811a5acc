/-
  all(l, MayExpr): of a row of nodes each of which is known.
-/
import Derived.Test.YtkhbmamgfkpdbaaTreeA
import Derived.WalkMore
namespace Go.Proofs.Ytkhbmamgfkpdbaa
open Go.ChangeShapes Go.WideShapes Go.ChangeAt Go.RowKit
set_option linter.unusedVariables false
def Desig (w : World) (u : Value) (r : Bool) : Prop := ∀ W, Below w.heap.size w W → Calls Try.prog 51 #[u] W fun e W' => e = .returned (.bool r) ∧ Below W.heap.size W W'
def Lev (w : World) (u : Value) (l : Int) : Prop := ∀ W, Below w.heap.size w W → Calls Try.prog 26 #[u] W fun e W' => e = .returned (.int .i64 l) ∧ Below W.heap.size W W'
def Ex (w : World) (u : Value) (r : Bool) : Prop := ∀ W, Below w.heap.size w W → Calls Try.prog 21 #[u] W fun e W' => e = .returned (.bool r) ∧ Below W.heap.size W W'
/-- what is known of a kid -/
def Good (w : World) (u : Value) : Prop := ∃ r l, Desig w u r ∧ Lev w u l ∧ Ex w u (!(l == -1)) ∧ -1 ≤ l ∧ l ≤ 3
def AllF (w : World) (b o : Nat) (x : Option Nat) (len cap : Nat) (r : Bool) : Prop := ∀ W, Below w.heap.size w W → Calls Try.prog 38 #[.slice (some ⟨b, o, x⟩) len cap, .func (.func 21) #[] #[]] W fun e W' => e = .returned (.bool r) ∧ Below W.heap.size W W'
theorem all_any (w0 : World) (b o : Nat) (x : Option Nat) (len cap : Nat) (hb : b < w0.heap.size) (hlen : len ≤ maxLen) (f : Nat → Bool)
    (hK : ∀ j, j < len → ∃ k s v m a l c, Kid w0 b (o + j * 5) (if j = 0 then x else none) k s v m a l c ∧ Ex w0 (nd k s v m a l c) (f j)) : AllF w0 b o x len cap ((List.range len).all f) := by
  intro w hw
  have HK := Lib.hid hK
  clear hK
  unfold maxLen at hlen
  go_enter Try.func38, Try.ntmps38
  go_wp2
  go_step3
  go_wp2
  go_step3
  go_wp2
  go_loopw [5, 10] (fun q i wr => ∃ j : Nat, j ≤ len ∧ q = .bool true ∧ i = .int .i64 j ∧ Below w.heap.size w wr ∧ Hid ((List.range j).all f = true)) (fun _ i _ => len - (intOf i).toNat)
  case atStart => exact ⟨0, Nat.zero_le _, rfl, rfl, Below.refl _ _, Lib.hid rfl⟩
  case round =>
    obtain ⟨j, hj, rfl, rfl, hbr, hR⟩ := hrel
    by_cases hlt : j < len
    · obtain ⟨k', s', v', m', a', l', c', hkid, hex⟩ := HK.out j hlt
      have hwr := hw.trans (hbr.mono hw.size)
      obtain ⟨g0, g1, g2, g3, g4⟩ := (hkid.below hb hwr).at
      have HX := Lib.hid hex
      have HA2 := Lib.hid (hbr.alloc hbr.size (.cells #[.int .i64 k', .string s', .int .u32 v', .bool m', .slice a' l' c'] 26))
      have HA := Lib.hid (hwr.alloc hwr.size (.cells #[.int .i64 k', .string s', .int .u32 v', .bool m', .slice a' l' c'] 26))
      clear hkid hex hwr hbr
      unfold nd at *
      cases hf : f j with
      | true =>
        rw [hf] at HX
        go_wp2_with (go_at_call 21; refine (HX.out _ HA.out).mono ?_; rintro e w2 ⟨rfl, hb2⟩; have HB2 := Lib.hid (HA2.out.trans (hb2.mono HA2.out.size)); clear hb2)
        go_roundw
        case rel => exact ⟨j + 1, by omega, rfl, by simp, HB2.out, Lib.hid (by rw [List.range_succ, List.all_append, hR.out]; simp [hf])⟩
        case measure => simp [intOf]; omega
      | false =>
        rw [hf] at HX
        have hno : (List.range len).all f = false := List.all_eq_false.2 ⟨j, by simpa using hlt, by simp [hf]⟩
        go_wp2_with (go_at_call 21; refine (HX.out _ HA.out).mono ?_; rintro e w2 ⟨rfl, hb2⟩; have HB2 := Lib.hid (HA2.out.trans (hb2.mono HA2.out.size)); clear hb2)
        rw [Exit.noGoto_ret]
        go_ret
        exact ⟨ret_bool hno.symm, HB2.out⟩
    · obtain rfl : j = len := by omega
      go_wp2_with fail
      rw [Exit.noGoto_ret]
      go_ret
      exact ⟨ret_bool hR.out.symm, hbr⟩
end Go.Proofs.Ytkhbmamgfkpdbaa

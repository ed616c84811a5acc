/-
  TreeCopies: what is done to a copy changes nothing of the tree. No condition.
-/
import Derived.Test.YtkhbmamgfkpdbaaTreeP
import Derived.Test.YtkhbmamgfkpdbaaTreeZ
import Derived.Test.YtkhbmamgfkpdbaaTreeI
import Derived.Test.YtkhbmamgfkpdbaaEvD

import Derived.Test.YtkhbmamgfkpdbaaRows
import Derived.WalkKit
import Derived.ProofKit
import Derived.OpenShut
import Derived.Deep.DeepHandedRow
import Derived.Carry
namespace Go.Proofs.Ytkhbmamgfkpdbaa.treeCopies
open Go.ChangeShapes Go.WideShapes Go.ChangeAt Go.RowKit
open Go.ChangeMaps (open_string shut_string)
set_option linter.unusedVariables false
set_option maxRecDepth 1000000 in
theorem known15_any (w : World) : Calls Try.prog 9 #[] w fun e w' => e = .returned (.bool true) ∧ Below w.heap.size w w' :=
  Ev.closed_true 1000 30 (by kernel_rfl) w
theorem few_any {w W : World} {t : Tr} {k : Int} {s : ByteArray} {v : Int} {m : Bool} {a : Option Addr} {l c : Nat} (h : Reads w t (nd k s v m a l c)) (hb : Below w.heap.size w W) : Calls Try.prog 8 #[nd k s v m a l c] W fun e W' => e = .returned (.bool (decide (0 ≤ t.big 400))) ∧ Below W.heap.size W W' := by
  have HX := Lib.hid (bigT_all t _ h)
  have HB := Lib.hid (hb.trans ((below1 W (.cells #[.int .i64 k, .string s, .int .u32 v, .bool m, .slice a l c] 26)).mono hb.size))
  have H1 := Lib.hid (below1 W (.cells #[.int .i64 k, .string s, .int .u32 v, .bool m, .slice a l c] 26))
  clear h hb
  unfold nd at *
  go_enter Try.func8, Try.ntmps8
  go_wp2_with (go_at_call 25; (with_reducible refine (BigT.call HX.out HB.out 400 (by omega) (by omega)).mono ?_); rintro e w1 ⟨rfl, hb1⟩)
  go_ret
  exact ⟨ret_bool (by simp), H1.out.trans (hb1.mono H1.out.size)⟩
mutual
theorem same_refl : ∀ (t : Tr), t.same t = true
  | .mk k s v m ts => by
    unfold Tr.same
    simp [sameL_refl ts]
theorem sameL_refl : ∀ (ts : List Tr), Tr.sameL ts ts = true
  | [] => rfl
  | t :: ts => by
    unfold Tr.sameL
    rw [same_refl t, sameL_refl ts]
    rfl
end
theorem val_same {t t' : Tr} (h : t.same t' = true) : t.val = t'.val := by
  cases t; cases t'
  unfold Tr.same at h
  simp only [Bool.and_eq_true, beq_iff_eq] at h
  exact h.1.1.2
theorem spoilt_same {left : Int} {t t' : Tr} (hs : Spoilt left t t') (hl : 0 < left) (hw : ∀ k s v m ts, t = .mk k s v m ts → ∀ t0, ts[0]? = some t0 → 0 ≤ t0.val ∧ t0.val < 4294967296) (hc : t.count ≠ 1) : t'.same t = false := by
  cases t with
  | mk k s v m ts =>
    cases t' with
    | mk k' s' v' m' ts' =>
      obtain ⟨-, -, -, -, hlen, hh⟩ := hs
      cases ts with
      | nil => exact absurd (by simp [Tr.count, Tr.countL]) hc
      | cons t0 ts =>
        cases ts' with
        | nil => simp at hlen
        | cons t1 ts' =>
          have := hh hl t0 t1 rfl rfl
          have hv := hw k s v m _ rfl t0 rfl
          cases hq : (Tr.mk k' s' v' m' (t1 :: ts')).same (Tr.mk k s v m (t0 :: ts)) with
          | false => rfl
          | true =>
            exfalso
            unfold Tr.same at hq
            simp only [Bool.and_eq_true, beq_iff_eq] at hq
            have h2 := hq.2
            unfold Tr.sameL at h2
            simp only [Bool.and_eq_true] at h2
            have := val_same h2.1
            omega
theorem reads_val {w : World} {t : Tr} {u : Value} (h : Reads w t u) : 0 ≤ t.val ∧ t.val < 4294967296 := by
  cases t with
  | mk k s v m ts =>
    unfold Reads at h
    obtain ⟨a, len, cap, -, -, -, h2, -⟩ := h
    have h2 : (decide ((0 : Int) ≤ v) && decide (v ≤ 4294967295)) = true := h2
    simp only [Bool.and_eq_true, decide_eq_true_eq] at h2
    show 0 ≤ v ∧ v < 4294967296
    omega
theorem reads_kid {w : World} {k : Int} {s : ByteArray} {v : Int} {m : Bool} {ts : List Tr} {u : Value} (h : Reads w (.mk k s v m ts) u) {t0 : Tr} (e : ts[0]? = some t0) : 0 ≤ t0.val ∧ t0.val < 4294967296 := by
  unfold Reads at h
  obtain ⟨a, len, cap, -, -, -, -, hl, -, -, hk⟩ := h
  have := (List.getElem?_eq_some_iff.1 e).1
  obtain ⟨x, -, -, hL⟩ := hk (by omega)
  obtain ⟨_, _, _, _, _, _, _, -, g2⟩ := readsL_get ts 0 0 t0 hL e
  exact reads_val g2
theorem _root_.Go.Proofs.Ytkhbmamgfkpdbaa.CellsB.kidj {W : World} {b : Nat} {k : Int} {s : ByteArray} {v : Int} {m : Bool} {a : Option Addr} {l c : Nat} (h : CellsB W b k s v m a l c) : KidJ W ⟨b, 0, none⟩ k s v m a l c := ⟨h.e0, h.e1, h.e2, h.e3, h.e4⟩
theorem Aside.below {S : Nat → Prop} {n : Nat} {a b : World} (h : Aside S a b) (hn : n ≤ a.heap.size) (hs : ∀ c, S c → n ≤ c) : Below n a b :=
  ⟨h.os, h.tape, h.output, h.size, fun c hc => h.block c (by omega) fun hS => by have := hs c hS; omega⟩
theorem walk (va : Value) (na : Nat) (w : World) (wa : At w na va) : Calls Try.prog 4 #[va] w fun e w' => e = .returned (.bool true) ∧ Below w.heap.size w w' := by
  obtain ⟨t, ht⟩ := reads_of na va wa
  obtain ⟨k, s, v, m, a, l, c, rfl⟩ : ∃ k s v m a l c, va = nd k s v m a l c := by
    cases t
    unfold Reads at ht
    obtain ⟨a, len, cap, rfl, -⟩ := ht
    exact ⟨_, _, _, _, _, _, _, rfl⟩
  clear wa
  have HR := Lib.hid ht
  have HO := Lib.hid (CellsB.new w k s v m a l c 26 rfl)
  have HB := Lib.hid (below1 w (.cells #[.int .i64 k, .string s, .int .u32 v, .bool m, .slice a l c] 26))
  have HF := Lib.hid (few_any (W := w.alloc (.cells #[.int .i64 k, .string s, .int .u32 v, .bool m, .slice a l c] 26)) ht (below1 w _))
  clear ht
  unfold nd at *
  by_cases hbig : 0 ≤ t.big 400
  rotate_left
  · rw [decide_eq_false hbig] at HF
    go_enter Try.func4, Try.ntmps4
    go_wp2_with (first
    | (go_at_call 8; (with_reducible refine HF.out.mono ?_); rintro e w1 ⟨rfl, hb1⟩; replace HB := Lib.hid (HB.out.trans (hb1.mono HB.out.size)); replace HO := Lib.hid (HO.out.next hb1); obtain ⟨c0, c1, c2, c3, c4, -⟩ := HO.out; clear hb1)
    | (go_at_call 9; refine (known15_any _).mono ?_; rintro e w2 ⟨rfl, hb1⟩; replace HB := Lib.hid (HB.out.trans (hb1.mono HB.out.size)); clear hb1))
    go_ret
    exact ⟨rfl, HB.out⟩
  rw [decide_eq_true hbig] at HF
  have hcount : t.count ≤ 400 := by have := count_le t 400 hbig; omega
  have hpos := count_pos t
  have HX := Lib.hid (flatT_all t _ HR.out)
  have HC := Lib.hid (copyT_all t _ HR.out)
  clear hbig
  go_enter Try.func4, Try.ntmps4
  go_wp2_with (first
    | (go_at_call 8; (with_reducible refine HF.out.mono ?_); rintro e w1 ⟨rfl, hb1⟩; replace HB := Lib.hid (HB.out.trans (hb1.mono HB.out.size)); replace HO := Lib.hid (HO.out.next hb1); obtain ⟨c0, c1, c2, c3, c4, -⟩ := HO.out; clear hb1)
    | (go_at_call 9; refine (known15_any _).mono ?_; rintro e w2 ⟨rfl, hb1⟩; replace HB := Lib.hid (HB.out.trans (hb1.mono HB.out.size)); clear hb1))
  (with_reducible refine (FlatT.call HX.out HB.out 0 (by omega) (by omega)).mono ?_)
  rintro e w2 ⟨g1, p1, g2, p2, xs, ys, rfl, hb2, -, -, -, -⟩
  clear HX c0 c1 c2 c3 c4 HF
  replace HB := Lib.hid (HB.out.trans (hb2.mono HB.out.size))
  replace HO := Lib.hid (HO.out.next hb2)
  obtain ⟨c0, c1, c2, c3, c4, -⟩ := HO.out
  clear hb2
  simp only []
  go_at_K
  go_wp2_with fail
  (with_reducible refine (CopyT.call HC.out HB.out (by omega)).mono ?_)
  rintro e w3 ⟨k1, s1, v1, m1, a1, l1, q1, rfl, hb3, hr1⟩
  clear c0 c1 c2 c3 c4
  have HS1 := Lib.hid (ROwn.keep (w' := w3.alloc (.cells #[.int .i64 k1, .string s1, .int .u32 v1, .bool m1, .slice a1 l1 q1] 26)) (T := fun b => w2.heap.size ≤ b ∧ b < w3.heap.size) _ hr1 fun b hb hS => ⟨Below.heap_alloc _ _ _ hb, hS, hb⟩)
  have h23 := hb3.size
  have h02 := HB.out.size
  have hlt2 := HO.out.lt
  have hb3' : Below w2.heap.size w2 (w3.alloc (.cells #[.int .i64 k1, .string s1, .int .u32 v1, .bool m1, .slice a1 l1 q1] 26)) := hb3.alloc hb3.size _
  replace HB := Lib.hid (HB.out.trans (hb3'.mono HB.out.size))
  replace HO := Lib.hid (HO.out.next hb3')
  have HD := Lib.hid (CellsB.new w3 k1 s1 v1 m1 a1 l1 q1 26 rfl)
  have hsz3 : (w3.alloc (.cells #[.int .i64 k1, .string s1, .int .u32 v1, .bool m1, .slice a1 l1 q1] 26)).heap.size = w3.heap.size + 1 := by simp
  have hlow := HB.out.size
  obtain ⟨c0, c1, c2, c3, c4, -⟩ := HO.out
  clear hb3 hb3' hr1
  unfold nd
  simp only []
  go_at_K
  go_wp2_with fail
  generalize w3.alloc (.cells #[.int .i64 k1, .string s1, .int .u32 v1, .bool m1, .slice a1 l1 q1] 26) = W3 at *
  (with_reducible refine (CopyT.call HC.out HB.out (by omega)).mono ?_)
  rintro e w4 ⟨k2, s2, v2, m2, a2, l2, q2, rfl, hb4, hr2⟩
  clear c0 c1 c2 c3 c4
  have hb4' : Below W3.heap.size W3 (w4.alloc (.cells #[.int .i64 k2, .string s2, .int .u32 v2, .bool m2, .slice a2 l2 q2] 26)) := hb4.alloc hb4.size _
  have HS2 := Lib.hid (ROwn.keep (w' := w4.alloc (.cells #[.int .i64 k2, .string s2, .int .u32 v2, .bool m2, .slice a2 l2 q2] 26)) (T := fun b => W3.heap.size ≤ b) _ hr2 fun b hb hS => ⟨Below.heap_alloc _ _ _ hb, hS⟩)
  have h34 := hb4.size
  replace HS1 := Lib.hid (ROwn.keep (w' := w4.alloc (.cells #[.int .i64 k2, .string s2, .int .u32 v2, .bool m2, .slice a2 l2 q2] 26)) (T := fun b => w2.heap.size ≤ b ∧ b < w3.heap.size) _ HS1.out fun b hb hS => ⟨hb4'.block b hb, hS⟩)
  replace HB := Lib.hid (HB.out.trans (hb4'.mono HB.out.size))
  replace HO := Lib.hid (HO.out.next hb4')
  replace HD := Lib.hid (HD.out.next hb4')
  have HE := Lib.hid (CellsB.new w4 k2 s2 v2 m2 a2 l2 q2 26 rfl)
  have hsz4 : (w4.alloc (.cells #[.int .i64 k2, .string s2, .int .u32 v2, .bool m2, .slice a2 l2 q2] 26)).heap.size = w4.heap.size + 1 := by simp
  clear hb4 hb4' hr2
  unfold nd
  simp only []
  go_at_K
  go_wp2_with fail
  generalize w4.alloc (.cells #[.int .i64 k2, .string s2, .int .u32 v2, .bool m2, .slice a2 l2 q2] 26) = W4 at *
  have hlt := HO.out.lt
  have hs0 := HB.out.size
  (with_reducible refine ((spoilT_all t).call (S := fun b => w2.heap.size ≤ b ∧ b < w3.heap.size) (t.count : Int) (by omega) (by omega) (HD.out.kidj) (fun h => by have := h.2; simp at this) HS1.out (by omega)).mono ?_)
  rintro e w5 ⟨rfl, hA, t', hr', hsp⟩
  have hw2 := hlow
  have n0 := HO.out.kidj
  have n1 := hA.kidj (fun h => by have := h.1; simp at this; omega) n0
  have d1 := hA.kidj (fun h => by have := h.2; simp at this) HD.out.kidj
  have e1 := hA.kidj (fun h => by have := h.2; simp at this; omega) HE.out.kidj
  obtain ⟨c0, c1, c2, c3, c4⟩ := n1
  obtain ⟨d0, d1, d2, d3, d4⟩ := d1
  obtain ⟨e0, e1, e2, e3, e4⟩ := e1
  have hb5 : Below w.heap.size w w5 := HB.out.trans (Aside.below hA HB.out.size fun c hc => by have := hc.1; omega)
  have h5 := hA.size
  have hrw : Reads w5 t (nd k s v m a l c) := reads_below hb5 t _ HR.out
  have hds : ROwn w5 (fun b => W3.heap.size ≤ b) t (nd k2 s2 v2 m2 a2 l2 q2) := ROwn.keep t HS2.out fun b hb hS => ⟨hA.block b hb fun h => by have := h.2; omega, hS⟩
  have S1 := sameT_all t t _ _ hrw (ROwn.reads t hds)
  have S2 := sameT_all t' t _ _ (ROwn.reads t' hr') hrw
  have H3 := Lib.hid (sizeT_all t _ hrw)
  unfold SameT at S1 S2
  rw [same_refl t] at S1
  have H1 := Lib.hid S1
  replace HO : Hid (CellsB w5 w.heap.size k s v m a l c) := Lib.hid ⟨c0, c1, c2, c3, c4, by omega⟩
  replace HD : Hid (CellsB w5 w3.heap.size k1 s1 v1 m1 a1 l1 q1) := Lib.hid ⟨d0, d1, d2, d3, d4, by omega⟩
  replace HE : Hid (CellsB w5 w4.heap.size k2 s2 v2 m2 a2 l2 q2) := Lib.hid ⟨e0, e1, e2, e3, e4, by omega⟩
  have HV := Lib.hid (Below.refl w5.heap.size w5)
  have HB5 := Lib.hid hb5
  by_cases hone : t.count = 1
  · have hc1 : ((t.count : Int) == 1) = true := by simp; omega
    clear HR HC HS1 HS2 HB hA hr' hsp n0 hb5 hrw hds S1 S2 hw2 hlow h23 h02 h34 hs0
    unfold nd at *
    simp only []
    go_at_K
    go_wp2_with (first
      | (go_at_call 15; (with_reducible refine (H1.out _ HV.out).mono ?_); rintro e w6 ⟨rfl, hb6⟩; replace HV := Lib.hid (HV.out.trans (hb6.mono HV.out.size)); replace HO := Lib.hid (HO.out.next hb6); replace HD := Lib.hid (HD.out.next hb6); replace HE := Lib.hid (HE.out.next hb6); clear c0 c1 c2 c3 c4 d0 d1 d2 d3 d4 e0 e1 e2 e3 e4; obtain ⟨c0, c1, c2, c3, c4, -⟩ := HO.out; obtain ⟨d0, d1, d2, d3, d4, -⟩ := HD.out; obtain ⟨e0, e1, e2, e3, e4, -⟩ := HE.out; clear hb6)
      | (go_at_call 12; (with_reducible refine (SizeT.call H3.out HV.out (by omega)).mono ?_); rintro e w6 ⟨rfl, hb6⟩; replace HV := Lib.hid (HV.out.trans (hb6.mono HV.out.size)); replace HO := Lib.hid (HO.out.next hb6); replace HD := Lib.hid (HD.out.next hb6); replace HE := Lib.hid (HE.out.next hb6); clear c0 c1 c2 c3 c4 d0 d1 d2 d3 d4 e0 e1 e2 e3 e4; obtain ⟨c0, c1, c2, c3, c4, -⟩ := HO.out; obtain ⟨d0, d1, d2, d3, d4, -⟩ := HD.out; obtain ⟨e0, e1, e2, e3, e4, -⟩ := HE.out; clear hb6)
      | (go_at_call 9; refine (known15_any _).mono ?_; rintro e w6 ⟨rfl, hb6⟩; replace HV := Lib.hid (HV.out.trans (hb6.mono HV.out.size)); clear hb6))
    go_ret
    exact ⟨rfl, HB5.out.trans (HV.out.mono HB5.out.size)⟩
  · have hc1 : ((t.count : Int) == 1) = false := by simp; omega
    rw [spoilt_same hsp (by omega) (fun k s v m ts e t0 ht0 => by subst e; exact reads_kid hrw ht0) hone] at S2
    have H2 := Lib.hid S2
    clear HR HC HS1 HS2 HB hA hr' hsp n0 hb5 hrw hds S1 S2 hw2 hlow h23 h02 h34 hs0
    unfold nd at *
    simp only []
    go_at_K
    go_wp2_with (first
      | (go_at_call 15; (first | (with_reducible refine (H1.out _ HV.out).mono ?_) | (with_reducible refine (H2.out _ HV.out).mono ?_)); rintro e w6 ⟨rfl, hb6⟩; replace HV := Lib.hid (HV.out.trans (hb6.mono HV.out.size)); replace HO := Lib.hid (HO.out.next hb6); replace HD := Lib.hid (HD.out.next hb6); replace HE := Lib.hid (HE.out.next hb6); clear c0 c1 c2 c3 c4 d0 d1 d2 d3 d4 e0 e1 e2 e3 e4; obtain ⟨c0, c1, c2, c3, c4, -⟩ := HO.out; obtain ⟨d0, d1, d2, d3, d4, -⟩ := HD.out; obtain ⟨e0, e1, e2, e3, e4, -⟩ := HE.out; clear hb6)
      | (go_at_call 12; (with_reducible refine (SizeT.call H3.out HV.out (by omega)).mono ?_); rintro e w6 ⟨rfl, hb6⟩; replace HV := Lib.hid (HV.out.trans (hb6.mono HV.out.size)); replace HO := Lib.hid (HO.out.next hb6); replace HD := Lib.hid (HD.out.next hb6); replace HE := Lib.hid (HE.out.next hb6); clear c0 c1 c2 c3 c4 d0 d1 d2 d3 d4 e0 e1 e2 e3 e4; obtain ⟨c0, c1, c2, c3, c4, -⟩ := HO.out; obtain ⟨d0, d1, d2, d3, d4, -⟩ := HD.out; obtain ⟨e0, e1, e2, e3, e4, -⟩ := HE.out; clear hb6)
      | (go_at_call 9; refine (known15_any _).mono ?_; rintro e w6 ⟨rfl, hb6⟩; replace HV := Lib.hid (HV.out.trans (hb6.mono HV.out.size)); clear hb6))
    go_ret
    exact ⟨rfl, HB5.out.trans (HV.out.mono HB5.out.size)⟩
theorem own : ownKnob Try.prog.godebug = none := by kernel_rfl
theorem laidOut : laidOutB Try.prog = true := by kernel_rfl
set_option maxRecDepth 1000000 in
theorem contract (H : Type) (enc : TypeId × Value → H) (W : World) (base : Nat) (args : Array Value) (ds gs : List (DataW H)) (before : List MemPlace)
    (hval : ∀ (j : Nat) t v, Try.f4.params[j]? = some t → args[j]? = some v → Value.okWide Try.prog W .any base t v)
    (hW : DataW.Whole enc Try.prog Try.f4.params.toList Rows.treeCopiesSpec.vars false W args.toList ds gs before) :
    Calls Try.prog 4 args W fun e W' => ∃ v, e = .returned v ∧ Rows.treeCopiesSpec.post enc Try.prog Try.f4 false true false false W args v W' := by
  have hW' := hW
  obtain ⟨p, q, hA0, hV, rfl, hfz, hnd⟩ := hW
  have hA : DataW.TrodAll enc Try.prog W 0 (fun _ => true) true Try.f4.params.toList args.toList ds p := hA0
  rw [Try.params4] at hA hval
  obtain ⟨v0, vs0, d0, ds0, p0, q0, hargs, rfl, rfl, h0, r0⟩ := trodAll_cons hA
  obtain ⟨rfl, rfl, rfl⟩ := trodAll_nil r0
  obtain rfl : args = #[v0] := by cases args; simp_all
  obtain ⟨rfl, rfl⟩ := trodVars_none hV
  obtain ⟨n0, w0⟩ := node_of (.inl (hval 0 26 v0 rfl rfl)) h0
  have k0 := h0
  have lt0 : ∀ x ∈ p0, x.block < W.heap.size := by obtain ⟨m, hm⟩ := k0; exact DataW.trod_lt m _ _ _ hm
  clear hA0
  refine (walk v0 n0 W w0).mono fun e W' ⟨he, bel⟩ => ?_
  subst he
  exact ⟨_, rfl, _, _, _, [], _, [], hW', trodAll_mk1 (shut_bool Try.underlying4 _), (trodAll_cons_mk (Below.trod laidOut (by kernel_rfl) (of_decide_eq_true (by kernel_rfl)) k0 bel lt0) trodAll_mk0), rfl, bel.frame _, fun h => by cases h⟩
set_option maxRecDepth 100000 in
theorem lifted (os : Os) (started : os.Started) (H : Type) (enc : TypeId × Value → H) :
    ReturnsInHanded {} Try.checked os 4 .any (Rows.treeCopiesSpec.pre6 enc Try.prog Try.f4 Rows.treeCopiesRow.domain false) (Rows.treeCopiesSpec.post enc Try.prog Try.f4 false true false false) := by
  refine returnsInHanded_of_change (C := Try.checked) own started (by kernel_rfl) Try.func4
    (ChangeSpec.witness6 (enc := enc) (C := Try.checked) false ⟨#[], #[.agg #[.int .i64 0, .string .empty, .int .u32 0, .bool false, .slice none 0 0]], []⟩ 8 (by kernel_rfl) (by kernel_rfl) (by kernel_rfl) (by kernel_rfl)) ?_
  intro W base args ds gs before hval hW hcnd _
  exact contract H enc W base args ds gs before hval hW
theorem said : Rows.TreeCopiesSaid :=
  OpenClaim.holds_of_wide 4 Try.f4 rfl rfl rfl rfl rfl rfl rfl ⟨rfl, rfl, rfl, rfl, rfl⟩ rfl rfl rfl rfl rfl (by kernel_rfl) Try.func4 (by kernel_rfl)
    (of_decide_eq_true (by kernel_rfl)) (by unfold Func.isWrapper; first | (rw [if_pos (by decide +kernel)]; kernel_rfl) | (rw [if_neg (by decide +kernel)]; exact ⟨rfl, rfl⟩))
    (fun os started H enc _ => lifted os started H enc)
theorem proved : Rows.TreeCopiesSaid := said
end Go.Proofs.Ytkhbmamgfkpdbaa.treeCopies

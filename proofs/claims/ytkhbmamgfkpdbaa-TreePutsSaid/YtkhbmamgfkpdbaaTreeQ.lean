/-
  tree.Depth of a node, and tree.Same of two, told.
-/
import Derived.Test.YtkhbmamgfkpdbaaTreeX
import Derived.Test.YtkhbmamgfkpdbaaTreeO
namespace Go.Proofs.Ytkhbmamgfkpdbaa
open Go.ChangeShapes Go.WideShapes Go.ChangeAt Go.RowKit
set_option linter.unusedVariables false
mutual
/-- how deep -/
def Tr.deep : Tr → Nat
  | .mk _ _ _ _ ts => Tr.deepL ts + 1
def Tr.deepL : List Tr → Nat
  | [] => 0
  | t :: ts => max t.deep (Tr.deepL ts)
end
mutual
theorem deep_le : ∀ (t : Tr), t.deep ≤ t.count
  | .mk _ _ _ _ ts => by
    unfold Tr.deep Tr.count
    have := deepL_le ts
    omega
theorem deepL_le : ∀ (ts : List Tr), Tr.deepL ts ≤ Tr.countL ts
  | [] => by simp [Tr.deepL]
  | t :: ts => by
    unfold Tr.deepL Tr.countL
    have := deep_le t
    have := deepL_le ts
    omega
end
theorem take_succ_deep {ts : List Tr} {j : Nat} (h : j < ts.length) : Tr.deepL (ts.take (j + 1)) = max (Tr.deepL (ts.take j)) ts[j].deep := by
  induction ts generalizing j with
  | nil => simp at h
  | cons t ts ih =>
    cases j with
    | zero => simp [Tr.deepL]
    | succ j =>
      simp only [List.take_succ_cons, Tr.deepL, List.getElem_cons_succ]
      rw [ih (by simpa using h)]
      omega
def DeepT (w : World) (t : Tr) (u : Value) : Prop := ∀ W, Below w.heap.size w W → t.count ≤ 100000 → Calls Try.prog 13 #[u] W fun e W' => e = .returned (.int .i64 t.deep) ∧ Below W.heap.size W W'
theorem DeepT.call {w W : World} {t : Tr} {u : Value} (h : DeepT w t u) (hb : Below w.heap.size w W) (h1 : t.count ≤ 100000) : Calls Try.prog 13 #[u] W fun e W' => e = .returned (.int .i64 t.deep) ∧ Below W.heap.size W W' := h W hb h1
section
variable {w0 : World} {k : Int} {s : ByteArray} {v : Int} {m : Bool} {a : Option Addr} {len cap : Nat} {ts : List Tr}
set_option maxHeartbeats 2000000 in
theorem deepT_one (hl : len ≤ maxLen) (ht : ts.length = len) (hk : 0 < len → ∃ x, a = some x ∧ x.block < w0.heap.size ∧ ∀ j (h : j < ts.length), KidIs w0 x j (DeepT w0 ts[j])) : DeepT w0 (.mk k s v m ts) (nd k s v m a len cap) := by
  intro w hw hc
  have HK := Lib.hid hk
  have HO := Lib.hid (Own.start w k s v m a len cap)
  have HT := Lib.hid ht
  have HB : Hid (Tr.deep (.mk k s v m ts) = Tr.deepL ts + 1) := Lib.hid (by unfold Tr.deep; rfl)
  have HC : Hid (1 + Tr.countL ts ≤ 100000) := Lib.hid (by unfold Tr.count at hc; exact hc)
  clear hk ht hc
  generalize Tr.deep (.mk k s v m ts) = R at *
  unfold maxLen at hl
  unfold nd at *
  go_enter Try.func13, Try.ntmps13
  go_wp2
  generalize w.alloc (.cells #[.int .i64 k, .string s, .int .u32 v, .bool m, .slice a len cap] 26) = V at *
  go_loopw [3, 9] (fun q i wr => ∃ (r j : Nat), q = .int .i64 r ∧ j ≤ len ∧ i = .int .i64 j ∧ r ≤ 100000 ∧ Hid (r = Tr.deepL (ts.take j)) ∧ Hid (Own w wr k s v m a len cap)) (fun _ i _ => len - (intOf i).toNat)
  case atStart => exact ⟨0, 0, rfl, Nat.zero_le _, rfl, by omega, Lib.hid (by simp [Tr.deepL]), HO⟩
  case round =>
    obtain ⟨r, j, rfl, hj, rfl, r1, HE, HR⟩ := hrel
    obtain ⟨e0, e1, e2, e3, e4, hbr, hlt0⟩ := HR.out
    by_cases hlt : j < len
    · have hjt : j < ts.length := by rw [HT.out]; exact hlt
      obtain ⟨⟨b, o, x⟩, rfl, hb, hKK⟩ := HK.out (by omega)
      obtain ⟨k', s', v', m', a', l', c', hkid, hex⟩ := hKK j hjt
      have hwr := hw.trans (hbr.mono hw.size)
      obtain ⟨g0, g1, g2, g3, g4⟩ := (hkid.below hb hwr).at
      have HX := Lib.hid hex
      have HW := Lib.hid (hwr.alloc hwr.size (.cells #[.int .i64 k', .string s', .int .u32 v', .bool m', .slice a' l' c'] 26))
      have HR2 := Lib.hid (HR.out.next (below1 wr (.cells #[.int .i64 k', .string s', .int .u32 v', .bool m', .slice a' l' c'] 26)))
      have h5 := take_succ_count hjt
      have h6 := take_le (ts := ts) (j := j + 1)
      have h7 := take_succ_deep hjt
      have h8 := HE.out
      have h9 := HC.out
      have hcj : ts[j].count ≤ 100000 := by omega
      have hdl := deep_le ts[j]
      have hdj : ts[j].deep ≤ 100000 := by omega
      have HE2 : Hid (max r ts[j].deep = Tr.deepL (ts.take (j + 1))) := Lib.hid (by rw [h8]; exact h7.symm)
      clear hkid hex hwr hKK h5 h6 h7 h8 h9 hdl
      generalize ts[j] = t at *
      unfold nd at *
      go_wp2_with (go_at_call 13; refine (DeepT.call HX.out HW.out hcj).mono ?_; rintro e w2 ⟨rfl, hb2⟩; have HN := Lib.hid (HR2.out.next hb2); clear hb2)
      exact ⟨⟨max r t.deep, j + 1, by first | rfl | (congr 1; omega) | (simp; omega), by omega, by simp, by omega, HE2, HN⟩, by simp [intOf]; omega⟩
    · obtain rfl : j = len := by omega
      have HE3 : Hid (R = r + 1) := Lib.hid (by rw [HB.out, HE.out, List.take_of_length_le (by rw [HT.out]; exact Nat.le_refl _)])
      go_wp2_with fail
      go_ret
      exact ⟨ret_int (by rw [HE3.out]; simp), hbr⟩
end
theorem deepT_all {w0 : World} : ∀ (t : Tr) (u : Value), Reads w0 t u → DeepT w0 t u
  | .mk k s v m ts, u, h => by
    unfold Reads at h
    obtain ⟨a, len, cap, rfl, hs, _, _, ht, hl, hc, hk⟩ := h
    refine deepT_one (by omega) ht fun h0 => ?_
    obtain ⟨x, hx, hb, hL⟩ := hk h0
    refine ⟨x, hx, hb, fun j hj => ?_⟩
    obtain ⟨k', s', v', m', a', l', c', g1, g2⟩ := readsL_get ts 0 j ts[j] hL (List.getElem?_eq_getElem hj)
    rw [Nat.zero_add] at g1
    have hd : SizeOf.sizeOf ts[j] < SizeOf.sizeOf ts := List.sizeOf_lt_of_mem (List.getElem_mem hj)
    exact ⟨k', s', v', m', a', l', c', g1, deepT_all ts[j] _ g2⟩
  termination_by t => SizeOf.sizeOf t
  decreasing_by
    simp
    omega
def ESameT (w : World) (t t' : Tr) (u u' : Value) : Prop := ∀ W, Below w.heap.size w W → Calls Try.prog 14 #[u, u'] W fun e W' => e = .returned (.bool (t.same t')) ∧ Below W.heap.size W W'
def EqfT (w : World) (ts ts2 : List Tr) (a a2 : Option Addr) (len cap len2 cap2 : Nat) : Prop := ∀ W, Below w.heap.size w W → Calls Try.prog 30 #[.slice a len cap, .slice a2 len2 cap2, .func (.func 14) #[] #[]] W fun e W' => e = .returned (.bool (Tr.sameL ts ts2)) ∧ Below W.heap.size W W'
section
variable {w0 : World} {a : Option Addr} {len cap : Nat} {ts : List Tr} {a2 : Option Addr} {len2 cap2 : Nat} {ts2 : List Tr}
set_option maxHeartbeats 4000000 in
theorem eqf_any (hl : len ≤ maxLen) (hl2 : len2 ≤ maxLen) (ht : ts.length = len) (ht2 : ts2.length = len2)
    (hk : 0 < len → len = len2 → ∃ x y, a = some x ∧ a2 = some y ∧ x.block < w0.heap.size ∧ y.block < w0.heap.size ∧ ∀ j (h : j < ts.length) (h' : j < ts2.length), KidIs w0 x j (fun u => KidIs w0 y j (ESameT w0 ts[j] ts2[j] u))) : EqfT w0 ts ts2 a a2 len cap len2 cap2 := by
  intro w hw
  have HT := Lib.hid ht
  have HT2 := Lib.hid ht2
  have HK := Lib.hid hk
  clear ht ht2 hk
  unfold maxLen at hl hl2
  by_cases hd : len = len2
  · subst hd
    go_enter Try.func30, Try.ntmps30
    go_wp2_with fail
    go_loopw [17] (fun i wr => ∃ j : Nat, j ≤ len ∧ i = .int .i64 j ∧ Hid (Tr.sameL ts ts2 = Tr.sameL (ts.drop j) (ts2.drop j)) ∧ Hid (Below w.heap.size w wr)) (fun i _ => len - (intOf i).toNat)
    case atStart => exact ⟨0, Nat.zero_le _, rfl, Lib.hid (by rw [List.drop_zero, List.drop_zero]), Lib.hid (Below.refl _ _)⟩
    case round =>
      obtain ⟨j, hj, rfl, HE, HLr⟩ := hrel
      by_cases hlt : j < len
      · have hj1 : j < ts.length := by rw [HT.out]; exact hlt
        have hj2 : j < ts2.length := by rw [HT2.out]; exact hlt
        obtain ⟨⟨b, o, x⟩, ⟨b', o', y⟩, rfl, rfl, hb, hb', hKK⟩ := HK.out (by omega) (by first | rfl | trivial)
        obtain ⟨k', s', v', m', a', l', c', hkid, k3, s3, v3, m3, a3, l3, c3', hkid2, hex⟩ := hKK j hj1 hj2
        have hwr : Below w0.heap.size w0 wr := hw.trans (HLr.out.mono hw.size)
        obtain ⟨g0, g1, g2, g3, g4⟩ := (hkid.below hb hwr).at
        obtain ⟨i0, i1, i2, i3, i4⟩ := (hkid2.below hb' (hwr.trans ((below1 wr (.cells #[.int .i64 k', .string s', .int .u32 v', .bool m', .slice a' l' c'] 26)).mono hwr.size))).at
        have hl1 := hkid2.below hb' hwr
        have HA := Lib.hid ((hwr.alloc hwr.size (.cells #[.int .i64 k', .string s', .int .u32 v', .bool m', .slice a' l' c'] 26)).alloc (Nat.le_trans hwr.size (by simp)) (.cells #[.int .i64 k3, .string s3, .int .u32 v3, .bool m3, .slice a3 l3 c3'] 26))
        have HA2 := Lib.hid ((HLr.out.alloc HLr.out.size (.cells #[.int .i64 k', .string s', .int .u32 v', .bool m', .slice a' l' c'] 26)).alloc (Nat.le_trans HLr.out.size (by simp)) (.cells #[.int .i64 k3, .string s3, .int .u32 v3, .bool m3, .slice a3 l3 c3'] 26))
        have HX := Lib.hid (hex _ HA.out)
        have HE2 := Lib.hid (HE.out.trans (sameL_drop ts ts2 j hj1 hj2))
        have hbw : b' < wr.heap.size := Nat.lt_of_lt_of_le hb' hwr.size
        clear hkid hkid2 hex hwr hKK hl1
        generalize ts[j].same ts2[j] = q at *
        unfold nd at *
        cases q with
        | true =>
          go_wp2_with (go_at_call 14; (with_reducible refine HX.out.mono ?_); rintro e w2 ⟨rfl, hb2⟩; have HN := Lib.hid (HA2.out.trans (hb2.mono HA2.out.size)); clear hb2)
          exact ⟨⟨j + 1, by omega, by simp, Lib.hid (by rw [HE2.out]; rfl), HN⟩, by simp [intOf]; omega⟩
        | false =>
          go_wp2_with (go_at_call 14; (with_reducible refine HX.out.mono ?_); rintro e w2 ⟨rfl, hb2⟩; have HN := Lib.hid (HA2.out.trans (hb2.mono HA2.out.size)); clear hb2)
          go_ret
          exact ⟨ret_bool (by rw [HE2.out]; rfl), HN.out⟩
      · obtain rfl : j = len := by omega
        have HE3 : Hid (Tr.sameL ts ts2 = true) := Lib.hid (by rw [HE.out, List.drop_of_length_le (by rw [HT.out]; exact Nat.le_refl _), List.drop_of_length_le (by rw [HT2.out]; exact Nat.le_refl _)]; unfold Tr.sameL; rfl)
        go_wp2_with fail
        go_ret
        exact ⟨ret_bool HE3.out.symm, HLr.out⟩
  · have HN : Tr.sameL ts ts2 = false := by
      cases hq : Tr.sameL ts ts2 with
      | false => rfl
      | true =>
        have := sameL_len ts ts2 hq
        rw [HT.out, HT2.out] at this
        exact absurd this hd
    go_enter Try.func30, Try.ntmps30
    go_wp2_with fail
    go_ret
    exact ⟨ret_bool HN.symm, Below.refl _ _⟩
end
section
variable {w0 : World} {k : Int} {s : ByteArray} {v : Int} {m : Bool} {a : Option Addr} {len cap : Nat} {ts : List Tr} {k2 : Int} {s2 : ByteArray} {v2 : Int} {m2 : Bool} {a2 : Option Addr} {len2 cap2 : Nat} {ts2 : List Tr}
set_option maxHeartbeats 4000000 in
theorem esameT_one (hE : EqfT w0 ts ts2 a a2 len cap len2 cap2) : ESameT w0 (.mk k s v m ts) (.mk k2 s2 v2 m2 ts2) (nd k s v m a len cap) (nd k2 s2 v2 m2 a2 len2 cap2) := by
  intro w hw
  have HB : Hid (Tr.same (.mk k s v m ts) (.mk k2 s2 v2 m2 ts2) = ((k == k2) && (s.toList == s2.toList) && (v == v2) && (m == m2) && Tr.sameL ts ts2)) := Lib.hid (by unfold Tr.same; rfl)
  generalize Tr.same (.mk k s v m ts) (.mk k2 s2 v2 m2 ts2) = R at *
  have HL : Hid (Below w.heap.size w ((w.alloc (.cells #[.int .i64 k, .string s, .int .u32 v, .bool m, .slice a len cap] 26)).alloc (.cells #[.int .i64 k2, .string s2, .int .u32 v2, .bool m2, .slice a2 len2 cap2] 26))) := Lib.hid ((below1 w _).alloc (below1 w _).size _)
  have HX := Lib.hid (hE _ (hw.trans (HL.out.mono hw.size)))
  clear hE
  unfold nd at *
  by_cases hd : k = k2 ∧ s.toList = s2.toList ∧ v = v2 ∧ m = m2
  · obtain ⟨rfl, hs, rfl, rfl⟩ := hd
    have hss : (s.toList == s2.toList) = true := by simp [hs]
    have HBB : Hid (R = Tr.sameL ts ts2) := Lib.hid (by rw [HB.out]; simp [hs])
    go_enter Try.func14, Try.ntmps14
    go_wp2_with (go_at_call 30; (with_reducible refine HX.out.mono ?_); rintro e w2 ⟨rfl, hb2⟩; have HN := Lib.hid (HL.out.trans (hb2.mono HL.out.size)); clear hb2)
    all_goals first
      | (exfalso; simp_all; done)
      | (go_ret
         exact ⟨ret_bool (by rw [HBB.out]), HN.out⟩)
  · have HN : Hid (R = false) := Lib.hid (by
      rw [HB.out]
      cases hq : (k == k2 && s.toList == s2.toList && v == v2 && m == m2 && Tr.sameL ts ts2) with
      | false => rfl
      | true =>
        exfalso
        simp only [Bool.and_eq_true, beq_iff_eq] at hq
        exact hd ⟨hq.1.1.1.1, hq.1.1.1.2, hq.1.1.2, hq.1.2⟩)
    go_enter Try.func14, Try.ntmps14
    go_wp2_with fail
    all_goals first
      | (go_ret
         exact ⟨ret_bool HN.out.symm, (below1 _ _).alloc (below1 _ _).size _⟩)
      | exact absurd ⟨by assumption, by assumption, by assumption, by assumption⟩ hd
end
theorem esameT_all {w0 : World} : ∀ (t t' : Tr) (u u' : Value), Reads w0 t u → Reads w0 t' u' → ESameT w0 t t' u u'
  | .mk k s v m ts, .mk k2 s2 v2 m2 ts2, u, u2, h, h2 => by
    unfold Reads at h h2
    obtain ⟨a, len, cap, rfl, hs, _, _, ht, hl, hc, hk⟩ := h
    obtain ⟨a2, len2, cap2, rfl, hs2, _, _, ht2, hl2, hc2, hk2⟩ := h2
    refine esameT_one (eqf_any (by omega) (by omega) ht ht2 fun h0 he => ?_)
    obtain ⟨x, hx, hb, hL⟩ := hk h0
    obtain ⟨y, hy, hb2, hL2⟩ := hk2 (by omega)
    refine ⟨x, y, hx, hy, hb, hb2, fun j hj hj2 => ?_⟩
    obtain ⟨k', s', v', m', a', l', c', g1, g2⟩ := readsL_get ts 0 j ts[j] hL (List.getElem?_eq_getElem hj)
    obtain ⟨k3, s3, v3, m3, a3, l3, c3, g3, g4⟩ := readsL_get ts2 0 j ts2[j] hL2 (List.getElem?_eq_getElem hj2)
    rw [Nat.zero_add] at g1 g3
    have hd : SizeOf.sizeOf ts[j] < SizeOf.sizeOf ts := List.sizeOf_lt_of_mem (List.getElem_mem hj)
    exact ⟨k', s', v', m', a', l', c', g1, k3, s3, v3, m3, a3, l3, c3, g3, esameT_all ts[j] ts2[j] _ _ g2 g4⟩
  termination_by t => SizeOf.sizeOf t
  decreasing_by
    simp
    omega
end Go.Proofs.Ytkhbmamgfkpdbaa

/-
  The document's Same of two nodes, told.
-/
import Derived.Test.YtkhbmamgfkpdbaaTreeW
import Derived.Deep.RegionWith
namespace Go.Proofs.Ytkhbmamgfkpdbaa
open Go.ChangeShapes Go.WideShapes Go.ChangeAt Go.RowKit
set_option linter.unusedVariables false
mutual
def Tr.same : Tr → Tr → Bool
  | .mk k s v m ts, .mk k' s' v' m' ts' => (k == k') && (s.toList == s'.toList) && (v == v') && (m == m') && Tr.sameL ts ts'
def Tr.sameL : List Tr → List Tr → Bool
  | [], [] => true
  | t :: ts, t' :: ts' => t.same t' && Tr.sameL ts ts'
  | _, _ => false
end
theorem sameL_len : ∀ (ts ts' : List Tr), Tr.sameL ts ts' = true → ts.length = ts'.length
  | [], [], _ => rfl
  | [], _ :: _, h => by simp [Tr.sameL] at h
  | _ :: _, [], h => by simp [Tr.sameL] at h
  | t :: ts, t' :: ts', h => by
    simp only [Tr.sameL, Bool.and_eq_true] at h
    simp [sameL_len ts ts' h.2]
theorem sameL_drop : ∀ (ts ts' : List Tr) (j : Nat) (h : j < ts.length) (h' : j < ts'.length), Tr.sameL (ts.drop j) (ts'.drop j) = (ts[j].same ts'[j] && Tr.sameL (ts.drop (j + 1)) (ts'.drop (j + 1))) := by
  intro ts ts' j h h'
  rw [List.drop_eq_getElem_cons h, List.drop_eq_getElem_cons h']
  conv => lhs; unfold Tr.sameL
/-- a node's copy, at the beginning of a block -/
structure CellsB (W : World) (b : Nat) (k : Int) (s : ByteArray) (v : Int) (m : Bool) (a : Option Addr) (l c : Nat) : Prop where
  e0 : W.cell? ⟨b, 0, none⟩ = some (.int .i64 k)
  e1 : W.cell? ⟨b, 1, none⟩ = some (.string s)
  e2 : W.cell? ⟨b, 2, none⟩ = some (.int .u32 v)
  e3 : W.cell? ⟨b, 3, none⟩ = some (.bool m)
  e4 : W.cell? ⟨b, 4, none⟩ = some (.slice a l c)
  lt : b < W.heap.size
theorem CellsB.next {W V : World} {b : Nat} {k : Int} {s : ByteArray} {v : Int} {m : Bool} {a : Option Addr} {l c : Nat} (h : CellsB W b k s v m a l c) (hb : Below W.heap.size W V) : CellsB V b k s v m a l c :=
  have l := h.lt
  ⟨by rw [hb.cell l]; exact h.e0, by rw [hb.cell l]; exact h.e1, by rw [hb.cell l]; exact h.e2, by rw [hb.cell l]; exact h.e3, by rw [hb.cell l]; exact h.e4, Nat.lt_of_lt_of_le l hb.size⟩
theorem CellsB.new (V : World) (k : Int) (s : ByteArray) (v : Int) (m : Bool) (a : Option Addr) (l c : Nat) (t : TypeId) {b : Nat} (hb : V.heap.size = b) : CellsB (V.alloc (.cells #[.int .i64 k, .string s, .int .u32 v, .bool m, .slice a l c] t)) b k s v m a l c := by
  subst hb
  exact ⟨by rw [World.cell?_alloc_new V _ _ _]; rfl, by rw [World.cell?_alloc_new V _ _ _]; rfl, by rw [World.cell?_alloc_new V _ _ _]; rfl, by rw [World.cell?_alloc_new V _ _ _]; rfl, by rw [World.cell?_alloc_new V _ _ _]; rfl, by simp⟩
def SameT (w : World) (t t' : Tr) (u u' : Value) : Prop := ∀ W, Below w.heap.size w W → Calls Try.prog 15 #[u, u'] W fun e W' => e = .returned (.bool (t.same t')) ∧ Below W.heap.size W W'
section
variable {w0 : World} {k : Int} {s : ByteArray} {v : Int} {m : Bool} {a : Option Addr} {len cap : Nat} {ts : List Tr} {k2 : Int} {s2 : ByteArray} {v2 : Int} {m2 : Bool} {a2 : Option Addr} {len2 cap2 : Nat} {ts2 : List Tr}
set_option maxHeartbeats 4000000 in
theorem sameT_one (hl : len ≤ maxLen) (hl2 : len2 ≤ maxLen) (ht : ts.length = len) (ht2 : ts2.length = len2)
    (hk : 0 < len → len = len2 → ∃ x y, a = some x ∧ a2 = some y ∧ x.block < w0.heap.size ∧ y.block < w0.heap.size ∧ ∀ j (h : j < ts.length) (h' : j < ts2.length), KidIs w0 x j (fun u => KidIs w0 y j (SameT w0 ts[j] ts2[j] u))) : SameT w0 (.mk k s v m ts) (.mk k2 s2 v2 m2 ts2) (nd k s v m a len cap) (nd k2 s2 v2 m2 a2 len2 cap2) := by
  intro w hw
  have HB : Hid (Tr.same (.mk k s v m ts) (.mk k2 s2 v2 m2 ts2) = ((k == k2) && (s.toList == s2.toList) && (v == v2) && (m == m2) && Tr.sameL ts ts2)) := Lib.hid (by unfold Tr.same; rfl)
  generalize Tr.same (.mk k s v m ts) (.mk k2 s2 v2 m2 ts2) = R at *
  have HT := Lib.hid ht
  have HT2 := Lib.hid ht2
  have HK := Lib.hid hk
  have HC := Lib.hid ((CellsB.new w k s v m a len cap 26 rfl).next (below1 _ (.cells #[.int .i64 k2, .string s2, .int .u32 v2, .bool m2, .slice a2 len2 cap2] 26)))
  have HD := Lib.hid (CellsB.new (w.alloc (.cells #[.int .i64 k, .string s, .int .u32 v, .bool m, .slice a len cap] 26)) k2 s2 v2 m2 a2 len2 cap2 26 (b := w.heap.size + 1) (by simp))
  have HL := Lib.hid (((below1 w (.cells #[.int .i64 k, .string s, .int .u32 v, .bool m, .slice a len cap] 26)).alloc (below1 w _).size (.cells #[.int .i64 k2, .string s2, .int .u32 v2, .bool m2, .slice a2 len2 cap2] 26)))
  clear ht ht2 hk
  unfold maxLen at hl hl2
  unfold nd at *
  by_cases hd : k = k2 ∧ s.toList = s2.toList ∧ v = v2 ∧ m = m2 ∧ len = len2
  · obtain ⟨rfl, hs, rfl, rfl, rfl⟩ := hd
    have hss : (s.toList == s2.toList) = true := by simp [hs]
    go_enter Try.func15, Try.ntmps15
    go_wp2
    have HBB : Hid (R = Tr.sameL ts ts2) := Lib.hid (by rw [HB.out]; simp [hs])
    generalize (w.alloc (.cells #[.int .i64 k, .string s, .int .u32 v, .bool m, .slice a len cap] 26)).alloc (.cells #[.int .i64 k, .string s2, .int .u32 v, .bool m, .slice a2 len cap2] 26) = V at *
    go_loopw [5] (fun i wr => ∃ j : Nat, j ≤ len ∧ i = .int .i64 j ∧ Hid (R = Tr.sameL (ts.drop j) (ts2.drop j)) ∧ Hid (Below w.heap.size w wr) ∧ Hid (CellsB wr w.heap.size k s v m a len cap) ∧ Hid (CellsB wr (w.heap.size + 1) k s2 v m a2 len cap2)) (fun i _ => len - (intOf i).toNat)
    case atStart => exact ⟨0, Nat.zero_le _, rfl, Lib.hid (by rw [HBB.out, List.drop_zero, List.drop_zero]), HL, HC, HD⟩
    case round =>
      obtain ⟨j, hj, rfl, HE, HLr, HCr, HDr⟩ := hrel
      clear HL HC HD
      obtain ⟨c0, c1, c2, c3, c4, -⟩ := HCr.out
      obtain ⟨d0, d1, d2, d3, d4, -⟩ := HDr.out
      by_cases hlt : j < len
      · have hj1 : j < ts.length := by rw [HT.out]; exact hlt
        have hj2 : j < ts2.length := by rw [HT2.out]; exact hlt
        obtain ⟨⟨b, o, x⟩, ⟨b', o', y⟩, rfl, rfl, hb, hb', hKK⟩ := HK.out (by omega) (by first | rfl | trivial)
        obtain ⟨k', s', v', m', a', l', c', hkid, k3, s3, v3, m3, a3, l3, c3', hkid2, hex⟩ := hKK j hj1 hj2
        replace HLr := Lib.hid HLr.out.drew
        replace HCr := Lib.hid (HCr.out.next (Below.refl _ _).drew)
        replace HDr := Lib.hid (HDr.out.next (Below.refl _ _).drew)
        have hwr : Below w0.heap.size w0 wr.drew := hw.trans (HLr.out.mono hw.size)
        have c4' := HCr.out.e4
        have d4' := HDr.out.e4
        obtain ⟨g0, g1, g2, g3, g4⟩ := (hkid.below hb hwr).at
        obtain ⟨i0, i1, i2, i3, i4⟩ := (hkid2.below hb' hwr).at
        have HX := Lib.hid (hex wr.drew hwr)
        have HE2 := Lib.hid (HE.out.trans (sameL_drop ts ts2 j hj1 hj2))
        clear hkid hkid2 hex hwr hKK
        generalize ts[j].same ts2[j] = q at *
        unfold nd at *
        cases q with
        | true =>
          go_wp2_with fail
          go_region_with (go_at_call 15; refine HX.out.mono ?_; rintro e w2 ⟨rfl, hb2⟩; have HN := Lib.hid (HLr.out.trans (hb2.mono HLr.out.size)); have HN1 := Lib.hid (HCr.out.next hb2); have HN2 := Lib.hid (HDr.out.next hb2); clear hb2)
          all_goals
            go_wp2_with fail
            exact ⟨⟨j + 1, by omega, by simp, Lib.hid (by rw [HE2.out]; rfl), HN, HN1, HN2⟩, by simp [intOf]; omega⟩
        | false =>
          go_wp2_with fail
          go_region_with (go_at_call 15; refine HX.out.mono ?_; rintro e w2 ⟨rfl, hb2⟩; have HN := Lib.hid (HLr.out.trans (hb2.mono HLr.out.size)); clear hb2)
          all_goals
            go_wp2_with fail
            go_ret
            exact ⟨ret_bool (by rw [HE2.out]; rfl), HN.out⟩
      · obtain rfl : j = len := by omega
        have HE3 : Hid (R = true) := Lib.hid (by rw [HE.out, List.drop_of_length_le (by rw [HT.out]; exact Nat.le_refl _), List.drop_of_length_le (by rw [HT2.out]; exact Nat.le_refl _)]; unfold Tr.sameL; rfl)
        go_wp2_with fail
        go_ret
        exact ⟨ret_bool HE3.out.symm, HLr.out⟩
  · have HN : Hid (R = false) := Lib.hid (by
      rw [HB.out]
      cases hq : (k == k2 && s.toList == s2.toList && v == v2 && m == m2 && Tr.sameL ts ts2) with
      | false => rfl
      | true =>
        exfalso
        simp only [Bool.and_eq_true, beq_iff_eq] at hq
        have := sameL_len ts ts2 hq.2
        rw [HT.out, HT2.out] at this
        exact hd ⟨hq.1.1.1.1, hq.1.1.1.2, hq.1.1.2, hq.1.2, this⟩)
    go_enter Try.func15, Try.ntmps15
    go_wp2
    all_goals
      try (exfalso; simp_all; omega)
    all_goals
      go_ret
      exact ⟨ret_bool HN.out.symm, (below1 _ _).alloc (below1 _ _).size _⟩
end
theorem sameT_all {w0 : World} : ∀ (t t' : Tr) (u u' : Value), Reads w0 t u → Reads w0 t' u' → SameT w0 t t' u u'
  | .mk k s v m ts, .mk k2 s2 v2 m2 ts2, u, u2, h, h2 => by
    unfold Reads at h h2
    obtain ⟨a, len, cap, rfl, hs, _, _, ht, hl, hc, hk⟩ := h
    obtain ⟨a2, len2, cap2, rfl, hs2, _, _, ht2, hl2, hc2, hk2⟩ := h2
    refine sameT_one (by omega) (by omega) ht ht2 fun h0 he => ?_
    obtain ⟨x, hx, hb, hL⟩ := hk h0
    obtain ⟨y, hy, hb2, hL2⟩ := hk2 (by omega)
    refine ⟨x, y, hx, hy, hb, hb2, fun j hj hj2 => ?_⟩
    obtain ⟨k', s', v', m', a', l', c', g1, g2⟩ := readsL_get ts 0 j ts[j] hL (List.getElem?_eq_getElem hj)
    obtain ⟨k3, s3, v3, m3, a3, l3, c3, g3, g4⟩ := readsL_get ts2 0 j ts2[j] hL2 (List.getElem?_eq_getElem hj2)
    rw [Nat.zero_add] at g1 g3
    have hd : SizeOf.sizeOf ts[j] < SizeOf.sizeOf ts := List.sizeOf_lt_of_mem (List.getElem_mem hj)
    exact ⟨k', s', v', m', a', l', c', g1, k3, s3, v3, m3, a3, l3, c3, g3, sameT_all ts[j] ts2[j] _ _ g2 g4⟩
  termination_by t => SizeOf.sizeOf t
  decreasing_by
    simp
    omega
end Go.Proofs.Ytkhbmamgfkpdbaa

/-
  tree.Copy of a node, told: the same tree, each row in a new block of its own.
-/
import Derived.Test.YtkhbmamgfkpdbaaTreeO
import Derived.Test.YtkhbmamgfkpdbaaTreeX
namespace Go.Proofs.Ytkhbmamgfkpdbaa
open Go.ChangeShapes Go.WideShapes Go.ChangeAt Go.RowKit
set_option linter.unusedVariables false
def CopyT (w : World) (t : Tr) (u : Value) : Prop := ∀ W, Below w.heap.size w W → t.count ≤ 100000 → Calls Try.prog 17 #[u] W fun e W' => ∃ k s v m a l c, e = .returned (nd k s v m a l c) ∧ Below W.heap.size W W' ∧ ROwn W' (fun b => W.heap.size ≤ b) t (nd k s v m a l c)
theorem CopyT.call {w W : World} {t : Tr} {u : Value} (h : CopyT w t u) (hb : Below w.heap.size w W) (h1 : t.count ≤ 100000) : Calls Try.prog 17 #[u] W fun e W' => ∃ k s v m a l c, e = .returned (nd k s v m a l c) ∧ Below W.heap.size W W' ∧ ROwn W' (fun b => W.heap.size ≤ b) t (nd k s v m a l c) := h W hb h1
/-- where a copy stands, so many kids on -/
structure CopyAt (w W : World) (k : Int) (s : ByteArray) (v : Int) (m : Bool) (ts : List Tr) (j : Nat) (a : Option Addr) (cap : Nat) (xs : List Value) : Prop where
  bel : Below w.heap.size w W
  hn : W.heap[w.heap.size]? = some (.cells #[.int .i64 k, .string s, .int .u32 v, .bool m, .slice a j cap] 26 (0, 0))
  hr : W.heap[w.heap.size + 1]? = some (.cells #[.int .i64 0, .string ⟨#[]⟩, .int .u32 0, .bool false, .slice none 0 0] 26 (0, 0))
  own : W.ownsRow (w.heap.size + 2) 26 5 (.slice a j cap) j xs
  kids : ∃ F : Nat → Nat → Prop, (∀ i c, F i c → w.heap.size + 2 ≤ c ∧ some c ≠ (Value.slice a j cap).ownBlock ∧ c < W.heap.size) ∧ (∀ i i' c, F i c → F i' c → i = i') ∧ ROwnL W F (ts.take j) xs 0
theorem lt_of_block {W : World} {b : Nat} {o : Obj} (h : W.heap[b]? = some o) : b < W.heap.size := (Array.getElem?_eq_some_iff.1 h).1
theorem set_block {w : World} {b i : Nat} {cs : Array Value} {u : Value} {t : TypeId} (h : w.heap[b]? = some (.cells cs t (0, 0))) : (w.setCell ⟨b, i, none⟩ u).heap[b]? = some (.cells (cs.setIfInBounds i u) t (0, 0)) := by
  have hlt := lt_of_block h
  have h' : w.heap[b] = .cells cs t (0, 0) := by simpa [Array.getElem?_eq_getElem hlt] using h
  show (w.heap.modify b _)[b]? = _
  rw [Array.getElem?_eq_getElem (by simpa using hlt), Array.getElem_modify_self, h']
  rfl
/-- five cells written, one behind the other -/
theorem five_put {w : World} {b : Nat} {x0 x1 x2 x3 x4 y0 y1 y2 y3 y4 : Value} {t : TypeId} (h : w.heap[b]? = some (.cells #[x0, x1, x2, x3, x4] t (0, 0))) :
    (((((w.setCell ⟨b, 0, none⟩ y0).setCell ⟨b, 1, none⟩ y1).setCell ⟨b, 2, none⟩ y2).setCell ⟨b, 3, none⟩ y3).setCell ⟨b, 4, none⟩ y4).heap[b]? = some (.cells #[y0, y1, y2, y3, y4] t (0, 0)) :=
  set_block (set_block (set_block (set_block (set_block h))))
theorem five_far {w : World} {b c : Nat} {y0 y1 y2 y3 y4 : Value} (h : c ≠ b) :
    (((((w.setCell ⟨b, 0, none⟩ y0).setCell ⟨b, 1, none⟩ y1).setCell ⟨b, 2, none⟩ y2).setCell ⟨b, 3, none⟩ y3).setCell ⟨b, 4, none⟩ y4).heap[c]? = w.heap[c]? := by
  rw [Below.heap_setCell _ _ _ _ (by exact h), Below.heap_setCell _ _ _ _ (by exact h), Below.heap_setCell _ _ _ _ (by exact h), Below.heap_setCell _ _ _ _ (by exact h), Below.heap_setCell _ _ _ _ (by exact h)]
theorem five_below {n : Nat} {a w : World} {b : Nat} {y0 y1 y2 y3 y4 : Value} (h : Below n a w) (hb : n ≤ b) :
    Below n a (((((w.setCell ⟨b, 0, none⟩ y0).setCell ⟨b, 1, none⟩ y1).setCell ⟨b, 2, none⟩ y2).setCell ⟨b, 3, none⟩ y3).setCell ⟨b, 4, none⟩ y4) :=
  Below.setCell (p := ⟨b, 4, none⟩) (Below.setCell (p := ⟨b, 3, none⟩) (Below.setCell (p := ⟨b, 2, none⟩) (Below.setCell (p := ⟨b, 1, none⟩) (Below.setCell (p := ⟨b, 0, none⟩) h hb _) hb _) hb _) hb _) hb _
theorem five_setCell {w : World} {b : Nat} {x0 x1 x2 x3 x4 u : Value} {t : TypeId} (h : w.heap[b]? = some (.cells #[x0, x1, x2, x3, x4] t (0, 0))) : (w.setCell ⟨b, 4, none⟩ u).heap[b]? = some (.cells #[x0, x1, x2, x3, u] t (0, 0)) := by
  have hlt := lt_of_block h
  have h' : w.heap[b] = .cells #[x0, x1, x2, x3, x4] t (0, 0) := by simpa [Array.getElem?_eq_getElem hlt] using h
  show (w.heap.modify b _)[b]? = _
  rw [Array.getElem?_eq_getElem (by simpa using hlt), Array.getElem_modify_self, h']
  rfl
theorem CopyAt.push {w W X Y : World} {k : Int} {s : ByteArray} {v : Int} {m : Bool} {ts : List Tr} {j : Nat} {a : Option Addr} {cap : Nat} {xs : List Value} (h : CopyAt w W k s v m ts j a cap xs)
    (hj : j < ts.length) {k' : Int} {s' : ByteArray} {v' : Int} {m' : Bool} {a' : Option Addr} {l' c' : Nat} (hX : Below W.heap.size W X) (hk : ROwn X (fun b => W.heap.size ≤ b) ts[j] (nd k' s' v' m' a' l' c'))
    {g cap1 : Nat} (ho : Y.ownsRow (w.heap.size + 2) 26 5 (.slice (some ⟨g, 0, none⟩) (j + 1) cap1) (j + 1) (xs ++ [.int .i64 k', .string s', .int .u32 v', .bool m', .slice a' l' c'])) (hgr : X.grownBy Y (Value.slice a j cap).ownBlock)
    (hat : (Value.slice a j cap).ownBlock = some g ∨ g = X.heap.size) :
    CopyAt w (Y.setCell ⟨w.heap.size, 4, none⟩ (.slice (some ⟨g, 0, none⟩) (j + 1) cap1)) k s v m ts (j + 1) (some ⟨g, 0, none⟩) cap1 (xs ++ [.int .i64 k', .string s', .int .u32 v', .bool m', .slice a' l' c']) := by
  have l1 := lt_of_block h.hn
  have l2 := lt_of_block h.hr
  have lX := hX.size
  have hrow : ∀ b, (Value.slice a j cap).ownBlock = some b → w.heap.size + 2 ≤ b ∧ b < W.heap.size := h.own.lt
  have hne : ∀ b, b ≤ w.heap.size + 1 → some b ≠ (Value.slice a j cap).ownBlock := fun b hb e => by
    have := (hrow b e.symm).1
    omega
  have hold : ∀ b, b < X.heap.size → some b ≠ (Value.slice a j cap).ownBlock → b ≠ w.heap.size → (Y.setCell ⟨w.heap.size, 4, none⟩ (.slice (some ⟨g, 0, none⟩) (j + 1) cap1)).heap[b]? = X.heap[b]? := fun b hb hn hw => by
    rw [Below.heap_setCell _ _ _ _ (by exact hw)]
    exact hgr.block b hb hn
  have hlt : ∀ b, (Value.slice (some (⟨g, 0, none⟩ : Addr)) (j + 1) cap1).ownBlock = some b → w.heap.size + 2 ≤ b ∧ b < Y.heap.size := ho.lt
  have hg := hlt g rfl
  refine ⟨?_, ?_, ?_, ?_, ?_⟩
  · refine Below.setCell (p := ⟨w.heap.size, 4, none⟩) ?_ (Nat.le_refl _) _
    exact (h.bel.trans (hX.mono h.bel.size)).grown hgr (by have := h.bel.size; omega) fun b hb => by have := (hrow b hb).1; omega
  · have e : Y.heap[w.heap.size]? = some (.cells #[.int .i64 k, .string s, .int .u32 v, .bool m, .slice a j cap] 26 (0, 0)) := by
      rw [hgr.block _ (by omega) (hne _ (by omega)), hX.block _ l1]
      exact h.hn
    exact five_setCell e
  · rw [hold _ (by omega) (hne _ (by omega)) (by omega), hX.block _ l2]
    exact h.hr
  · exact ownsRow_keep ho fun b hb => by rw [Below.heap_setCell _ _ _ _ (by have := (hlt b hb).1; simp; omega)]
  · obtain ⟨F, hF, hD, hL⟩ := h.kids
    have hsz : (Y.setCell ⟨w.heap.size, 4, none⟩ (.slice (some ⟨g, 0, none⟩) (j + 1) cap1)).heap.size = Y.heap.size := by simp [World.setCell]
    have lY := hgr.size
    have hgX : (∃ q, (Value.slice a j cap).ownBlock = some q ∧ q = g) ∨ g = X.heap.size := by
      rcases hat with e | e
      · exact .inl ⟨g, e, rfl⟩
      · exact .inr e
    refine ⟨fun i c => (i < j ∧ F i c) ∨ (i = j ∧ W.heap.size ≤ c ∧ c < X.heap.size), fun i c hc => ?_, fun i i' c hi hi' => ?_, rownL_of0 fun i t hi => ?_⟩
    · rcases hc with ⟨hij, hc⟩ | ⟨-, f1, f2⟩
      · obtain ⟨f1, f2, f3⟩ := hF i c hc
        refine ⟨f1, fun e => ?_, by omega⟩
        have e : c = g := by simpa [Value.ownBlock] using e
        rcases hgX with ⟨q, e2, e3⟩ | e2
        · exact f2 (by rw [e2, e3, e])
        · omega
      · refine ⟨by omega, fun e => ?_, by omega⟩
        have e : c = g := by simpa [Value.ownBlock] using e
        rcases hgX with ⟨q, e2, e3⟩ | e2
        · have := (hrow q e2).2
          omega
        · omega
    · rcases hi with ⟨hij, hi⟩ | ⟨e, f1, f2⟩
      · rcases hi' with ⟨hij', hi'⟩ | ⟨e', f1', f2'⟩
        · exact hD i i' c hi hi'
        · have := (hF i c hi).2.2
          omega
      · rcases hi' with ⟨hij', hi'⟩ | ⟨e', f1', f2'⟩
        · have := (hF i' c hi').2.2
          omega
        · omega
    · by_cases hij : i < j
      · have hi' : (ts.take j)[i]? = some t := by
          rw [List.getElem?_take] at hi ⊢
          rw [if_pos (by omega)] at hi
          rw [if_pos hij]
          exact hi
        refine ((rownL_get0 hL hi').imp fun u hu => ROwn.keep t hu fun b hb hS => ?_).left
        obtain ⟨f1, f2, f3⟩ := hF i b hS
        exact ⟨by rw [hold b (by omega) f2 (by omega), hX.block b hb], .inl ⟨hij, hS⟩⟩
      · have : i = j := by
          rw [List.getElem?_take] at hi
          split at hi
          · omega
          · cases hi
        subst this
        rw [List.getElem?_take, if_pos (by omega), List.getElem?_eq_getElem hj] at hi
        cases hi
        refine KidX.last h.own.1 (ROwn.keep _ hk fun b hb hS => ?_)
        have nr : some b ≠ (Value.slice a i cap).ownBlock := fun e => by have := (hrow b e.symm).2; omega
        exact ⟨hold b hb nr (by omega), .inr ⟨rfl, hS, hb⟩⟩
theorem CopyAt.cells {w W : World} {k : Int} {s : ByteArray} {v : Int} {m : Bool} {ts : List Tr} {j : Nat} {a : Option Addr} {cap : Nat} {xs : List Value} (h : CopyAt w W k s v m ts j a cap xs) :
    W.cell? ⟨w.heap.size, 4, none⟩ = some (.slice a j cap) ∧ W.frozen? ⟨w.heap.size, 4, none⟩ = false := by
  have := h.hn
  constructor
  · simp [World.cell?, this]
  · simp [World.frozen?, this]
theorem CopyAt.below {w W X : World} {k : Int} {s : ByteArray} {v : Int} {m : Bool} {ts : List Tr} {j : Nat} {a : Option Addr} {cap : Nat} {xs : List Value} (h : CopyAt w W k s v m ts j a cap xs) (hX : Below W.heap.size W X) : CopyAt w X k s v m ts j a cap xs := by
  refine ⟨h.bel.trans (hX.mono h.bel.size), by rw [hX.block _ (lt_of_block h.hn)]; exact h.hn, by rw [hX.block _ (lt_of_block h.hr)]; exact h.hr, ownsRow_keep h.own fun b hb => hX.block b (h.own.lt b hb).2, ?_⟩
  obtain ⟨F, hF, hD, hL⟩ := h.kids
  exact ⟨F, fun i c hc => ⟨(hF i c hc).1, (hF i c hc).2.1, Nat.lt_of_lt_of_le (hF i c hc).2.2 hX.size⟩, hD, rownL_of0 fun i t hi => (rownL_get0 hL hi).imp fun u hu => ROwn.keep t hu fun b hb hS => ⟨hX.block b hb, hS⟩⟩
theorem CopyAt.start (w : World) (k : Int) (s : ByteArray) (v : Int) (m : Bool) (ts : List Tr) : CopyAt w ((w.alloc (.cells #[.int .i64 k, .string s, .int .u32 v, .bool m, .slice none 0 0] 26)).alloc (.cells #[.int .i64 0, .string ⟨#[]⟩, .int .u32 0, .bool false, .slice none 0 0] 26)) k s v m ts 0 none 0 [] := by
  refine ⟨(below1 w _).alloc (below1 w _).size _, ?_, ?_, World.ownsRow_nil _ _ _ _, fun _ _ => False, fun _ _ h => h.elim, fun _ _ _ h => h.elim, by simp [ROwnL]⟩
  · rw [Below.heap_alloc _ _ _ (by simp)]
    exact heap_alloc_new w _
  · have := heap_alloc_new (w.alloc (.cells #[.int .i64 k, .string s, .int .u32 v, .bool m, .slice none 0 0] 26)) (.cells #[.int .i64 0, .string ⟨#[]⟩, .int .u32 0, .bool false, .slice none 0 0] 26)
    simpa using this
theorem CopyAt.far {w W X : World} {k : Int} {s : ByteArray} {v : Int} {m : Bool} {ts : List Tr} {j : Nat} {a : Option Addr} {cap : Nat} {xs : List Value} (h : CopyAt w W k s v m ts j a cap xs) (hg : W.grownBy X (Value.slice a j cap).ownBlock) : X.cell? ⟨w.heap.size, 4, none⟩ = some (.slice a j cap) ∧ X.frozen? ⟨w.heap.size, 4, none⟩ = false := by
  have l1 := lt_of_block h.hn
  have hne : some w.heap.size ≠ (Value.slice a j cap).ownBlock := fun e => by
    have := (h.own.lt _ e.symm).1
    omega
  rw [hg.cell_far _ l1 hne, hg.frozen_far _ l1 hne]
  exact h.cells
theorem five_one (k : Int) (s : ByteArray) (v : Int) (m : Bool) (a : Option Addr) (l c : Nat) : ∀ u ∈ [Value.int .i64 k, .string s, .int .u32 v, .bool m, .slice a l c], u.oneCell' = true := by
  intro u hu
  simp at hu
  rcases hu with rfl | rfl | rfl | rfl | rfl <;> rfl
theorem infoN : (Try.prog.info? 26).map (fun i => (i.zero, i.size, i.bytes)) = some (some (.agg #[.int .i64 0, .string ⟨#[]⟩, .int .u32 0, .bool false, .slice none 0 0]), 5, 56) := by kernel_rfl
section
variable {w0 : World} {k : Int} {s : ByteArray} {v : Int} {m : Bool} {a : Option Addr} {len cap : Nat} {ts : List Tr}
set_option maxHeartbeats 4000000 in
theorem copyT_one (hs : s.size ≤ maxLen) (h1 : (Lit.int .i64 k).wf = true) (h2 : (Lit.int .u32 v).wf = true) (hl : len ≤ maxLen) (ht : ts.length = len) (hk : 0 < len → ∃ x, a = some x ∧ x.block < w0.heap.size ∧ ∀ j (h : j < ts.length), KidIs w0 x j (CopyT w0 ts[j])) : CopyT w0 (.mk k s v m ts) (nd k s v m a len cap) := by
  intro w hw hc
  have HK := Lib.hid hk
  have HT := Lib.hid ht
  have HB : Hid (Tr.count (.mk k s v m ts) = 1 + Tr.countL ts) := Lib.hid (by unfold Tr.count; rfl)
  have HC := Lib.hid hc
  clear hk ht hc
  unfold maxLen at hl
  unfold nd at *
  go_enter Try.func17, Try.ntmps17
  go_wp2_with fail
  have HI := Lib.hid (CopyAt.start w k s v m ts)
  generalize (w.alloc (.cells #[.int .i64 k, .string s, .int .u32 v, .bool m, .slice none 0 0] 26)).alloc (.cells #[.int .i64 0, .string ⟨#[]⟩, .int .u32 0, .bool false, .slice none 0 0] 26) = V at *
  obtain ⟨i0, hi, hz0, hz1, hz2⟩ : ∃ i, Try.prog.info? 26 = some i ∧ i.zero = some (.agg #[.int .i64 0, .string ⟨#[]⟩, .int .u32 0, .bool false, .slice none 0 0]) ∧ i.size = 5 ∧ i.bytes = 56 := by
    obtain ⟨i, e1, e2⟩ := Option.map_eq_some_iff.1 infoN
    exact ⟨i, e1, (Prod.mk.inj e2).1, (Prod.mk.inj (Prod.mk.inj e2).2).1, (Prod.mk.inj (Prod.mk.inj e2).2).2⟩
  go_loopw [11] (fun i wr => ∃ (j : Nat) (a' : Option Addr) (cap' : Nat) (xs : List Value), j ≤ len ∧ i = .int .i64 j ∧ Hid (CopyAt w wr k s v m ts j a' cap' xs)) (fun i _ => len - (intOf i).toNat)
  case atStart => exact ⟨0, none, 0, [], Nat.zero_le _, rfl, HI⟩
  case round =>
    obtain ⟨j, a1, cap1, xs, hj, rfl, HR⟩ := hrel
    clear HI
    by_cases hlt : j < len
    · have hjt : j < ts.length := by rw [HT.out]; exact hlt
      obtain ⟨⟨b, o, x⟩, rfl, hb, hKK⟩ := HK.out (by omega)
      obtain ⟨k', s', v', m', a', l', c', hkid, hex⟩ := hKK j hjt
      have hwr := hw.trans (HR.out.bel.mono hw.size)
      obtain ⟨g0, g1, g2, g3, g4⟩ := (hkid.below hb hwr).at
      have HX := Lib.hid hex
      have h5 := take_succ_count hjt
      have h6 := take_le (ts := ts) (j := j + 1)
      have h8 := HB.out
      have h9 := HC.out
      have hcj : ts[j].count ≤ 100000 := by omega
      have hlen : len ≤ 100000 := by have := len_count ts; have := HT.out; omega
      clear hkid hex hKK h5 h6 h8 h9
      have HW := Lib.hid hwr
      clear hwr
      unfold nd at *
      go_wp2_with fail
      have bV : Below wr.heap.size wr (wr.alloc (.cells #[.int .i64 k', .string s', .int .u32 v', .bool m', .slice a' l' c'] 26)).drew := (below1 wr _).drew
      have HV := Lib.hid (HR.out.below bV)
      have HVV := Lib.hid bV
      have HWV := Lib.hid (HW.out.trans (bV.mono HW.out.size))
      have D := CellsB.new wr k' s' v' m' a' l' c' 26 rfl
      obtain ⟨d0, d1, d2, d3, d4, -⟩ := D
      clear bV
      clear HW g0 g1 g2 g3 g4
      generalize wr.alloc (.cells #[.int .i64 k', .string s', .int .u32 v', .bool m', .slice a' l' c'] 26) = V1 at *
      obtain ⟨c4, z4⟩ := HV.out.cells
      have e4 : V1.cell? ⟨w.heap.size, 4, none⟩ = some (.slice a1 j cap1) := c4
      have f4 : V1.frozen? ⟨w.heap.size, 4, none⟩ = false := z4
      go_region_law (first
        | (refine step_call rfl 17 _ _ rfl #[.agg #[.int .i64 k', .string s', .int .u32 v', .bool m', .slice a' l' c']] (by rfl) (by rfl) (CopyT.call HX.out HWV.out hcj) ?_; rintro e w2 ⟨k1, s1, v1, m1, a2, l1, c1, rfl, hb2, hro⟩; refine ⟨.agg #[.int .i64 k1, .string s1, .int .u32 v1, .bool m1, .slice a2 l1 c1], rfl, ?_⟩; have HV2 := Lib.hid (HV.out.below hb2); have HB2 := Lib.hid hb2; have HRO := Lib.hid hro; obtain ⟨c5, z5⟩ := HV2.out.cells; obtain ⟨c6, z6⟩ := (HV2.out.below (below1 w2 (.cells #[.int .i64 k1, .string s1, .int .u32 v1, .bool m1, .slice a2 l1 c1] 26))).cells; clear hb2 hro)
        | (refine step_append_lies _ (by rfl) _ _ _ (by rfl) (w.heap.size + 2) 26 i0 _ 5 56 Try.underlying24 hi hz0 hz1 hz2 rfl (by omega) (.slice a1 j cap1) j xs (by rfl) (HV2.out.below (below1 w2 _)).own ⟨w2.heap.size, 0, none⟩ 1 1 [.int .i64 k1, .string s1, .int .u32 v1, .bool m1, .slice a2 l1 c1] (by rfl) (by rfl) (World.news_of_block (cs := #[.int .i64 k1, .string s1, .int .u32 v1, .bool m1, .slice a2 l1 c1]) (t := 26) (fr := (0, 0)) (heap_alloc_new _ _)) (five_one _ _ _ _ _ _ _) (by omega) (by unfold maxLen; omega) (by omega) (by have := lt_of_block HV2.out.hr; simp; omega) _ rfl ?_; intro gg cap2 w1 hown1 hgrow hat hlt1; have HO1 := Lib.hid hown1; have HG1 := Lib.hid hgrow; have HA1 := Lib.hid hat; obtain ⟨C1, F1⟩ := (HV2.out.below (below1 w2 (.cells #[.int .i64 k1, .string s1, .int .u32 v1, .bool m1, .slice a2 l1 c1] 26))).far hgrow; clear hown1 hgrow hat hlt1))
      all_goals
        have HP := Lib.hid (HR.out.push hjt (X := w2.alloc (.cells #[.int .i64 k1, .string s1, .int .u32 v1, .bool m1, .slice a2 l1 c1] 26)) ((HVV.out.trans (HB2.out.mono HVV.out.size)).alloc (Nat.le_trans HVV.out.size HB2.out.size) _) (ROwn.keep _ HRO.out fun b hb hS => ⟨Below.heap_alloc _ _ _ hb, Nat.le_trans HVV.out.size hS⟩) HO1.out HG1.out HA1.out)
        clear HO1 HG1 HA1 C1 F1 c6 z6 c5 z5 c4 z4 e4 f4 d0 d1 d2 d3 d4 HV HVV HV2 HB2 HRO
        generalize w1.setCell ⟨w.heap.size, 4, none⟩ (.slice (some ⟨gg, 0, none⟩) (j + 1) cap2) = w3 at *
        go_wp2_with fail
        exact ⟨⟨j + 1, _, _, _, by omega, by simp, HP⟩, by simp [intOf]; omega⟩
    · obtain rfl : j = len := by omega
      have hn := HR.out.hn
      have hr := HR.out.hr
      have q0 : wr.cell? ⟨w.heap.size, 0, none⟩ = some (.int .i64 k) := by simp [World.cell?, hn]
      have q1 : wr.cell? ⟨w.heap.size, 1, none⟩ = some (.string s) := by simp [World.cell?, hn]
      have q2 : wr.cell? ⟨w.heap.size, 2, none⟩ = some (.int .u32 v) := by simp [World.cell?, hn]
      have q3 : wr.cell? ⟨w.heap.size, 3, none⟩ = some (.bool m) := by simp [World.cell?, hn]
      have q4 : wr.cell? ⟨w.heap.size, 4, none⟩ = some (.slice a1 j cap1) := by simp [World.cell?, hn]
      have r0 : wr.cell? ⟨w.heap.size + 1, 0, none⟩ = some (.int .i64 0) := by simp [World.cell?, hr]
      have r1 : wr.cell? ⟨w.heap.size + 1, 1, none⟩ = some (.string ⟨#[]⟩) := by simp [World.cell?, hr]
      have r2 : wr.cell? ⟨w.heap.size + 1, 2, none⟩ = some (.int .u32 0) := by simp [World.cell?, hr]
      have r3 : wr.cell? ⟨w.heap.size + 1, 3, none⟩ = some (.bool false) := by simp [World.cell?, hr]
      have r4 : wr.cell? ⟨w.heap.size + 1, 4, none⟩ = some (.slice none 0 0) := by simp [World.cell?, hr]
      have fz : ∀ o, wr.frozen? ⟨w.heap.size + 1, o, none⟩ = false := fun o => by simp [World.frozen?, hr]
      have f0 := fz 0
      have f1 := fz 1
      have f2 := fz 2
      have f3 := fz 3
      have f4 := fz 4
      clear hn hr fz
      go_wp2_with fail
      have HZ := HR.out
      have hz := five_put (y0 := .int .i64 k) (y1 := .string s) (y2 := .int .u32 v) (y3 := .bool m) (y4 := .slice a1 j cap1) HZ.hr
      have hbz := five_below (y0 := .int .i64 k) (y1 := .string s) (y2 := .int .u32 v) (y3 := .bool m) (y4 := .slice a1 j cap1) (b := w.heap.size + 1) HZ.bel (by omega)
      have hfz : ∀ c, c ≠ w.heap.size + 1 → _ := fun c hc => five_far (w := wr) (b := w.heap.size + 1) (c := c) (y0 := .int .i64 k) (y1 := .string s) (y2 := .int .u32 v) (y3 := .bool m) (y4 := .slice a1 j cap1) hc
      have hown : ROwn (((((wr.setCell ⟨w.heap.size + 1, 0, none⟩ (.int .i64 k)).setCell ⟨w.heap.size + 1, 1, none⟩ (.string s)).setCell ⟨w.heap.size + 1, 2, none⟩ (.int .u32 v)).setCell ⟨w.heap.size + 1, 3, none⟩ (.bool m)).setCell ⟨w.heap.size + 1, 4, none⟩ (.slice a1 j cap1)) (fun b => w.heap.size ≤ b) (.mk k s v m ts) (nd k s v m a1 j cap1) := by
        unfold ROwn
        obtain ⟨F, hF, hD, hL⟩ := HZ.kids
        refine ⟨a1, j, cap1, xs, F, rfl, hs, h1, h2, HT.out, ⟨HZ.own.1, ?_⟩, fun b hb => by have := (HZ.own.lt b hb).1; omega, fun i c hc => ⟨by have := (hF i c hc).1; omega, (hF i c hc).2.1⟩, hD, rownL_of0 fun i t hi => ?_⟩
        · rcases HZ.own.2 with hn | ⟨g, cap', cur, e, hb, hgg, rest⟩
          · exact .inl hn
          · exact .inr ⟨g, cap', cur, e, Nat.zero_le _, by rw [hfz g (by omega)]; exact hgg, rest⟩
        · rw [List.take_of_length_le (by rw [HT.out]; exact Nat.le_refl _)] at hL
          exact (rownL_get0 hL hi).imp fun u hu => ROwn.keep t hu fun b hb hS => ⟨hfz b (by have := (hF i b hS).1; omega), hS⟩
      exact bodyPost_ret (results_cell_row rfl _ _ (w.heap.size + 1) 26 #[.int .i64 k, .string s, .int .u32 v, .bool m, .slice a1 j cap1] (0, 0) _ rfl hz Try.underlying26 rfl (by rw [hi]; simp [hz1])) rfl ⟨k, s, v, m, a1, j, cap1, rfl, hbz, hown⟩
end
theorem copyT_all {w0 : World} : ∀ (t : Tr) (u : Value), Reads w0 t u → CopyT w0 t u
  | .mk k s v m ts, u, h => by
    unfold Reads at h
    obtain ⟨a, len, cap, rfl, hs, h1, h2, ht, hl, hc, hk⟩ := h
    refine copyT_one hs h1 h2 (by omega) ht fun h0 => ?_
    obtain ⟨x, hx, hb, hL⟩ := hk h0
    refine ⟨x, hx, hb, fun j hj => ?_⟩
    obtain ⟨k', s', v', m', a', l', c', g1, g2⟩ := readsL_get ts 0 j ts[j] hL (List.getElem?_eq_getElem hj)
    rw [Nat.zero_add] at g1
    have hd : SizeOf.sizeOf ts[j] < SizeOf.sizeOf ts := List.sizeOf_lt_of_mem (List.getElem_mem hj)
    exact ⟨k', s', v', m', a', l', c', g1, copyT_all ts[j] _ g2⟩
  termination_by t => SizeOf.sizeOf t
  decreasing_by
    simp
    omega
end Go.Proofs.Ytkhbmamgfkpdbaa

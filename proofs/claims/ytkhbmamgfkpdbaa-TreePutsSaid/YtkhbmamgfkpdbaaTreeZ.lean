/-
  The document's Flat of a node, told: all nodes, each ahead of those below it, and their depths.
-/
import Derived.Test.YtkhbmamgfkpdbaaTreeO
namespace Go.Proofs.Ytkhbmamgfkpdbaa
open Go.ChangeShapes Go.WideShapes Go.ChangeAt Go.RowKit
set_option linter.unusedVariables false
mutual
def Tr.flat : Tr → Int → List (Tr × Int)
  | .mk k s v m ts, d => (.mk k s v m ts, d) :: Tr.flatL ts (d + 1)
def Tr.flatL : List Tr → Int → List (Tr × Int)
  | [], _ => []
  | t :: ts, d => t.flat d ++ Tr.flatL ts d
end
mutual
theorem flat_len : ∀ (t : Tr) (d : Int), (t.flat d).length = t.count
  | .mk k s v m ts, d => by
    unfold Tr.flat Tr.count
    have := flatL_len ts (d + 1)
    simp [this]
    omega
theorem flatL_len : ∀ (ts : List Tr) (d : Int), (Tr.flatL ts d).length = Tr.countL ts
  | [], d => rfl
  | t :: ts, d => by
    unfold Tr.flatL Tr.countL
    rw [List.length_append, flat_len t d, flatL_len ts d]
end
theorem flatL_take {ts : List Tr} {j : Nat} (h : j < ts.length) (d : Int) : Tr.flatL (ts.take (j + 1)) d = Tr.flatL (ts.take j) d ++ ts[j].flat d := by
  induction ts generalizing j with
  | nil => simp at h
  | cons t ts ih =>
    cases j with
    | zero => simp [Tr.flatL]
    | succ j =>
      simp only [List.take_succ_cons, Tr.flatL, List.getElem_cons_succ]
      rw [ih (by simpa using h), List.append_assoc]
theorem count_pos : ∀ (t : Tr), 1 ≤ t.count
  | .mk k s v m ts => by unfold Tr.count; omega
/-- the cells of all nodes, and of their depths -/
structure FlatOK (w : World) (xs ys : List Value) (l : List (Tr × Int)) : Prop where
  lx : xs.length = l.length * 5
  ly : ys.length = l.length
  at_ : ∀ i t d, l[i]? = some (t, d) → KidX xs i (Reads w t) ∧ ys[i]? = some (.int .i64 d)
theorem KidX.right {xs ys : List Value} {n i : Nat} {P : Value → Prop} (hx : xs.length = n * 5) (h : KidX ys i P) : KidX (xs ++ ys) (n + i) P := by
  obtain ⟨k, s, v, m, a, l, c, h0, h1, h2, h3, h4, h5⟩ := h
  have go : ∀ {q r : Nat} {x : Value}, ys[q]? = some x → r = xs.length + q → (xs ++ ys)[r]? = some x := fun {q r x} h e => by
    subst e; rw [List.getElem?_append_right (by omega), Nat.add_sub_cancel_left]; exact h
  exact ⟨k, s, v, m, a, l, c, go h0 (by omega), go h1 (by omega), go h2 (by omega), go h3 (by omega), go h4 (by omega), h5⟩
theorem FlatOK.append {w : World} {xs ys xs' ys' : List Value} {l l' : List (Tr × Int)} (h : FlatOK w xs ys l) (h' : FlatOK w xs' ys' l') : FlatOK w (xs ++ xs') (ys ++ ys') (l ++ l') := by
  have e1 := h.lx
  have e2 := h.ly
  have e3 := h'.lx
  have e4 := h'.ly
  refine ⟨by simp; omega, by simp; omega, fun i t d hi => ?_⟩
  by_cases hl : i < l.length
  · rw [List.getElem?_append_left hl] at hi
    obtain ⟨g1, g2⟩ := h.at_ i t d hi
    exact ⟨g1.left, by rw [List.getElem?_append_left (by omega)]; exact g2⟩
  · rw [List.getElem?_append_right (by omega)] at hi
    obtain ⟨g1, g2⟩ := h'.at_ _ t d hi
    refine ⟨?_, by rw [List.getElem?_append_right (by omega), e2]; exact g2⟩
    have := g1.right e1
    rw [show l.length + (i - l.length) = i by omega] at this
    exact this
theorem FlatOK.one {w : World} {t : Tr} {k : Int} {s : ByteArray} {v : Int} {m : Bool} {a : Option Addr} {l c : Nat} (h : Reads w t (nd k s v m a l c)) (d : Int) : FlatOK w [.int .i64 k, .string s, .int .u32 v, .bool m, .slice a l c] [.int .i64 d] [(t, d)] := by
  refine ⟨rfl, rfl, fun i t' d' hi => ?_⟩
  cases i with
  | zero =>
    simp at hi
    obtain ⟨rfl, rfl⟩ := hi
    exact ⟨⟨k, s, v, m, a, l, c, rfl, rfl, rfl, rfl, rfl, h⟩, rfl⟩
  | succ i => simp at hi
def FlatT (w : World) (t : Tr) (u : Value) : Prop := ∀ W, Below w.heap.size w W → ∀ d : Int, 0 ≤ d → d + t.count ≤ 100000 → Calls Try.prog 10 #[u, .int .i64 d] W fun e W' => ∃ g1 c1 g2 c2 xs ys, e = .returned (.tuple #[.slice (some ⟨g1, 0, none⟩) t.count c1, .slice (some ⟨g2, 0, none⟩) t.count c2]) ∧ Below W.heap.size W W' ∧ g1 ≠ g2 ∧ W'.ownsRow W.heap.size 26 5 (.slice (some ⟨g1, 0, none⟩) t.count c1) t.count xs ∧ W'.ownsRow W.heap.size 3 1 (.slice (some ⟨g2, 0, none⟩) t.count c2) t.count ys ∧ FlatOK w xs ys (t.flat d)
theorem FlatT.call {w W : World} {t : Tr} {u : Value} (h : FlatT w t u) (hb : Below w.heap.size w W) (d : Int) (h0 : 0 ≤ d) (h1 : d + t.count ≤ 100000) : Calls Try.prog 10 #[u, .int .i64 d] W fun e W' => ∃ g1 c1 g2 c2 xs ys, e = .returned (.tuple #[.slice (some ⟨g1, 0, none⟩) t.count c1, .slice (some ⟨g2, 0, none⟩) t.count c2]) ∧ Below W.heap.size W W' ∧ g1 ≠ g2 ∧ W'.ownsRow W.heap.size 26 5 (.slice (some ⟨g1, 0, none⟩) t.count c1) t.count xs ∧ W'.ownsRow W.heap.size 3 1 (.slice (some ⟨g2, 0, none⟩) t.count c2) t.count ys ∧ FlatOK w xs ys (t.flat d) := h W hb d h0 h1
theorem infoN' : (Try.prog.info? 26).map (fun i => (i.zero, i.size, i.bytes)) = some (some (.agg #[.int .i64 0, .string ⟨#[]⟩, .int .u32 0, .bool false, .slice none 0 0]), 5, 56) := by kernel_rfl
theorem infoI : (Try.prog.info? 3).map (fun i => (i.zero, i.size, i.bytes)) = some (some (.int .i64 0), 1, 8) := by kernel_rfl
/-- where Flat stands -/
structure FlatAt (w0 w W : World) (k : Int) (s : ByteArray) (v : Int) (m : Bool) (a : Option Addr) (len cap : Nat) (g1 c1 g2 c2 n : Nat) (xs ys : List Value) (l : List (Tr × Int)) : Prop where
  own : Own w W k s v m a len cap
  ne : g1 ≠ g2
  r1 : W.ownsRow (w.heap.size + 1) 26 5 (.slice (some ⟨g1, 0, none⟩) n c1) n xs
  r2 : W.ownsRow (w.heap.size + 1) 3 1 (.slice (some ⟨g2, 0, none⟩) n c2) n ys
  ok : FlatOK w0 xs ys l
theorem ownsRow_one (w : World) (base : Nat) (T : TypeId) (sz : Nat) (cur : Array Value) (hs : cur.size = sz) (hb : base ≤ w.heap.size) : (w.alloc (.cells cur T)).ownsRow base T sz (.slice (some ⟨w.heap.size, 0, none⟩) 1 1) 1 cur.toList :=
  ⟨by simp [hs], .inr ⟨w.heap.size, 1, cur, rfl, hb, heap_alloc_new w _, Nat.le_refl _, by decide, by omega, by rw [Nat.one_mul, ← hs]; exact List.take_of_length_le (by simp)⟩⟩
theorem FlatAt.start {w0 : World} (w : World) {k : Int} {s : ByteArray} {v : Int} {m : Bool} {a : Option Addr} {len cap : Nat} {d : Int} {l : List (Tr × Int)} (h : FlatOK w0 [.int .i64 k, .string s, .int .u32 v, .bool m, .slice a len cap] [.int .i64 d] l) :
    FlatAt w0 w (((w.alloc (.cells #[.int .i64 k, .string s, .int .u32 v, .bool m, .slice a len cap] 26)).alloc (.cells #[.int .i64 k, .string s, .int .u32 v, .bool m, .slice a len cap] 26)).alloc (.cells #[.int .i64 d] 3)) k s v m a len cap (w.heap.size + 1) 1 (w.heap.size + 1 + 1) 1 1 [.int .i64 k, .string s, .int .u32 v, .bool m, .slice a len cap] [.int .i64 d] l := by
  have r1 := ownsRow_one (w.alloc (.cells #[.int .i64 k, .string s, .int .u32 v, .bool m, .slice a len cap] 26)) (w.heap.size + 1) 26 5 #[.int .i64 k, .string s, .int .u32 v, .bool m, .slice a len cap] rfl (by simp)
  have r2 := ownsRow_one ((w.alloc (.cells #[.int .i64 k, .string s, .int .u32 v, .bool m, .slice a len cap] 26)).alloc (.cells #[.int .i64 k, .string s, .int .u32 v, .bool m, .slice a len cap] 26)) (w.heap.size + 1) 3 1 #[.int .i64 d] rfl (by simp)
  have e1 : (w.alloc (.cells #[.int .i64 k, .string s, .int .u32 v, .bool m, .slice a len cap] 26)).heap.size = w.heap.size + 1 := by simp
  have e2 : ((w.alloc (.cells #[.int .i64 k, .string s, .int .u32 v, .bool m, .slice a len cap] 26)).alloc (.cells #[.int .i64 k, .string s, .int .u32 v, .bool m, .slice a len cap] 26)).heap.size = w.heap.size + 1 + 1 := by simp
  rw [e1] at r1
  rw [e2] at r2
  exact ⟨((Own.start w k s v m a len cap).next (below1 _ _)).next (below1 _ _), by omega, r1.alloc _, r2, h⟩
theorem FlatOK.ones {w : World} {xs ys : List Value} {l : List (Tr × Int)} (h : FlatOK w xs ys l) : (∀ u ∈ xs, u.oneCell' = true) ∧ ∀ u ∈ ys, u.oneCell' = true := by
  have e1 := h.lx
  have e2 := h.ly
  constructor
  · intro u hu
    obtain ⟨q, hq, rfl⟩ := List.getElem_of_mem hu
    have hl : q / 5 < l.length := by omega
    obtain ⟨⟨k, s, v, m, a, c, c', h0, h1, h2, h3, h4, -⟩, -⟩ := h.at_ (q / 5) _ _ (List.getElem?_eq_getElem hl)
    have hr : q % 5 = 0 ∨ q % 5 = 1 ∨ q % 5 = 2 ∨ q % 5 = 3 ∨ q % 5 = 4 := by omega
    have go : ∀ {r : Nat} {x : Value}, xs[q / 5 * 5 + r]? = some x → q % 5 = r → x.oneCell' = true → xs[q].oneCell' = true := fun {r x} hx hr ho => by
      have : q / 5 * 5 + r = q := by omega
      rw [this, List.getElem?_eq_getElem hq] at hx
      cases hx
      exact ho
    rcases hr with hr | hr | hr | hr | hr
    · exact go (r := 0) h0 hr rfl
    · exact go h1 hr rfl
    · exact go h2 hr rfl
    · exact go h3 hr rfl
    · exact go h4 hr rfl
  · intro u hu
    obtain ⟨q, hq, rfl⟩ := List.getElem_of_mem hu
    have hl : q < l.length := by omega
    obtain ⟨-, h5⟩ := h.at_ q _ _ (List.getElem?_eq_getElem hl)
    rw [List.getElem?_eq_getElem hq] at h5
    rw [Option.some.inj h5]
    rfl
theorem FlatAt.below {w0 w W X : World} {k : Int} {s : ByteArray} {v : Int} {m : Bool} {a : Option Addr} {len cap g1 c1 g2 c2 n : Nat} {xs ys : List Value} {l : List (Tr × Int)} (h : FlatAt w0 w W k s v m a len cap g1 c1 g2 c2 n xs ys l) (hX : Below W.heap.size W X) : FlatAt w0 w X k s v m a len cap g1 c1 g2 c2 n xs ys l :=
  ⟨h.own.next hX, h.ne, ownsRow_keep h.r1 fun b hb => hX.block b (h.r1.lt b hb).2, ownsRow_keep h.r2 fun b hb => hX.block b (h.r2.lt b hb).2, h.ok⟩
theorem Own.grown {w W X : World} {k : Int} {s : ByteArray} {v : Int} {m : Bool} {a : Option Addr} {len cap : Nat} (h : Own w W k s v m a len cap) {r : Option Nat} (hg : W.grownBy X r) (hr : ∀ b, r = some b → w.heap.size + 1 ≤ b) : Own w X k s v m a len cap := by
  have hb : Below (w.heap.size + 1) W X := (Below.refl _ W).grown hg h.lt hr
  exact ⟨by rw [hb.cell (by simp)]; exact h.e0, by rw [hb.cell (by simp)]; exact h.e1, by rw [hb.cell (by simp)]; exact h.e2, by rw [hb.cell (by simp)]; exact h.e3, by rw [hb.cell (by simp)]; exact h.e4, h.bel.trans (hb.mono (by omega)), Nat.lt_of_lt_of_le h.lt hg.size⟩
theorem own_ne {g h n c n' c' : Nat} (e : g ≠ h) : (Value.slice (some (⟨g, 0, none⟩ : Addr)) n c).ownBlock ≠ (Value.slice (some (⟨h, 0, none⟩ : Addr)) n' c').ownBlock := by
  simpa [Value.ownBlock] using e
theorem own_low {w : World} {b b' : Nat} {T : TypeId} {sz : Nat} {v : Value} {n : Nat} {xs : List Value} (h : w.ownsRow b T sz v n xs) (hb : b' ≤ b) : w.ownsRow b' T sz v n xs := by
  refine ⟨h.1, ?_⟩
  rcases h.2 with hn | ⟨g, cap, cur, e, hg, rest⟩
  · exact .inl hn
  · exact .inr ⟨g, cap, cur, e, by omega, rest⟩
/-- both rows longer -/
theorem FlatAt.push {w0 w W2 W3 W4 : World} {k : Int} {s : ByteArray} {v : Int} {m : Bool} {a : Option Addr} {len cap g1 c1 g2 c2 n : Nat} {xs ys zs us : List Value} {l l' : List (Tr × Int)} (h : FlatAt w0 w W2 k s v m a len cap g1 c1 g2 c2 n xs ys l) (hok : FlatOK w0 zs us l') {q gA cA gB cB : Nat}
    (ha : W3.ownsRow (w.heap.size + 1) 26 5 (.slice (some ⟨gA, 0, none⟩) (n + q) cA) (n + q) (xs ++ zs)) (hga : W2.grownBy W3 (Value.slice (some (⟨g1, 0, none⟩ : Addr)) n c1).ownBlock) (hta : (Value.slice (some (⟨g1, 0, none⟩ : Addr)) n c1).ownBlock = some gA ∨ gA = W2.heap.size)
    (hb : W4.ownsRow (w.heap.size + 1) 3 1 (.slice (some ⟨gB, 0, none⟩) (n + q) cB) (n + q) (ys ++ us)) (hgb : W3.grownBy W4 (Value.slice (some (⟨g2, 0, none⟩ : Addr)) n c2).ownBlock) (htb : (Value.slice (some (⟨g2, 0, none⟩ : Addr)) n c2).ownBlock = some gB ∨ gB = W3.heap.size) :
    FlatAt w0 w W4 k s v m a len cap gA cA gB cB (n + q) (xs ++ zs) (ys ++ us) (l ++ l') := by
  have l1 := h.r1.lt g1 rfl
  have l2 := h.r2.lt g2 rfl
  have l3 := ha.lt gA rfl
  have hn := h.ne
  have hs := hga.size
  have ta : g1 = gA ∨ gA = W2.heap.size := by rcases hta with e | e; exact .inl (by simpa [Value.ownBlock] using e); exact .inr e
  have tb : g2 = gB ∨ gB = W3.heap.size := by rcases htb with e | e; exact .inl (by simpa [Value.ownBlock] using e); exact .inr e
  refine ⟨(h.own.grown hga fun b e => ?_).grown hgb fun b e => ?_, by omega, ha.kept hgb (.inr (own_ne (by omega))), hb, h.ok.append hok⟩
  · have : g1 = b := by simpa [Value.ownBlock] using e
    omega
  · have : g2 = b := by simpa [Value.ownBlock] using e
    omega
section
variable {w0 : World} {k : Int} {s : ByteArray} {v : Int} {m : Bool} {a : Option Addr} {len cap : Nat} {ts : List Tr}
set_option maxHeartbeats 4000000 in
theorem flatT_one (hu : Reads w0 (.mk k s v m ts) (nd k s v m a len cap)) (hl : len ≤ maxLen) (ht : ts.length = len) (hk : 0 < len → ∃ x, a = some x ∧ x.block < w0.heap.size ∧ ∀ j (h : j < ts.length), KidIs w0 x j (FlatT w0 ts[j])) : FlatT w0 (.mk k s v m ts) (nd k s v m a len cap) := by
  intro w hw d d0 d1
  have HK := Lib.hid hk
  have HT := Lib.hid ht
  have HB : Hid (Tr.count (.mk k s v m ts) = 1 + Tr.countL ts) := Lib.hid (by unfold Tr.count; rfl)
  have HF : Hid (Tr.flat (.mk k s v m ts) d = (.mk k s v m ts, d) :: Tr.flatL ts (d + 1)) := Lib.hid (by unfold Tr.flat; rfl)
  have HC := Lib.hid d1
  have HU := Lib.hid (FlatOK.one hu d)
  have HO := Lib.hid (Own.start w k s v m a len cap)
  clear hk ht hu d1
  unfold maxLen at hl
  unfold nd at *
  go_enter Try.func10, Try.ntmps10
  go_wp2_with fail
  have HI := Lib.hid (FlatAt.start w HU.out)
  generalize ((w.alloc (.cells #[.int .i64 k, .string s, .int .u32 v, .bool m, .slice a len cap] 26)).alloc (.cells #[.int .i64 k, .string s, .int .u32 v, .bool m, .slice a len cap] 26)).alloc (.cells #[.int .i64 d] 3) = V at *
  obtain ⟨i0, hi, hz0, hz1, hz2⟩ : ∃ i, Try.prog.info? 26 = some i ∧ i.zero = some (.agg #[.int .i64 0, .string ⟨#[]⟩, .int .u32 0, .bool false, .slice none 0 0]) ∧ i.size = 5 ∧ i.bytes = 56 := by
    obtain ⟨i, e1, e2⟩ := Option.map_eq_some_iff.1 infoN'
    exact ⟨i, e1, (Prod.mk.inj e2).1, (Prod.mk.inj (Prod.mk.inj e2).2).1, (Prod.mk.inj (Prod.mk.inj e2).2).2⟩
  obtain ⟨i1, hj, hy0, hy1, hy2⟩ : ∃ i, Try.prog.info? 3 = some i ∧ i.zero = some (.int .i64 0) ∧ i.size = 1 ∧ i.bytes = 8 := by
    obtain ⟨i, e1, e2⟩ := Option.map_eq_some_iff.1 infoI
    exact ⟨i, e1, (Prod.mk.inj e2).1, (Prod.mk.inj (Prod.mk.inj e2).2).1, (Prod.mk.inj (Prod.mk.inj e2).2).2⟩
  go_loopw [6, 7, 8] (fun x y i wr => ∃ (j g1 c1 g2 c2 n : Nat) (xs ys : List Value), j ≤ len ∧ x = .slice (some ⟨g1, 0, none⟩) n c1 ∧ y = .slice (some ⟨g2, 0, none⟩) n c2 ∧ i = .int .i64 j ∧ Hid (n = 1 + Tr.countL (ts.take j)) ∧ Hid (FlatAt w0 w wr k s v m a len cap g1 c1 g2 c2 n xs ys ((.mk k s v m ts, d) :: Tr.flatL (ts.take j) (d + 1)))) (fun _ _ i _ => len - (intOf i).toNat)
  case atStart => exact ⟨0, _, _, _, _, _, _, _, Nat.zero_le _, rfl, rfl, rfl, Lib.hid (by simp [Tr.countL]), HI⟩
  case round =>
    obtain ⟨j, g1, c1, g2, c2, n, xs, ys, hjl, rfl, rfl, rfl, HN, HR⟩ := hrel
    clear HI HU HO
    obtain ⟨e0, e1, e2, e3, e4, hbr, hlt0⟩ := HR.out.own
    by_cases hlt : j < len
    · have hjt : j < ts.length := by rw [HT.out]; exact hlt
      obtain ⟨⟨b, o, x⟩, rfl, hb, hKK⟩ := HK.out (by omega)
      obtain ⟨k', s', v', m', a', l', c', hkid, hex⟩ := hKK j hjt
      have hwr := hw.trans (hbr.mono hw.size)
      obtain ⟨q0, q1, q2, q3, q4⟩ := (hkid.below hb hwr).at
      have HX := Lib.hid hex
      have HW := Lib.hid hwr
      have h5 := take_succ_count hjt
      have h6 := take_le (ts := ts) (j := j + 1)
      have h7 := HN.out
      have h8 := HB.out
      have h9 := HC.out
      have hcj : d + 1 + ts[j].count ≤ 100000 := by omega
      have hcp := count_pos ts[j]
      have hsum : n + ts[j].count ≤ 100000 := by omega
      have HN2 : Hid (n + ts[j].count = 1 + Tr.countL (ts.take (j + 1))) := Lib.hid (by omega)
      have HFT : Hid (Tr.flatL (ts.take (j + 1)) (d + 1) = Tr.flatL (ts.take j) (d + 1) ++ ts[j].flat (d + 1)) := Lib.hid (flatL_take hjt (d + 1))
      have HD := Lib.hid (show 0 ≤ d + 1 by omega)
      clear hkid hex hwr hKK h5 h6 h7 h8 h9 hbr
      generalize ts[j] = t at *
      unfold nd at *
      go_wp2_with (first
        | (go_at_call 10; refine (FlatT.call HX.out HW.out (d + 1) HD.out hcj).mono ?_; rintro e w2 ⟨p1, b1, p2, b2, zs, us, rfl, hb2, hpne, ho1, ho2, hok⟩; have HV := Lib.hid (HR.out.below hb2); have HZ1 := Lib.hid ho1; have HZ2 := Lib.hid ho2; have HOK := Lib.hid hok; have HB2 := Lib.hid hb2; have HPN := Lib.hid hpne; clear hb2 ho1 ho2 hok hpne)
        | (at_builtin; refine wpList_append_lies _ (by rfl) _ _ 24 (by rfl) (w.heap.size + 1) 26 i0 _ 5 56 Try.underlying24 hi hz0 hz1 hz2 rfl (by omega) (.slice (some ⟨g1, 0, none⟩) n c1) n xs (by rfl) HV.out.r1 ⟨p1, 0, none⟩ t.count b1 zs (by rfl) HZ1.out.1 (HZ1.out.cells rfl) HOK.out.ones.1 (by omega) (by unfold maxLen; omega) (by omega) (by have := HV.out.own.lt; omega) _ rfl ?_; intro gA capA w3 hown3 hgr3 hat3 hlt3; have HA := Lib.hid hown3; have HAG := Lib.hid hgr3; have HAT := Lib.hid hat3; have HY := Lib.hid (HV.out.r2.kept hgr3 (.inr (own_ne HV.out.ne.symm))); have HZ3 := Lib.hid (HZ2.out.kept hgr3 (.inr (own_ne (by have := (HZ2.out.lt p2 rfl).1; have := (HR.out.r1.lt g1 rfl).2; omega)))); clear hown3 hgr3 hat3 hlt3)
        | (at_builtin; refine wpList_append_lies _ (by rfl) _ _ 29 (by rfl) (w.heap.size + 1) 3 i1 _ 1 8 Try.underlying29 hj hy0 hy1 hy2 rfl (by omega) (.slice (some ⟨g2, 0, none⟩) n c2) n ys (by rfl) HY.out ⟨p2, 0, none⟩ t.count b2 us (by rfl) HZ3.out.1 (HZ3.out.cells rfl) HOK.out.ones.2 (by omega) (by unfold maxLen; omega) (by omega) (by have := HV.out.own.lt; have := HAG.out.size; omega) _ rfl ?_; intro gB capB w4 hown4 hgr4 hat4 hlt4; have HBB := Lib.hid hown4; have HBG := Lib.hid hgr4; have HBT := Lib.hid hat4; clear hown4 hgr4 hat4 hlt4))
      have HP := Lib.hid (HV.out.push HOK.out HA.out HAG.out HAT.out HBB.out HBG.out HBT.out)
      rw [List.cons_append, ← HFT.out] at HP
      exact ⟨⟨j + 1, gA, capA, gB, capB, n + t.count, _, _, by omega, rfl, rfl, by simp, HN2, HP⟩, by simp [intOf]; omega⟩
    · obtain rfl : j = len := by omega
      have HE : Hid (Tr.count (.mk k s v m ts) = n) := Lib.hid (by rw [HN.out, HB.out, List.take_of_length_le (by rw [HT.out]; exact Nat.le_refl _)])
      have HL : Hid (Tr.flat (.mk k s v m ts) d = (.mk k s v m ts, d) :: Tr.flatL (ts.take j) (d + 1)) := Lib.hid (by rw [HF.out, List.take_of_length_le (by rw [HT.out]; exact Nat.le_refl _)])
      go_wp2_with fail
      go_ret2
      rw [HE.out, HL.out]
      exact ⟨g1, c1, g2, c2, xs, ys, rfl, hbr, HR.out.ne, own_low HR.out.r1 (by omega), own_low HR.out.r2 (by omega), HR.out.ok⟩
end
theorem flatT_all {w0 : World} : ∀ (t : Tr) (u : Value), Reads w0 t u → FlatT w0 t u
  | .mk k s v m ts, u, h => by
    have hu := h
    unfold Reads at h
    obtain ⟨a, len, cap, rfl, hs, _, _, ht, hl, hc, hk⟩ := h
    refine flatT_one hu (by omega) ht fun h0 => ?_
    obtain ⟨x, hx, hb, hL⟩ := hk h0
    refine ⟨x, hx, hb, fun j hj => ?_⟩
    obtain ⟨k', s', v', m', a', l', c', g1, g2⟩ := readsL_get ts 0 j ts[j] hL (List.getElem?_eq_getElem hj)
    rw [Nat.zero_add] at g1
    have hd : SizeOf.sizeOf ts[j] < SizeOf.sizeOf ts := List.sizeOf_lt_of_mem (List.getElem_mem hj)
    exact ⟨k', s', v', m', a', l', c', g1, flatT_all ts[j] _ g2⟩
  termination_by t => SizeOf.sizeOf t
  decreasing_by
    simp
    omega
end Go.Proofs.Ytkhbmamgfkpdbaa

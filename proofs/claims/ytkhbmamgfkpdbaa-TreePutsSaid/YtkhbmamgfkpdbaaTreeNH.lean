/-
  What the law's replace does to a node behind a pointer: the one of a number becomes what may stand nowhere.
-/
import Derived.Test.YtkhbmamgfkpdbaaTreeNG
import Derived.Test.YtkhbmamgfkpdbaaTreeP
namespace Go.Proofs.Ytkhbmamgfkpdbaa
open Go.ChangeShapes Go.WideShapes Go.ChangeAt Go.RowKit
set_option linter.unusedVariables false
/-- a node laid over another one -/
def put5 (W : World) (b o : Nat) (k : Int) (s : ByteArray) (v : Int) (m : Bool) (a : Option Addr) (l c : Nat) : World :=
  ((((W.setCell ⟨b, o, none⟩ (.int .i64 k)).setCell ⟨b, o + 1, none⟩ (.string s)).setCell ⟨b, o + 2, none⟩ (.int .u32 v)).setCell ⟨b, o + 3, none⟩ (.bool m)).setCell ⟨b, o + 4, none⟩ (.slice a l c)
def set5 (xs : List Value) (j : Nat) (k : Int) (s : ByteArray) (v : Int) (m : Bool) (a : Option Addr) (l c : Nat) : List Value :=
  ((((xs.set (j * 5) (.int .i64 k)).set (j * 5 + 1) (.string s)).set (j * 5 + 2) (.int .u32 v)).set (j * 5 + 3) (.bool m)).set (j * 5 + 4) (.slice a l c)
theorem put5_block {W : World} {b o : Nat} {k : Int} {s : ByteArray} {v : Int} {m : Bool} {a : Option Addr} {l c : Nat} {x : Nat} (h : x ≠ b) : (put5 W b o k s v m a l c).heap[x]? = W.heap[x]? := by
  unfold put5
  rw [Below.heap_setCell _ _ _ _ h, Below.heap_setCell _ _ _ _ h, Below.heap_setCell _ _ _ _ h, Below.heap_setCell _ _ _ _ h, Below.heap_setCell _ _ _ _ h]
theorem put5_aside {W : World} {S : Nat → Prop} {b o : Nat} {k : Int} {s : ByteArray} {v : Int} {m : Bool} {a : Option Addr} {l c : Nat} (h : S b) : Aside S W (put5 W b o k s v m a l c) :=
  (((((Aside.refl S W).setCell (p := ⟨b, o, none⟩) h _).setCell (p := ⟨b, o + 1, none⟩) h _).setCell (p := ⟨b, o + 2, none⟩) h _).setCell (p := ⟨b, o + 3, none⟩) h _).setCell (p := ⟨b, o + 4, none⟩) h _
theorem put5_own {W : World} {b0 : Nat} {T : TypeId} {g n cap : Nat} {xs : List Value} (h : W.ownsRow b0 T 5 (.slice (some ⟨g, 0, none⟩) n cap) n xs) (j : Nat) (hj : j < n) (k : Int) (s : ByteArray) (v : Int) (m : Bool) (a : Option Addr) (l c : Nat) :
    (put5 W g (j * 5) k s v m a l c).ownsRow b0 T 5 (.slice (some ⟨g, 0, none⟩) n cap) n (set5 xs j k s v m a l c) :=
  ownsRow_set (ownsRow_set (ownsRow_set (ownsRow_set (ownsRow_set h (j * 5) (by omega) _) (j * 5 + 1) (by omega) _) (j * 5 + 2) (by omega) _) (j * 5 + 3) (by omega) _) (j * 5 + 4) (by omega) _
theorem KidX.other5 {xs : List Value} {i j : Nat} {P : Value → Prop} (h : KidX xs j P) (hij : j ≠ i) {k : Int} {s : ByteArray} {v : Int} {m : Bool} {a : Option Addr} {l c : Nat} : KidX (set5 xs i k s v m a l c) j P := by
  obtain ⟨k', s', v', m', a', l', c', h0, h1, h2, h3, h4, h5⟩ := h
  have go : ∀ p, p < 5 → (set5 xs i k s v m a l c)[j * 5 + p]? = xs[j * 5 + p]? := fun p hp => by
    unfold set5
    rw [List.getElem?_set_ne (by omega), List.getElem?_set_ne (by omega), List.getElem?_set_ne (by omega), List.getElem?_set_ne (by omega), List.getElem?_set_ne (by omega)]
  exact ⟨k', s', v', m', a', l', c', (go 0 (by omega)).trans h0, (go 1 (by omega)).trans h1, (go 2 (by omega)).trans h2, (go 3 (by omega)).trans h3, (go 4 (by omega)).trans h4, h5⟩
theorem KidX.this5 {xs : List Value} {i : Nat} {P Q : Value → Prop} (h : KidX xs i P) {k : Int} {s : ByteArray} {v : Int} {m : Bool} {a : Option Addr} {l c : Nat} (hq : Q (nd k s v m a l c)) : KidX (set5 xs i k s v m a l c) i Q := by
  obtain ⟨k', s', v', m', a', l', c', h0, h1, h2, h3, h4, h5⟩ := h
  have hlt := (List.getElem?_eq_some_iff.1 h4).1
  refine ⟨k, s, v, m, a, l, c, ?_, ?_, ?_, ?_, ?_, hq⟩
  all_goals
    unfold set5
    simp [List.getElem?_set]
    omega
def badT : Tr := .mk 99 ⟨#[]⟩ 0 false []
theorem bad_not : ¬ badT.sm.any := fun h => (step_any (show (step 99 ⟨#[]⟩ 0 false 0 (Tr.smL [])).any from h)).2.2 rfl
theorem bad_own (W : World) (S : Nat → Prop) : ROwn W S badT (nd 99 ⟨#[]⟩ 0 false none 0 0) := by
  unfold badT ROwn
  exact ⟨none, 0, 0, [], fun _ _ => False, rfl, by unfold maxLen; decide, by rfl, by rfl, rfl, ⟨rfl, .inl ⟨rfl, rfl⟩⟩, fun b hb => by simp [Value.ownBlock] at hb, fun _ _ (h : False) => h.elim, fun _ _ _ (h : False) => h.elim, trivial⟩
theorem kid_bad {k : Int} {s : ByteArray} {v : Int} {m : Bool} {ts : List Tr} {i : Nat} {t : Tr} (hi : ts[i]? = some t) (hb : ¬ t.sm.any) : ¬ (Tr.mk k s v m ts).sm.any := fun h => by
  have hlt := (List.getElem?_eq_some_iff.1 hi).1
  have := (step_any (show (step k s v m ts.length (Tr.smL ts)).any from h)).1 i hlt
  rw [smL_get ts i hlt, (List.getElem?_eq_some_iff.1 hi).2] at this
  exact hb this
theorem rep_zero (W : World) (yb yo : Nat) (k : Int) (s : ByteArray) (v : Int) (m : Bool) (a : Option Addr) (l c : Nat) (hk : KidJ W ⟨yb, yo, none⟩ k s v m a l c) (hf : ∀ o, W.frozen? ⟨yb, o, none⟩ = false) :
    Calls Try.prog 24 #[.pointer (some ⟨yb, yo, none⟩), .int .i64 0] W fun e W' => e = .returned (.int .i64 (-1)) ∧ W' = put5 W yb yo 99 ⟨#[]⟩ 0 false none 0 0 := by
  obtain ⟨g0, g1, g2, g3, g4⟩ := hk
  simp only at g0 g1 g2 g3 g4
  have f0 := hf yo
  have f1 := hf (yo + 1)
  have f2 := hf (yo + 2)
  have f3 := hf (yo + 3)
  have f4 := hf (yo + 4)
  go_enter Try.func24, Try.ntmps24
  go_wp2_with fail
  go_ret
  exact ⟨rfl, rfl⟩
/-- where replace stands, so many kids on, and what is left -/
structure RepAt (w W : World) (S : Nat → Prop) (ts ts' : List Tr) (g len cap i : Nat) (xs : List Value) (at_ : Nat) (x : Int) : Prop where
  aside : Aside S w W
  lens : ts'.length = ts.length
  own : W.ownsRow 0 26 5 (.slice (some ⟨g, 0, none⟩) len cap) len xs
  kids : ∃ F : Nat → Nat → Prop, (∀ i c, F i c → S c ∧ c ≠ g) ∧ (∀ i i' c, F i c → F i' c → i = i') ∧ ROwnL W F ts' xs 0
  rest : ∀ j, i ≤ j → ts'[j]? = ts[j]?
  left : (Tr.countL (ts.take i) ≤ at_ ∧ x = (at_ : Int) - Tr.countL (ts.take i)) ∨ (at_ < Tr.countL (ts.take i) ∧ x = -1 ∧ ∃ (j : Nat) (t1 : Tr), ts'[j]? = some t1 ∧ ¬ t1.sm.any)
theorem RepAt.step {w W W2 : World} {S : Nat → Prop} {ts ts' : List Tr} {g len cap j : Nat} {xs : List Value} {at_ q : Nat} (h : RepAt w W S ts ts' g len cap j xs at_ q) {F : Nat → Nat → Prop} (hF : ∀ i c, F i c → S c ∧ c ≠ g) (hD : ∀ i i' c, F i c → F i' c → i = i') (hL : ROwnL W F ts' xs 0) (hj : j < ts.length)
    {k' : Int} {s' : ByteArray} {v' : Int} {m' : Bool} {a' : Option Addr} {l' c' : Nat} (h0 : xs[j * 5]? = some (.int .i64 k')) (h1 : xs[j * 5 + 1]? = some (.string s')) (h2 : xs[j * 5 + 2]? = some (.int .u32 v')) (h3 : xs[j * 5 + 3]? = some (.bool m')) (h4 : xs[j * 5 + 4]? = some (.slice a' l' c'))
    (hA : Aside (F j) W W2) {t1 : Tr} (hr : ROwn W2 (F j) t1 (nd k' s' v' m' a' l' c')) {x : Int} (hx : (ts[j].count ≤ q ∧ x = (q : Int) - ts[j].count) ∨ (q < ts[j].count ∧ x = -1 ∧ ¬ t1.sm.any)) :
    RepAt w W2 S ts (ts'.set j t1) g len cap (j + 1) xs at_ x := by
  have hg := (h.own.lt g rfl).2
  have hnF : ∀ i, ¬ F i g := fun i hi => (hF i g hi).2 rfl
  have hown2 := ownsRow_keep (w' := W2) h.own fun b hb => by
    have : g = b := by simpa [Value.ownBlock] using hb
    subst this
    exact hA.block g hg (hnF j)
  have hj' : j < ts'.length := by rw [h.lens]; exact hj
  have hcnt := take_succ_count hj
  have hleft : Tr.countL (ts.take j) ≤ at_ ∧ (q : Int) = (at_ : Int) - Tr.countL (ts.take j) := by
    rcases h.left with e | ⟨-, e, -⟩
    · exact e
    · omega
  refine ⟨h.aside.trans (hA.wide fun c hc => (hF j c hc).1), by simp [h.lens], hown2, ⟨F, hF, hD, rownL_of0 fun i t hi => ?_⟩, fun i hi => ?_, ?_⟩
  · by_cases hij : i = j
    · subst hij
      rw [List.getElem?_set_self hj'] at hi
      cases hi
      exact ⟨k', s', v', m', a', l', c', h0, h1, h2, h3, h4, hr⟩
    · rw [List.getElem?_set_ne (fun e => hij e.symm)] at hi
      exact (rownL_get0 hL hi).imp fun u hu => ROwn.keep t hu fun b hb hFb => ⟨hA.block b hb fun hjb => hij (hD i j b hFb hjb), hFb⟩
  · rw [List.getElem?_set_ne (by omega)]
    exact h.rest i (by omega)
  · rcases hx with ⟨e1, e2⟩ | ⟨e1, e2, e3⟩
    · exact .inl ⟨by omega, by omega⟩
    · exact .inr ⟨by omega, e2, j, t1, List.getElem?_set_self hj', e3⟩
theorem RepAt.put {w W : World} {S : Nat → Prop} {ts ts' : List Tr} {g len cap j : Nat} {xs : List Value} {at_ : Nat} (h : RepAt w W S ts ts' g len cap j xs at_ ((0 : Nat) : Int)) {F : Nat → Nat → Prop} (hF : ∀ i c, F i c → S c ∧ c ≠ g) (hD : ∀ i i' c, F i c → F i' c → i = i') (hL : ROwnL W F ts' xs 0) (hS : S g) (hj : j < ts.length) (hlen : ts.length = len) :
    RepAt w (put5 W g (j * 5) 99 ⟨#[]⟩ 0 false none 0 0) S ts (ts'.set j badT) g len cap (j + 1) (set5 xs j 99 ⟨#[]⟩ 0 false none 0 0) at_ (-1) := by
  have hj' : j < ts'.length := by rw [h.lens]; exact hj
  have hcnt := take_succ_count hj
  have hpos := count_pos ts[j]
  have hleft : Tr.countL (ts.take j) ≤ at_ ∧ ((0 : Nat) : Int) = (at_ : Int) - Tr.countL (ts.take j) := by
    rcases h.left with e | ⟨-, e, -⟩
    · exact e
    · omega
  obtain ⟨t0, ht0⟩ : ∃ t, ts'[j]? = some t := ⟨_, List.getElem?_eq_getElem hj'⟩
  refine ⟨h.aside.trans (put5_aside hS), by simp [h.lens], put5_own h.own j (by omega) _ _ _ _ _ _ _, ⟨F, hF, hD, rownL_of0 fun i t hi => ?_⟩, fun i hi => ?_, ?_⟩
  · by_cases hij : i = j
    · subst hij
      rw [List.getElem?_set_self hj'] at hi
      cases hi
      exact (rownL_get0 hL ht0).this5 (bad_own _ _)
    · rw [List.getElem?_set_ne (fun e => hij e.symm)] at hi
      exact ((rownL_get0 hL hi).imp fun u hu => ROwn.keep t hu fun b hb hFb => ⟨put5_block (hF i b hFb).2, hFb⟩).other5 hij
  · rw [List.getElem?_set_ne (by omega)]
    exact h.rest i (by omega)
  · exact .inr ⟨by omega, rfl, j, badT, List.getElem?_set_self hj', bad_not⟩
def RepT (t : Tr) : Prop := ∀ (W : World) (S : Nat → Prop) (yb yo : Nat) (k : Int) (s : ByteArray) (v : Int) (m : Bool) (a : Option Addr) (l c at_ : Nat), at_ ≤ 100000 → KidJ W ⟨yb, yo, none⟩ k s v m a l c → (∀ o, W.frozen? ⟨yb, o, none⟩ = false) → ¬ S yb → ROwn W S t (nd k s v m a l c) → t.count ≤ 100000 →
  Calls Try.prog 24 #[.pointer (some ⟨yb, yo, none⟩), .int .i64 at_] W fun e W' => ∃ x, e = .returned (.int .i64 x) ∧ ((at_ = 0 ∧ x = -1 ∧ W' = put5 W yb yo 99 ⟨#[]⟩ 0 false none 0 0) ∨
    (0 < at_ ∧ Aside S W W' ∧ ∃ ts', ROwn W' S (.mk k s v m ts') (nd k s v m a l c) ∧ ((t.count ≤ at_ ∧ x = (at_ : Int) - t.count) ∨ (at_ < t.count ∧ x = -1 ∧ ∃ (j : Nat) (t1 : Tr), ts'[j]? = some t1 ∧ ¬ t1.sm.any))))
section
variable {k : Int} {s : ByteArray} {v : Int} {m : Bool} {a : Option Addr} {len cap : Nat} {ts : List Tr}
set_option maxHeartbeats 4000000 in
theorem repT_one (hk : ∀ j (h : j < ts.length), RepT ts[j]) : RepT (.mk k s v m ts) := by
  intro W S yb yo k1 s1 v1 m1 a l c at_ hat hkid hfz hS hown hcount
  by_cases hz : at_ = 0
  · subst hz
    exact (rep_zero W yb yo k1 s1 v1 m1 a l c hkid hfz).mono fun e w' h => ⟨-1, h.1, .inl ⟨rfl, rfl, h.2⟩⟩
  obtain ⟨p, rfl⟩ : ∃ p, at_ = p + 1 := ⟨at_ - 1, by omega⟩
  unfold ROwn at hown
  obtain ⟨a', len, cap, xs, F, ee, hs, hwk, hwv, ht, ho, hSS, hF, hD, hL⟩ := hown
  have e := ee
  unfold nd at e
  simp only [Value.agg.injEq] at e
  have e := congrArg Array.toList e
  simp only [List.cons.injEq, Value.int.injEq, Value.string.injEq, Value.bool.injEq, Value.slice.injEq, and_true, true_and] at e
  obtain ⟨rfl, rfl, rfl, rfl, rfl, rfl, rfl⟩ := e
  clear ee
  have hlen : l ≤ 100000 := by
    have := len_count ts
    unfold Tr.count at hcount
    omega
  have HCT : Hid (Tr.countL ts ≤ 100000) := Lib.hid (by unfold Tr.count at hcount; omega)
  have HCC : Hid ((Tr.mk k1 s1 v1 m1 ts).count = 1 + Tr.countL ts) := Lib.hid (by unfold Tr.count; rfl)
  generalize (Tr.mk k1 s1 v1 m1 ts).count = CNT at *
  have HF := Lib.hid hF
  have HDD := Lib.hid hD
  clear hF hD
  have HKid := Lib.hid hkid
  have HK := Lib.hid hk
  have HO := Lib.hid ho
  have HL := Lib.hid hL
  have HSS := Lib.hid hSS
  have HT := Lib.hid ht
  clear hk ho hL hSS ht hcount hfz
  obtain ⟨g0, g1, g2, g3, g4⟩ := hkid
  have HWF := Lib.hid (And.intro hwk (And.intro hwv hs))
  clear hwk hwv hs
  by_cases hl0 : l = 0
  · subst hl0
    have HW : Hid (ROwn W S (.mk k1 s1 v1 m1 ts) (nd k1 s1 v1 m1 a 0 c)) := Lib.hid (by unfold ROwn; exact ⟨a, 0, c, xs, F, rfl, HWF.out.2.2, HWF.out.1, HWF.out.2.1, HT.out, HO.out, HSS.out, HF.out, HDD.out, HL.out⟩)
    have hc1 : CNT = 1 := by
      have := HCC.out
      have h0 := HT.out
      cases ts with
      | nil => simpa [Tr.countL] using this
      | cons t ts => simp at h0
    go_enter Try.func24, Try.ntmps24
    go_wp2_with fail
    go_loopw [1, 5] (fun x i wr => i = .int .i64 0 ∧ x = .int .i64 p ∧ wr = W) (fun _ i _ => 0)
    case atStart => exact ⟨rfl, by simp, rfl⟩
    case round =>
      obtain ⟨rfl, rfl, rfl⟩ := hrel
      go_wp2_with fail
      go_ret
      exact ⟨_, rfl, .inr ⟨by omega, Aside.refl _ _, ts, HW.out, .inl ⟨by omega, by omega⟩⟩⟩
  · have hl1 : 0 < l := by omega
    obtain ⟨-, -, -, hg⟩ := ownsRow_bounds HO.out
    obtain ⟨g, rfl, -, hgs⟩ := hg hl1
    have HI : Hid (RepAt W W S ts ts g l c 0 xs p p) := Lib.hid ⟨Aside.refl _ _, rfl, HO.out, ⟨F, fun i c hc => ⟨(HF.out i c hc).1, fun e => (HF.out i c hc).2 (by rw [e]; rfl)⟩, HDD.out, HL.out⟩, fun _ _ => rfl, .inl ⟨by simp [Tr.countL], by simp [Tr.countL]⟩⟩
    have hSg : S g := HSS.out g rfl
    clear HO HL hl0
    go_enter Try.func24, Try.ntmps24
    go_wp2_with fail
    go_loopw [1, 5] (fun y i wr => ∃ (j : Nat) (x : Int) (ts' : List Tr) (xs' : List Value), j ≤ l ∧ -1 ≤ x ∧ x ≤ 100000 ∧ i = .int .i64 j ∧ y = .int .i64 x ∧ Hid (RepAt W wr S ts ts' g l c j xs' p x)) (fun _ i _ => l - (intOf i).toNat)
    case atStart => exact ⟨0, p, _, _, Nat.zero_le _, by omega, by omega, rfl, by simp, HI⟩
    case round =>
      obtain ⟨j, x, ts', xs', hj, hx0, hx1, rfl, rfl, HR⟩ := hrel
      clear HI
      obtain ⟨q0, q1, q2, q3, q4⟩ := HR.out.aside.kidj hS HKid.out
      by_cases hlt : j < l ∧ 0 ≤ x
      · obtain ⟨hlt, hx2⟩ := hlt
        obtain ⟨q, rfl⟩ := Int.eq_ofNat_of_zero_le hx2
        have hjt : j < ts.length := by rw [HT.out]; exact hlt
        obtain ⟨F2, hF2, hD2, hL2⟩ := HR.out.kids
        have hg1 : ts'[j]? = some ts[j] := by rw [HR.out.rest j (Nat.le_refl _)]; exact List.getElem?_eq_getElem hjt
        obtain ⟨k', s', v', m', a', l', c', x0, x1, x2, x3, x4, hrj⟩ := rownL_get0 hL2 hg1
        have hkj := own_kidj HR.out.own x0 x1 x2 x3 x4
        have hcj : ts[j].count ≤ 100000 := by
          have h5 := take_succ_count hjt
          have h6 := take_le (ts := ts) (j := j + 1)
          have := HCT.out
          omega
        have hgw := (HR.out.own.lt g rfl).2
        have HC1 := Lib.hid (HK.out j hjt wr (F2 j) g (j * 5) k' s' v' m' a' l' c' q (by omega) hkj (fun o => own_free HR.out.own _ rfl) (fun h => (hF2 _ _ h).2 rfl) hrj hcj)
        have HX : Hid (xs'[j * 5]? = some (.int .i64 k') ∧ xs'[j * 5 + 1]? = some (.string s') ∧ xs'[j * 5 + 2]? = some (.int .u32 v') ∧ xs'[j * 5 + 3]? = some (.bool m') ∧ xs'[j * 5 + 4]? = some (.slice a' l' c')) := Lib.hid ⟨x0, x1, x2, x3, x4⟩
        have HFF : Hid ((∀ i c, F2 i c → S c ∧ c ≠ g) ∧ (∀ i i' c, F2 i c → F2 i' c → i = i') ∧ ROwnL wr F2 ts' xs' 0) := Lib.hid ⟨hF2, hD2, hL2⟩
        clear x0 x1 x2 x3 x4 hF2 hD2 hL2 hkj hrj hg1
        have hle : (q : Int) ≤ 100000 := hx1
        go_wp2_with (go_at_call 24; (with_reducible refine HC1.out.mono ?_); rintro e w2 ⟨x2, rfl, hres⟩)
        rcases hres with ⟨rfl, rfl, rfl⟩ | ⟨hq, hA, ts2, hro, hx⟩
        · exact ⟨⟨j + 1, -1, _, _, by omega, by omega, by omega, by simp, rfl, Lib.hid (HR.out.put HFF.out.1 HFF.out.2.1 HFF.out.2.2 hSg hjt HT.out)⟩, by simp [intOf]; omega⟩
        · have hx' : (ts[j].count ≤ q ∧ x2 = (q : Int) - ts[j].count) ∨ (q < ts[j].count ∧ x2 = -1 ∧ ¬ (Tr.mk k' s' v' m' ts2).sm.any) := by
            rcases hx with hx | ⟨h1, h2, i, t1, h3, h4⟩
            · exact .inl hx
            · exact .inr ⟨h1, h2, kid_bad h3 h4⟩
          exact ⟨⟨j + 1, x2, _, _, by omega, by omega, by omega, by simp, rfl, Lib.hid (HR.out.step HFF.out.1 HFF.out.2.1 HFF.out.2.2 hjt HX.out.1 HX.out.2.1 HX.out.2.2.1 HX.out.2.2.2.1 HX.out.2.2.2.2 hA hro hx')⟩, by simp [intOf]; omega⟩
      · have HE : Hid (∃ ts2, ROwn wr S (.mk k1 s1 v1 m1 ts2) (nd k1 s1 v1 m1 (some ⟨g, 0, none⟩) l c) ∧ ((CNT ≤ p + 1 ∧ x = ((p + 1 : Nat) : Int) - CNT) ∨ (p + 1 < CNT ∧ x = -1 ∧ ∃ (j : Nat) (t1 : Tr), ts2[j]? = some t1 ∧ ¬ t1.sm.any))) := Lib.hid (by
          refine ⟨ts', ?_, ?_⟩
          · obtain ⟨F2, hF2, hD2, hL2⟩ := HR.out.kids
            unfold ROwn
            exact ⟨_, l, c, xs', F2, rfl, HWF.out.2.2, HWF.out.1, HWF.out.2.1, by rw [HR.out.lens, HT.out], HR.out.own, HSS.out, fun i c hc => ⟨(hF2 i c hc).1, fun e => (hF2 i c hc).2 (by simpa [Value.ownBlock] using e)⟩, hD2, hL2⟩
          · have hc := HCC.out
            have hle := take_le (ts := ts) (j := j)
            rcases HR.out.left with ⟨h1, h2⟩ | ⟨h1, h2, h3⟩
            · obtain rfl : j = l := by omega
              rw [List.take_of_length_le (by rw [HT.out]; exact Nat.le_refl _)] at h1 h2
              exact .inl ⟨by omega, by omega⟩
            · exact .inr ⟨by omega, h2, h3⟩)
        by_cases hjl : j < l
        · obtain rfl : x = -1 := by omega
          go_wp2_with fail
          go_ret
          obtain ⟨ts2, h1, h2⟩ := HE.out
          exact ⟨_, rfl, HR.out.aside, ts2, h1, by simpa only [Int.natCast_add, Int.natCast_one] using h2⟩
        · obtain rfl : j = l := by omega
          go_wp2_with fail
          go_ret
          obtain ⟨ts2, h1, h2⟩ := HE.out
          exact ⟨_, rfl, HR.out.aside, ts2, h1, by simpa only [Int.natCast_add, Int.natCast_one] using h2⟩
end
theorem repT_all : ∀ (t : Tr), RepT t
  | .mk k s v m ts => repT_one fun j hj => by
    have hd : SizeOf.sizeOf ts[j] < SizeOf.sizeOf ts := List.sizeOf_lt_of_mem (List.getElem_mem hj)
    exact repT_all ts[j]
  termination_by t => SizeOf.sizeOf t
  decreasing_by
    simp
    omega
end Go.Proofs.Ytkhbmamgfkpdbaa

/-
  What the law's swap does to a node behind a pointer: a part of it becomes another one of its sort.
-/
import Derived.Test.YtkhbmamgfkpdbaaTreeNH
import Derived.Test.YtkhbmamgfkpdbaaTreeNI
import Derived.Deep.RegionHeld3
namespace Go.Proofs.Ytkhbmamgfkpdbaa
open Go.ChangeShapes Go.WideShapes Go.ChangeAt Go.RowKit
set_option linter.unusedVariables false
/-- the same node, its kids as good -/
def KN : Tr → Tr → Prop
  | .mk k s v m ts, .mk k' s' v' m' us => k' = k ∧ s' = s ∧ v' = v ∧ m' = m ∧ KLe ts us
theorem KN.le : ∀ {t u : Tr}, KN t u → t.sm.Le u.sm
  | .mk k s v m ts, .mk k' s' v' m' us, h => by
    unfold KN at h
    obtain ⟨rfl, rfl, rfl, rfl, h⟩ := h
    exact h.node _ _ _ _
theorem KN.may : ∀ {t u : Tr}, KN t u → t.may = true → u.may = true
  | .mk k s v m ts, .mk k' s' v' m' us, h, g => by
    unfold KN at h
    obtain ⟨rfl, rfl, rfl, rfl, h⟩ := h
    exact h.may g
theorem KN.refl : ∀ (t : Tr), KN t t
  | .mk k s v m ts => by unfold KN; exact ⟨rfl, rfl, rfl, rfl, KLe.refl _⟩
/-- where swap stands -/
structure SwapAt (w W : World) (S : Nat → Prop) (ts : List Tr) (g len cap : Nat) (xs : List Value) (x : Int) : Prop where
  aside : Aside S w W
  own : W.ownsRow 0 26 5 (.slice (some ⟨g, 0, none⟩) len cap) len xs
  st : (∃ F : Nat → Nat → Prop, (∀ i c, F i c → S c ∧ c ≠ g) ∧ (∀ i i' c, F i c → F i' c → i = i') ∧ ROwnL W F ts xs 0) ∨ (x < 0 ∧ ∃ ts', KLe ts ts' ∧ ∀ (i : Nat) (t : Tr), ts'[i]? = some t → KidX xs i (Reads W t))
theorem SwapAt.drew {w W : World} {S : Nat → Prop} {ts : List Tr} {g len cap : Nat} {xs : List Value} {x : Int} (h : SwapAt w W S ts g len cap xs x) : SwapAt w W.drew S ts g len cap xs x := by
  refine ⟨h.aside.drew, ownsRow_keep h.own fun _ _ => rfl, ?_⟩
  rcases h.st with ⟨F, hF, hD, hL⟩ | ⟨hx, ts', hk, hr⟩
  · exact .inl ⟨F, hF, hD, rownL_of0 fun i t hi => (rownL_get0 hL hi).imp fun u hu => ROwn.keep t hu fun b hb hS => ⟨rfl, hS⟩⟩
  · exact .inr ⟨hx, ts', hk, fun i t hi => (hr i t hi).imp fun u hu => reads_below ((Below.refl _ _).drew) t u hu⟩
theorem SwapAt.reads {w W : World} {S : Nat → Prop} {ts : List Tr} {g len cap : Nat} {xs : List Value} {x : Int} (h : SwapAt w W S ts g len cap xs x) (hl : ts.length = len) {k : Int} {s : ByteArray} {v : Int} {m : Bool} (h1 : s.size ≤ maxLen) (h2 : (Lit.int .i64 k).wf = true) (h3 : (Lit.int .u32 v).wf = true) :
    ∃ u, KN (.mk k s v m ts) u ∧ Reads W u (nd k s v m (some ⟨g, 0, none⟩) len cap) := by
  obtain ⟨-, hlc, hcm, hg⟩ := ownsRow_bounds h.own
  have hgs := (h.own.lt g rfl).2
  obtain ⟨ts', hk, hr⟩ : ∃ ts', KLe ts ts' ∧ ∀ (i : Nat) (t : Tr), ts'[i]? = some t → KidX xs i (Reads W t) := by
    rcases h.st with ⟨F, hF, hD, hL⟩ | ⟨hx, ts', hk, hr⟩
    · exact ⟨ts, KLe.refl _, fun i t hi => (rownL_get0 hL hi).imp fun u hu => ROwn.reads t hu⟩
    · exact ⟨ts', hk, hr⟩
  refine ⟨.mk k s v m ts', (by unfold KN; exact ⟨rfl, rfl, rfl, rfl, hk⟩), ?_⟩
  unfold Reads
  refine ⟨_, len, cap, rfl, h1, h2, h3, by rw [hk.1, hl], hlc, hcm, fun _ => ⟨_, rfl, hgs, readsL_at ts' 0 fun j t hj => ?_⟩⟩
  rw [Nat.zero_add]
  exact kid_own h.own (hr j t hj)
theorem SwapAt.step {w W W2 : World} {S : Nat → Prop} {ts : List Tr} {g len cap j : Nat} {xs : List Value} {x r : Int} (h : SwapAt w W S ts g len cap xs x) {F : Nat → Nat → Prop} (hF : ∀ i c, F i c → S c ∧ c ≠ g) (hD : ∀ i i' c, F i c → F i' c → i = i') (hL : ROwnL W F ts xs 0) (hj : j < ts.length)
    {k' : Int} {s' : ByteArray} {v' : Int} {m' : Bool} {a' : Option Addr} {l' c' : Nat} (h0 : xs[j * 5]? = some (.int .i64 k')) (h1 : xs[j * 5 + 1]? = some (.string s')) (h2 : xs[j * 5 + 2]? = some (.int .u32 v')) (h3 : xs[j * 5 + 3]? = some (.bool m')) (h4 : xs[j * 5 + 4]? = some (.slice a' l' c'))
    (hA : Aside (F j) W W2) {t1 : Tr} (hk : KN ts[j] t1) (hr : Reads W2 t1 (nd k' s' v' m' a' l' c')) (ho : 0 ≤ r → ROwn W2 (F j) ts[j] (nd k' s' v' m' a' l' c')) :
    SwapAt w W2 S ts g len cap xs r := by
  have hg := (h.own.lt g rfl).2
  have hnF : ∀ i, ¬ F i g := fun i hi => (hF i g hi).2 rfl
  have hown2 := ownsRow_keep (w' := W2) h.own fun b hb => by
    have : g = b := by simpa [Value.ownBlock] using hb
    subst this
    exact hA.block g hg (hnF j)
  refine ⟨h.aside.trans (hA.wide fun c hc => (hF j c hc).1), hown2, ?_⟩
  by_cases hr0 : 0 ≤ r
  · refine .inl ⟨F, hF, hD, rownL_of0 fun i t hi => ?_⟩
    by_cases hij : i = j
    · subst hij
      rw [List.getElem?_eq_getElem hj] at hi
      cases hi
      exact ⟨k', s', v', m', a', l', c', h0, h1, h2, h3, h4, ho hr0⟩
    · exact (rownL_get0 hL hi).imp fun u hu => ROwn.keep t hu fun b hb hFb => ⟨hA.block b hb fun hjb => hij (hD i j b hFb hjb), hFb⟩
  · refine .inr ⟨by omega, ts.set j t1, KLe.set hj hk.le, fun i t hi => ?_⟩
    by_cases hij : i = j
    · subst hij
      rw [List.getElem?_set_self hj] at hi
      cases hi
      exact ⟨k', s', v', m', a', l', c', h0, h1, h2, h3, h4, hr⟩
    · rw [List.getElem?_set_ne (fun e => hij e.symm)] at hi
      exact (rownL_get0 hL hi).imp fun u hu => ROwn.reads t (ROwn.keep (T := F i) t hu fun b hb hFb => ⟨hA.block b hb fun hjb => hij (hD i j b hFb hjb), hFb⟩)
theorem SwapAt.put {w W : World} {S : Nat → Prop} {ts : List Tr} {g len cap j : Nat} {xs : List Value} {x : Int} (h : SwapAt w W S ts g len cap xs x) {F : Nat → Nat → Prop} (hF : ∀ i c, F i c → S c ∧ c ≠ g) (hL : ROwnL W F ts xs 0) (hS : S g) (hj : j < ts.length) (hlen : ts.length = len)
    {k : Int} {s : ByteArray} {v : Int} {m : Bool} {a : Option Addr} {l c : Nat} {t1 : Tr} (hk : ts[j].sm.Le t1.sm) (hr : Reads (put5 W g (j * 5) k s v m a l c) t1 (nd k s v m a l c)) :
    SwapAt w (put5 W g (j * 5) k s v m a l c) S ts g len cap (set5 xs j k s v m a l c) (-1) := by
  refine ⟨h.aside.trans (put5_aside hS), put5_own h.own j (by omega) _ _ _ _ _ _ _, .inr ⟨by omega, ts.set j t1, KLe.set hj hk, fun i t hi => ?_⟩⟩
  by_cases hij : i = j
  · subst hij
    rw [List.getElem?_set_self hj] at hi
    cases hi
    exact (rownL_get0 hL (List.getElem?_eq_getElem hj)).this5 hr
  · rw [List.getElem?_set_ne (fun e => hij e.symm)] at hi
    exact ((rownL_get0 hL hi).imp fun u hu => ROwn.reads t (ROwn.keep (T := F i) t hu fun b hb hFb => ⟨put5_block (hF i b hFb).2, hFb⟩)).other5 hij
def SwapT (t : Tr) : Prop := ∀ (W : World) (S : Nat → Prop) (yb yo : Nat) (k : Int) (s : ByteArray) (v : Int) (m : Bool) (a : Option Addr) (l c : Nat) (x : Int) (tf tg : Tr) (fk : Int) (fs : ByteArray) (fv : Int) (fm : Bool) (fa : Option Addr) (fl fc : Nat) (gk : Int) (gs : ByteArray) (gv : Int) (gm : Bool) (ga : Option Addr) (gl gc : Nat),
  -9223372036854775808 ≤ x → x ≤ 9223372036854775807 → (∀ b, S b → b < W.heap.size) → KidJ W ⟨yb, yo, none⟩ k s v m a l c → ¬ S yb → ROwn W S t (nd k s v m a l c) → t.count ≤ 100000 → (∀ V, Aside S W V → Reads V tf (nd fk fs fv fm fa fl fc)) → tf.sm.lev = 0 → (∀ V, Aside S W V → Reads V tg (nd gk gs gv gm ga gl gc)) → tg.sm.stms = true →
  Calls Try.prog 28 #[.pointer (some ⟨yb, yo, none⟩), nd fk fs fv fm fa fl fc, nd gk gs gv gm ga gl gc, .int .i64 x] W fun e W' => ∃ r, e = .returned (.int .i64 r) ∧ -9223372036854775808 ≤ r ∧ r ≤ 9223372036854775807 ∧ Aside S W W' ∧ (∃ u, KN t u ∧ Reads W' u (nd k s v m a l c)) ∧ (0 ≤ r → ROwn W' S t (nd k s v m a l c))
section
variable {k : Int} {s : ByteArray} {v : Int} {m : Bool} {a : Option Addr} {len cap : Nat} {ts : List Tr}
theorem Aside.fresh {S : Nat → Prop} {a b : World} (h : Below a.heap.size a b) : Aside S a b := ⟨h.os, h.tape, h.output, h.size, fun c hc _ => h.block c hc⟩
theorem Aside.low {S : Nat → Prop} {w a b : World} (h : Aside S a b) (hw : Below w.heap.size w a) (hs : ∀ c, S c → w.heap.size ≤ c) : Below w.heap.size w b :=
  hw.trans ⟨h.os, h.tape, h.output, h.size, fun c hc => h.block c (Nat.lt_of_lt_of_le hc hw.size) fun hS => by have := hs c hS; omega⟩
theorem Aside.boxed {S : Nat → Prop} {w W : World} (h : Aside S w W) {b : Nat} (hb : b < w.heap.size) (hn : ¬ S b) {k : Int} {s : ByteArray} {v : Int} {m : Bool} {a : Option Addr} {l c : Nat} (hk : Has w b k s v m a l c) : Has W b k s v m a l c :=
  hk.same (h.block b hb hn)
set_option maxHeartbeats 8000000 in
theorem swapT_one (hk : ∀ j (h : j < ts.length), SwapT ts[j]) : SwapT (.mk k s v m ts) := by
  intro W S yb yo k1 s1 v1 m1 a l c x0 tf tg fk fs fv fm fa fl fc gk gs gv gm ga gl gc hxl hxh hSb hkid hS hown hcount hrf hlf hrg hlg
  unfold ROwn at hown
  obtain ⟨a', len, cap, xs, F, ee, hs, hwk, hwv, ht, ho, hSS, hF, hD, hL⟩ := hown
  have e := ee
  unfold nd at e
  simp only [Value.agg.injEq] at e
  have e := congrArg Array.toList e
  simp only [List.cons.injEq, Value.int.injEq, Value.string.injEq, Value.bool.injEq, Value.slice.injEq, and_true, true_and] at e
  obtain ⟨rfl, rfl, rfl, rfl, rfl, rfl, rfl⟩ := e
  clear ee
  have hlen : l ≤ 100000 := by
    have := len_count ts
    unfold Tr.count at hcount
    omega
  have HCT : Hid (Tr.countL ts ≤ 100000) := Lib.hid (by unfold Tr.count at hcount; omega)
  have hbx : Below W.heap.size W ((W.alloc (.cells #[.int .i64 fk, .string fs, .int .u32 fv, .bool fm, .slice fa fl fc] 26)).alloc (.cells #[.int .i64 gk, .string gs, .int .u32 gv, .bool gm, .slice ga gl gc] 26)) := (below1 W _).alloc (by simp) _
  have hyW : yb < W.heap.size := by simpa using World.block_lt_of_cell? _ _ hkid.g1
  have hfx : Has ((W.alloc (.cells #[.int .i64 fk, .string fs, .int .u32 fv, .bool fm, .slice fa fl fc] 26)).alloc (.cells #[.int .i64 gk, .string gs, .int .u32 gv, .bool gm, .slice ga gl gc] 26)) W.heap.size fk fs fv fm fa fl fc := (Has.start W fk fs fv fm fa fl fc).same (Below.heap_alloc _ _ _ (by simp))
  have hgx : Has ((W.alloc (.cells #[.int .i64 fk, .string fs, .int .u32 fv, .bool fm, .slice fa fl fc] 26)).alloc (.cells #[.int .i64 gk, .string gs, .int .u32 gv, .bool gm, .slice ga gl gc] 26)) (W.heap.size + 1) gk gs gv gm ga gl gc := by
    have := Has.start (W.alloc (.cells #[.int .i64 fk, .string fs, .int .u32 fv, .bool fm, .slice fa fl fc] 26)) gk gs gv gm ga gl gc
    simpa using this
  have HFX := Lib.hid hfx
  have HGX := Lib.hid hgx
  have hsz : ((W.alloc (.cells #[.int .i64 fk, .string fs, .int .u32 fv, .bool fm, .slice fa fl fc] 26)).alloc (.cells #[.int .i64 gk, .string gs, .int .u32 gv, .bool gm, .slice ga gl gc] 26)).heap.size = W.heap.size + 2 := by simp
  have hkid2 : KidJ ((W.alloc (.cells #[.int .i64 fk, .string fs, .int .u32 fv, .bool fm, .slice fa fl fc] 26)).alloc (.cells #[.int .i64 gk, .string gs, .int .u32 gv, .bool gm, .slice ga gl gc] 26)) ⟨yb, yo, none⟩ k1 s1 v1 m1 a l c := (Aside.fresh (S := S) hbx).kidj hS hkid
  have HKid := Lib.hid hkid
  have HBX := Lib.hid hbx
  have HSB := Lib.hid hSb
  have HK := Lib.hid hk
  have HT := Lib.hid ht
  have HRF := Lib.hid hrf
  have HRG := Lib.hid hrg
  have HLF := Lib.hid hlf
  have HLG := Lib.hid hlg
  have HWF := Lib.hid (And.intro hwk (And.intro hwv hs))
  have HNS : Hid (¬ S yb) := Lib.hid hS
  have HOW : Hid (ROwn W S (.mk k1 s1 v1 m1 ts) (nd k1 s1 v1 m1 a l c)) := Lib.hid (by unfold ROwn; exact ⟨a, l, c, xs, F, rfl, hs, hwk, hwv, ht, ho, hSS, hF, hD, hL⟩)
  obtain ⟨g0, g1, g2, g3, g4⟩ := hkid2
  simp only at g0 g1 g2 g3 g4
  by_cases hl0 : l = 0 ∨ x0 < 0
  · have HAN : Hid (Aside S W ((W.alloc (.cells #[.int .i64 fk, .string fs, .int .u32 fv, .bool fm, .slice fa fl fc] 26)).alloc (.cells #[.int .i64 gk, .string gs, .int .u32 gv, .bool gm, .slice ga gl gc] 26))) := Lib.hid (Aside.fresh hbx)
    have HON : Hid (ROwn ((W.alloc (.cells #[.int .i64 fk, .string fs, .int .u32 fv, .bool fm, .slice fa fl fc] 26)).alloc (.cells #[.int .i64 gk, .string gs, .int .u32 gv, .bool gm, .slice ga gl gc] 26)) S (.mk k1 s1 v1 m1 ts) (nd k1 s1 v1 m1 a l c)) := Lib.hid (ROwn.keep _ HOW.out fun b hb hSb => ⟨hbx.block b hb, hSb⟩)
    clear hk ho hL hSS ht hcount hF hD hfx hgx hkid hSb hrf hrg hlf hlg hwk hwv hs hbx hS
    unfold nd at *
    go_enter Try.func28, Try.ntmps28
    go_wp2_with fail
    go_loopw [3, 9] (fun y i wr => i = .int .i64 0 ∧ y = .int .i64 x0 ∧ wr = (W.alloc (.cells #[.int .i64 fk, .string fs, .int .u32 fv, .bool fm, .slice fa fl fc] 26)).alloc (.cells #[.int .i64 gk, .string gs, .int .u32 gv, .bool gm, .slice ga gl gc] 26)) (fun _ i _ => 0)
    case atStart => exact ⟨rfl, rfl, rfl⟩
    case round =>
      obtain ⟨rfl, rfl, rfl⟩ := hrel
      by_cases hl1 : l = 0
      · subst hl1
        go_wp2_with fail
        go_ret
        exact ⟨_, rfl, hxl, hxh, HAN.out, ⟨_, KN.refl _, ROwn.reads _ HON.out⟩, fun _ => HON.out⟩
      · have hx1 : x0 < 0 := by omega
        have hl2 : (0 : Int) < (l : Int) := by omega
        go_wp2_with fail
        go_ret
        exact ⟨_, rfl, hxl, hxh, HAN.out, ⟨_, KN.refl _, ROwn.reads _ HON.out⟩, fun _ => HON.out⟩
  have hl1 : 0 < l := by omega
  obtain ⟨-, -, -, hg⟩ := ownsRow_bounds ho
  obtain ⟨g, rfl, -, hgs⟩ := hg hl1
  have hSg : S g := hSS g rfl
  have HSS := Lib.hid hSS
  have HI : Hid (SwapAt W ((W.alloc (.cells #[.int .i64 fk, .string fs, .int .u32 fv, .bool fm, .slice fa fl fc] 26)).alloc (.cells #[.int .i64 gk, .string gs, .int .u32 gv, .bool gm, .slice ga gl gc] 26)) S ts g l c xs x0) := Lib.hid ⟨Aside.fresh hbx, ownsRow_keep ho fun b hb => hbx.block b (ho.lt b hb).2, .inl ⟨F, fun i c hc => ⟨(hF i c hc).1, fun e => (hF i c hc).2 (by rw [e]; rfl)⟩, hD, rownL_of0 fun i t hi => (rownL_get0 hL hi).imp fun u hu => ROwn.keep t hu fun b hb hFb => ⟨hbx.block b hb, hFb⟩⟩⟩
  clear hk ho hL hSS ht hcount hF hD hfx hgx hkid hSb hrf hrg hlf hlg hwk hwv hs hbx hS hl0 HOW
  unfold nd at *
  go_enter Try.func28, Try.ntmps28
  go_wp2_with fail
  go_loopw [3, 9] (fun y i wr => ∃ (j : Nat) (x : Int) (xs' : List Value), j ≤ l ∧ -9223372036854775808 ≤ x ∧ x ≤ 9223372036854775807 ∧ i = .int .i64 j ∧ y = .int .i64 x ∧ Hid (SwapAt W wr S ts g l c xs' x) ∧ Hid (Has wr W.heap.size fk fs fv fm fa fl fc) ∧ Hid (Has wr (W.heap.size + 1) gk gs gv gm ga gl gc) ∧ Hid (W.heap.size + 2 ≤ wr.heap.size)) (fun _ i _ => l - (intOf i).toNat)
  case atStart => exact ⟨0, x0, _, Nat.zero_le _, hxl, hxh, rfl, rfl, HI, HFX, HGX, Lib.hid (by rw [hsz]; exact Nat.le_refl _)⟩
  case round =>
    obtain ⟨j, x, xs', hj, hx0, hx1, rfl, rfl, HR, HFW, HGW, HSZ⟩ := hrel
    clear HI
    obtain ⟨q0, q1, q2, q3, q4⟩ := HR.out.aside.kidj HNS.out HKid.out
    simp only at q0 q1 q2 q3 q4
    by_cases hlt : j < l ∧ 0 ≤ x
    · obtain ⟨hlt, hx2⟩ := hlt
      have hjt : j < ts.length := by rw [HT.out]; exact hlt
      obtain ⟨F2, hF2, hD2, hL2⟩ : ∃ F : Nat → Nat → Prop, (∀ i c, F i c → S c ∧ c ≠ g) ∧ (∀ i i' c, F i c → F i' c → i = i') ∧ ROwnL wr F ts xs' 0 := by
        rcases HR.out.st with h | ⟨hx, -⟩
        · exact h
        · omega
      obtain ⟨k', s', v', m', a', l', c', x0', x1', x2', x3', x4', hrj⟩ := rownL_get0 hL2 (List.getElem?_eq_getElem hjt)
      have hkj := own_kidj HR.out.own x0' x1' x2' x3' x4'
      have hkk : ts[j].knd = k' := by
        have h := ROwn.reads _ hrj
        generalize ts[j] = T at h
        cases T
        unfold Reads at h
        obtain ⟨a, len, cap, he, -⟩ := h
        unfold nd at he
        injection he with he
        simp at he
        exact he.1.symm
      have hcj : ts[j].count ≤ 100000 := by
        have h5 := take_succ_count hjt
        have h6 := take_le (ts := ts) (j := j + 1)
        have := HCT.out
        omega
      have hgw := (HR.out.own.lt g rfl).2
      obtain ⟨p0, p1, p2, p3, p4⟩ := hkj
      simp only at p0 p1 p2 p3 p4
      obtain ⟨b0, b1, b2, b3, b4⟩ := HFW.out
      obtain ⟨d0, d1, d2, d3, d4⟩ := HGW.out
      have f0 : wr.frozen? ⟨g, j * 5, none⟩ = false := own_free HR.out.own _ rfl
      have f1 : wr.frozen? ⟨g, j * 5 + 1, none⟩ = false := own_free HR.out.own _ rfl
      have f2 : wr.frozen? ⟨g, j * 5 + 2, none⟩ = false := own_free HR.out.own _ rfl
      have f3 : wr.frozen? ⟨g, j * 5 + 3, none⟩ = false := own_free HR.out.own _ rfl
      have f4 : wr.frozen? ⟨g, j * 5 + 4, none⟩ = false := own_free HR.out.own _ rfl
      have HX : Hid (xs'[j * 5]? = some (.int .i64 k') ∧ xs'[j * 5 + 1]? = some (.string s') ∧ xs'[j * 5 + 2]? = some (.int .u32 v') ∧ xs'[j * 5 + 3]? = some (.bool m') ∧ xs'[j * 5 + 4]? = some (.slice a' l' c')) := Lib.hid ⟨x0', x1', x2', x3', x4'⟩
      have HFF : Hid ((∀ i c, F2 i c → S c ∧ c ≠ g) ∧ (∀ i i' c, F2 i c → F2 i' c → i = i') ∧ ROwnL wr F2 ts xs' 0) := Lib.hid ⟨hF2, hD2, hL2⟩
      have HRJ := Lib.hid hrj
      have HKJ : Hid (KidJ wr.drew ⟨g, j * 5, none⟩ k' s' v' m' a' l' c') := Lib.hid ⟨p0, p1, p2, p3, p4⟩
      have HKK := Lib.hid hkk
      clear x0' x1' x2' x3' x4' hF2 hD2 hL2 hrj hkk
      by_cases hxz : x = 0
      · subst hxz
        by_cases h25 : 25 ≤ k'
        · have e19 : (k' == 19) = false := by simp; omega
          by_cases h33 : k' ≤ 33
          · skip
            have HP := Lib.hid (HR.out.put HFF.out.1 HFF.out.2.2 hSg hjt HT.out (kind_factor (by rw [HKK.out]; exact ⟨h25, h33⟩) HLF.out) (HRF.out _ (HR.out.aside.trans (put5_aside hSg)))).drew
            unfold nd at *
            go_wp2_with fail
            go_region_with fail
            all_goals
              clear q0 q1 q2 q3 q4 p0 p1 p2 p3 p4 b0 b1 b2 b3 b4 d0 d1 d2 d3 d4 f0 f1 f2 f3 f4
              go_wp2_with fail
              go_ret
              obtain ⟨u, hu1, hu2⟩ := HP.out.reads HT.out HWF.out.2.2 HWF.out.1 HWF.out.2.1
              exact ⟨-1, rfl, by decide, by decide, HP.out.aside, ⟨u, hu1, hu2⟩, fun h => by omega⟩
          · have hWX : IntKind.i64.wrap (-1) = -1 := IntWalk.i64_in _ (by omega)
            have HC1 := Lib.hid (HK.out j hjt wr.drew (F2 j) g (j * 5) k' s' v' m' a' l' c' (-1) tf tg fk fs fv fm fa fl fc gk gs gv gm ga gl gc (by omega) (by omega) (fun b hb => by have := HSB.out b (HFF.out.1 _ _ hb).1; have := HSZ.out; show b < wr.heap.size; omega) HKJ.out (fun h => (HFF.out.1 _ _ h).2 rfl) (ROwn.keep (T := F2 j) _ HRJ.out fun b hb hFb => ⟨rfl, hFb⟩) hcj (fun V hV => HRF.out V (HR.out.aside.drew.trans (hV.wide fun c hc => (HFF.out.1 _ _ hc).1))) HLF.out (fun V hV => HRG.out V (HR.out.aside.drew.trans (hV.wide fun c hc => (HFF.out.1 _ _ hc).1))) HLG.out)
            unfold nd at *
            go_wp2_with fail
            have q4 : wr.drew.cell? ⟨yb, yo + 4, none⟩ = _ := q4
            have b0 : wr.drew.cell? ⟨W.heap.size, 0, none⟩ = _ := b0
            have b1 : wr.drew.cell? ⟨W.heap.size, 1, none⟩ = _ := b1
            have b2 : wr.drew.cell? ⟨W.heap.size, 2, none⟩ = _ := b2
            have b3 : wr.drew.cell? ⟨W.heap.size, 3, none⟩ = _ := b3
            have b4 : wr.drew.cell? ⟨W.heap.size, 4, none⟩ = _ := b4
            have d0 : wr.drew.cell? ⟨W.heap.size + 1, 0, none⟩ = _ := d0
            have d1 : wr.drew.cell? ⟨W.heap.size + 1, 1, none⟩ = _ := d1
            have d2 : wr.drew.cell? ⟨W.heap.size + 1, 2, none⟩ = _ := d2
            have d3 : wr.drew.cell? ⟨W.heap.size + 1, 3, none⟩ = _ := d3
            have d4 : wr.drew.cell? ⟨W.heap.size + 1, 4, none⟩ = _ := d4
            go_region_with (go_at_call 28; (with_reducible refine HC1.out.mono ?_); rintro e w2 ⟨r, rfl, hr1, hr2, hA, ⟨t1, hkn, hrt⟩, hro⟩)
            all_goals
              have hA2 := (Aside.refl (F2 j) wr).drew.trans hA
              have HN := Lib.hid (HR.out.step HFF.out.1 HFF.out.2.1 HFF.out.2.2 hjt HX.out.1 HX.out.2.1 HX.out.2.2.1 HX.out.2.2.2.1 HX.out.2.2.2.2 hA2 hkn hrt hro)
              have HFN := Lib.hid (hA2.boxed (b := W.heap.size) (by have := HSZ.out; omega) (fun h => by have := HSB.out _ (HFF.out.1 _ _ h).1; omega) HFW.out)
              have HGN := Lib.hid (hA2.boxed (b := W.heap.size + 1) (by have := HSZ.out; omega) (fun h => by have := HSB.out _ (HFF.out.1 _ _ h).1; omega) HGW.out)
              have HSN : Hid (W.heap.size + 2 ≤ w2.heap.size) := Lib.hid (Nat.le_trans HSZ.out hA2.size)
              clear hA hA2 hkn hrt hro HC1 HR HFW HGW HSZ q0 q1 q2 q3 q4 p0 p1 p2 p3 p4 b0 b1 b2 b3 b4 d0 d1 d2 d3 d4 f0 f1 f2 f3 f4
              go_wp2_with fail
              exact ⟨⟨j + 1, r, xs', by omega, hr1, hr2, by simp, rfl, HN, HFN, HGN, HSN⟩, by simp [intOf]; omega⟩
        · by_cases h19 : k' = 19
          · subst h19
            have HP := Lib.hid (HR.out.put HFF.out.1 HFF.out.2.2 hSg hjt HT.out (kind_stmts HKK.out HLG.out) (HRG.out _ (HR.out.aside.trans (put5_aside hSg)))).drew
            unfold nd at *
            go_wp2_with fail
            go_region_with fail
            all_goals
              clear q0 q1 q2 q3 q4 p0 p1 p2 p3 p4 b0 b1 b2 b3 b4 d0 d1 d2 d3 d4 f0 f1 f2 f3 f4
              go_wp2_with fail
              go_ret
              obtain ⟨u, hu1, hu2⟩ := HP.out.reads HT.out HWF.out.2.2 HWF.out.1 HWF.out.2.1
              exact ⟨-1, rfl, by decide, by decide, HP.out.aside, ⟨u, hu1, hu2⟩, fun h => by omega⟩
          · have e19 : (k' == 19) = false := by simpa using h19
            have hWX : IntKind.i64.wrap (-1) = -1 := IntWalk.i64_in _ (by omega)
            have HC1 := Lib.hid (HK.out j hjt wr.drew (F2 j) g (j * 5) k' s' v' m' a' l' c' (-1) tf tg fk fs fv fm fa fl fc gk gs gv gm ga gl gc (by omega) (by omega) (fun b hb => by have := HSB.out b (HFF.out.1 _ _ hb).1; have := HSZ.out; show b < wr.heap.size; omega) HKJ.out (fun h => (HFF.out.1 _ _ h).2 rfl) (ROwn.keep (T := F2 j) _ HRJ.out fun b hb hFb => ⟨rfl, hFb⟩) hcj (fun V hV => HRF.out V (HR.out.aside.drew.trans (hV.wide fun c hc => (HFF.out.1 _ _ hc).1))) HLF.out (fun V hV => HRG.out V (HR.out.aside.drew.trans (hV.wide fun c hc => (HFF.out.1 _ _ hc).1))) HLG.out)
            unfold nd at *
            go_wp2_with fail
            have q4 : wr.drew.cell? ⟨yb, yo + 4, none⟩ = _ := q4
            have b0 : wr.drew.cell? ⟨W.heap.size, 0, none⟩ = _ := b0
            have b1 : wr.drew.cell? ⟨W.heap.size, 1, none⟩ = _ := b1
            have b2 : wr.drew.cell? ⟨W.heap.size, 2, none⟩ = _ := b2
            have b3 : wr.drew.cell? ⟨W.heap.size, 3, none⟩ = _ := b3
            have b4 : wr.drew.cell? ⟨W.heap.size, 4, none⟩ = _ := b4
            have d0 : wr.drew.cell? ⟨W.heap.size + 1, 0, none⟩ = _ := d0
            have d1 : wr.drew.cell? ⟨W.heap.size + 1, 1, none⟩ = _ := d1
            have d2 : wr.drew.cell? ⟨W.heap.size + 1, 2, none⟩ = _ := d2
            have d3 : wr.drew.cell? ⟨W.heap.size + 1, 3, none⟩ = _ := d3
            have d4 : wr.drew.cell? ⟨W.heap.size + 1, 4, none⟩ = _ := d4
            go_region_with (go_at_call 28; (with_reducible refine HC1.out.mono ?_); rintro e w2 ⟨r, rfl, hr1, hr2, hA, ⟨t1, hkn, hrt⟩, hro⟩)
            all_goals
              have hA2 := (Aside.refl (F2 j) wr).drew.trans hA
              have HN := Lib.hid (HR.out.step HFF.out.1 HFF.out.2.1 HFF.out.2.2 hjt HX.out.1 HX.out.2.1 HX.out.2.2.1 HX.out.2.2.2.1 HX.out.2.2.2.2 hA2 hkn hrt hro)
              have HFN := Lib.hid (hA2.boxed (b := W.heap.size) (by have := HSZ.out; omega) (fun h => by have := HSB.out _ (HFF.out.1 _ _ h).1; omega) HFW.out)
              have HGN := Lib.hid (hA2.boxed (b := W.heap.size + 1) (by have := HSZ.out; omega) (fun h => by have := HSB.out _ (HFF.out.1 _ _ h).1; omega) HGW.out)
              have HSN : Hid (W.heap.size + 2 ≤ w2.heap.size) := Lib.hid (Nat.le_trans HSZ.out hA2.size)
              clear hA hA2 hkn hrt hro HC1 HR HFW HGW HSZ q0 q1 q2 q3 q4 p0 p1 p2 p3 p4 b0 b1 b2 b3 b4 d0 d1 d2 d3 d4 f0 f1 f2 f3 f4
              go_wp2_with fail
              exact ⟨⟨j + 1, r, xs', by omega, hr1, hr2, by simp, rfl, HN, HFN, HGN, HSN⟩, by simp [intOf]; omega⟩
      · have exz : (x == 0) = false := by simpa using hxz
        have hWX : IntKind.i64.wrap (x - 1) = x - 1 := IntWalk.i64_in _ (by omega)
        have HC1 := Lib.hid (HK.out j hjt wr.drew (F2 j) g (j * 5) k' s' v' m' a' l' c' (x - 1) tf tg fk fs fv fm fa fl fc gk gs gv gm ga gl gc (by omega) (by omega) (fun b hb => by have := HSB.out b (HFF.out.1 _ _ hb).1; have := HSZ.out; show b < wr.heap.size; omega) HKJ.out (fun h => (HFF.out.1 _ _ h).2 rfl) (ROwn.keep (T := F2 j) _ HRJ.out fun b hb hFb => ⟨rfl, hFb⟩) hcj (fun V hV => HRF.out V (HR.out.aside.drew.trans (hV.wide fun c hc => (HFF.out.1 _ _ hc).1))) HLF.out (fun V hV => HRG.out V (HR.out.aside.drew.trans (hV.wide fun c hc => (HFF.out.1 _ _ hc).1))) HLG.out)
        unfold nd at *
        go_wp2_with fail
        have q4 : wr.drew.cell? ⟨yb, yo + 4, none⟩ = _ := q4
        have b0 : wr.drew.cell? ⟨W.heap.size, 0, none⟩ = _ := b0
        have b1 : wr.drew.cell? ⟨W.heap.size, 1, none⟩ = _ := b1
        have b2 : wr.drew.cell? ⟨W.heap.size, 2, none⟩ = _ := b2
        have b3 : wr.drew.cell? ⟨W.heap.size, 3, none⟩ = _ := b3
        have b4 : wr.drew.cell? ⟨W.heap.size, 4, none⟩ = _ := b4
        have d0 : wr.drew.cell? ⟨W.heap.size + 1, 0, none⟩ = _ := d0
        have d1 : wr.drew.cell? ⟨W.heap.size + 1, 1, none⟩ = _ := d1
        have d2 : wr.drew.cell? ⟨W.heap.size + 1, 2, none⟩ = _ := d2
        have d3 : wr.drew.cell? ⟨W.heap.size + 1, 3, none⟩ = _ := d3
        have d4 : wr.drew.cell? ⟨W.heap.size + 1, 4, none⟩ = _ := d4
        go_region_with (go_at_call 28; (with_reducible refine HC1.out.mono ?_); rintro e w2 ⟨r, rfl, hr1, hr2, hA, ⟨t1, hkn, hrt⟩, hro⟩)
        all_goals
          have hA2 := (Aside.refl (F2 j) wr).drew.trans hA
          have HN := Lib.hid (HR.out.step HFF.out.1 HFF.out.2.1 HFF.out.2.2 hjt HX.out.1 HX.out.2.1 HX.out.2.2.1 HX.out.2.2.2.1 HX.out.2.2.2.2 hA2 hkn hrt hro)
          have HFN := Lib.hid (hA2.boxed (b := W.heap.size) (by have := HSZ.out; omega) (fun h => by have := HSB.out _ (HFF.out.1 _ _ h).1; omega) HFW.out)
          have HGN := Lib.hid (hA2.boxed (b := W.heap.size + 1) (by have := HSZ.out; omega) (fun h => by have := HSB.out _ (HFF.out.1 _ _ h).1; omega) HGW.out)
          have HSN : Hid (W.heap.size + 2 ≤ w2.heap.size) := Lib.hid (Nat.le_trans HSZ.out hA2.size)
          clear hA hA2 hkn hrt hro HC1 HR HFW HGW HSZ q0 q1 q2 q3 q4 p0 p1 p2 p3 p4 b0 b1 b2 b3 b4 d0 d1 d2 d3 d4 f0 f1 f2 f3 f4
          go_wp2_with fail
          exact ⟨⟨j + 1, r, xs', by omega, hr1, hr2, by simp, rfl, HN, HFN, HGN, HSN⟩, by simp [intOf]; omega⟩
    · have HE : Hid (∃ u, KN (.mk k1 s1 v1 m1 ts) u ∧ Reads wr u (nd k1 s1 v1 m1 (some ⟨g, 0, none⟩) l c)) := Lib.hid (HR.out.reads HT.out HWF.out.2.2 HWF.out.1 HWF.out.2.1)
      have HE2 : Hid (0 ≤ x → ROwn wr S (.mk k1 s1 v1 m1 ts) (nd k1 s1 v1 m1 (some ⟨g, 0, none⟩) l c)) := Lib.hid fun hx => by
        rcases HR.out.st with ⟨F2, hF2, hD2, hL2⟩ | ⟨hx2, -⟩
        · unfold ROwn
          exact ⟨_, l, c, xs', F2, rfl, HWF.out.2.2, HWF.out.1, HWF.out.2.1, HT.out, HR.out.own, HSS.out, fun i c hc => ⟨(hF2 i c hc).1, fun e => (hF2 i c hc).2 (by simpa [Value.ownBlock] using e)⟩, hD2, hL2⟩
        · omega
      by_cases hjl : j < l
      · have hx3 : x < 0 := by omega
        go_wp2_with fail
        go_ret
        exact ⟨_, rfl, hx0, hx1, HR.out.aside, HE.out, HE2.out⟩
      · obtain rfl : j = l := by omega
        go_wp2_with fail
        go_ret
        exact ⟨_, rfl, hx0, hx1, HR.out.aside, HE.out, HE2.out⟩
end
theorem swapT_all : ∀ (t : Tr), SwapT t
  | .mk k s v m ts => swapT_one fun j hj => by
    have hd : SizeOf.sizeOf ts[j] < SizeOf.sizeOf ts := List.sizeOf_lt_of_mem (List.getElem_mem hj)
    exact swapT_all ts[j]
  termination_by t => SizeOf.sizeOf t
  decreasing_by
    simp
    omega
end Go.Proofs.Ytkhbmamgfkpdbaa

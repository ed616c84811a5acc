/-
  What the law's spoil does to a node behind a pointer: all below it become others.
-/
import Derived.Test.YtkhbmamgfkpdbaaTreeY
namespace Go.Proofs.Ytkhbmamgfkpdbaa
open Go.ChangeShapes Go.WideShapes Go.ChangeAt Go.RowKit
set_option linter.unusedVariables false
def Tr.val : Tr → Int
  | .mk _ _ v _ _ => v
/-- what becomes of a tree -/
def Spoilt (left : Int) : Tr → Tr → Prop
  | .mk k s v m ts, .mk k' s' v' m' ts' => k' = k ∧ s' = s ∧ v' = v ∧ m' = m ∧ ts'.length = ts.length ∧ (0 < left → ∀ t0 t1, ts[0]? = some t0 → ts'[0]? = some t1 → t1.val = (t0.val + 1) % 4294967296)
/-- all but blocks of a sort is as it was -/
structure Aside (S : Nat → Prop) (w w' : World) : Prop where
  os : w'.os = w.os
  tape : w'.tape = w.tape
  output : w'.output = w.output
  size : w.heap.size ≤ w'.heap.size
  block : ∀ c, c < w.heap.size → ¬ S c → w'.heap[c]? = w.heap[c]?
theorem Aside.refl (S : Nat → Prop) (w : World) : Aside S w w := ⟨rfl, rfl, rfl, Nat.le_refl _, fun _ _ _ => rfl⟩
theorem Aside.trans {S : Nat → Prop} {a b c : World} (h : Aside S a b) (k : Aside S b c) : Aside S a c :=
  ⟨k.os.trans h.os, k.tape.trans h.tape, k.output.trans h.output, Nat.le_trans h.size k.size, fun i hi hn => (k.block i (Nat.lt_of_lt_of_le hi h.size) hn).trans (h.block i hi hn)⟩
theorem Aside.wide {S T : Nat → Prop} {a b : World} (h : Aside S a b) (hs : ∀ c, S c → T c) : Aside T a b := ⟨h.os, h.tape, h.output, h.size, fun i hi hn => h.block i hi fun hS => hn (hs i hS)⟩
theorem Aside.drew {S : Nat → Prop} {a b : World} (h : Aside S a b) : Aside S a b.drew := ⟨h.os, h.tape, h.output, h.size, h.block⟩
theorem Aside.setCell {S : Nat → Prop} {a b : World} (h : Aside S a b) {p : Addr} (hp : S p.block) (u : Value) : Aside S a (b.setCell p u) :=
  h.trans ⟨rfl, rfl, rfl, by simp [World.setCell], fun k hk hn => Below.heap_setCell _ _ _ _ fun e => hn (by rw [e]; exact hp)⟩
theorem Aside.kid {S : Nat → Prop} {w W : World} (h : Aside S w W) {b o : Nat} {e : Option Nat} (hn : ¬ S b) {k : Int} {s : ByteArray} {v : Int} {m : Bool} {a : Option Addr} {l c : Nat} (hk : Kid w b o e k s v m a l c) : Kid W b o e k s v m a l c := by
  have hb : b < w.heap.size := by simpa using World.block_lt_of_cell? _ _ hk.g1
  have hc : ∀ q : Addr, q.block = b → W.cell? q = w.cell? q := fun q hq => World.cell?_of_block (by rw [hq]; exact h.block b hb hn)
  exact ⟨by rw [hc _ rfl]; exact hk.g0, by rw [hc _ rfl]; exact hk.g1, by rw [hc _ rfl]; exact hk.g2, by rw [hc _ rfl]; exact hk.g3, by rw [hc _ rfl]; exact hk.g4⟩
theorem ownsRow_set {W : World} {b0 : Nat} {T : TypeId} {sz g n cap : Nat} {xs : List Value} (h : W.ownsRow b0 T sz (.slice (some ⟨g, 0, none⟩) n cap) n xs) (q : Nat) (hq : q < n * sz) (u : Value) : (W.setCell ⟨g, q, none⟩ u).ownsRow b0 T sz (.slice (some ⟨g, 0, none⟩) n cap) n (xs.set q u) := by
  refine ⟨by simp [h.1], ?_⟩
  rcases h.2 with ⟨h1, -⟩ | ⟨g', cap', cur, e, hb, hgg, h1, h2, h3, h4⟩
  · cases h1
  · cases e
    refine .inr ⟨g, cap, cur.setIfInBounds q u, rfl, hb, set_block hgg, h1, h2, by simp [h3], ?_⟩
    rw [← h4, Array.toList_setIfInBounds, List.take_set]
theorem KidX.other {xs : List Value} {i j : Nat} {P : Value → Prop} (h : KidX xs j P) (hij : j ≠ i) (u : Value) : KidX (xs.set (i * 5 + 2) u) j P := by
  obtain ⟨k, s, v, m, a, l, c, h0, h1, h2, h3, h4, h5⟩ := h
  refine ⟨k, s, v, m, a, l, c, ?_, ?_, ?_, ?_, ?_, h5⟩
  all_goals
    rw [List.getElem?_set_ne (by omega)]
    assumption
theorem KidX.this {xs : List Value} {i : Nat} {P Q : Value → Prop} (h : KidX xs i P) (v' : Int) (hq : ∀ k s v m a l c, P (nd k s v m a l c) → Q (nd k s v' m a l c)) : KidX (xs.set (i * 5 + 2) (.int .u32 v')) i Q := by
  obtain ⟨k, s, v, m, a, l, c, h0, h1, h2, h3, h4, h5⟩ := h
  have hlt := (List.getElem?_eq_some_iff.1 h2).1
  refine ⟨k, s, v', m, a, l, c, ?_, ?_, ?_, ?_, ?_, hq _ _ _ _ _ _ _ h5⟩
  · rw [List.getElem?_set_ne (by omega)]; exact h0
  · rw [List.getElem?_set_ne (by omega)]; exact h1
  · rw [List.getElem?_set_self hlt]
  · rw [List.getElem?_set_ne (by omega)]; exact h3
  · rw [List.getElem?_set_ne (by omega)]; exact h4
theorem u32_wf (x : Int) (h0 : 0 ≤ x) (h1 : x < 4294967296) : (Lit.int .u32 x).wf = true := by
  show (decide ((0 : Int) ≤ x) && decide (x ≤ 4294967295)) = true
  rw [decide_eq_true h0, decide_eq_true (by omega)]
  rfl
def Tr.with (v : Int) : Tr → Tr
  | .mk k s _ m ts => .mk k s v m ts
theorem val_with (v : Int) (t : Tr) : (t.with v).val = v := by cases t; rfl
theorem ROwn.with {w : World} {S : Nat → Prop} {t : Tr} {k : Int} {s : ByteArray} {v : Int} {m : Bool} {a : Option Addr} {l c : Nat} (h : ROwn w S t (nd k s v m a l c)) (v' : Int) (hv : (Lit.int .u32 v').wf = true) : ROwn w S (t.with v') (nd k s v' m a l c) ∧ t.val = v := by
  cases t with
  | mk k1 s1 v1 m1 ts =>
    unfold ROwn at h
    obtain ⟨a', len, cap, xs, F, e, h1, h2, h3, h4⟩ := h
    unfold nd at e
    simp only [Value.agg.injEq] at e
    have e := congrArg Array.toList e
    simp only [List.cons.injEq, Value.int.injEq, Value.string.injEq, Value.bool.injEq, Value.slice.injEq, and_true, true_and] at e
    obtain ⟨rfl, rfl, rfl, rfl, rfl, rfl, rfl⟩ := e
    refine ⟨?_, rfl⟩
    unfold Tr.with ROwn
    exact ⟨a, l, c, xs, F, rfl, h1, h2, hv, h4⟩
theorem Aside.kidj {S : Nat → Prop} {w W : World} (h : Aside S w W) {y : Addr} (hn : ¬ S y.block) {k : Int} {s : ByteArray} {v : Int} {m : Bool} {a : Option Addr} {l c : Nat} (hk : KidJ w y k s v m a l c) : KidJ W y k s v m a l c := by
  have hb : y.block < w.heap.size := by simpa using World.block_lt_of_cell? _ _ hk.g1
  have hc : ∀ q : Addr, q.block = y.block → W.cell? q = w.cell? q := fun q hq => World.cell?_of_block (by rw [hq]; exact h.block _ hb hn)
  exact ⟨by rw [hc y rfl]; exact hk.g0, by rw [hc ⟨y.block, y.off + 1, none⟩ rfl]; exact hk.g1, by rw [hc ⟨y.block, y.off + 2, none⟩ rfl]; exact hk.g2, by rw [hc ⟨y.block, y.off + 3, none⟩ rfl]; exact hk.g3, by rw [hc ⟨y.block, y.off + 4, none⟩ rfl]; exact hk.g4⟩
theorem own_kidj {w : World} {T : TypeId} {b0 g n cap j : Nat} {xs : List Value} (ho : w.ownsRow b0 T 5 (.slice (some ⟨g, 0, none⟩) n cap) n xs) {k : Int} {s : ByteArray} {v : Int} {m : Bool} {a : Option Addr} {l c : Nat}
    (h0 : xs[j * 5]? = some (.int .i64 k)) (h1 : xs[j * 5 + 1]? = some (.string s)) (h2 : xs[j * 5 + 2]? = some (.int .u32 v)) (h3 : xs[j * 5 + 3]? = some (.bool m)) (h4 : xs[j * 5 + 4]? = some (.slice a l c)) :
    KidJ w ⟨g, j * 5, none⟩ k s v m a l c := by
  have hc := ho.cells (g := g) rfl
  refine ⟨?_, ?_, ?_, ?_, ?_⟩
  · have := hc _ _ h0; rw [cell_add] at this; exact this
  · have := hc _ _ h1; rw [cell_add] at this; exact this
  · have := hc _ _ h2; rw [cell_add] at this; exact this
  · have := hc _ _ h3; rw [cell_add] at this; exact this
  · have := hc _ _ h4; rw [cell_add] at this; exact this
theorem own_free {w : World} {T : TypeId} {b0 g n cap sz : Nat} {xs : List Value} (ho : w.ownsRow b0 T sz (.slice (some ⟨g, 0, none⟩) n cap) n xs) (p : Addr) (hp : p.block = g) : w.frozen? p = false := by
  rcases ho.2 with ⟨h1, -⟩ | ⟨g', cap', cur, e, hb, hgg, -⟩
  · cases h1
  · cases e
    unfold World.frozen?
    rw [hp, hgg]
    simp
/-- where spoil stands, so many kids on -/
structure SpoilAt (w W : World) (S : Nat → Prop) (ts ts' : List Tr) (g len cap i : Nat) (xs : List Value) : Prop where
  aside : Aside S w W
  lens : ts'.length = ts.length
  own : W.ownsRow 0 26 5 (.slice (some ⟨g, 0, none⟩) len cap) len xs
  kids : ∃ F : Nat → Nat → Prop, (∀ i c, F i c → S c ∧ c ≠ g) ∧ (∀ i i' c, F i c → F i' c → i = i') ∧ ROwnL W F ts' xs 0
  rest : ∀ j, i ≤ j → ts'[j]? = ts[j]?
  head : 0 < i → ∀ t0 t1, ts[0]? = some t0 → ts'[0]? = some t1 → t1.val = (t0.val + 1) % 4294967296
theorem SpoilAt.step {w W W2 : World} {S : Nat → Prop} {ts ts' : List Tr} {g len cap j : Nat} {xs : List Value} (h : SpoilAt w W S ts ts' g len cap j xs) {F : Nat → Nat → Prop} (hF : ∀ i c, F i c → S c ∧ c ≠ g) (hD : ∀ i i' c, F i c → F i' c → i = i') (hL : ROwnL W F ts' xs 0) (hS : S g) (hj : j < ts.length) (hlen : ts.length = len)
    {k' : Int} {s' : ByteArray} {v' : Int} {m' : Bool} {a' : Option Addr} {l' c' : Nat} (h0 : xs[j * 5]? = some (.int .i64 k')) (h1 : xs[j * 5 + 1]? = some (.string s')) (h2 : xs[j * 5 + 2]? = some (.int .u32 v')) (h3 : xs[j * 5 + 3]? = some (.bool m')) (h4 : xs[j * 5 + 4]? = some (.slice a' l' c'))
    (hv : ts[j].val = v') (hA : Aside (F j) W W2) {t1 : Tr} (hr : ROwn W2 (F j) t1 (nd k' s' v' m' a' l' c')) :
    SpoilAt w (W2.setCell ⟨g, j * 5 + 2, none⟩ (.int .u32 ((v' + 1) % 4294967296))) S ts (ts'.set j (t1.with ((v' + 1) % 4294967296))) g len cap (j + 1) (xs.set (j * 5 + 2) (.int .u32 ((v' + 1) % 4294967296))) := by
  have hwf : (Lit.int .u32 ((v' + 1) % 4294967296)).wf = true := u32_wf _ (by omega) (by omega)
  have hg := (h.own.lt g rfl).2
  have hnF : ∀ i, ¬ F i g := fun i hi => (hF i g hi).2 rfl
  have hown2 := ownsRow_keep (w' := W2) h.own fun b hb => by
    have : g = b := by simpa [Value.ownBlock] using hb
    subst this
    exact hA.block g hg (hnF j)
  have hset : ∀ b, b ≠ g → (W2.setCell ⟨g, j * 5 + 2, none⟩ (.int .u32 ((v' + 1) % 4294967296))).heap[b]? = W2.heap[b]? := fun b hb => Below.heap_setCell _ _ _ _ hb
  refine ⟨(h.aside.trans (hA.wide fun c hc => (hF j c hc).1)).setCell (p := ⟨g, j * 5 + 2, none⟩) hS _, by simp [h.lens], ownsRow_set hown2 _ (by omega) _, ⟨F, hF, hD, rownL_of0 fun i t hi => ?_⟩, fun i hi => ?_, fun _ t0 t2 e0 e2 => ?_⟩
  · by_cases hij : i = j
    · subst hij
      have hj' : i < ts'.length := by rw [h.lens]; exact hj
      rw [List.getElem?_set_self hj'] at hi
      cases hi
      refine KidX.this (P := ROwn W2 (F i) t1) ⟨k', s', v', m', a', l', c', h0, h1, h2, h3, h4, hr⟩ _ fun k s v m a l c hu => ?_
      exact ROwn.keep _ (hu.with _ hwf).1 fun b hb hFb => ⟨hset b (hF i b hFb).2, hFb⟩
    · rw [List.getElem?_set_ne (fun e => hij e.symm)] at hi
      refine ((rownL_get0 hL hi).imp fun u hu => ROwn.keep t hu fun b hb hFb => ⟨?_, hFb⟩).other hij _
      rw [hset b (hF i b hFb).2]
      exact hA.block b hb fun hjb => hij (hD i j b hFb hjb)
  · rw [List.getElem?_set_ne (by omega)]
    exact h.rest i (by omega)
  · by_cases hj0 : j = 0
    · subst hj0
      have hj' : 0 < ts'.length := by rw [h.lens]; exact hj
      rw [List.getElem?_set_self hj'] at e2
      cases e2
      rw [List.getElem?_eq_getElem hj] at e0
      cases e0
      rw [val_with, hv]
    · rw [List.getElem?_set_ne (by omega)] at e2
      exact h.head (by omega) t0 t2 e0 e2
theorem SpoilAt.drew {w W : World} {S : Nat → Prop} {ts ts' : List Tr} {g len cap i : Nat} {xs : List Value} (h : SpoilAt w W S ts ts' g len cap i xs) : SpoilAt w W.drew S ts ts' g len cap i xs := by
  obtain ⟨F, hF, hD, hL⟩ := h.kids
  exact ⟨h.aside.drew, h.lens, ownsRow_keep h.own fun _ _ => rfl, ⟨F, hF, hD, rownL_of0 fun i t hi => (rownL_get0 hL hi).imp fun u hu => ROwn.keep t hu fun b hb hS => ⟨rfl, hS⟩⟩, h.rest, h.head⟩
theorem u32_wrap (x : Int) : IntKind.u32.wrap x = x % 4294967296 := by rfl
def SpoilT (t : Tr) : Prop := ∀ (W : World) (S : Nat → Prop) (y : Addr) (k : Int) (s : ByteArray) (v : Int) (m : Bool) (a : Option Addr) (l c : Nat) (left : Int), 0 ≤ left → left ≤ 100000 → KidJ W y k s v m a l c → ¬ S y.block → ROwn W S t (nd k s v m a l c) → t.count ≤ 100000 →
  Calls Try.prog 18 #[.pointer (some y), .int .i64 left] W fun e' W' => e' = .returned (.tuple #[]) ∧ Aside S W W' ∧ ∃ t', ROwn W' S t' (nd k s v m a l c) ∧ Spoilt left t t'
theorem SpoilT.call {t : Tr} (h : SpoilT t) {W : World} {S : Nat → Prop} {y : Addr} {k : Int} {s : ByteArray} {v : Int} {m : Bool} {a : Option Addr} {l c : Nat} (left : Int) (h0 : 0 ≤ left) (h1 : left ≤ 100000) (hk : KidJ W y k s v m a l c) (hn : ¬ S y.block) (hr : ROwn W S t (nd k s v m a l c)) (hc : t.count ≤ 100000) :
  Calls Try.prog 18 #[.pointer (some y), .int .i64 left] W fun e' W' => e' = .returned (.tuple #[]) ∧ Aside S W W' ∧ ∃ t', ROwn W' S t' (nd k s v m a l c) ∧ Spoilt left t t' := h W S y k s v m a l c left h0 h1 hk hn hr hc
section
variable {k : Int} {s : ByteArray} {v : Int} {m : Bool} {a : Option Addr} {len cap : Nat} {ts : List Tr}
set_option maxHeartbeats 4000000 in
theorem spoilT_one (hk : ∀ j (h : j < ts.length), SpoilT ts[j]) : SpoilT (.mk k s v m ts) := by
  intro W S y k1 s1 v1 m1 a l c left l0 l1 hkid hS hown hcount
  unfold ROwn at hown
  obtain ⟨a', len, cap, xs, F, ee, hs, hwk, hwv, ht, ho, hSS, hF, hD, hL⟩ := hown
  have e := ee
  unfold nd at e
  simp only [Value.agg.injEq] at e
  have e := congrArg Array.toList e
  simp only [List.cons.injEq, Value.int.injEq, Value.string.injEq, Value.bool.injEq, Value.slice.injEq, and_true, true_and] at e
  obtain ⟨rfl, rfl, rfl, rfl, rfl, rfl, rfl⟩ := e
  clear ee
  have hlen : l ≤ 100000 := by
    have := len_count ts
    unfold Tr.count at hcount
    omega
  have HCT : Hid (Tr.countL ts ≤ 100000) := Lib.hid (by unfold Tr.count at hcount; omega)
  have HF := Lib.hid hF
  have HDD := Lib.hid hD
  clear hF hD
  have HKid := Lib.hid hkid
  have HK := Lib.hid hk
  have HO := Lib.hid ho
  have HL := Lib.hid hL
  have HSS := Lib.hid hSS
  have HT := Lib.hid ht
  clear hk ho hL hSS ht hcount
  obtain ⟨g0, g1, g2, g3, g4⟩ := hkid
  have HWF := Lib.hid (And.intro hwk (And.intro hwv hs))
  by_cases hz : l = 0 ∨ left = 0
  · have HZ : Hid (Spoilt left (.mk k1 s1 v1 m1 ts) (.mk k1 s1 v1 m1 ts)) := Lib.hid (by
      refine ⟨rfl, rfl, rfl, rfl, rfl, fun h t0 t1 e0 _ => ?_⟩
      rcases hz with hz | hz
      · have := (List.getElem?_eq_some_iff.1 e0).1
        have := HT.out
        omega
      · omega)
    have hd : decide ((0 : Int) < (l : Int)) = false ∨ decide (left > 0) = false := by
      rcases hz with hz | hz
      · left; simp [hz]
      · right; simp [hz]
    have HW : Hid (ROwn W S (.mk k1 s1 v1 m1 ts) (nd k1 s1 v1 m1 a l c)) := Lib.hid (by unfold ROwn; exact ⟨a, l, c, xs, F, rfl, hs, hwk, hwv, HT.out, HO.out, HSS.out, HF.out, HDD.out, HL.out⟩)
    go_enter Try.func18, Try.ntmps18
    go_wp2_with fail
    go_loopw [4] (fun i wr => i = .int .i64 0 ∧ wr = W) (fun i _ => 0)
    case atStart => exact ⟨rfl, rfl⟩
    case round =>
      obtain ⟨rfl, rfl⟩ := hrel
      by_cases h0 : (0 : Int) < (l : Int)
      · have h1 : left = 0 := by omega
        subst h1
        go_wp2_with fail
        go_end0
        exact ⟨rfl, Aside.refl _ _, _, HW.out, HZ.out⟩
      · obtain rfl : l = 0 := by omega
        go_wp2_with fail
        go_end0
        exact ⟨rfl, Aside.refl _ _, _, HW.out, HZ.out⟩
  · have hl0 : 0 < l := by omega
    have hp : 0 < left := by omega
    obtain ⟨-, -, -, hg⟩ := ownsRow_bounds HO.out
    obtain ⟨g, rfl, -, hgs⟩ := hg hl0
    have HI : Hid (SpoilAt W W S ts ts g l c 0 xs) := Lib.hid ⟨Aside.refl _ _, rfl, HO.out, ⟨F, fun i c hc => ⟨(HF.out i c hc).1, fun e => (HF.out i c hc).2 (by rw [e]; rfl)⟩, HDD.out, HL.out⟩, fun _ _ => rfl, fun h => by omega⟩
    have hSg : S g := HSS.out g rfl
    clear HO HL hz
    go_enter Try.func18, Try.ntmps18
    go_wp2_with fail
    go_loopw [4] (fun i wr => ∃ (j : Nat) (ts' : List Tr) (xs' : List Value), j ≤ l ∧ i = .int .i64 j ∧ Hid (SpoilAt W wr S ts ts' g l c j xs')) (fun i _ => l - (intOf i).toNat)
    case atStart => exact ⟨0, _, _, Nat.zero_le _, rfl, HI⟩
    case round =>
      obtain ⟨j, ts', xs', hj, rfl, HR⟩ := hrel
      clear HI
      obtain ⟨q0, q1, q2, q3, q4⟩ := HR.out.aside.kidj hS HKid.out
      by_cases hlt : j < l
      · have hjt : j < ts.length := by rw [HT.out]; exact hlt
        obtain ⟨F2, hF2, hD2, hL2⟩ := HR.out.kids
        have hg1 : ts'[j]? = some ts[j] := by rw [HR.out.rest j (Nat.le_refl _)]; exact List.getElem?_eq_getElem hjt
        obtain ⟨k', s', v', m', a', l', c', x0, x1, x2, x3, x4, hrj⟩ := rownL_get0 hL2 hg1
        have hkj := own_kidj HR.out.own x0 x1 x2 x3 x4
        have hcj : ts[j].count ≤ 100000 := by
          have h5 := take_succ_count hjt
          have h6 := take_le (ts := ts) (j := j + 1)
          have := HCT.out
          omega
        have hgw := (HR.out.own.lt g rfl).2
        have HC1 := Lib.hid ((HK.out j hjt).call (left - 1) (by omega) (by omega) hkj (fun h => (hF2 _ _ h).2 rfl) hrj hcj)
        have HRJ := Lib.hid hrj
        have HX : Hid (xs'[j * 5]? = some (.int .i64 k') ∧ xs'[j * 5 + 1]? = some (.string s') ∧ xs'[j * 5 + 2]? = some (.int .u32 v') ∧ xs'[j * 5 + 3]? = some (.bool m') ∧ xs'[j * 5 + 4]? = some (.slice a' l' c')) := Lib.hid ⟨x0, x1, x2, x3, x4⟩
        have HFF : Hid ((∀ i c, F2 i c → S c ∧ c ≠ g) ∧ (∀ i i' c, F2 i c → F2 i' c → i = i') ∧ ROwnL wr F2 ts' xs' 0) := Lib.hid ⟨hF2, hD2, hL2⟩
        have HKJ := Lib.hid hkj
        clear x0 x1 x2 x3 x4 hF2 hD2 hL2 hkj hrj hg1
        go_wp2_with (go_at_call 18; (with_reducible refine HC1.out.mono ?_); rintro e w2 ⟨rfl, hA, t1, hr1, -⟩; obtain ⟨p0, p1, p2, p3, p4⟩ := ((HR.out.aside.trans (hA.wide fun c hc => (HFF.out.1 _ _ hc).1))).kidj hS HKid.out; obtain ⟨z0, z1, z2, z3, z4⟩ := hA.kidj (fun h => (HFF.out.1 _ _ h).2 rfl) HKJ.out; have hfz := own_free (ownsRow_keep (w' := w2) HR.out.own fun b hb => hA.block b (HR.out.own.lt b hb).2 fun h => (HFF.out.1 _ _ h).2 (by simpa [Value.ownBlock] using hb.symm)) ⟨g, j * 5 + 2, none⟩ rfl; have HA := Lib.hid hA; have HR1 := Lib.hid hr1; clear hA hr1)
        clear q0 q1 q2 q3 q4 p0 p1 p2 p3 z0 z1 z3 z4 g0 g1 g2 g3 g4 hwk hwv hs
        go_region_with fail
        all_goals
          have HP := Lib.hid ((HR.out.step HFF.out.1 HFF.out.2.1 HFF.out.2.2 hSg hjt HT.out HX.out.1 HX.out.2.1 HX.out.2.2.1 HX.out.2.2.2.1 HX.out.2.2.2.2 (HRJ.out.with 0 (u32_wf 0 (by omega) (by omega))).2 HA.out HR1.out).drew)
          rw [← u32_wrap] at HP
          generalize (w2.setCell ⟨g, j * 5 + 2, none⟩ (.int .u32 (IntKind.u32.wrap (v' + 1)))).drew = w3 at *
          clear HC1 HRJ HX HFF HKJ HA HR1 HR hfz p4 z2
          go_wp2_with fail
          exact ⟨⟨j + 1, _, _, by omega, by simp, HP⟩, by simp [intOf]; omega⟩
      · obtain rfl : j = l := by omega
        go_wp2_with fail
        go_end0
        refine ⟨rfl, HR.out.aside, .mk k1 s1 v1 m1 ts', ?_, rfl, rfl, rfl, rfl, HR.out.lens, fun _ t0 t1 e0 e1 => HR.out.head (by omega) t0 t1 e0 e1⟩
        obtain ⟨F2, hF2, hD2, hL2⟩ := HR.out.kids
        unfold ROwn
        exact ⟨_, j, c, xs', F2, rfl, HWF.out.2.2, HWF.out.1, HWF.out.2.1, by rw [HR.out.lens, HT.out], HR.out.own, HSS.out, fun i c hc => ⟨(hF2 i c hc).1, fun e => (hF2 i c hc).2 (by simpa [Value.ownBlock] using e)⟩, hD2, hL2⟩
end
theorem spoilT_all : ∀ (t : Tr), SpoilT t
  | .mk k s v m ts => spoilT_one fun j hj => by
    have hd : SizeOf.sizeOf ts[j] < SizeOf.sizeOf ts := List.sizeOf_lt_of_mem (List.getElem_mem hj)
    exact spoilT_all ts[j]
  termination_by t => SizeOf.sizeOf t
  decreasing_by
    simp
    omega
end Go.Proofs.Ytkhbmamgfkpdbaa

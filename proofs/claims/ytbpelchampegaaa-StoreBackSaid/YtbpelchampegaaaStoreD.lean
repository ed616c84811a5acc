/-
  A byte written behind a rider.
-/
import Derived.Test.YtbpelchampegaaaStoreC
import Derived.Deep.RegionLaw
import Derived.Deep.RegionWith
namespace Go.Proofs.Ytbpelchampegaaa
open Go.ChangeShapes Go.WideShapes Go.ChangeAt Go.RowKit
set_option linter.unusedVariables false
theorem below1 (w : World) (o : Obj) : Below w.heap.size w (w.alloc o) := (Below.refl _ _).alloc (Nat.le_refl _) _
/-- a byte at a place, or behind the end -/
def wrote (xs : List Int) (at_ : Nat) (x : Int) : List Int := if at_ = xs.length then xs ++ [x] else xs.set at_ x
def StM.wrote (s : StM) (i : Nat) (r : Nat × Nat) (q : FileM) (v : Value) (x : Int) : StM :=
  { s with fs := s.fs.set r.1 { q with val := v, xs := Proofs.Ytbpelchampegaaa.wrote q.xs r.2 x }, rs := s.rs.set i (r.1, r.2 + 1), used := if r.2 = q.xs.length then s.used + 1 else s.used }
section
variable {w : World} {B p : Nat} {s : StM} {g : Nat → Tag}
/-- what a write looks at -/
structure Wf (w : World) (p b i n : Nat) (q : FileM) (a : Option Addr) (c used : Nat) : Prop where
  r0 : w.cell? ⟨b, i * 2, none⟩ = some (.pointer (some ⟨q.blk, 0, none⟩))
  r1 : w.cell? ⟨b, i * 2 + 1, none⟩ = some (.int .i64 (n : Int))
  rz : w.frozen? ⟨b, i * 2 + 1, none⟩ = false
  f1 : w.cell? ⟨q.blk, 1, none⟩ = some (.slice a q.xs.length c)
  fz : w.frozen? ⟨q.blk, 1, none⟩ = false
  c2 : w.cell? ⟨p, 2, none⟩ = some (.int .i64 (used : Int))
  pz : w.frozen? ⟨p, 2, none⟩ = false
theorem Wf.of (h : StoreAt w B p s g) {f : Int} {i : Nat} {r : Nat × Nat} {b cap : Nat} (hR : Rid w s f i r b cap) {q : FileM} (hq : s.fs[r.1]? = some q) {a : Option Addr} {c : Nat} (e : q.val = .slice a q.xs.length c) : Wf w p b i r.2 q a c s.used := by
  obtain ⟨f0, f1, f2, fz⟩ := h.file hq
  obtain ⟨c0, c1, c2, c3, c4, pz⟩ := h.cells
  exact ⟨by rw [← blkOf_at hq]; exact hR.c0, hR.c1, hR.fz, by rw [← e]; exact f1, fz 1, c2, pz 2⟩
theorem Wf.keep {w W : World} {p b i n : Nat} {q : FileM} {a : Option Addr} {c used : Nat} (h : Wf w p b i n q a c used) (hb : W.heap[b]? = w.heap[b]?) (hq : W.heap[q.blk]? = w.heap[q.blk]?) (hp : W.heap[p]? = w.heap[p]?) : Wf W p b i n q a c used :=
  ⟨by rw [World.cell?_of_block (w := w) hb]; exact h.r0, by rw [World.cell?_of_block (w := w) hb]; exact h.r1, by rw [World.frozen?_of_block (w := w) hb]; exact h.rz, by rw [World.cell?_of_block (w := w) hq]; exact h.f1, by rw [World.frozen?_of_block (w := w) hq]; exact h.fz, by rw [World.cell?_of_block (w := w) hp]; exact h.c2, by rw [World.frozen?_of_block (w := w) hp]; exact h.pz⟩
theorem Wf.lt {w : World} {p b i n : Nat} {q : FileM} {a : Option Addr} {c used : Nat} (h : Wf w p b i n q a c used) : b < w.heap.size ∧ q.blk < w.heap.size ∧ p < w.heap.size :=
  ⟨by simpa using World.block_lt_of_cell? _ _ h.r0, by simpa using World.block_lt_of_cell? _ _ h.f1, by simpa using World.block_lt_of_cell? _ _ h.c2⟩
theorem Wf.rest {w W : World} {p b i n : Nat} {q : FileM} {a : Option Addr} {c used : Nat} (h : Wf w p b i n q a c used) (hr : Rest w W) : Wf W p b i n q a c used := h.keep (by rw [hr.heap]) (by rw [hr.heap]) (by rw [hr.heap])
theorem Wf.below {w W : World} {p b i n : Nat} {q : FileM} {a : Option Addr} {c used : Nat} (h : Wf w p b i n q a c used) (hr : Below w.heap.size w W) : Wf W p b i n q a c used :=
  h.keep (hr.block _ h.lt.1) (hr.block _ h.lt.2.1) (hr.block _ h.lt.2.2)
theorem Wf.grown {w W : World} {p b i n : Nat} {q : FileM} {a : Option Addr} {c used : Nat} (h : Wf w p b i n q a c used) {v : Option Nat} (hg : w.grownBy W v) (h1 : some b ≠ v) (h2 : some q.blk ≠ v) (h3 : some p ≠ v) : Wf W p b i n q a c used :=
  h.keep (hg.block _ h.lt.1 h1) (hg.block _ h.lt.2.1 h2) (hg.block _ h.lt.2.2 h3)
theorem Wf.set {w : World} {p b i n : Nat} {q : FileM} {a : Option Addr} {c used : Nat} (h : Wf w p b i n q a c used) {u : Value} {o : Nat} (h1 : b ≠ q.blk) (h2 : p ≠ q.blk) :
    (w.setCell ⟨q.blk, o, none⟩ u).cell? ⟨b, i * 2 + 1, none⟩ = some (.int .i64 (n : Int)) ∧ (w.setCell ⟨q.blk, o, none⟩ u).frozen? ⟨b, i * 2 + 1, none⟩ = false ∧ (w.setCell ⟨q.blk, o, none⟩ u).cell? ⟨p, 2, none⟩ = some (.int .i64 (used : Int)) ∧ (w.setCell ⟨q.blk, o, none⟩ u).frozen? ⟨p, 2, none⟩ = false := by
  have e1 : (w.setCell ⟨q.blk, o, none⟩ u).heap[b]? = w.heap[b]? := Below.heap_setCell _ _ _ _ h1
  have e2 : (w.setCell ⟨q.blk, o, none⟩ u).heap[p]? = w.heap[p]? := Below.heap_setCell _ _ _ _ h2
  exact ⟨by rw [World.cell?_of_block (w := w) e1]; exact h.r1, by rw [World.frozen?_of_block (w := w) e1]; exact h.rz, by rw [World.cell?_of_block (w := w) e2]; exact h.c2, by rw [World.frozen?_of_block (w := w) e2]; exact h.pz⟩
theorem vals_snoc (xs : List Int) (x : Int) : vals .u8 (xs ++ [x]) = vals .u8 xs ++ [.int .u8 x] := by unfold vals; simp
theorem vals_set (xs : List Int) (n : Nat) (x : Int) : vals .u8 (xs.set n x) = (vals .u8 xs).set n (.int .u8 x) := by unfold vals; rw [List.map_set]
/-- what a write leaves as it was, and where the bytes lie then -/
def Far (w w' : World) (p b : Nat) (q : FileM) (v : Value) : Prop := (∀ c, c < w.heap.size → c ≠ p → c ≠ b → c ≠ q.blk → some c ≠ q.val.ownBlock → w'.heap[c]? = w.heap[c]?) ∧ ∀ c, v.ownBlock = some c → q.val.ownBlock = some c ∨ w.heap.size ≤ c
theorem StoreAt.wroteEnd (h : StoreAt w B p s g) {i : Nat} {r : Nat × Nat} {b cap : Nat} (hi : s.rs[i]? = some r) (hrow : s.rv = .slice (some ⟨b, 0, none⟩) s.rs.length cap) {q : FileM} (hq : s.fs[r.1]? = some q) (hend : r.2 = q.xs.length) {V X : World} (hV : Rest w V) {o : Obj} {gg cap1 : Nat} {x : Int} (x0 : 0 ≤ x) (x1 : x ≤ 255)
    (ho : X.ownsRow B 5 1 (.slice (some ⟨gg, 0, none⟩) (q.xs.length + 1) cap1) (q.xs.length + 1) (vals .u8 q.xs ++ [.int .u8 x])) (hg : (V.alloc o).drew.grownBy X q.val.ownBlock) (hat : q.val.ownBlock = some gg ∨ gg = (V.alloc o).drew.heap.size) (u1 : s.used + 1 ≤ s.cap) (u2 : q.xs.length + 1 ≤ s.cap) :
    ∃ g', StoreAt (((X.setCell ⟨q.blk, 1, none⟩ (.slice (some ⟨gg, 0, none⟩) (q.xs.length + 1) cap1)).setCell ⟨p, 2, none⟩ (.int .i64 ((s.used : Int) + 1))).setCell ⟨b, i * 2 + 1, none⟩ (.int .i64 ((r.2 : Int) + 1))) B p (s.wrote i r q (.slice (some ⟨gg, 0, none⟩) (q.xs.length + 1) cap1) x) g' ∧ Below B w (((X.setCell ⟨q.blk, 1, none⟩ (.slice (some ⟨gg, 0, none⟩) (q.xs.length + 1) cap1)).setCell ⟨p, 2, none⟩ (.int .i64 ((s.used : Int) + 1))).setCell ⟨b, i * 2 + 1, none⟩ (.int .i64 ((r.2 : Int) + 1))) ∧ Far w (((X.setCell ⟨q.blk, 1, none⟩ (.slice (some ⟨gg, 0, none⟩) (q.xs.length + 1) cap1)).setCell ⟨p, 2, none⟩ (.int .i64 ((s.used : Int) + 1))).setCell ⟨b, i * 2 + 1, none⟩ (.int .i64 ((r.2 : Int) + 1))) p b q (.slice (some ⟨gg, 0, none⟩) (q.xs.length + 1) cap1) := by
  have gq := h.gf _ q hq
  have lq := h.lf hq
  have old : ∀ c, c < w.heap.size → some c ≠ q.val.ownBlock → X.heap[c]? = w.heap[c]? := fun c hc hn => by
    rw [hg.block c (by simp [World.drew, hV.heap]; omega) hn]
    show (V.alloc o).heap[c]? = _
    rw [Below.heap_alloc _ _ _ (by rw [hV.heap]; exact hc), hV.heap]
  have hqb : some q.blk ≠ q.val.ownBlock := fun e => tag_ne gq (h.gd _ q hq _ e.symm) (by simp) rfl
  have hgg : gg ≠ q.blk := by
    rcases hat with e | e
    · exact fun e2 => hqb (by rw [e, e2])
    · simp [World.drew, hV.heap] at e; omega
  obtain ⟨g', hA, -⟩ := h.setFile (W := X.setCell ⟨q.blk, 1, none⟩ (.slice (some ⟨gg, 0, none⟩) (q.xs.length + 1) cap1)) (f' := { q with val := .slice (some ⟨gg, 0, none⟩) (q.xs.length + 1) cap1, xs := q.xs ++ [x] }) hq rfl
    (fun c hc h1 h2 => by rw [Below.heap_setCell _ _ _ _ h1]; exact old c hc h2)
    (by have e : X.heap[q.blk]? = some (.cells #[.string q.nm, q.val, .bool q.rid] 57 (0, 0)) := by rw [old _ lq hqb]; exact h.hf _ q hq
        exact set_block e)
    (by rw [vals_snoc]
        have : (q.xs ++ [x]).length = q.xs.length + 1 := by simp
        show World.ownsRow _ B _ 1 _ (q.xs ++ [x]).length _
        rw [this]
        exact ownsRow_keep ho fun c hc => Below.heap_setCell _ _ _ _ (by have e : gg = c := by simpa [Value.ownBlock] using hc
                                                                         show c ≠ q.blk
                                                                         omega))
    (fun c hc => by
      have e : gg = c := by simpa [Value.ownBlock] using hc
      subst e
      rcases hat with e | e
      · exact .inl e
      · right; rw [e]; simp [World.drew, hV.heap])
    (by refine ⟨(h.ok _ q hq).1, by simp; omega, fun y hy => ?_⟩
        simp at hy
        rcases hy with hy | rfl
        · exact (h.ok _ q hq).2.2 y hy
        · exact ⟨x0, x1⟩)
    (by simp)
  have hU := hA.setUsed (n := s.used + 1) u1
  have hT := hU.setAt (i := i) (r := r) hi (b := b) (cap := cap) hrow (n := r.2 + 1) ⟨_, List.getElem?_set_self (List.getElem?_eq_some_iff.1 hq).1, by simp; omega⟩
  have hs : s.wrote i r q (.slice (some ⟨gg, 0, none⟩) (q.xs.length + 1) cap1) x = { s with fs := s.fs.set r.1 { q with val := .slice (some ⟨gg, 0, none⟩) (q.xs.length + 1) cap1, xs := q.xs ++ [x] }, used := s.used + 1, rs := s.rs.set i (r.1, r.2 + 1) } := by
    unfold StM.wrote Proofs.Ytbpelchampegaaa.wrote
    rw [if_pos hend, if_pos hend]
  rw [hs]
  refine ⟨g', hT, ?_, fun c hc h1 h2 h3 h4 => ?_, fun c hc => ?_⟩
  rotate_left
  · rw [Below.heap_setCell _ _ _ _ (by exact h2), Below.heap_setCell _ _ _ _ (by exact h1), Below.heap_setCell _ _ _ _ (by exact h3)]
    exact old c hc h4
  · have e : gg = c := by simpa [Value.ownBlock] using hc
    subst e
    rcases hat with e | e
    · exact .inl e
    · right; rw [e]; simp [World.drew, hV.heap]
  refine Below.setCell (p := ⟨b, i * 2 + 1, none⟩) (Below.setCell (p := ⟨p, 2, none⟩) (Below.setCell (p := ⟨q.blk, 1, none⟩) ?_ (h.fB _ q hq) _) h.pB _) (h.lr b (by rw [hrow]; rfl)).1 _
  exact ⟨hg.os.trans hV.os, hg.tape.trans hV.tape, hg.output.trans hV.output, Nat.le_trans (by simp [World.drew, hV.heap]) hg.size, fun c hc => by
    refine old c (Nat.lt_of_lt_of_le hc (Nat.le_trans h.pB (Nat.le_of_lt h.lp))) fun e => ?_
    have := (h.ld hq c e.symm).1
    omega⟩
theorem StoreAt.wroteIn (h : StoreAt w B p s g) {i : Nat} {r : Nat × Nat} {b cap : Nat} (hi : s.rs[i]? = some r) (hrow : s.rv = .slice (some ⟨b, 0, none⟩) s.rs.length cap) {q : FileM} (hq : s.fs[r.1]? = some q) (hlt : r.2 < q.xs.length) {d c : Nat} (e : q.val = .slice (some ⟨d, 0, none⟩) q.xs.length c) {x : Int} (x0 : 0 ≤ x) (x1 : x ≤ 255) :
    ∃ g', StoreAt ((w.setCell ⟨d, r.2, none⟩ (.int .u8 x)).setCell ⟨b, i * 2 + 1, none⟩ (.int .i64 ((r.2 : Int) + 1))) B p (s.wrote i r q q.val x) g' ∧ Below B w ((w.setCell ⟨d, r.2, none⟩ (.int .u8 x)).setCell ⟨b, i * 2 + 1, none⟩ (.int .i64 ((r.2 : Int) + 1))) ∧ Far w ((w.setCell ⟨d, r.2, none⟩ (.int .u8 x)).setCell ⟨b, i * 2 + 1, none⟩ (.int .i64 ((r.2 : Int) + 1))) p b q q.val := by
  have gq := h.gf _ q hq
  have hd : q.val.ownBlock = some d := by rw [e]; rfl
  have hqd : q.blk ≠ d := tag_ne gq (h.gd _ q hq d hd) (by simp)
  have ho := h.hd _ q hq
  rw [e] at ho
  have ho2 := ownsRow_set ho r.2 (by omega) (.int .u8 x)
  obtain ⟨g', hA, -⟩ := h.setFile (W := w.setCell ⟨d, r.2, none⟩ (.int .u8 x)) (f' := { q with xs := q.xs.set r.2 x }) hq rfl
    (fun c hc h1 h2 => Below.heap_setCell _ _ _ _ fun e2 => h2 (by rw [e2, hd]))
    (by rw [Below.heap_setCell _ _ _ _ (by exact hqd)]; exact h.hf _ q hq)
    (by rw [vals_set]
        have hln : (q.xs.set r.2 x).length = q.xs.length := by simp
        show World.ownsRow _ B _ 1 q.val (q.xs.set r.2 x).length _
        rw [hln, e]
        exact ho2)
    (fun c hc => .inl hc)
    (by refine ⟨(h.ok _ q hq).1, by simpa using (h.ok _ q hq).2.1, fun y hy => ?_⟩
        rcases List.mem_or_eq_of_mem_set hy with hy | rfl
        · exact (h.ok _ q hq).2.2 y hy
        · exact ⟨x0, x1⟩)
    (by simp)
  have hT := hA.setAt (i := i) (r := r) hi (b := b) (cap := cap) hrow (n := r.2 + 1) ⟨_, List.getElem?_set_self (List.getElem?_eq_some_iff.1 hq).1, by simp; omega⟩
  have hne : r.2 ≠ q.xs.length := by omega
  have hs : s.wrote i r q q.val x = { s with fs := s.fs.set r.1 { q with xs := q.xs.set r.2 x }, rs := s.rs.set i (r.1, r.2 + 1) } := by
    unfold StM.wrote Proofs.Ytbpelchampegaaa.wrote
    rw [if_neg hne, if_neg hne]
  rw [hs]
  exact ⟨g', hT, Below.setCell (p := ⟨b, i * 2 + 1, none⟩) (Below.setCell (p := ⟨d, r.2, none⟩) (Below.refl _ _) (h.ld hq d hd).1 _) (h.lr b (by rw [hrow]; rfl)).1 _, fun c hc h1 h2 h3 h4 => by rw [Below.heap_setCell _ _ _ _ (by exact h2), Below.heap_setCell _ _ _ _ (by exact fun e2 => h4 (by rw [hd, e2]))], fun c hc => .inl hc⟩
set_option maxHeartbeats 4000000 in
theorem write_end (h : StoreAt w B p s g) (hBw : B ≤ w.heap.size) {f : Int} {i : Nat} {r : Nat × Nat} {b cap : Nat} (hR : Rid w s f i r b cap) {q : FileM} (hq : s.fs[r.1]? = some q) (hend : r.2 = q.xs.length) (u1 : s.used + 1 ≤ s.cap) (u2 : q.xs.length + 1 ≤ s.cap) (x : Int) (x0 : 0 ≤ x) (x1 : x ≤ 255) :
    Calls Try.prog 36 #[.pointer (some ⟨p, 0, none⟩), .pointer (some ⟨b, i * 2, none⟩), .int .u8 x] w fun e w' => e = .returned (.tuple #[]) ∧ ∃ v g', StoreAt w' B p (s.wrote i r q v x) g' ∧ Below B w w' ∧ Far w w' p b q v := by
  have hl : q.xs.length ≤ 67108864 := Nat.le_trans (h.ok _ q hq).2.1 h.used.2.1
  have hu : s.used ≤ 67108864 := Nat.le_trans h.used.1 h.used.2.1
  obtain ⟨a, c, eqv, hc⟩ := h.slice hq
  have HW := Lib.hid (Wf.of h hR hq eqv)
  obtain ⟨r0, r1, rz, f1, fz, c2, pz⟩ := HW.out
  have hown := h.hd _ q hq
  rw [eqv] at hown
  have HO := Lib.hid hown
  have gb := h.gr b (by rw [hR.row]; rfl)
  have gq := h.gf _ q hq
  have gd : ∀ x, (Value.slice a q.xs.length c).ownBlock = some x → g x = .data r.1 := fun x hx => h.gd _ q hq x (by rw [eqv]; exact hx)
  have n1 : some b ≠ (Value.slice a q.xs.length c).ownBlock := fun e => tag_ne gb (gd b e.symm) (by simp) rfl
  have n2 : some q.blk ≠ (Value.slice a q.xs.length c).ownBlock := fun e => tag_ne gq (gd _ e.symm) (by simp) rfl
  have n3 : some p ≠ (Value.slice a q.xs.length c).ownBlock := fun e => tag_ne h.gp (gd _ e.symm) (by simp) rfl
  have m1 : b ≠ q.blk := tag_ne gb gq (by simp)
  have m2 : b ≠ p := tag_ne gb h.gp (by simp)
  have m3 : q.blk ≠ p := tag_ne gq h.gp (by simp)
  obtain ⟨i0, hi0, hz0, hz1, hz2⟩ := info_parts infoU8
  have HS := Lib.hid h
  have HR := Lib.hid hR
  have HQ := Lib.hid eqv
  have HN := Lib.hid (And.intro n1 (And.intro n2 n3))
  clear h hR eqv hown n1 n2 n3 gd gb gq
  have hd2 : ((r.2 : Int) == (q.xs.length : Int)) = true := by simp; omega
  go_enter Try.func36, Try.ntmps36
  go_wp2_with fail
  go_quiet (fail)
  go_wp2_with fail
  have HV : Rest w (w.drewN nq) := (Rest.refl w).drewN nq
  have HWV := Lib.hid (HW.out.rest HV)
  have hBV : B ≤ (w.drewN nq).heap.size := by rw [HV.heap]; exact hBw
  have HOV := Lib.hid (ownsRow_keep (w' := w.drewN nq) HO.out fun _ _ => by rw [HV.heap])
  replace HV := Lib.hid HV
  clear r0 r1 rz f1 fz c2 pz
  generalize w.drewN nq = V at *
  obtain ⟨r0, r1, rz, f1, fz, c2, pz⟩ := HWV.out
  obtain ⟨s0, s1, -, s2, s3, s4, s5⟩ := HWV.out.below (below1 V (.cells #[.int .u8 x] 5))
  rw [hend] at r1 s1
  go_region_law (refine step_append_lies _ (by rfl) _ _ _ (by rfl) B 5 i0 _ 1 1 Try.underlying22 hi0 hz0 hz1 hz2 rfl (by omega) (.slice a q.xs.length c) q.xs.length (vals .u8 q.xs) (by rfl) (ownsRow_keep HOV.out fun b hb => Below.heap_alloc _ _ _ (HOV.out.lt b hb).2) ⟨V.heap.size, 0, none⟩ 1 1 [.int .u8 x] (by rfl) (by rfl) (World.news_of_block (cs := #[.int .u8 x]) (t := 5) (fr := (0, 0)) (heap_alloc_new V.drew _)) (by intro u hu; simp at hu; subst hu; rfl) (by omega) (by unfold maxLen; omega) (by omega) (by simp; omega) _ rfl ?_; intro gg cap1 X1 hown1 hgrow hat hlt; have HW1 := Lib.hid (Wf.grown (w := V.drew.alloc (.cells #[.int .u8 x] 5)) (Wf.below (w := V.drew) (HWV.out.rest (Rest.refl V).drew) (below1 _ _)) hgrow HN.out.1 HN.out.2.1 HN.out.2.2); obtain ⟨t0, -, -, t1, t2, -, -⟩ := HW1.out; have HO1 := Lib.hid hown1; have HG1 := Lib.hid hgrow; have HA1 := Lib.hid hat; clear hown1 hgrow hat)
  all_goals
    have HP := Lib.hid (HS.out.wroteEnd (o := .cells #[.int .u8 x] 5) HR.out.at_ HR.out.row hq hend HV.out x0 x1 HO1.out (by rw [HQ.out]; exact HG1.out) (by rw [HQ.out]; exact HA1.out) u1 u2)
    obtain ⟨y1, yz, y2, yp⟩ := HW1.out.set (o := 1) (u := .slice (some ⟨gg, 0, none⟩) (q.xs.length + 1) cap1) m1 (Ne.symm m3)
    clear HW1 HO1 HG1 HA1 t0 t1 t2 s0 s1 s2 s3 s4 s5 r0 r1 rz f1 fz c2 pz HWV HOV
    generalize X1.setCell ⟨q.blk, 1, none⟩ (.slice (some ⟨gg, 0, none⟩) (q.xs.length + 1) cap1) = Y at *
    go_wp2_with fail
    go_end0
    have HF := HP.out
    rw [hend] at HF
    exact ⟨rfl, _, HF⟩
end
end Go.Proofs.Ytbpelchampegaaa

/-
  TreeMeans: of a module's tree of at most 400 nodes each part is what its kind says; with a part in its place that is none the tree is none; Size and Depth are what Walk goes over. No condition.
-/
import Derived.Test.YtkhbmamgfkpdbaaTreeNH
import Derived.Test.YtkhbmamgfkpdbaaTreeME
import Derived.Test.YtkhbmamgfkpdbaaTreeI
import Derived.Test.YtkhbmamgfkpdbaaTreeQ
import Derived.Test.YtkhbmamgfkpdbaaEvD

import Derived.Test.YtkhbmamgfkpdbaaRows
import Derived.Deep.RegionHeld3
import Derived.Deep.Quiet
import Derived.WalkKit
import Derived.ProofKit
import Derived.OpenShut
import Derived.Deep.DeepHandedRow
import Derived.Carry
namespace Go.Proofs.Ytkhbmamgfkpdbaa.treeMeans
open Go.ChangeShapes Go.WideShapes Go.ChangeAt Go.RowKit Go.Shelf
open Go.ChangeMaps (open_string shut_string)
open Ev (upOn)
set_option linter.unusedVariables false
attribute [local go_sem] Oper.semAt_some
theorem any_flat : ∀ (t : Tr) (d : Int), t.sm.any → ∀ p ∈ t.flat d, p.1.sm.any
  | .mk k s v m ts, d, h, p, hp => by
    have hk := (step_any (show (step k s v m ts.length (Tr.smL ts)).any from h)).1
    unfold Tr.flat at hp
    rcases List.mem_cons.1 hp with rfl | hp
    · exact h
    · have hl : ∀ (us : List Tr) (d : Int), (∀ x ∈ us, x ∈ ts) → p ∈ Tr.flatL us d → ∃ x ∈ ts, p ∈ x.flat d := by
        intro us
        induction us with
        | nil => intro d _ h; simp [Tr.flatL] at h
        | cons u us ih =>
          intro d hs h
          unfold Tr.flatL at h
          rcases List.mem_append.1 h with h | h
          · exact ⟨u, hs u (by simp), h⟩
          · exact ih d (fun x hx => hs x (by simp [hx])) h
      obtain ⟨x, hx, hpx⟩ := hl ts (d + 1) (fun _ h => h) hp
      obtain ⟨j, hj, rfl⟩ := List.mem_iff_getElem.1 hx
      have hd : SizeOf.sizeOf ts[j] < SizeOf.sizeOf ts := List.sizeOf_lt_of_mem hx
      have ha := hk j hj
      rw [smL_get ts j hj] at ha
      exact any_flat ts[j] (d + 1) ha p hpx
  termination_by t => SizeOf.sizeOf t
  decreasing_by
    simp
    omega
theorem any_fine : ∀ (t : Tr), t.sm.any → t.sm.fine
  | .mk k s v m ts, h => (step_any (show (step k s v m ts.length (Tr.smL ts)).any from h)).2.1
theorem may_flat {t : Tr} (h : t.may = true) (i : Nat) (tr : Tr) (d : Int) (e : (t.flat 0)[i]? = some (tr, d)) : tr.sm.fine := by
  obtain ⟨k, s, v, m, ts⟩ := t
  obtain ⟨hk, rfl⟩ := may_kids (show mayF k s v m ts.length (Tr.smL ts) = true from h)
  unfold Tr.flat at e
  cases i with
  | zero =>
    simp at e
    obtain ⟨rfl, rfl⟩ := e
    exact fine_of (by simp [Tr.sm, step])
  | succ i =>
    have hp : (tr, d) ∈ Tr.flatL ts (0 + 1) := List.mem_of_getElem? (by simpa using e)
    have hl : ∀ (us : List Tr) (d : Int), (∀ x ∈ us, x ∈ ts) → (tr, d) ∈ Tr.flatL us 1 → ∃ x ∈ ts, (tr, d) ∈ x.flat 1 := by
      intro us
      induction us with
      | nil => intro d _ h; simp [Tr.flatL] at h
      | cons u us ih =>
        intro d hs h
        unfold Tr.flatL at h
        rcases List.mem_append.1 h with h | h
        · exact ⟨u, hs u (by simp), h⟩
        · exact ih d (fun x hx => hs x (by simp [hx])) h
    obtain ⟨x, hx, hpx⟩ := hl ts d (fun _ h => h) hp
    obtain ⟨j, hj, rfl⟩ := List.mem_iff_getElem.1 hx
    have ha := hk j hj
    rw [smL_get ts j hj] at ha
    exact any_fine _ (any_flat ts[j] 1 ha _ hpx)
/-- the law's boxes ahead of its loop -/
structure MeanP (w : World) (k : Int) (s : ByteArray) (v : Int) (m : Bool) (a : Option Addr) (len cap : Nat) (W : World) : Prop where
  own : CellsB W w.heap.size k s v m a len cap
  bel : Below w.heap.size w W
  res : ∃ b, W.heap[w.heap.size + 1]? = some (.cells #[.bool b] 4 (0, 0))
section
variable {w : World} {k : Int} {s : ByteArray} {v : Int} {m : Bool} {a : Option Addr} {len cap : Nat} {W W' : World}
theorem MeanP.below (h : MeanP w k s v m a len cap W) (hb : Below (w.heap.size + 2) W W') : MeanP w k s v m a len cap W' := by
  obtain ⟨b, hr⟩ := h.res
  have hc : ∀ i, W'.cell? ⟨w.heap.size, i, none⟩ = W.cell? ⟨w.heap.size, i, none⟩ := fun i => cell_same (hb.block _ (by omega))
  exact ⟨⟨(hc 0).trans h.own.e0, (hc 1).trans h.own.e1, (hc 2).trans h.own.e2, (hc 3).trans h.own.e3, (hc 4).trans h.own.e4, Nat.lt_of_lt_of_le h.own.lt hb.size⟩, h.bel.trans (hb.mono (by omega)), b, by rw [hb.block _ (by omega)]; exact hr⟩
theorem MeanP.lt (h : MeanP w k s v m a len cap W) : w.heap.size + 2 ≤ W.heap.size := by
  obtain ⟨b, hr⟩ := h.res
  have := lt_blk hr
  omega
theorem MeanP.next (h : MeanP w k s v m a len cap W) (hb : Below W.heap.size W W') : MeanP w k s v m a len cap W' := h.below (hb.mono h.lt)
theorem MeanP.set (h : MeanP w k s v m a len cap W) (b : Bool) : MeanP w k s v m a len cap (W.setCell ⟨w.heap.size + 1, 0, none⟩ (.bool b)) ∧ (W.setCell ⟨w.heap.size + 1, 0, none⟩ (.bool b)).heap[w.heap.size + 1]? = some (.cells #[.bool b] 4 (0, 0)) := by
  obtain ⟨q, hr⟩ := h.res
  have hc : ∀ i, (W.setCell ⟨w.heap.size + 1, 0, none⟩ (.bool b)).cell? ⟨w.heap.size, i, none⟩ = W.cell? ⟨w.heap.size, i, none⟩ := fun i => cell_same (Below.heap_setCell _ _ _ _ (by simp))
  exact ⟨⟨⟨(hc 0).trans h.own.e0, (hc 1).trans h.own.e1, (hc 2).trans h.own.e2, (hc 3).trans h.own.e3, (hc 4).trans h.own.e4, by rw [size_set]; exact h.own.lt⟩, h.bel.setCell (by simp) _, b, set_blk (i := 0) hr⟩, set_blk (i := 0) hr⟩
theorem MeanP.start (w : World) (k : Int) (s : ByteArray) (v : Int) (m : Bool) (a : Option Addr) (len cap : Nat) : MeanP w k s v m a len cap ((w.alloc (.cells #[.int .i64 k, .string s, .int .u32 v, .bool m, .slice a len cap] 26)).alloc (.cells #[.bool false] 4)) := by
  refine ⟨(CellsB.new w k s v m a len cap 26 rfl).next (below1 _ _), (below1 w _).alloc (by simp) _, false, ?_⟩
  have := heap_alloc_new (w.alloc (.cells #[.int .i64 k, .string s, .int .u32 v, .bool m, .slice a len cap] 26)) (.cells #[.bool false] 4)
  simpa using this
/-- and behind some rounds -/
structure MeanI (w : World) (k : Int) (s : ByteArray) (v : Int) (m : Bool) (a : Option Addr) (len cap : Nat) (B : Nat) (L : List (Tr × Int)) (i : Nat) (A : World) : Prop where
  pre : MeanP w k s v m a len cap A
  lB : w.heap.size + 2 ≤ B
  sz : A.heap[B]? = some (.cells #[.int .i64 (i : Int)] 3 (0, 0))
  dp : A.heap[B + 1]? = some (.cells #[.int .i64 ((L.take i).foldl maxD 0)] 3 (0, 0))
theorem MeanI.below {B i : Nat} {L : List (Tr × Int)} (h : MeanI w k s v m a len cap B L i W) (hb : Below (B + 2) W W') : MeanI w k s v m a len cap B L i W' :=
  have l := h.lB
  ⟨h.pre.below (hb.mono (by omega)), h.lB, by rw [hb.block _ (by omega)]; exact h.sz, by rw [hb.block _ (by omega)]; exact h.dp⟩
theorem MeanI.start (h : MeanP w k s v m a len cap W) (L : List (Tr × Int)) : MeanI w k s v m a len cap W.heap.size L 0 ((W.alloc (.cells #[.int .i64 0] 3)).alloc (.cells #[.int .i64 0] 3)) := by
  have hb : Below W.heap.size W ((W.alloc (.cells #[.int .i64 0] 3)).alloc (.cells #[.int .i64 0] 3)) := (below1 W _).alloc (by simp) _
  refine ⟨h.next hb, h.lt, ?_, ?_⟩
  · rw [Below.heap_alloc _ _ _ (by simp)]
    exact heap_alloc_new _ _
  · have := heap_alloc_new (W.alloc (.cells #[.int .i64 0] 3)) (.cells #[.int .i64 0] 3)
    simpa using this
theorem MeanI.size {B i : Nat} {L : List (Tr × Int)} (h : MeanI w k s v m a len cap B L i W) : B + 2 ≤ W.heap.size := by have := lt_blk h.dp; omega
theorem MeanI.inc {B i : Nat} {L : List (Tr × Int)} (h : MeanI w k s v m a len cap B L i W) {tr : Tr} {d : Int} (hL : L[i]? = some (tr, d)) :
    MeanI w k s v m a len cap B L (i + 1) ((W.setCell ⟨B, 0, none⟩ (.int .i64 ((i : Int) + 1))).setCell ⟨B + 1, 0, none⟩ (.int .i64 (max ((L.take i).foldl maxD 0) d))) := by
  have l := h.lB
  have hb : Below (w.heap.size + 2) W ((W.setCell ⟨B, 0, none⟩ (.int .i64 ((i : Int) + 1))).setCell ⟨B + 1, 0, none⟩ (.int .i64 (max ((L.take i).foldl maxD 0) d))) := ((Below.refl _ _).setCell (by simp only []; omega) _).setCell (by simp only []; omega) _
  have hi := (List.getElem?_eq_some_iff.1 hL)
  refine ⟨h.pre.below hb, l, ?_, ?_⟩
  · rw [Below.heap_setCell _ _ _ _ (by simp)]
    exact set_blk (i := 0) h.sz
  · obtain ⟨h1, h2⟩ := hi
    have e : (L.take (i + 1)).foldl maxD 0 = max ((L.take i).foldl maxD 0) d := by rw [fold_take maxD 0 L i h1, h2]; rfl
    rw [e]
    exact set_blk (i := 0) (cs := #[.int .i64 ((L.take i).foldl maxD 0)]) (by rw [Below.heap_setCell _ _ _ _ (by simp)]; exact h.dp)
end
theorem mean_fin0 {w W2 : World} (hb : Below w.heap.size w W2) (hr : W2.heap[w.heap.size + 1]? = some (.cells #[.bool true] 4 (0, 0))) (a : Act) (ht : a.tmps[4]? = some (.pointer (some ⟨w.heap.size + 1, 0, none⟩))) (hd : a.defers = []) :
    bodyPostM Fence.wide 0 Try.prog Try.f5 (fun e V' => e = .returned (.bool true) ∧ Below w.heap.size w V') .ret a W2 := by
  obtain ⟨tm, ds⟩ := a
  simp only at ht hd
  subst hd
  have hr2 := cell0 hr
  refine ⟨.bool true, ?_, rfl, hb⟩
  simp [results, Try.f5, go_sem, hr2, ht]
theorem mean_fin {w W2 : World} {Wz : Nat} (hb : Below w.heap.size w W2) (hr : W2.heap[w.heap.size + 1]? = some (.cells #[.bool true] 4 (0, 0))) (hz : w.heap.size + 2 ≤ Wz) (hD : W2.heap[Wz]? = some (.deferred (some []))) (a : Act) (ht : a.tmps[4]? = some (.pointer (some ⟨w.heap.size + 1, 0, none⟩))) (hd : a.defers = [{ target := .collected Wz, args := #[] }]) :
    bodyPostM Fence.wide 0 Try.prog Try.f5 (fun e V' => e = .returned (.bool true) ∧ Below w.heap.size w V') .ret a W2 := by
  obtain ⟨tm, ds⟩ := a
  simp only at ht hd
  subst hd
  have hlt := lt_blk hD
  have hr2 : (W2.putObj Wz (.deferred none)).cell? ⟨w.heap.size + 1, 0, none⟩ = some (.bool true) := cell0 ((World.putObj_heap_other (by omega)).trans hr)
  refine ⟨by simp, .inl ⟨_, _, rfl, run_takeDeferred hD, ?_⟩⟩
  refine ⟨.bool true, ?_, rfl, hb.trans (below_putObj _ (by omega) hlt)⟩
  simp [results, Try.f5, go_sem, hr2, ht]
set_option maxHeartbeats 4000000 in
set_option maxRecDepth 100000 in
theorem walk (va : Value) (na : Nat) (at_ : Int) (w : World) (wa : At w na va) (wl : (Lit.int .i64 at_).wf = true) : Calls Try.prog 5 #[va, .int .i64 at_] w fun e w' => e = .returned (.bool true) ∧ Below w.heap.size w w' := by
  obtain ⟨t, ht⟩ := reads_of na va wa
  obtain ⟨k, s, v, m, a, len, cap, rfl⟩ := nd_of ht
  clear wa
  have HR := Lib.hid ht
  clear ht
  have HO := Lib.hid (MeanP.start w k s v m a len cap)
  have HF1 := Lib.hid (fun V hV => few_any (W := V) HR.out hV)
  have HM := Lib.hid (may_all t _ HR.out)
  unfold nd at *
  refine (callsIn_wide (n := 0)).1 ?_
  refine callsIn_of_wp_marks Try.func5 rfl trivial ?_ rfl
  simp only [Try.ntmps5, List.size_toArray, List.length_cons, List.length_nil, Nat.reduceAdd, Nat.reduceSub, Array.replicate_succ, Array.replicate_zero, List.push_toArray, List.append_toArray, List.nil_append, List.cons_append]
  have fe := fn_nil
  gi_wp2
  refine ⟨trivial, rfl, callsIn_wide.2 ((known15_any _).mono ?_)⟩
  rintro e w1 ⟨rfl, hb1⟩
  replace HO := Lib.hid (HO.out.next hb1)
  clear hb1
  obtain ⟨⟨c0, c1, c2, c3, c4, -⟩, -, b, hres⟩ := HO.out
  have r0 := cell0 hres
  have z0 := frz0 0 hres
  clear hres
  by_cases hbig : 0 ≤ t.big 400
  rotate_left
  · rw [decide_eq_false hbig] at HF1
    gi_wp2
    refine ⟨trivial, rfl, callsIn_wide.2 ((HF1.out _ HO.out.bel).mono ?_)⟩
    rintro e w2 ⟨rfl, hb2⟩
    replace HO := Lib.hid (HO.out.next hb2)
    clear hb2 c0 c1 c2 c3 c4 r0 z0
    obtain ⟨⟨c0, c1, c2, c3, c4, -⟩, -, b, hres⟩ := HO.out
    have r0 := cell0 hres
    have z0 := frz0 0 hres
    clear hres
    gi_wp2
    refine ⟨trivial, ?_⟩
    go_at_K
    gi_wp2
    exact mean_fin0 (HO.out.set true).1.bel (HO.out.set true).2 _ rfl rfl
  rw [decide_eq_true hbig] at HF1
  gi_wp2
  refine ⟨trivial, rfl, callsIn_wide.2 ((HF1.out _ HO.out.bel).mono ?_)⟩
  rintro e w2 ⟨rfl, hb2⟩
  replace HO := Lib.hid (HO.out.next hb2)
  clear hb2 c0 c1 c2 c3 c4 r0 z0 HF1
  obtain ⟨⟨c0, c1, c2, c3, c4, -⟩, -, b, hres⟩ := HO.out
  have r0 := cell0 hres
  have z0 := frz0 0 hres
  clear hres
  cases hmay : t.may
  · rw [hmay] at HM
    gi_wp2
    refine ⟨trivial, rfl, callsIn_wide.2 ((MayT.call HM.out HO.out.bel).mono ?_)⟩
    rintro e w3 ⟨rfl, hb3⟩
    replace HO := Lib.hid (HO.out.next hb3)
    clear hb3 c0 c1 c2 c3 c4 r0 z0
    obtain ⟨⟨c0, c1, c2, c3, c4, -⟩, -, b, hres⟩ := HO.out
    have r0 := cell0 hres
    have z0 := frz0 0 hres
    clear hres
    gi_wp2
    exact mean_fin0 (HO.out.set true).1.bel (HO.out.set true).2 _ rfl rfl
  rw [hmay] at HM
  gi_wp2
  refine ⟨trivial, rfl, callsIn_wide.2 ((MayT.call HM.out HO.out.bel).mono ?_)⟩
  rintro e w3 ⟨rfl, hb3⟩
  replace HO := Lib.hid (HO.out.next hb3)
  clear hb3 c0 c1 c2 c3 c4 r0 z0 HM
  have HI := Lib.hid (MeanI.start HO.out (t.flat 0))
  obtain ⟨c0, c1, c2, c3, c4, -⟩ := HI.out.pre.own
  have hcount : t.count ≤ 400 := by have := count_le t 400 hbig; omega
  have HW := Lib.hid (walk_any HR.out (by omega))
  have hB := HO.out.lt
  unfold nd at *
  gi_wp2
  refine ⟨trivial, rfl, callsIn_wide.2 ((HW.out _ HI.out.pre.bel).mono ?_)⟩
  rintro e W ⟨Bk, k', s', v', m', a', l', c', rfl, hbk, hre, hbw⟩
  have HBK := Lib.hid hbk
  have HRE := Lib.hid hre
  have HBW := Lib.hid hbw
  clear hbk hre hbw c0 c1 c2 c3 c4
  gi_wp2
  have hW2 : w3.heap.size + 2 ≤ W.heap.size := by
    have := HBW.out.size
    simp at this
    omega
  have hI0 : MeanI w k s v m a len cap w3.heap.size (t.flat 0) 0 W := HI.out.below (HBW.out.mono (by simp))
  have HI0 := Lib.hid hI0
  have hlf := flat_len t 0
  have HLF := Lib.hid hlf
  have hfine : ∀ (i : Nat) (tr : Tr) (d : Int), (t.flat 0)[i]? = some (tr, d) → tr.sm.fine := may_flat hmay
  have HFI := Lib.hid hfine
  clear hI0 hlf HI HW fe hfine
  refine rangeFunc_told (gf := 35) (lb := #[.pointer (some ⟨Bk, 0, none⟩)]) rfl (enters_of Try.func35 (by kernel_rfl) rfl) (encs := encT) (fun _ => rfl) (X := XT (W.heap.size + 2) (t.flat 0)) (N := t.count) (S := fun xs => xs.length = t.count)
    ?seq (fun pre x A B hx hs => hx.stay hs) (fun pre A => MeanI w k s v m a len cap w3.heap.size (t.flat 0) pre.length A) (fun c pre A => False) (fun pre A B h hb => h.below (hb.mono hW2)) (fun c pre A B h hb => h) HI0.out
    (fun pre x a₁ A => ∃ kb k1 s1 v1 m1 q1 l1 p1, W.heap.size + 2 ≤ kb ∧ x.2.2 = .agg #[.int .i64 k1, .string s1, .int .u32 v1, .bool m1, .slice q1 l1 p1] ∧ A.heap[kb]? = some (.cells #[.int .i64 k1, .string s1, .int .u32 v1, .bool m1, .slice q1 l1 p1] 26 (0, 0)) ∧ a₁ = { tmps := #[.agg #[.int .i64 k, .string s, .int .u32 v, .bool m, .slice a len cap], .int .i64 at_, .pointer (some ⟨w.heap.size, 0, none⟩), undef, .pointer (some ⟨w.heap.size + 1, 0, none⟩), .pointer (some ⟨w3.heap.size, 0, none⟩), .pointer (some ⟨w3.heap.size + 1, 0, none⟩), .func (.func 35) #[] #[.pointer (some ⟨Bk, 0, none⟩)], .int .i64 x.1, .pointer (some ⟨kb, 0, none⟩), undef, undef, .bool true, .bool false, .agg #[.int .i64 k, .string s, .int .u32 v, .bool m, .slice a len cap], .bool true, .bool false, .bool false, .agg #[.int .i64 k, .string s, .int .u32 v, .bool m, .slice a len cap], .bool true, .bool false, .bool false, .agg #[.int .i64 k, .string s, .int .u32 v, .bool m, .slice a len cap], .func (.func 35) #[] #[.pointer (some ⟨Bk, 0, none⟩)], .func (.func 35) #[] #[.pointer (some ⟨Bk, 0, none⟩)], .bool false, .func (.func 35) #[] #[.pointer (some ⟨Bk, 0, none⟩)], .int .i64 x.1, x.2.2, undef, undef, undef, undef, undef, undef, undef, undef, undef, undef, undef, undef, undef, undef, undef, undef, undef, undef, undef, undef, undef, undef, undef, undef, undef, undef, undef, undef, undef, undef, undef, undef, undef, undef, undef, undef, undef, undef, undef, undef, undef, undef, undef, undef, undef, undef, undef, undef, undef, undef, undef, undef, undef, undef, undef, undef, undef, undef, undef, undef, undef, undef, undef, undef, undef, undef, undef, undef, undef, undef, undef, undef, undef, undef, undef, undef, undef, undef, undef, undef, undef, undef, undef, undef], defers := [] }) ?g ?assign ?body ?done (fun c pre W2 h _ => h.elim)
  case seq =>
    intro rec
    have hbb : Below W.heap.size W ((W.alloc (.deferred (some []))).alloc (.loop rec)) := (below1 W _).alloc (by simp) _
    have e : W.heap.size + 2 = ((W.alloc (.deferred (some []))).alloc (.loop rec)).heap.size := by simp
    rw [e]
    exact walk1_seq (reads_below hbb _ _ HRE.out) (by rw [hbb.block _ (lt_blk HBK.out)]; exact HBK.out) (by omega)
  case g =>
    rintro pre x a1 A B ⟨kb, k1, s1, v1, m1, q1, l1, p1, h1, h2, h3, h4⟩ hs
    exact ⟨kb, k1, s1, v1, m1, q1, l1, p1, h1, h2, by rw [hs.2 _ h1 (lt_blk h3)]; exact h3, h4⟩
  case assign =>
    intro l pre x A hA hI hX
    obtain ⟨d, tr, u⟩ := x
    obtain ⟨k1, s1, v1, m1, q1, l1, p1, rfl⟩ := hX.2.nd
    have HX := Lib.hid hX
    clear hX
    unfold encT
    unfold nd at *
    gi_wp2_with (rw [Oper.semAt_eq _ _ _ (fun c h => by cases h)]; go_simp; try go_bits)
    exact ⟨below1 _ _, A.heap.size, k1, s1, v1, m1, q1, l1, p1, hA, rfl, heap_alloc_new _ _, rfl⟩
  case body =>
    rintro l pre ⟨d, tr, u⟩ a1 A hA hI hlt hX ⟨kb, k1, s1, v1, m1, q1, l1, p1, hkb, hu, hkc, rfl⟩
    obtain ⟨hx1, hx2⟩ := hX
    simp only at hu hx1 hx2
    subst hu
    have hIn := hI.inc hx1
    have hfi := HFI.out _ _ _ hx1
    have hok := sm_all tr _ _ _ _ _ _ _ hx2.reads
    have hkk := hok.kind
    have hlt9 : pre.length < 400 := by omega
    have o5 := cell0 hI.sz
    have z5 := frz0 0 hI.sz
    have o6 := cell0 hI.dp
    have z6 := frz0 0 hI.dp
    generalize ((t.flat 0).take pre.length).foldl maxD 0 = D at *
    have r0 : A.cell? ⟨kb, 0, none⟩ = some (.int .i64 k1) := by simp [World.cell?, hkc]
    have r1 : A.cell? ⟨kb, 1, none⟩ = some (.string s1) := by simp [World.cell?, hkc]
    have r2 : A.cell? ⟨kb, 2, none⟩ = some (.int .u32 v1) := by simp [World.cell?, hkc]
    have r3 : A.cell? ⟨kb, 3, none⟩ = some (.bool m1) := by simp [World.cell?, hkc]
    have r4 : A.cell? ⟨kb, 4, none⟩ = some (.slice q1 l1 p1) := by simp [World.cell?, hkc]
    have n1 : kb ≠ w3.heap.size := by omega
    have n2 : kb ≠ w3.heap.size + 1 := by omega
    have HIn := Lib.hid hIn
    have HSZ := Lib.hid (Nat.le_refl A.heap.size)
    have HBA : Hid (∀ u, Below w3.heap.size A ((A.setCell ⟨w3.heap.size, 0, none⟩ (.int .i64 ((pre.length : Int) + 1))).setCell ⟨w3.heap.size + 1, 0, none⟩ u)) := Lib.hid fun u => ((Below.refl _ _).setCell (by simp) _).setCell (by simp) _
    have hST : Hid (∀ u, Stay W.heap.size A ((A.setCell ⟨w3.heap.size, 0, none⟩ (.int .i64 ((pre.length : Int) + 1))).setCell ⟨w3.heap.size + 1, 0, none⟩ u)) := Lib.hid fun u => ((Stay.refl _ _).setCell _ _ (by show w3.heap.size < W.heap.size; omega)).setCell _ _ (by show w3.heap.size + 1 < W.heap.size; omega)
    have HA := Lib.hid hA
    clear hI hIn hx1 hA
    unfold nd at *
    obtain ⟨M, hM⟩ : ∃ M, M = max D d := ⟨_, rfl⟩
    rw [← hM] at HIn
    have hkl := lt_blk hkc
    have HC : Hid (∀ u, Has ((A.setCell ⟨w3.heap.size, 0, none⟩ (.int .i64 ((pre.length : Int) + 1))).setCell ⟨w3.heap.size + 1, 0, none⟩ u) kb k1 s1 v1 m1 q1 l1 p1) := Lib.hid fun u => Has.same (W := A) ⟨r0, r1, r2, r3, r4⟩ (by rw [Below.heap_setCell _ _ _ _ (by simp only []; omega), Below.heap_setCell _ _ _ _ (by simp only []; omega)])
    have hrz : ∀ u, Reads ((A.setCell ⟨w3.heap.size, 0, none⟩ (.int .i64 ((pre.length : Int) + 1))).setCell ⟨w3.heap.size + 1, 0, none⟩ u) tr (nd k1 s1 v1 m1 q1 l1 p1) := fun u => ROwn.reads (S := fun _ => True) tr (ROwn.keep tr hx2 fun b hb hS => ⟨by rw [Below.heap_setCell _ _ _ _ (by simp only []; omega), Below.heap_setCell _ _ _ _ (by simp only []; omega)], trivial⟩)
    have HEX : Hid ((25 ≤ k1 ∧ k1 ≤ 38 ∨ k1 = 21) → ∀ u, Ex ((A.setCell ⟨w3.heap.size, 0, none⟩ (.int .i64 ((pre.length : Int) + 1))).setCell ⟨w3.heap.size + 1, 0, none⟩ u) (nd k1 s1 v1 m1 q1 l1 p1) true) := Lib.hid fun h u => by
      have := (sm_all tr _ _ _ _ _ _ _ (hrz u)).exp
      rw [hfi.1 (by rw [hkk]; exact h)] at this
      exact this
    have HSX : Hid (k1 = 19 → ∀ u, Sms ((A.setCell ⟨w3.heap.size, 0, none⟩ (.int .i64 ((pre.length : Int) + 1))).setCell ⟨w3.heap.size + 1, 0, none⟩ u) (nd k1 s1 v1 m1 q1 l1 p1) true) := Lib.hid fun h u => by
      have := (sm_all tr _ _ _ _ _ _ _ (hrz u)).stms
      rw [hfi.2.1 (by rw [hkk]; exact h)] at this
      exact this
    have HTX : Hid ((k1 = 14 ∨ k1 = 15 ∨ k1 = 17) → ∀ u, Typ ((A.setCell ⟨w3.heap.size, 0, none⟩ (.int .i64 ((pre.length : Int) + 1))).setCell ⟨w3.heap.size + 1, 0, none⟩ u) (nd k1 s1 v1 m1 q1 l1 p1) true) := Lib.hid fun h u => by
      have := (sm_all tr _ _ _ _ _ _ _ (hrz u)).typ
      rw [hfi.2.2 (by rw [hkk]; exact h)] at this
      exact this
    clear hrz hok hfi hkk hkc hx2
    unfold Ex at HEX
    unfold Sms at HSX
    unfold Typ at HTX
    unfold nd at *
    rcases Int.lt_trichotomy D d with hmx | hmx | hmx
    · obtain rfl : M = d := by omega
      clear hM
      by_cases h25 : 25 ≤ k1
      · have e21 : (k1 == 21) = false := by simp; omega
        have e19 : (k1 == 19) = false := by simp; omega
        have e14 : (k1 == 14) = false := by simp; omega
        have e15 : (k1 == 15) = false := by simp; omega
        have e17 : (k1 == 17) = false := by simp; omega
        by_cases h38 : k1 ≤ 38
        · have HE := Lib.hid (HEX.out (.inl ⟨h25, h38⟩) (.int .i64 M))
          gi_wp2_with (rw [Oper.semAt_eq _ _ _ (fun c h => by cases h)]; go_simp; try go_bits)
          refine ⟨trivial, rfl, calls_inRound ((HE.out _ (Below.refl _ _)).mono ?_)⟩
          rintro e w5 ⟨rfl, hb5⟩
          have q0 := (hb5.cell (p := ⟨kb, 0, none⟩) (by show kb < _; rw [size_set, size_set]; exact hkl)).trans (HC.out _).h0
          have HIN5 := Lib.hid (HIn.out.below (hb5.mono (by rw [size_set, size_set]; have := HA.out; omega)))
          have HST5 := Lib.hid ((hST.out _).trans (Stay.below hb5))
          clear hb5 HIn hST
          gi_wp2_with (rw [Oper.semAt_eq _ _ _ (fun c h => by cases h)]; go_simp; try go_bits)
          refine ⟨trivial, ?_⟩
          go_at_K
          gi_wp2_with (rw [Oper.semAt_eq _ _ _ (fun c h => by cases h)]; go_simp; try go_bits)
          refine ⟨trivial, ?_⟩
          go_at_K
          gi_wp2_with (rw [Oper.semAt_eq _ _ _ (fun c h => by cases h)]; go_simp; try go_bits)
          exact ⟨HST5.out, by show MeanI w k s v m a len cap w3.heap.size (t.flat 0) (pre ++ [_]).length _; rw [List.length_append]; exact HIN5.out⟩
        · skip
          gi_wp2_with (rw [Oper.semAt_eq _ _ _ (fun c h => by cases h)]; go_simp; try go_bits)
          refine ⟨trivial, ?_⟩
          go_at_K
          gi_wp2_with (rw [Oper.semAt_eq _ _ _ (fun c h => by cases h)]; go_simp; try go_bits)
          refine ⟨trivial, ?_⟩
          go_at_K
          gi_wp2_with (rw [Oper.semAt_eq _ _ _ (fun c h => by cases h)]; go_simp; try go_bits)
          refine ⟨trivial, ?_⟩
          go_at_K
          gi_wp2_with (rw [Oper.semAt_eq _ _ _ (fun c h => by cases h)]; go_simp; try go_bits)
          exact ⟨hST.out _, by show MeanI w k s v m a len cap w3.heap.size (t.flat 0) (pre ++ [_]).length _; rw [List.length_append]; exact HIn.out⟩
      · by_cases c21 : k1 = 21
        · subst c21
          have HE := Lib.hid (HEX.out (.inr rfl) (.int .i64 M))
          gi_wp2_with (rw [Oper.semAt_eq _ _ _ (fun c h => by cases h)]; go_simp; try go_bits)
          refine ⟨trivial, rfl, calls_inRound ((HE.out _ (Below.refl _ _)).mono ?_)⟩
          rintro e w5 ⟨rfl, hb5⟩
          have q0 := (hb5.cell (p := ⟨kb, 0, none⟩) (by show kb < _; rw [size_set, size_set]; exact hkl)).trans (HC.out _).h0
          have HIN5 := Lib.hid (HIn.out.below (hb5.mono (by rw [size_set, size_set]; have := HA.out; omega)))
          have HST5 := Lib.hid ((hST.out _).trans (Stay.below hb5))
          clear hb5 HIn hST
          gi_wp2_with (rw [Oper.semAt_eq _ _ _ (fun c h => by cases h)]; go_simp; try go_bits)
          refine ⟨trivial, ?_⟩
          go_at_K
          gi_wp2_with (rw [Oper.semAt_eq _ _ _ (fun c h => by cases h)]; go_simp; try go_bits)
          refine ⟨trivial, ?_⟩
          go_at_K
          gi_wp2_with (rw [Oper.semAt_eq _ _ _ (fun c h => by cases h)]; go_simp; try go_bits)
          exact ⟨HST5.out, by show MeanI w k s v m a len cap w3.heap.size (t.flat 0) (pre ++ [_]).length _; rw [List.length_append]; exact HIN5.out⟩
        by_cases c19 : k1 = 19
        · subst c19
          have HE := Lib.hid (HSX.out (rfl) (.int .i64 M))
          gi_wp2_with (rw [Oper.semAt_eq _ _ _ (fun c h => by cases h)]; go_simp; try go_bits)
          refine ⟨trivial, ?_⟩
          go_at_K
          gi_wp2_with (rw [Oper.semAt_eq _ _ _ (fun c h => by cases h)]; go_simp; try go_bits)
          refine ⟨trivial, rfl, calls_inRound ((HE.out _ (Below.refl _ _)).mono ?_)⟩
          rintro e w5 ⟨rfl, hb5⟩
          have q0 := (hb5.cell (p := ⟨kb, 0, none⟩) (by show kb < _; rw [size_set, size_set]; exact hkl)).trans (HC.out _).h0
          have HIN5 := Lib.hid (HIn.out.below (hb5.mono (by rw [size_set, size_set]; have := HA.out; omega)))
          have HST5 := Lib.hid ((hST.out _).trans (Stay.below hb5))
          clear hb5 HIn hST
          gi_wp2_with (rw [Oper.semAt_eq _ _ _ (fun c h => by cases h)]; go_simp; try go_bits)
          refine ⟨trivial, ?_⟩
          go_at_K
          gi_wp2_with (rw [Oper.semAt_eq _ _ _ (fun c h => by cases h)]; go_simp; try go_bits)
          exact ⟨HST5.out, by show MeanI w k s v m a len cap w3.heap.size (t.flat 0) (pre ++ [_]).length _; rw [List.length_append]; exact HIN5.out⟩
        by_cases c14 : k1 = 14
        · subst c14
          have HE := Lib.hid (HTX.out (.inl rfl) (.int .i64 M))
          gi_wp2_with (rw [Oper.semAt_eq _ _ _ (fun c h => by cases h)]; go_simp; try go_bits)
          refine ⟨trivial, ?_⟩
          go_at_K
          gi_wp2_with (rw [Oper.semAt_eq _ _ _ (fun c h => by cases h)]; go_simp; try go_bits)
          refine ⟨trivial, ?_⟩
          go_at_K
          gi_wp2_with (rw [Oper.semAt_eq _ _ _ (fun c h => by cases h)]; go_simp; try go_bits)
          refine ⟨trivial, rfl, calls_inRound ((HE.out _ (Below.refl _ _)).mono ?_)⟩
          rintro e w5 ⟨rfl, hb5⟩
          have q0 := (hb5.cell (p := ⟨kb, 0, none⟩) (by show kb < _; rw [size_set, size_set]; exact hkl)).trans (HC.out _).h0
          have HIN5 := Lib.hid (HIn.out.below (hb5.mono (by rw [size_set, size_set]; have := HA.out; omega)))
          have HST5 := Lib.hid ((hST.out _).trans (Stay.below hb5))
          clear hb5 HIn hST
          gi_wp2_with (rw [Oper.semAt_eq _ _ _ (fun c h => by cases h)]; go_simp; try go_bits)
          exact ⟨HST5.out, by show MeanI w k s v m a len cap w3.heap.size (t.flat 0) (pre ++ [_]).length _; rw [List.length_append]; exact HIN5.out⟩
        by_cases c15 : k1 = 15
        · subst c15
          have HE := Lib.hid (HTX.out (.inr (.inl rfl)) (.int .i64 M))
          gi_wp2_with (rw [Oper.semAt_eq _ _ _ (fun c h => by cases h)]; go_simp; try go_bits)
          refine ⟨trivial, ?_⟩
          go_at_K
          gi_wp2_with (rw [Oper.semAt_eq _ _ _ (fun c h => by cases h)]; go_simp; try go_bits)
          refine ⟨trivial, ?_⟩
          go_at_K
          gi_wp2_with (rw [Oper.semAt_eq _ _ _ (fun c h => by cases h)]; go_simp; try go_bits)
          refine ⟨trivial, rfl, calls_inRound ((HE.out _ (Below.refl _ _)).mono ?_)⟩
          rintro e w5 ⟨rfl, hb5⟩
          have q0 := (hb5.cell (p := ⟨kb, 0, none⟩) (by show kb < _; rw [size_set, size_set]; exact hkl)).trans (HC.out _).h0
          have HIN5 := Lib.hid (HIn.out.below (hb5.mono (by rw [size_set, size_set]; have := HA.out; omega)))
          have HST5 := Lib.hid ((hST.out _).trans (Stay.below hb5))
          clear hb5 HIn hST
          gi_wp2_with (rw [Oper.semAt_eq _ _ _ (fun c h => by cases h)]; go_simp; try go_bits)
          exact ⟨HST5.out, by show MeanI w k s v m a len cap w3.heap.size (t.flat 0) (pre ++ [_]).length _; rw [List.length_append]; exact HIN5.out⟩
        by_cases c17 : k1 = 17
        · subst c17
          have HE := Lib.hid (HTX.out (.inr (.inr rfl)) (.int .i64 M))
          gi_wp2_with (rw [Oper.semAt_eq _ _ _ (fun c h => by cases h)]; go_simp; try go_bits)
          refine ⟨trivial, ?_⟩
          go_at_K
          gi_wp2_with (rw [Oper.semAt_eq _ _ _ (fun c h => by cases h)]; go_simp; try go_bits)
          refine ⟨trivial, ?_⟩
          go_at_K
          gi_wp2_with (rw [Oper.semAt_eq _ _ _ (fun c h => by cases h)]; go_simp; try go_bits)
          refine ⟨trivial, rfl, calls_inRound ((HE.out _ (Below.refl _ _)).mono ?_)⟩
          rintro e w5 ⟨rfl, hb5⟩
          have q0 := (hb5.cell (p := ⟨kb, 0, none⟩) (by show kb < _; rw [size_set, size_set]; exact hkl)).trans (HC.out _).h0
          have HIN5 := Lib.hid (HIn.out.below (hb5.mono (by rw [size_set, size_set]; have := HA.out; omega)))
          have HST5 := Lib.hid ((hST.out _).trans (Stay.below hb5))
          clear hb5 HIn hST
          gi_wp2_with (rw [Oper.semAt_eq _ _ _ (fun c h => by cases h)]; go_simp; try go_bits)
          exact ⟨HST5.out, by show MeanI w k s v m a len cap w3.heap.size (t.flat 0) (pre ++ [_]).length _; rw [List.length_append]; exact HIN5.out⟩
        have e21 : (k1 == 21) = false := by simp; omega
        have e19 : (k1 == 19) = false := by simp; omega
        have e14 : (k1 == 14) = false := by simp; omega
        have e15 : (k1 == 15) = false := by simp; omega
        have e17 : (k1 == 17) = false := by simp; omega
        gi_wp2_with (rw [Oper.semAt_eq _ _ _ (fun c h => by cases h)]; go_simp; try go_bits)
        refine ⟨trivial, ?_⟩
        go_at_K
        gi_wp2_with (rw [Oper.semAt_eq _ _ _ (fun c h => by cases h)]; go_simp; try go_bits)
        refine ⟨trivial, ?_⟩
        go_at_K
        gi_wp2_with (rw [Oper.semAt_eq _ _ _ (fun c h => by cases h)]; go_simp; try go_bits)
        refine ⟨trivial, ?_⟩
        go_at_K
        gi_wp2_with (rw [Oper.semAt_eq _ _ _ (fun c h => by cases h)]; go_simp; try go_bits)
        exact ⟨hST.out _, by show MeanI w k s v m a len cap w3.heap.size (t.flat 0) (pre ++ [_]).length _; rw [List.length_append]; exact HIn.out⟩
    · subst hmx
      obtain rfl : M = D := by omega
      clear hM
      by_cases h25 : 25 ≤ k1
      · have e21 : (k1 == 21) = false := by simp; omega
        have e19 : (k1 == 19) = false := by simp; omega
        have e14 : (k1 == 14) = false := by simp; omega
        have e15 : (k1 == 15) = false := by simp; omega
        have e17 : (k1 == 17) = false := by simp; omega
        by_cases h38 : k1 ≤ 38
        · have HE := Lib.hid (HEX.out (.inl ⟨h25, h38⟩) (.int .i64 M))
          gi_wp2_with (rw [Oper.semAt_eq _ _ _ (fun c h => by cases h)]; go_simp; try go_bits)
          refine ⟨trivial, rfl, calls_inRound ((HE.out _ (Below.refl _ _)).mono ?_)⟩
          rintro e w5 ⟨rfl, hb5⟩
          have q0 := (hb5.cell (p := ⟨kb, 0, none⟩) (by show kb < _; rw [size_set, size_set]; exact hkl)).trans (HC.out _).h0
          have HIN5 := Lib.hid (HIn.out.below (hb5.mono (by rw [size_set, size_set]; have := HA.out; omega)))
          have HST5 := Lib.hid ((hST.out _).trans (Stay.below hb5))
          clear hb5 HIn hST
          gi_wp2_with (rw [Oper.semAt_eq _ _ _ (fun c h => by cases h)]; go_simp; try go_bits)
          refine ⟨trivial, ?_⟩
          go_at_K
          gi_wp2_with (rw [Oper.semAt_eq _ _ _ (fun c h => by cases h)]; go_simp; try go_bits)
          refine ⟨trivial, ?_⟩
          go_at_K
          gi_wp2_with (rw [Oper.semAt_eq _ _ _ (fun c h => by cases h)]; go_simp; try go_bits)
          exact ⟨HST5.out, by show MeanI w k s v m a len cap w3.heap.size (t.flat 0) (pre ++ [_]).length _; rw [List.length_append]; exact HIN5.out⟩
        · skip
          gi_wp2_with (rw [Oper.semAt_eq _ _ _ (fun c h => by cases h)]; go_simp; try go_bits)
          refine ⟨trivial, ?_⟩
          go_at_K
          gi_wp2_with (rw [Oper.semAt_eq _ _ _ (fun c h => by cases h)]; go_simp; try go_bits)
          refine ⟨trivial, ?_⟩
          go_at_K
          gi_wp2_with (rw [Oper.semAt_eq _ _ _ (fun c h => by cases h)]; go_simp; try go_bits)
          refine ⟨trivial, ?_⟩
          go_at_K
          gi_wp2_with (rw [Oper.semAt_eq _ _ _ (fun c h => by cases h)]; go_simp; try go_bits)
          exact ⟨hST.out _, by show MeanI w k s v m a len cap w3.heap.size (t.flat 0) (pre ++ [_]).length _; rw [List.length_append]; exact HIn.out⟩
      · by_cases c21 : k1 = 21
        · subst c21
          have HE := Lib.hid (HEX.out (.inr rfl) (.int .i64 M))
          gi_wp2_with (rw [Oper.semAt_eq _ _ _ (fun c h => by cases h)]; go_simp; try go_bits)
          refine ⟨trivial, rfl, calls_inRound ((HE.out _ (Below.refl _ _)).mono ?_)⟩
          rintro e w5 ⟨rfl, hb5⟩
          have q0 := (hb5.cell (p := ⟨kb, 0, none⟩) (by show kb < _; rw [size_set, size_set]; exact hkl)).trans (HC.out _).h0
          have HIN5 := Lib.hid (HIn.out.below (hb5.mono (by rw [size_set, size_set]; have := HA.out; omega)))
          have HST5 := Lib.hid ((hST.out _).trans (Stay.below hb5))
          clear hb5 HIn hST
          gi_wp2_with (rw [Oper.semAt_eq _ _ _ (fun c h => by cases h)]; go_simp; try go_bits)
          refine ⟨trivial, ?_⟩
          go_at_K
          gi_wp2_with (rw [Oper.semAt_eq _ _ _ (fun c h => by cases h)]; go_simp; try go_bits)
          refine ⟨trivial, ?_⟩
          go_at_K
          gi_wp2_with (rw [Oper.semAt_eq _ _ _ (fun c h => by cases h)]; go_simp; try go_bits)
          exact ⟨HST5.out, by show MeanI w k s v m a len cap w3.heap.size (t.flat 0) (pre ++ [_]).length _; rw [List.length_append]; exact HIN5.out⟩
        by_cases c19 : k1 = 19
        · subst c19
          have HE := Lib.hid (HSX.out (rfl) (.int .i64 M))
          gi_wp2_with (rw [Oper.semAt_eq _ _ _ (fun c h => by cases h)]; go_simp; try go_bits)
          refine ⟨trivial, ?_⟩
          go_at_K
          gi_wp2_with (rw [Oper.semAt_eq _ _ _ (fun c h => by cases h)]; go_simp; try go_bits)
          refine ⟨trivial, rfl, calls_inRound ((HE.out _ (Below.refl _ _)).mono ?_)⟩
          rintro e w5 ⟨rfl, hb5⟩
          have q0 := (hb5.cell (p := ⟨kb, 0, none⟩) (by show kb < _; rw [size_set, size_set]; exact hkl)).trans (HC.out _).h0
          have HIN5 := Lib.hid (HIn.out.below (hb5.mono (by rw [size_set, size_set]; have := HA.out; omega)))
          have HST5 := Lib.hid ((hST.out _).trans (Stay.below hb5))
          clear hb5 HIn hST
          gi_wp2_with (rw [Oper.semAt_eq _ _ _ (fun c h => by cases h)]; go_simp; try go_bits)
          refine ⟨trivial, ?_⟩
          go_at_K
          gi_wp2_with (rw [Oper.semAt_eq _ _ _ (fun c h => by cases h)]; go_simp; try go_bits)
          exact ⟨HST5.out, by show MeanI w k s v m a len cap w3.heap.size (t.flat 0) (pre ++ [_]).length _; rw [List.length_append]; exact HIN5.out⟩
        by_cases c14 : k1 = 14
        · subst c14
          have HE := Lib.hid (HTX.out (.inl rfl) (.int .i64 M))
          gi_wp2_with (rw [Oper.semAt_eq _ _ _ (fun c h => by cases h)]; go_simp; try go_bits)
          refine ⟨trivial, ?_⟩
          go_at_K
          gi_wp2_with (rw [Oper.semAt_eq _ _ _ (fun c h => by cases h)]; go_simp; try go_bits)
          refine ⟨trivial, ?_⟩
          go_at_K
          gi_wp2_with (rw [Oper.semAt_eq _ _ _ (fun c h => by cases h)]; go_simp; try go_bits)
          refine ⟨trivial, rfl, calls_inRound ((HE.out _ (Below.refl _ _)).mono ?_)⟩
          rintro e w5 ⟨rfl, hb5⟩
          have q0 := (hb5.cell (p := ⟨kb, 0, none⟩) (by show kb < _; rw [size_set, size_set]; exact hkl)).trans (HC.out _).h0
          have HIN5 := Lib.hid (HIn.out.below (hb5.mono (by rw [size_set, size_set]; have := HA.out; omega)))
          have HST5 := Lib.hid ((hST.out _).trans (Stay.below hb5))
          clear hb5 HIn hST
          gi_wp2_with (rw [Oper.semAt_eq _ _ _ (fun c h => by cases h)]; go_simp; try go_bits)
          exact ⟨HST5.out, by show MeanI w k s v m a len cap w3.heap.size (t.flat 0) (pre ++ [_]).length _; rw [List.length_append]; exact HIN5.out⟩
        by_cases c15 : k1 = 15
        · subst c15
          have HE := Lib.hid (HTX.out (.inr (.inl rfl)) (.int .i64 M))
          gi_wp2_with (rw [Oper.semAt_eq _ _ _ (fun c h => by cases h)]; go_simp; try go_bits)
          refine ⟨trivial, ?_⟩
          go_at_K
          gi_wp2_with (rw [Oper.semAt_eq _ _ _ (fun c h => by cases h)]; go_simp; try go_bits)
          refine ⟨trivial, ?_⟩
          go_at_K
          gi_wp2_with (rw [Oper.semAt_eq _ _ _ (fun c h => by cases h)]; go_simp; try go_bits)
          refine ⟨trivial, rfl, calls_inRound ((HE.out _ (Below.refl _ _)).mono ?_)⟩
          rintro e w5 ⟨rfl, hb5⟩
          have q0 := (hb5.cell (p := ⟨kb, 0, none⟩) (by show kb < _; rw [size_set, size_set]; exact hkl)).trans (HC.out _).h0
          have HIN5 := Lib.hid (HIn.out.below (hb5.mono (by rw [size_set, size_set]; have := HA.out; omega)))
          have HST5 := Lib.hid ((hST.out _).trans (Stay.below hb5))
          clear hb5 HIn hST
          gi_wp2_with (rw [Oper.semAt_eq _ _ _ (fun c h => by cases h)]; go_simp; try go_bits)
          exact ⟨HST5.out, by show MeanI w k s v m a len cap w3.heap.size (t.flat 0) (pre ++ [_]).length _; rw [List.length_append]; exact HIN5.out⟩
        by_cases c17 : k1 = 17
        · subst c17
          have HE := Lib.hid (HTX.out (.inr (.inr rfl)) (.int .i64 M))
          gi_wp2_with (rw [Oper.semAt_eq _ _ _ (fun c h => by cases h)]; go_simp; try go_bits)
          refine ⟨trivial, ?_⟩
          go_at_K
          gi_wp2_with (rw [Oper.semAt_eq _ _ _ (fun c h => by cases h)]; go_simp; try go_bits)
          refine ⟨trivial, ?_⟩
          go_at_K
          gi_wp2_with (rw [Oper.semAt_eq _ _ _ (fun c h => by cases h)]; go_simp; try go_bits)
          refine ⟨trivial, rfl, calls_inRound ((HE.out _ (Below.refl _ _)).mono ?_)⟩
          rintro e w5 ⟨rfl, hb5⟩
          have q0 := (hb5.cell (p := ⟨kb, 0, none⟩) (by show kb < _; rw [size_set, size_set]; exact hkl)).trans (HC.out _).h0
          have HIN5 := Lib.hid (HIn.out.below (hb5.mono (by rw [size_set, size_set]; have := HA.out; omega)))
          have HST5 := Lib.hid ((hST.out _).trans (Stay.below hb5))
          clear hb5 HIn hST
          gi_wp2_with (rw [Oper.semAt_eq _ _ _ (fun c h => by cases h)]; go_simp; try go_bits)
          exact ⟨HST5.out, by show MeanI w k s v m a len cap w3.heap.size (t.flat 0) (pre ++ [_]).length _; rw [List.length_append]; exact HIN5.out⟩
        have e21 : (k1 == 21) = false := by simp; omega
        have e19 : (k1 == 19) = false := by simp; omega
        have e14 : (k1 == 14) = false := by simp; omega
        have e15 : (k1 == 15) = false := by simp; omega
        have e17 : (k1 == 17) = false := by simp; omega
        gi_wp2_with (rw [Oper.semAt_eq _ _ _ (fun c h => by cases h)]; go_simp; try go_bits)
        refine ⟨trivial, ?_⟩
        go_at_K
        gi_wp2_with (rw [Oper.semAt_eq _ _ _ (fun c h => by cases h)]; go_simp; try go_bits)
        refine ⟨trivial, ?_⟩
        go_at_K
        gi_wp2_with (rw [Oper.semAt_eq _ _ _ (fun c h => by cases h)]; go_simp; try go_bits)
        refine ⟨trivial, ?_⟩
        go_at_K
        gi_wp2_with (rw [Oper.semAt_eq _ _ _ (fun c h => by cases h)]; go_simp; try go_bits)
        exact ⟨hST.out _, by show MeanI w k s v m a len cap w3.heap.size (t.flat 0) (pre ++ [_]).length _; rw [List.length_append]; exact HIn.out⟩
    · obtain rfl : M = D := by omega
      clear hM
      by_cases h25 : 25 ≤ k1
      · have e21 : (k1 == 21) = false := by simp; omega
        have e19 : (k1 == 19) = false := by simp; omega
        have e14 : (k1 == 14) = false := by simp; omega
        have e15 : (k1 == 15) = false := by simp; omega
        have e17 : (k1 == 17) = false := by simp; omega
        by_cases h38 : k1 ≤ 38
        · have HE := Lib.hid (HEX.out (.inl ⟨h25, h38⟩) (.int .i64 M))
          gi_wp2_with (rw [Oper.semAt_eq _ _ _ (fun c h => by cases h)]; go_simp; try go_bits)
          refine ⟨trivial, rfl, calls_inRound ((HE.out _ (Below.refl _ _)).mono ?_)⟩
          rintro e w5 ⟨rfl, hb5⟩
          have q0 := (hb5.cell (p := ⟨kb, 0, none⟩) (by show kb < _; rw [size_set, size_set]; exact hkl)).trans (HC.out _).h0
          have HIN5 := Lib.hid (HIn.out.below (hb5.mono (by rw [size_set, size_set]; have := HA.out; omega)))
          have HST5 := Lib.hid ((hST.out _).trans (Stay.below hb5))
          clear hb5 HIn hST
          gi_wp2_with (rw [Oper.semAt_eq _ _ _ (fun c h => by cases h)]; go_simp; try go_bits)
          refine ⟨trivial, ?_⟩
          go_at_K
          gi_wp2_with (rw [Oper.semAt_eq _ _ _ (fun c h => by cases h)]; go_simp; try go_bits)
          refine ⟨trivial, ?_⟩
          go_at_K
          gi_wp2_with (rw [Oper.semAt_eq _ _ _ (fun c h => by cases h)]; go_simp; try go_bits)
          exact ⟨HST5.out, by show MeanI w k s v m a len cap w3.heap.size (t.flat 0) (pre ++ [_]).length _; rw [List.length_append]; exact HIN5.out⟩
        · skip
          gi_wp2_with (rw [Oper.semAt_eq _ _ _ (fun c h => by cases h)]; go_simp; try go_bits)
          refine ⟨trivial, ?_⟩
          go_at_K
          gi_wp2_with (rw [Oper.semAt_eq _ _ _ (fun c h => by cases h)]; go_simp; try go_bits)
          refine ⟨trivial, ?_⟩
          go_at_K
          gi_wp2_with (rw [Oper.semAt_eq _ _ _ (fun c h => by cases h)]; go_simp; try go_bits)
          refine ⟨trivial, ?_⟩
          go_at_K
          gi_wp2_with (rw [Oper.semAt_eq _ _ _ (fun c h => by cases h)]; go_simp; try go_bits)
          exact ⟨hST.out _, by show MeanI w k s v m a len cap w3.heap.size (t.flat 0) (pre ++ [_]).length _; rw [List.length_append]; exact HIn.out⟩
      · by_cases c21 : k1 = 21
        · subst c21
          have HE := Lib.hid (HEX.out (.inr rfl) (.int .i64 M))
          gi_wp2_with (rw [Oper.semAt_eq _ _ _ (fun c h => by cases h)]; go_simp; try go_bits)
          refine ⟨trivial, rfl, calls_inRound ((HE.out _ (Below.refl _ _)).mono ?_)⟩
          rintro e w5 ⟨rfl, hb5⟩
          have q0 := (hb5.cell (p := ⟨kb, 0, none⟩) (by show kb < _; rw [size_set, size_set]; exact hkl)).trans (HC.out _).h0
          have HIN5 := Lib.hid (HIn.out.below (hb5.mono (by rw [size_set, size_set]; have := HA.out; omega)))
          have HST5 := Lib.hid ((hST.out _).trans (Stay.below hb5))
          clear hb5 HIn hST
          gi_wp2_with (rw [Oper.semAt_eq _ _ _ (fun c h => by cases h)]; go_simp; try go_bits)
          refine ⟨trivial, ?_⟩
          go_at_K
          gi_wp2_with (rw [Oper.semAt_eq _ _ _ (fun c h => by cases h)]; go_simp; try go_bits)
          refine ⟨trivial, ?_⟩
          go_at_K
          gi_wp2_with (rw [Oper.semAt_eq _ _ _ (fun c h => by cases h)]; go_simp; try go_bits)
          exact ⟨HST5.out, by show MeanI w k s v m a len cap w3.heap.size (t.flat 0) (pre ++ [_]).length _; rw [List.length_append]; exact HIN5.out⟩
        by_cases c19 : k1 = 19
        · subst c19
          have HE := Lib.hid (HSX.out (rfl) (.int .i64 M))
          gi_wp2_with (rw [Oper.semAt_eq _ _ _ (fun c h => by cases h)]; go_simp; try go_bits)
          refine ⟨trivial, ?_⟩
          go_at_K
          gi_wp2_with (rw [Oper.semAt_eq _ _ _ (fun c h => by cases h)]; go_simp; try go_bits)
          refine ⟨trivial, rfl, calls_inRound ((HE.out _ (Below.refl _ _)).mono ?_)⟩
          rintro e w5 ⟨rfl, hb5⟩
          have q0 := (hb5.cell (p := ⟨kb, 0, none⟩) (by show kb < _; rw [size_set, size_set]; exact hkl)).trans (HC.out _).h0
          have HIN5 := Lib.hid (HIn.out.below (hb5.mono (by rw [size_set, size_set]; have := HA.out; omega)))
          have HST5 := Lib.hid ((hST.out _).trans (Stay.below hb5))
          clear hb5 HIn hST
          gi_wp2_with (rw [Oper.semAt_eq _ _ _ (fun c h => by cases h)]; go_simp; try go_bits)
          refine ⟨trivial, ?_⟩
          go_at_K
          gi_wp2_with (rw [Oper.semAt_eq _ _ _ (fun c h => by cases h)]; go_simp; try go_bits)
          exact ⟨HST5.out, by show MeanI w k s v m a len cap w3.heap.size (t.flat 0) (pre ++ [_]).length _; rw [List.length_append]; exact HIN5.out⟩
        by_cases c14 : k1 = 14
        · subst c14
          have HE := Lib.hid (HTX.out (.inl rfl) (.int .i64 M))
          gi_wp2_with (rw [Oper.semAt_eq _ _ _ (fun c h => by cases h)]; go_simp; try go_bits)
          refine ⟨trivial, ?_⟩
          go_at_K
          gi_wp2_with (rw [Oper.semAt_eq _ _ _ (fun c h => by cases h)]; go_simp; try go_bits)
          refine ⟨trivial, ?_⟩
          go_at_K
          gi_wp2_with (rw [Oper.semAt_eq _ _ _ (fun c h => by cases h)]; go_simp; try go_bits)
          refine ⟨trivial, rfl, calls_inRound ((HE.out _ (Below.refl _ _)).mono ?_)⟩
          rintro e w5 ⟨rfl, hb5⟩
          have q0 := (hb5.cell (p := ⟨kb, 0, none⟩) (by show kb < _; rw [size_set, size_set]; exact hkl)).trans (HC.out _).h0
          have HIN5 := Lib.hid (HIn.out.below (hb5.mono (by rw [size_set, size_set]; have := HA.out; omega)))
          have HST5 := Lib.hid ((hST.out _).trans (Stay.below hb5))
          clear hb5 HIn hST
          gi_wp2_with (rw [Oper.semAt_eq _ _ _ (fun c h => by cases h)]; go_simp; try go_bits)
          exact ⟨HST5.out, by show MeanI w k s v m a len cap w3.heap.size (t.flat 0) (pre ++ [_]).length _; rw [List.length_append]; exact HIN5.out⟩
        by_cases c15 : k1 = 15
        · subst c15
          have HE := Lib.hid (HTX.out (.inr (.inl rfl)) (.int .i64 M))
          gi_wp2_with (rw [Oper.semAt_eq _ _ _ (fun c h => by cases h)]; go_simp; try go_bits)
          refine ⟨trivial, ?_⟩
          go_at_K
          gi_wp2_with (rw [Oper.semAt_eq _ _ _ (fun c h => by cases h)]; go_simp; try go_bits)
          refine ⟨trivial, ?_⟩
          go_at_K
          gi_wp2_with (rw [Oper.semAt_eq _ _ _ (fun c h => by cases h)]; go_simp; try go_bits)
          refine ⟨trivial, rfl, calls_inRound ((HE.out _ (Below.refl _ _)).mono ?_)⟩
          rintro e w5 ⟨rfl, hb5⟩
          have q0 := (hb5.cell (p := ⟨kb, 0, none⟩) (by show kb < _; rw [size_set, size_set]; exact hkl)).trans (HC.out _).h0
          have HIN5 := Lib.hid (HIn.out.below (hb5.mono (by rw [size_set, size_set]; have := HA.out; omega)))
          have HST5 := Lib.hid ((hST.out _).trans (Stay.below hb5))
          clear hb5 HIn hST
          gi_wp2_with (rw [Oper.semAt_eq _ _ _ (fun c h => by cases h)]; go_simp; try go_bits)
          exact ⟨HST5.out, by show MeanI w k s v m a len cap w3.heap.size (t.flat 0) (pre ++ [_]).length _; rw [List.length_append]; exact HIN5.out⟩
        by_cases c17 : k1 = 17
        · subst c17
          have HE := Lib.hid (HTX.out (.inr (.inr rfl)) (.int .i64 M))
          gi_wp2_with (rw [Oper.semAt_eq _ _ _ (fun c h => by cases h)]; go_simp; try go_bits)
          refine ⟨trivial, ?_⟩
          go_at_K
          gi_wp2_with (rw [Oper.semAt_eq _ _ _ (fun c h => by cases h)]; go_simp; try go_bits)
          refine ⟨trivial, ?_⟩
          go_at_K
          gi_wp2_with (rw [Oper.semAt_eq _ _ _ (fun c h => by cases h)]; go_simp; try go_bits)
          refine ⟨trivial, rfl, calls_inRound ((HE.out _ (Below.refl _ _)).mono ?_)⟩
          rintro e w5 ⟨rfl, hb5⟩
          have q0 := (hb5.cell (p := ⟨kb, 0, none⟩) (by show kb < _; rw [size_set, size_set]; exact hkl)).trans (HC.out _).h0
          have HIN5 := Lib.hid (HIn.out.below (hb5.mono (by rw [size_set, size_set]; have := HA.out; omega)))
          have HST5 := Lib.hid ((hST.out _).trans (Stay.below hb5))
          clear hb5 HIn hST
          gi_wp2_with (rw [Oper.semAt_eq _ _ _ (fun c h => by cases h)]; go_simp; try go_bits)
          exact ⟨HST5.out, by show MeanI w k s v m a len cap w3.heap.size (t.flat 0) (pre ++ [_]).length _; rw [List.length_append]; exact HIN5.out⟩
        have e21 : (k1 == 21) = false := by simp; omega
        have e19 : (k1 == 19) = false := by simp; omega
        have e14 : (k1 == 14) = false := by simp; omega
        have e15 : (k1 == 15) = false := by simp; omega
        have e17 : (k1 == 17) = false := by simp; omega
        gi_wp2_with (rw [Oper.semAt_eq _ _ _ (fun c h => by cases h)]; go_simp; try go_bits)
        refine ⟨trivial, ?_⟩
        go_at_K
        gi_wp2_with (rw [Oper.semAt_eq _ _ _ (fun c h => by cases h)]; go_simp; try go_bits)
        refine ⟨trivial, ?_⟩
        go_at_K
        gi_wp2_with (rw [Oper.semAt_eq _ _ _ (fun c h => by cases h)]; go_simp; try go_bits)
        refine ⟨trivial, ?_⟩
        go_at_K
        gi_wp2_with (rw [Oper.semAt_eq _ _ _ (fun c h => by cases h)]; go_simp; try go_bits)
        exact ⟨hST.out _, by show MeanI w k s v m a len cap w3.heap.size (t.flat 0) (pre ++ [_]).length _; rw [List.length_append]; exact HIn.out⟩
  case done =>
    intro xs W2 hxs hI hD
    have hn : xs.length = t.count := hxs
    have hI : MeanI w k s v m a len cap w3.heap.size (t.flat 0) t.count W2 := by rw [← hn]; exact hI
    obtain ⟨dp, hdpe⟩ : ∃ dp : Nat, t.deep = dp + 1 := ⟨t.deep - 1, by have := deep_pos t; omega⟩
    have hdp400 : dp ≤ 400 := by have := deep_le t; omega
    have hfold : ((t.flat 0).take t.count).foldl maxD 0 = (dp : Int) := by
      have := fold_deep0 t
      rw [List.take_of_length_le (by rw [HLF.out]; exact Nat.le_refl _)]
      rw [hdpe] at this
      push_cast at this
      omega
    have o5 := cell0 hI.sz
    have o6 := cell0 hI.dp
    rw [hfold] at o6
    obtain ⟨c0, c1, c2, c3, c4, -⟩ := hI.pre.own
    have hWR : IntKind.i64.wrap ((dp : Int) + 1) = (dp : Int) + 1 := IntWalk.i64_in _ (by omega)
    have HI := Lib.hid hI
    have HD := Lib.hid hD
    clear hI hD hxs hn HRE HBK HBW HI0 HLF HFI
    unfold nd at *
    have l5 : w3.heap.size < W2.heap.size := lt_blk HI.out.sz
    have l6 : w3.heap.size + 1 < W2.heap.size := lt_blk HI.out.dp
    have lc : w.heap.size < W2.heap.size := by omega
    have HCS : Hid (∀ V' : World, Below W2.heap.size W2 V' → Below W2.heap.size W2 V' ∧ V'.cell? ⟨w3.heap.size, 0, none⟩ = some (.int .i64 (t.count : Int)) ∧ V'.cell? ⟨w3.heap.size + 1, 0, none⟩ = some (.int .i64 (dp : Int)) ∧ V'.cell? ⟨w.heap.size, 0, none⟩ = some (.int .i64 k) ∧ V'.cell? ⟨w.heap.size, 1, none⟩ = some (.string s) ∧ V'.cell? ⟨w.heap.size, 2, none⟩ = some (.int .u32 v) ∧ V'.cell? ⟨w.heap.size, 3, none⟩ = some (.bool m) ∧ V'.cell? ⟨w.heap.size, 4, none⟩ = some (.slice a len cap)) := Lib.hid fun V' h => by
      exact ⟨h, (h.cell (p := ⟨w3.heap.size, 0, none⟩) l5).trans o5, (h.cell (p := ⟨w3.heap.size + 1, 0, none⟩) l6).trans o6, (h.cell (p := ⟨w.heap.size, 0, none⟩) lc).trans c0, (h.cell (p := ⟨w.heap.size, 1, none⟩) lc).trans c1, (h.cell (p := ⟨w.heap.size, 2, none⟩) lc).trans c2, (h.cell (p := ⟨w.heap.size, 3, none⟩) lc).trans c3, (h.cell (p := ⟨w.heap.size, 4, none⟩) lc).trans c4⟩
    have HZ := Lib.hid (sizeT_all t _ HR.out)
    have HDP0 := deepT_all t _ HR.out
    unfold DeepT at HDP0
    rw [hdpe] at HDP0
    simp only [Int.natCast_add, Int.natCast_one] at HDP0
    have HDP := Lib.hid HDP0
    have HCP := Lib.hid (copyT_all t _ HR.out)
    have HWb : Hid (∀ V' : World, Below W2.heap.size W2 V' → Below w.heap.size w V') := Lib.hid fun V' h => HI.out.pre.bel.trans (h.mono (by omega))
    clear HDP0 hfold hdpe
    unfold nd at *
    gi_wp2
    clear o5 o6 c0 c1 c2 c3 c4
    obtain ⟨b0, o5, o6, c0, c1, c2, c3, c4⟩ := HCS.out _ (Below.refl W2.heap.size W2).drew
    refine wpIn_wide.2 ?_
    go_region_held3 (fun V' => Below W2.heap.size W2 V' ∧ V'.cell? ⟨w3.heap.size, 0, none⟩ = some (.int .i64 (t.count : Int)) ∧ V'.cell? ⟨w3.heap.size + 1, 0, none⟩ = some (.int .i64 (dp : Int)) ∧ V'.cell? ⟨w.heap.size, 0, none⟩ = some (.int .i64 k) ∧ V'.cell? ⟨w.heap.size, 1, none⟩ = some (.string s) ∧ V'.cell? ⟨w.heap.size, 2, none⟩ = some (.int .u32 v) ∧ V'.cell? ⟨w.heap.size, 3, none⟩ = some (.bool m) ∧ V'.cell? ⟨w.heap.size, 4, none⟩ = some (.slice a len cap))
      (first | exact ⟨by assumption, by assumption, by assumption, by assumption, by assumption, by assumption, by assumption, by assumption⟩ | go_keep)
      ((first
      | (go_at_call 12; (with_reducible refine (SizeT.call HZ.out (HWb.out _ b0) (by omega)).mono ?_); rintro e v1 ⟨rfl, hb⟩; (obtain ⟨b0, o5, o6, c0, c1, c2, c3, c4⟩ := HCS.out _ (b0.trans (hb.mono b0.size)); clear hb))
      | (go_at_call 13; (with_reducible refine (HDP.out _ (HWb.out _ b0) (by omega)).mono ?_); rintro e v1 ⟨rfl, hb⟩; (obtain ⟨b0, o5, o6, c0, c1, c2, c3, c4⟩ := HCS.out _ (b0.trans (hb.mono b0.size)); clear hb))))
    all_goals
      have hIv : MeanI w k s v m a len cap w3.heap.size (t.flat 0) t.count v1 := HI.out.below (b0.mono (by omega))
      have hDv : v1.heap[W.heap.size]? = some (.deferred (some [])) := by rw [b0.block _ (lt_blk HD.out)]; exact HD.out
      have HIv := Lib.hid hIv
      have HDv := Lib.hid hDv
      have HB0 := Lib.hid b0
      have hzv : W.heap.size < v1.heap.size := lt_blk hDv
      clear hIv hDv HI HD HZ HDP HCS b0
      gi_wp2
      refine ⟨trivial, rfl, callsIn_wide.2 ((CopyT.call HCP.out (HWb.out _ HB0.out) (by omega)).mono ?_)⟩
      rintro e v2 ⟨kc, sc, vc, mc, ac, lc', cc, rfl, hb2, hro⟩
      unfold nd at *
      have HIw := Lib.hid (HIv.out.below (hb2.mono HIv.out.size))
      have HDw : Hid (v2.heap[W.heap.size]? = some (.deferred (some []))) := Lib.hid (by rw [hb2.block _ (lt_blk HDv.out)]; exact HDv.out)
      have HRO := Lib.hid hro
      have HB2 := Lib.hid hb2
      have HV : Hid (MeanI w k s v m a len cap w3.heap.size (t.flat 0) t.count (v2.alloc (.cells #[.int .i64 kc, .string sc, .int .u32 vc, .bool mc, .slice ac lc' cc] 26))) := Lib.hid (HIw.out.below ((below1 v2 _).mono HIw.out.size))
      have HDV : Hid ((v2.alloc (.cells #[.int .i64 kc, .string sc, .int .u32 vc, .bool mc, .slice ac lc' cc] 26)).heap[W.heap.size]? = some (.deferred (some []))) := Lib.hid (by rw [(below1 v2 _).block _ (lt_blk HDw.out)]; exact HDw.out)
      have o5 := cell0 HV.out.sz
      obtain ⟨rb, hrb⟩ := HV.out.pre.res
      have r1 := cell0 hrb
      have z1 := frz0 0 hrb
      have hcb := heap_alloc_new v2 (.cells #[.int .i64 kc, .string sc, .int .u32 vc, .bool mc, .slice ac lc' cc] 26)
      obtain ⟨y0, y1, y2, y3, y4⟩ := Has.start v2 kc sc vc mc ac lc' cc
      have KJ : Hid (KidJ (v2.alloc (.cells #[.int .i64 kc, .string sc, .int .u32 vc, .bool mc, .slice ac lc' cc] 26)) ⟨v2.heap.size, 0, none⟩ kc sc vc mc ac lc' cc) := Lib.hid ⟨y0, y1, y2, y3, y4⟩
      have HZC : Hid (∀ o, (v2.alloc (.cells #[.int .i64 kc, .string sc, .int .u32 vc, .bool mc, .slice ac lc' cc] 26)).frozen? ⟨v2.heap.size, o, none⟩ = false) := Lib.hid fun o => frz0 o hcb
      have HRV : Hid (ROwn (v2.alloc (.cells #[.int .i64 kc, .string sc, .int .u32 vc, .bool mc, .slice ac lc' cc] 26)) (fun b => v1.heap.size ≤ b ∧ b < v2.heap.size) t (nd kc sc vc mc ac lc' cc)) := Lib.hid (ROwn.keep t HRO.out fun b hb hS => ⟨Below.heap_alloc _ _ _ (by omega), hS, hb⟩)
      have hv12 := HB2.out.size
      clear hro hb2 HIv HDv hrb hcb HRO HB2
      by_cases h1 : at_ < 1
      · gi_wp2
        refine ⟨trivial, ?_⟩
        go_at_K
        gi_wp2
        rotate_right
        · refine ⟨trivial, ?_⟩
          go_at_K
          gi_wp2
          exact mean_fin (HV.out.pre.set true).1.bel (HV.out.pre.set true).2 (by omega) ((Below.heap_setCell _ _ _ _ (by simp only []; omega)).trans HDV.out) _ rfl rfl
        all_goals (exfalso; rename_i b0' hb0' _; exact absurd hb0' (by intro e; cases e))
      by_cases h2 : at_ ≥ (t.count : Int)
      · gi_wp2
        refine ⟨trivial, ?_⟩
        go_at_K
        gi_wp2
        rotate_right
        · refine ⟨trivial, ?_⟩
          go_at_K
          gi_wp2
          exact mean_fin (HV.out.pre.set true).1.bel (HV.out.pre.set true).2 (by omega) ((Below.heap_setCell _ _ _ _ (by simp only []; omega)).trans HDV.out) _ rfl rfl
        all_goals (exfalso; rename_i b0' hb0' _; exact absurd hb0' (by intro e; cases e))
      obtain ⟨p, rfl⟩ := Int.eq_ofNat_of_zero_le (show 0 ≤ at_ by omega)
      have hp0 : 0 < p := by omega
      have hpc : p < t.count := by omega
      have HRP := Lib.hid (repT_all t _ (fun b => v1.heap.size ≤ b ∧ b < v2.heap.size) v2.heap.size 0 kc sc vc mc ac lc' cc p (by omega) KJ.out HZC.out (fun h => by have := h.2; omega) HRV.out (by omega))
      unfold nd at *
      gi_wp2
      refine ⟨trivial, rfl, callsIn_wide.2 (HRP.out.mono ?_)⟩
      rintro e v4 ⟨x, rfl, hres⟩
      rcases hres with ⟨e0, -, -⟩ | ⟨-, hA, ts', hro, ⟨hc, -⟩ | ⟨-, rfl, j, t1, hj, hbad⟩⟩
      · omega
      · omega
      have hb4 : Below v1.heap.size (v2.alloc (.cells #[.int .i64 kc, .string sc, .int .u32 vc, .bool mc, .slice ac lc' cc] 26)) v4 := ⟨hA.os, hA.tape, hA.output, hA.size, fun c hc => hA.block c (by simp; omega) fun hS => by have := hS.1; omega⟩
      have HV4 : Hid (MeanI w k s v m a len cap w3.heap.size (t.flat 0) t.count v4) := Lib.hid (HV.out.below (hb4.mono (by omega)))
      have HD4 : Hid (v4.heap[W.heap.size]? = some (.deferred (some []))) := Lib.hid (by rw [hb4.block _ (by omega)]; exact HDV.out)
      obtain ⟨g0, g1, g2, g3, g4⟩ := hA.kidj (fun h => by have := h.2; simp at this) KJ.out
      have hm4 := may_all _ _ (ROwn.reads _ hro)
      have hno : Tr.may (.mk kc sc vc mc ts') = false := by
        cases h : Tr.may (.mk kc sc vc mc ts') with
        | false => rfl
        | true =>
          have hlt := (List.getElem?_eq_some_iff.1 hj).1
          have := (may_kids (show mayF kc sc vc mc ts'.length (Tr.smL ts') = true from h)).1 j hlt
          rw [smL_get ts' j hlt, (List.getElem?_eq_some_iff.1 hj).2] at this
          exact absurd this hbad
      rw [hno] at hm4
      have HM4 := Lib.hid hm4
      clear hA hro hj hbad hb4 hm4 hno HRP o5 r1 z1 y0 y1 y2 y3 y4
      unfold nd at *
      gi_wp2
      refine ⟨trivial, rfl, callsIn_wide.2 ((MayT.call HM4.out (Below.refl _ _)).mono ?_)⟩
      rintro e v5 ⟨rfl, hb5⟩
      have HV5 : Hid (MeanI w k s v m a len cap w3.heap.size (t.flat 0) t.count v5) := Lib.hid (HV4.out.below (hb5.mono HV4.out.size))
      have HD5 : Hid (v5.heap[W.heap.size]? = some (.deferred (some []))) := Lib.hid (by rw [hb5.block _ (lt_blk HD4.out)]; exact HD4.out)
      obtain ⟨rb2, hrb⟩ := HV5.out.pre.res
      have r1 := cell0 hrb
      have z1 := frz0 0 hrb
      clear hrb hb5 g0 g1 g2 g3 g4
      gi_wp2
      exact mean_fin (HV5.out.pre.set true).1.bel (HV5.out.pre.set true).2 (by omega) ((Below.heap_setCell _ _ _ _ (by simp only []; omega)).trans HD5.out) _ rfl rfl
theorem own : ownKnob Try.prog.godebug = none := by kernel_rfl
theorem laidOut : laidOutB Try.prog = true := by kernel_rfl
set_option maxRecDepth 1000000 in
theorem contract (H : Type) (enc : TypeId × Value → H) (W : World) (base : Nat) (args : Array Value) (ds gs : List (DataW H)) (before : List MemPlace)
    (hval : ∀ (j : Nat) t v, Try.f5.params[j]? = some t → args[j]? = some v → Value.okWide Try.prog W .any base t v)
    (hW : DataW.Whole enc Try.prog Try.f5.params.toList Rows.treeMeansSpec.vars false W args.toList ds gs before) :
    Calls Try.prog 5 args W fun e W' => ∃ v, e = .returned v ∧ Rows.treeMeansSpec.post enc Try.prog Try.f5 false true false false W args v W' := by
  have hW' := hW
  obtain ⟨p, q, hA0, hV, rfl, hfz, hnd⟩ := hW
  have hA : DataW.TrodAll enc Try.prog W 0 (fun _ => true) true Try.f5.params.toList args.toList ds p := hA0
  rw [Try.params5] at hA hval
  obtain ⟨v0, vs0, d0, ds0, p0, q0, hargs, rfl, rfl, h0, r0⟩ := trodAll_cons hA
  obtain ⟨v1, vs1, d1, ds1, p1, q1, rfl, rfl, rfl, h1, r1⟩ := trodAll_cons r0
  obtain ⟨rfl, rfl, rfl⟩ := trodAll_nil r1
  obtain rfl : args = #[v0, v1] := by cases args; simp_all
  obtain ⟨rfl, rfl⟩ := trodVars_none hV
  obtain ⟨n0, w0⟩ := node_of (.inl (hval 0 26 v0 rfl rfl)) h0
  have k0 := h0
  have lt0 : ∀ x ∈ p0, x.block < W.heap.size := by obtain ⟨m, hm⟩ := k0; exact DataW.trod_lt m _ _ _ hm
  obtain ⟨a1, rfl, rfl, rfl, w1⟩ := open_int Try.underlying3 (hval 1 3 v1 rfl rfl) h1
  clear hA0
  refine (walk v0 n0 a1 W w0 w1).mono fun e W' ⟨he, bel⟩ => ?_
  subst he
  exact ⟨_, rfl, _, _, _, [], _, [], hW', trodAll_mk1 (shut_bool Try.underlying4 _), (trodAll_cons_mk (Below.trod laidOut (by kernel_rfl) (of_decide_eq_true (by kernel_rfl)) k0 bel lt0) (trodAll_cons_mk (shut_int Try.underlying3 w1) trodAll_mk0)), rfl, bel.frame _, fun h => by cases h⟩
set_option maxRecDepth 100000 in
theorem lifted (os : Os) (started : os.Started) (H : Type) (enc : TypeId × Value → H) :
    ReturnsInHanded {} Try.checked os 5 .any (Rows.treeMeansSpec.pre6 enc Try.prog Try.f5 Rows.treeMeansRow.domain false) (Rows.treeMeansSpec.post enc Try.prog Try.f5 false true false false) := by
  refine returnsInHanded_of_change (C := Try.checked) own started (by kernel_rfl) Try.func5
    (ChangeSpec.witness6 (enc := enc) (C := Try.checked) false ⟨#[], #[.agg #[.int .i64 0, .string .empty, .int .u32 0, .bool false, .slice none 0 0], .int .i64 0], []⟩ 8 (by kernel_rfl) (by kernel_rfl) (by kernel_rfl) (by kernel_rfl)) ?_
  intro W base args ds gs before hval hW hcnd _
  exact contract H enc W base args ds gs before hval hW
theorem said : Rows.TreeMeansSaid :=
  OpenClaim.holds_of_wide 5 Try.f5 rfl rfl rfl rfl rfl rfl rfl ⟨rfl, rfl, rfl, rfl, rfl⟩ rfl rfl rfl rfl rfl (by kernel_rfl) Try.func5 (by kernel_rfl)
    (of_decide_eq_true (by kernel_rfl)) (by unfold Func.isWrapper; first | (rw [if_pos (by decide +kernel)]; kernel_rfl) | (rw [if_neg (by decide +kernel)]; exact ⟨rfl, rfl⟩))
    (fun os started H enc _ => lifted os started H enc)
theorem proved : Rows.TreeMeansSaid := said
end Go.Proofs.Ytkhbmamgfkpdbaa.treeMeans

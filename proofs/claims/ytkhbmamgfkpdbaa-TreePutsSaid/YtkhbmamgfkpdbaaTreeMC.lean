/-
  once: going over a tree meets Flat's nodes, each with its depth, as far as one goes.
-/
import Derived.Test.YtkhbmamgfkpdbaaTreeMB
import Derived.Test.YtkhbmamgfkpdbaaEvD
namespace Go.Proofs.Ytkhbmamgfkpdbaa
open Go.ChangeShapes Go.WideShapes Go.ChangeAt Go.RowKit Go.Shelf
open Ev (upOn)
set_option linter.unusedVariables false
attribute [local go_sem] Oper.semAt_some
/-- Flat's rows, as they lie -/
structure FlatIs (W : World) (g1 g2 : Nat) (l : List (Tr × Int)) : Prop where
  l1 : g1 < W.heap.size
  l2 : g2 < W.heap.size
  at_ : ∀ i t d, l[i]? = some (t, d) → KidIs W ⟨g1, 0, none⟩ i (Reads W t) ∧ W.cell? ⟨g2, i, none⟩ = some (.int .i64 d)
theorem FlatIs.below {W V : World} {g1 g2 : Nat} {l : List (Tr × Int)} (h : FlatIs W g1 g2 l) (hb : Below W.heap.size W V) : FlatIs V g1 g2 l :=
  ⟨Nat.lt_of_lt_of_le h.l1 hb.size, Nat.lt_of_lt_of_le h.l2 hb.size, fun i t d e => by
    obtain ⟨⟨k, s, v, m, a, l, c, hk, hr⟩, hc⟩ := h.at_ i t d e
    exact ⟨⟨k, s, v, m, a, l, c, hk.below h.l1 hb, reads_below hb _ _ hr⟩, by rw [hb.cell h.l2]; exact hc⟩⟩
theorem ROwn.nd {w : World} {S : Nat → Prop} {t : Tr} {u : Value} (h : ROwn w S t u) : ∃ k s v m a l c, u = Go.Proofs.Ytkhbmamgfkpdbaa.nd k s v m a l c := by
  cases t
  unfold ROwn at h
  obtain ⟨a, len, cap, xs, F, rfl, -⟩ := h
  exact ⟨_, _, _, _, _, _, _, rfl⟩
theorem six_alloc (V : World) (o0 o1 o2 o3 o4 o5 : Array Value) (t0 t1 t2 t3 t4 t5 : TypeId) :
    let W := (((((V.alloc (.cells o0 t0)).alloc (.cells o1 t1)).alloc (.cells o2 t2)).alloc (.cells o3 t3)).alloc (.cells o4 t4)).alloc (.cells o5 t5)
    W.heap.size = V.heap.size + 6 ∧ Below V.heap.size V W ∧ W.heap[V.heap.size + 1]? = some (.cells o1 t1 (0, 0)) ∧ W.heap[V.heap.size + 1 + 1]? = some (.cells o2 t2 (0, 0)) ∧ W.heap[V.heap.size + 1 + 1 + 1]? = some (.cells o3 t3 (0, 0)) ∧ W.heap[V.heap.size + 1 + 1 + 1 + 1]? = some (.cells o4 t4 (0, 0)) ∧ W.heap[V.heap.size + 1 + 1 + 1 + 1 + 1]? = some (.cells o5 t5 (0, 0)) := by
  intro W
  have ab : ∀ (U : World) (o : Obj) (b : Nat), b < U.heap.size → (U.alloc o).heap[b]? = U.heap[b]? := fun U o b hb => Below.heap_alloc _ _ _ hb
  refine ⟨by simp [W], (((((below1 V _).alloc (by simp) _).alloc (by simp; omega) _).alloc (by simp; omega) _).alloc (by simp; omega) _).alloc (by simp; omega) _, ?_, ?_, ?_, ?_, ?_⟩
  · refine (ab _ _ _ (by simp)).trans ((ab _ _ _ (by simp)).trans ((ab _ _ _ (by simp)).trans ((ab _ _ _ (by simp)).trans ?_)))
    have := heap_alloc_new (V.alloc (.cells o0 t0)) (.cells o1 t1)
    simpa using this
  · refine (ab _ _ _ (by simp)).trans ((ab _ _ _ (by simp)).trans ((ab _ _ _ (by simp)).trans ?_))
    have := heap_alloc_new ((V.alloc (.cells o0 t0)).alloc (.cells o1 t1)) (.cells o2 t2)
    simpa using this
  · refine (ab _ _ _ (by simp)).trans ((ab _ _ _ (by simp)).trans ?_)
    have := heap_alloc_new (((V.alloc (.cells o0 t0)).alloc (.cells o1 t1)).alloc (.cells o2 t2)) (.cells o3 t3)
    simpa using this
  · refine (ab _ _ _ (by simp)).trans ?_
    have := heap_alloc_new ((((V.alloc (.cells o0 t0)).alloc (.cells o1 t1)).alloc (.cells o2 t2)).alloc (.cells o3 t3)) (.cells o4 t4)
    simpa using this
  · rw [show V.heap.size + 1 + 1 + 1 + 1 + 1 = (((((V.alloc (.cells o0 t0)).alloc (.cells o1 t1)).alloc (.cells o2 t2)).alloc (.cells o3 t3)).alloc (.cells o4 t4)).heap.size by simp]
    exact heap_alloc_new _ _
theorem fn_nil (W : World) (f : Fn) (b c : Array Value) : (binOp .eql 42 (.func f b c) .nilFunc).run Try.prog W = .ok (.bool false) W := by
  have h : ∀ d : Nat, (Op.equalIn (d + 1) 42 (.func f b c) .nilFunc).run Try.prog W = .ok false W := fun d => by
    simp [Op.equalIn, run_underlying Try.underlying42]
  simp only [binOp]
  simp [Op.equal, Op.maxDepth, h 9999]
mutual
theorem same_refl : ∀ (t : Tr), t.same t = true
  | .mk k s v m ts => by
    unfold Tr.same
    simp [sameL_refl ts]
theorem sameL_refl : ∀ (ts : List Tr), Tr.sameL ts ts = true
  | [] => rfl
  | t :: ts => by
    unfold Tr.sameL
    rw [same_refl t, sameL_refl ts]
    rfl
end
/-- once's variables, laid -/
def onceW (V : World) (k : Int) (s : ByteArray) (v : Int) (m : Bool) (a : Option Addr) (len cap : Nat) (g1 g2 : Nat) (n c1 c2 : Nat) (leave : Int) : World :=
  (((((V.alloc (.cells #[.int .i64 k, .string s, .int .u32 v, .bool m, .slice a len cap] 26)).alloc (.cells #[.slice (some ⟨g1, 0, none⟩) n c1] 24)).alloc (.cells #[.slice (some ⟨g2, 0, none⟩) n c2] 29)).alloc (.cells #[.int .i64 leave] 3)).alloc (.cells #[.bool false] 4)).alloc (.cells #[.int .i64 0] 3)
theorem onceW_at (V : World) (k : Int) (s : ByteArray) (v : Int) (m : Bool) (a : Option Addr) (len cap : Nat) (g1 g2 : Nat) (n c1 c2 : Nat) (leave : Int) :
    let W := onceW V k s v m a len cap g1 g2 n c1 c2 leave
    W.heap.size = V.heap.size + 6 ∧ Below V.heap.size V W ∧ W.heap[V.heap.size + 1]? = some (.cells #[.slice (some ⟨g1, 0, none⟩) n c1] 24 (0, 0)) ∧ W.heap[V.heap.size + 1 + 1]? = some (.cells #[.slice (some ⟨g2, 0, none⟩) n c2] 29 (0, 0)) ∧ W.heap[V.heap.size + 1 + 1 + 1]? = some (.cells #[.int .i64 leave] 3 (0, 0)) ∧ W.heap[V.heap.size + 1 + 1 + 1 + 1]? = some (.cells #[.bool false] 4 (0, 0)) ∧ W.heap[V.heap.size + 1 + 1 + 1 + 1 + 1]? = some (.cells #[.int .i64 0] 3 (0, 0)) := by
  exact six_alloc V _ _ _ _ _ _ _ _ _ _ _ _
theorem Stay.setCell {C : Nat} {A B : World} (h : Stay C A B) (p : Addr) (u : Value) (hp : p.block < C) : Stay C A (B.setCell p u) :=
  ⟨by simpa [World.setCell] using h.1, fun b hb hl => (Below.heap_setCell _ _ _ _ (by omega)).trans (h.2 b hb hl)⟩
theorem calls_inRound {P : Program} {l n : Nat} {f : FuncId} {args : Array Value} {w : World} {R : Ending → World → Prop} (h : Calls P f args w R) : CallsIn (Fence.wide.inRound l) n P f args w R := callsIn_wide.2 h
open Ev in
theorem region_inv_round {P : Program} {ops : Array Oper} {Q : Exit → Act → World → Prop} {id l : Nat} {a : Act} {w : World} (n : Nat) (hn : ops.size = n) (I : (Nat → Bool) → Act → World → Prop) (hm : P.follows .mixedOrders = true) (hs : sorted .any ops = true)
    (h0 : I (fun k => decide (n ≤ k)) a w.drew)
    (hstep : ∀ i, i < n → ∀ (L : Nat → Bool) a w, L i = false → (∀ k d, L k = true → (depsOf .any ops k).contains d = true → L d = true) → (∀ d, (depsOf .any ops i).contains d = true → L d = true) → I L a w → wpOpIn (Fence.wide.inRound l) 0 P ops Q i (I (upOn L i)) a w)
    (hend : ∀ (L : Nat → Bool) a w, (∀ k, k < n → L k = true) → I L a w → Q .normal a w) : (Code.region id ops true).wpIn (Fence.wide.inRound l) 0 P Q a w :=
  wp_region_inv' (rb := some l) n hn I hm hs h0 hstep hend
theorem op_any {F : Fence} {n : Nat} {P : Program} {ops : Array Oper} {Q : Exit → Act → World → Prop} {i : Nat} {I : Act → World → Prop} {a : Act} {w : World} {o : Oper} (hi : ops[i]? = some o) (h : ∀ K : Act → World → Prop, (∀ a w, I a w → K a w) → if Region.wanted o (yielded ops a.tmps) then o.wpIn F n P a w K Q else (∀ f, o.about P w a.eval = some f → F.fn f) ∧ K (a.put o.dst undef) w) : wpOpIn F n P ops Q i I a w := by
  unfold wpOpIn
  rw [hi]
  exact h I fun _ _ h => h
/-- once's variables, between rounds -/
structure OnceI (V : World) (n c1 c2 g1 g2 : Nat) (leave : Int) (i : Nat) (A : World) : Prop where
  bel : Below V.heap.size V A
  b1 : A.heap[V.heap.size + 1]? = some (.cells #[.slice (some ⟨g1, 0, none⟩) n c1] 24 (0, 0))
  b2 : A.heap[V.heap.size + 1 + 1]? = some (.cells #[.slice (some ⟨g2, 0, none⟩) n c2] 29 (0, 0))
  b3 : A.heap[V.heap.size + 1 + 1 + 1]? = some (.cells #[.int .i64 leave] 3 (0, 0))
  b4 : ∃ b, A.heap[V.heap.size + 1 + 1 + 1 + 1]? = some (.cells #[.bool b] 4 (0, 0))
  b5 : A.heap[V.heap.size + 1 + 1 + 1 + 1 + 1]? = some (.cells #[.int .i64 i] 3 (0, 0))
theorem OnceI.below {V A B : World} {n c1 c2 g1 g2 i : Nat} {leave : Int} (h : OnceI V n c1 c2 g1 g2 leave i A) (hb : Below (V.heap.size + 6) A B) : OnceI V n c1 c2 g1 g2 leave i B :=
  ⟨h.bel.trans (hb.mono (by omega)), by rw [hb.block _ (by omega)]; exact h.b1, by rw [hb.block _ (by omega)]; exact h.b2, by rw [hb.block _ (by omega)]; exact h.b3, by rw [hb.block _ (by omega)]; exact h.b4, by rw [hb.block _ (by omega)]; exact h.b5⟩
theorem OnceI.next {V A : World} {n c1 c2 g1 g2 i : Nat} {leave : Int} (h : OnceI V n c1 c2 g1 g2 leave i A) : OnceI V n c1 c2 g1 g2 leave (i + 1) (A.setCell ⟨V.heap.size + 1 + 1 + 1 + 1 + 1, 0, none⟩ (.int .i64 ((i : Int) + 1))) := by
  have o : ∀ b, b ≠ V.heap.size + 1 + 1 + 1 + 1 + 1 → _ := fun b hb => Below.heap_setCell A ⟨V.heap.size + 1 + 1 + 1 + 1 + 1, 0, none⟩ (.int .i64 ((i : Int) + 1)) b hb
  refine ⟨h.bel.setCell (by simp only []; omega) _, ?_, ?_, ?_, ?_, set_blk (i := 0) h.b5⟩
  · rw [o _ (by omega)]; exact h.b1
  · rw [o _ (by omega)]; exact h.b2
  · rw [o _ (by omega)]; exact h.b3
  · rw [o _ (by omega)]; exact h.b4
theorem OnceI.res {V A : World} {n c1 c2 g1 g2 i : Nat} {leave : Int} (h : OnceI V n c1 c2 g1 g2 leave i A) (b : Bool) : Below V.heap.size V (A.setCell ⟨V.heap.size + 1 + 1 + 1 + 1, 0, none⟩ (.bool b)) ∧ (A.setCell ⟨V.heap.size + 1 + 1 + 1 + 1, 0, none⟩ (.bool b)).heap[V.heap.size + 1 + 1 + 1 + 1]? = some (.cells #[.bool b] 4 (0, 0)) := by
  obtain ⟨q, hq⟩ := h.b4
  exact ⟨h.bel.setCell (by simp only []; omega) _, set_blk (i := 0) hq⟩
theorem once_fin {V W2 : World} {Wz : Nat} (hb : Below V.heap.size V W2) (hr : W2.heap[V.heap.size + 1 + 1 + 1 + 1]? = some (.cells #[.bool true] 4 (0, 0))) (hz : V.heap.size + 6 ≤ Wz) (hD : W2.heap[Wz]? = some (.deferred (some []))) (a : Act) (ht : a.tmps[8]? = some (.pointer (some ⟨V.heap.size + 1 + 1 + 1 + 1, 0, none⟩))) (hd : a.defers = [{ target := .collected Wz, args := #[] }]) :
    bodyPostM Fence.wide 0 Try.prog Try.f16 (fun e V' => e = .returned (.bool true) ∧ Below V.heap.size V V') .ret a W2 := by
  obtain ⟨tm, ds⟩ := a
  simp only at ht hd
  subst hd
  have hlt := lt_blk hD
  have hr2 : (W2.putObj Wz (.deferred none)).cell? ⟨V.heap.size + 1 + 1 + 1 + 1, 0, none⟩ = some (.bool true) := cell0 ((World.putObj_heap_other (by omega)).trans hr)
  refine ⟨by simp, .inl ⟨_, _, rfl, run_takeDeferred hD, ?_⟩⟩
  refine ⟨.bool true, ?_, rfl, hb.trans (below_putObj _ (by omega) hlt)⟩
  simp [results, Try.f16, go_sem, hr2, ht]
set_option maxHeartbeats 4000000 in
set_option maxRecDepth 100000 in
theorem once_any {w0 : World} {t : Tr} {k : Int} {s : ByteArray} {v : Int} {m : Bool} {a : Option Addr} {len cap : Nat} (h : Reads w0 t (nd k s v m a len cap)) (hc : t.count ≤ 1000) (V : World) (hV : Below w0.heap.size w0 V) (g1 g2 : Nat) (c1 c2 : Nat) (hF : FlatIs V g1 g2 (t.flat 0)) (leave : Int) :
    Calls Try.prog 16 #[nd k s v m a len cap, .slice (some ⟨g1, 0, none⟩) t.count c1, .slice (some ⟨g2, 0, none⟩) t.count c2, .int .i64 leave] V fun e V' => e = .returned (.bool true) ∧ Below V.heap.size V V' := by
  have HW := Lib.hid (walk_any h hc)
  unfold nd at *
  refine (callsIn_wide (n := 0)).1 ?_
  refine callsIn_of_wp_marks Try.func16 rfl trivial ?_ rfl
  simp only [Try.ntmps16, List.size_toArray, List.length_cons, List.length_nil, Nat.reduceAdd, Nat.reduceSub, Array.replicate_succ, Array.replicate_zero, List.push_toArray, List.append_toArray, List.nil_append, List.cons_append]
  have fe := fn_nil
  have HO := Lib.hid (onceW_at V k s v m a len cap g1 g2 t.count c1 c2 leave)
  have HW1 := Lib.hid (hV.trans (HO.out.2.1.mono hV.size))
  gi_wp2
  refine ⟨trivial, rfl, callsIn_wide.2 ((HW.out _ HW1.out).mono ?_)⟩
  rintro e W ⟨Bk, k', s', v', m', a', l', c', rfl, hbk, hre, hbw⟩
  have HBK := Lib.hid hbk
  have HRE := Lib.hid hre
  have HBW := Lib.hid hbw
  clear hbk hre hbw
  gi_wp2
  have hsz := HO.out.1
  have hI0 : OnceI V t.count c1 c2 g1 g2 leave 0 W := by
    obtain ⟨e0, e1, e2, e3, e4, e5, e6⟩ := HO.out
    have hb := HBW.out
    refine ⟨e1.trans (hb.mono (by omega)), ?_, ?_, ?_, ⟨false, ?_⟩, ?_⟩
    all_goals
      rw [hb.block _ (by omega)]
      assumption
  have hszW : V.heap.size + 6 ≤ W.heap.size := by have := HBW.out.size; omega
  have hlf := flat_len t 0
  have HLF := Lib.hid hlf
  have HI0 := Lib.hid hI0
  clear hI0 hlf hsz HO HW1 HW fe
  refine rangeFunc_told (gf := 35) (lb := #[.pointer (some ⟨Bk, 0, none⟩)]) rfl (enters_of Try.func35 (by kernel_rfl) rfl) (encs := encT) (fun _ => rfl) (X := XT (W.heap.size + 2) (t.flat 0)) (N := t.count) (S := fun xs => xs.length = t.count)
    ?seq (fun pre x A B hx hs => hx.stay hs) (fun pre A => OnceI V t.count c1 c2 g1 g2 leave pre.length A) (fun c pre A => c = .ret ∧ Below V.heap.size V A ∧ A.heap[V.heap.size + 1 + 1 + 1 + 1]? = some (.cells #[.bool true] 4 (0, 0))) (fun pre A B h hb => h.below (hb.mono hszW)) ?ix HI0.out
    (fun pre x a₁ A => ∃ kb k1 s1 v1 m1 q1 l1 p1, W.heap.size + 2 ≤ kb ∧ x.2.2 = .agg #[.int .i64 k1, .string s1, .int .u32 v1, .bool m1, .slice q1 l1 p1] ∧ A.heap[kb]? = some (.cells #[.int .i64 k1, .string s1, .int .u32 v1, .bool m1, .slice q1 l1 p1] 26 (0, 0)) ∧ a₁ = { tmps := #[.agg #[.int .i64 k, .string s, .int .u32 v, .bool m, .slice a len cap], .slice (some ⟨g1, 0, none⟩) t.count c1, .slice (some ⟨g2, 0, none⟩) t.count c2, .int .i64 leave, .pointer (some ⟨V.heap.size, 0, none⟩), .pointer (some ⟨V.heap.size + 1, 0, none⟩), .pointer (some ⟨V.heap.size + 1 + 1, 0, none⟩), .pointer (some ⟨V.heap.size + 1 + 1 + 1, 0, none⟩), .pointer (some ⟨V.heap.size + 1 + 1 + 1 + 1, 0, none⟩), .pointer (some ⟨V.heap.size + 1 + 1 + 1 + 1 + 1, 0, none⟩), .func (.func 35) #[] #[.pointer (some ⟨Bk, 0, none⟩)], .int .i64 x.1, .pointer (some ⟨kb, 0, none⟩), .agg #[.int .i64 k, .string s, .int .u32 v, .bool m, .slice a len cap], .func (.func 35) #[] #[.pointer (some ⟨Bk, 0, none⟩)], .func (.func 35) #[] #[.pointer (some ⟨Bk, 0, none⟩)], .bool false, .func (.func 35) #[] #[.pointer (some ⟨Bk, 0, none⟩)], .int .i64 x.1, .agg #[.int .i64 k1, .string s1, .int .u32 v1, .bool m1, .slice q1 l1 p1], undef, undef, undef, undef, undef, undef, undef, undef, undef, undef, undef, undef, undef, undef, undef, undef, undef, undef, undef, undef, undef, undef, undef, undef, undef, undef, undef, undef, undef, undef], defers := [] }) ?g ?assign ?body ?done ?stop
  case seq =>
    intro rec
    have hbb : Below W.heap.size W ((W.alloc (.deferred (some []))).alloc (.loop rec)) := (below1 W _).alloc (by simp) _
    have e : W.heap.size + 2 = ((W.alloc (.deferred (some []))).alloc (.loop rec)).heap.size := by simp
    rw [e]
    exact walk1_seq (reads_below hbb _ _ HRE.out) (by rw [hbb.block _ (lt_blk HBK.out)]; exact HBK.out) hc
  case ix =>
    rintro c pre A B ⟨rfl, h1, h2⟩ hb
    exact ⟨rfl, h1.trans (hb.mono (by omega)), by rw [hb.block _ (by omega)]; exact h2⟩
  case g =>
    rintro pre x a1 A B ⟨kb, k1, s1, v1, m1, q1, l1, p1, h1, h2, h3, h4⟩ hs
    exact ⟨kb, k1, s1, v1, m1, q1, l1, p1, h1, h2, by rw [hs.2 _ h1 (lt_blk h3)]; exact h3, h4⟩
  case assign =>
    intro l pre x A hA hI hX
    obtain ⟨d, tr, u⟩ := x
    obtain ⟨k1, s1, v1, m1, q1, l1, p1, rfl⟩ := hX.2.nd
    have HX := Lib.hid hX
    clear hX
    unfold encT
    unfold nd at *
    gi_wp2_with (rw [Oper.semAt_eq _ _ _ (fun c h => by cases h)]; go_simp; try go_bits)
    exact ⟨below1 _ _, A.heap.size, k1, s1, v1, m1, q1, l1, p1, hA, rfl, heap_alloc_new _ _, rfl⟩
  case body =>
    rintro l pre ⟨d, tr, u⟩ a1 A hA hI hlt hX ⟨kb, k1, s1, v1, m1, q1, l1, p1, hkb, hu, hkc, rfl⟩
    obtain ⟨hx1, hx2⟩ := hX
    simp only at hu hx1 hx2
    subst hu
    have hFA := hF.below hI.bel
    obtain ⟨hkid, hdc⟩ := hFA.at_ _ _ _ hx1
    obtain ⟨kk, ss, vv, mm, aa, ll, cc, hkid, hrd⟩ := hkid
    have HSAME := Lib.hid (sameT_all tr tr _ _ hx2.reads hrd)
    obtain ⟨g0, g1', g2', g3, g4⟩ := hkid.at
    simp only [cell_add] at g0 g1' g2' g3 g4
    have o1 := cell0 hI.b1
    have o2 := cell0 hI.b2
    have o3 := cell0 hI.b3
    obtain ⟨bb, hb4⟩ := hI.b4
    have o4 := cell0 hb4
    have z4 := frz0 0 hb4
    have o5 := cell0 hI.b5
    have z5 := frz0 0 hI.b5
    have r0 : A.cell? ⟨kb, 0, none⟩ = some (.int .i64 k1) := by simp [World.cell?, hkc]
    have r1 : A.cell? ⟨kb, 1, none⟩ = some (.string s1) := by simp [World.cell?, hkc]
    have r2 : A.cell? ⟨kb, 2, none⟩ = some (.int .u32 v1) := by simp [World.cell?, hkc]
    have r3 : A.cell? ⟨kb, 3, none⟩ = some (.bool m1) := by simp [World.cell?, hkc]
    have r4 : A.cell? ⟨kb, 4, none⟩ = some (.slice q1 l1 p1) := by simp [World.cell?, hkc]
    have HI := Lib.hid hI
    have HA := Lib.hid hA
    have hc9 : pre.length < 1000 := by omega
    unfold nd at *
    clear hI hkc hkid hrd hb4 hx1 hx2 hA hFA
    gi_wp2_with (rw [Oper.semAt_eq _ _ _ (fun c h => by cases h)]; go_simp; try go_bits)
    have hdr : Below A.heap.size A A.drew := (Below.refl _ _).drew
    have o1 : A.drew.cell? ⟨V.heap.size + 1, 0, none⟩ = _ := o1
    have o2 : A.drew.cell? ⟨V.heap.size + 1 + 1, 0, none⟩ = _ := o2
    have o5 : A.drew.cell? ⟨V.heap.size + 1 + 1 + 1 + 1 + 1, 0, none⟩ = _ := o5
    have r0 : A.drew.cell? ⟨kb, 0, none⟩ = _ := r0
    have r1 : A.drew.cell? ⟨kb, 1, none⟩ = _ := r1
    have r2 : A.drew.cell? ⟨kb, 2, none⟩ = _ := r2
    have r3 : A.drew.cell? ⟨kb, 3, none⟩ = _ := r3
    have r4 : A.drew.cell? ⟨kb, 4, none⟩ = _ := r4
    have g0 : A.drew.cell? ⟨g1, pre.length * 5, none⟩ = _ := g0
    have g1' : A.drew.cell? ⟨g1, pre.length * 5 + 1, none⟩ = _ := g1'
    have g2' : A.drew.cell? ⟨g1, pre.length * 5 + 2, none⟩ = _ := g2'
    have g3 : A.drew.cell? ⟨g1, pre.length * 5 + 3, none⟩ = _ := g3
    have g4 : A.drew.cell? ⟨g1, pre.length * 5 + 4, none⟩ = _ := g4
    have hdc : A.drew.cell? ⟨g2, pre.length, none⟩ = _ := hdc
    have HSA := Lib.hid (HSAME.out _ hdr)
    rw [same_refl tr] at HSA
    clear o3 o4 z4 z5 HSAME hF h hc HBK HRE HBW hV HLF HI0
    refine region_inv_round 21 rfl (fun L a' w' => ∃ y0 y1 y2 y3 y4 y5 y6 y7 y8 y9 y10 y11 y12 y13 y14 y15 y16 y17 y18 y19 y20 : Value, a' = { tmps := #[.agg #[.int .i64 k, .string s, .int .u32 v, .bool m, .slice a len cap], .slice (some ⟨g1, 0, none⟩) t.count c1, .slice (some ⟨g2, 0, none⟩) t.count c2, .int .i64 leave, .pointer (some ⟨V.heap.size, 0, none⟩), .pointer (some ⟨V.heap.size + 1, 0, none⟩), .pointer (some ⟨V.heap.size + 1 + 1, 0, none⟩), .pointer (some ⟨V.heap.size + 1 + 1 + 1, 0, none⟩), .pointer (some ⟨V.heap.size + 1 + 1 + 1 + 1, 0, none⟩), .pointer (some ⟨V.heap.size + 1 + 1 + 1 + 1 + 1, 0, none⟩), .func (.func 35) #[] #[.pointer (some ⟨Bk, 0, none⟩)], .int .i64 d, .pointer (some ⟨kb, 0, none⟩), .agg #[.int .i64 k, .string s, .int .u32 v, .bool m, .slice a len cap], .func (.func 35) #[] #[.pointer (some ⟨Bk, 0, none⟩)], .func (.func 35) #[] #[.pointer (some ⟨Bk, 0, none⟩)], .bool false, .func (.func 35) #[] #[.pointer (some ⟨Bk, 0, none⟩)], .int .i64 d, .agg #[.int .i64 k1, .string s1, .int .u32 v1, .bool m1, .slice q1 l1 p1], y0, y1, y2, y3, y4, y5, y6, y7, y8, y9, y10, y11, y12, y13, y14, y15, y16, y17, y18, y19, y20, undef, undef, undef, undef, undef, undef, undef, undef, undef], defers := [] } ∧ (L 0 = true → y0 = .int .i64 pre.length) ∧ (L 1 = true → y1 = .slice (some ⟨g1, 0, none⟩) t.count c1) ∧ (L 2 = true → y2 = .int .i64 t.count) ∧ (L 3 = true → y3 = .bool false) ∧ (L 4 = true → y4 = .bool false) ∧ (L 5 = true → y5 = .int .i64 d) ∧ (L 6 = true → y6 = .slice (some ⟨g2, 0, none⟩) t.count c2) ∧ (L 7 = true → y7 = .int .i64 pre.length) ∧ (L 8 = true → y8 = .pointer (some ⟨g2, pre.length, none⟩)) ∧ (L 9 = true → y9 = .int .i64 d) ∧ (L 10 = true → y10 = .bool false) ∧ (L 11 = true → y11 = .bool false) ∧ (L 12 = true → y12 = .bool false) ∧ (L 13 = true → y13 = .agg #[.int .i64 k1, .string s1, .int .u32 v1, .bool m1, .slice q1 l1 p1]) ∧ (L 14 = true → y14 = .slice (some ⟨g1, 0, none⟩) t.count c1) ∧ (L 15 = true → y15 = .int .i64 pre.length) ∧ (L 16 = true → y16 = .pointer (some ⟨g1, pre.length * 5, none⟩)) ∧ (L 17 = true → y17 = .agg #[.int .i64 kk, .string ss, .int .u32 vv, .bool mm, .slice aa ll cc]) ∧ (L 18 = true → y18 = .bool true) ∧ (L 19 = true → y19 = .bool false) ∧ (L 20 = true → y20 = .bool false) ∧ (w' = A.drew ∨ (L 18 = true ∧ Below A.heap.size A w'))) (by kernel_rfl) (by kernel_rfl) ?h0 ?step ?fin
    case h0 => exact ⟨undef, undef, undef, undef, undef, undef, undef, undef, undef, undef, undef, undef, undef, undef, undef, undef, undef, undef, undef, undef, undef, rfl, (fun e => by simp at e), (fun e => by simp at e), (fun e => by simp at e), (fun e => by simp at e), (fun e => by simp at e), (fun e => by simp at e), (fun e => by simp at e), (fun e => by simp at e), (fun e => by simp at e), (fun e => by simp at e), (fun e => by simp at e), (fun e => by simp at e), (fun e => by simp at e), (fun e => by simp at e), (fun e => by simp at e), (fun e => by simp at e), (fun e => by simp at e), (fun e => by simp at e), (fun e => by simp at e), (fun e => by simp at e), (fun e => by simp at e), .inl rfl⟩
    case step =>
      rintro i hi L a' w' hLi hcl hdp ⟨y0, y1, y2, y3, y4, y5, y6, y7, y8, y9, y10, y11, y12, y13, y14, y15, y16, y17, y18, y19, y20, rfl, e0, e1, e2, e3, e4, e5, e6, e7, e8, e9, e10, e11, e12, e13, e14, e15, e16, e17, e18, e19, e20, hw⟩
      have hw0 : i ≤ 18 → w' = A.drew := by
        intro h18
        rcases hw with e | ⟨e, -⟩
        · exact e
        · exfalso
          have c18 := e
          have c13 := hcl 18 13 c18 (by kernel_rfl)
          have c17 := hcl 18 17 c18 (by kernel_rfl)
          have c12 := hcl 18 12 c18 (by kernel_rfl)
          have c16 := hcl 17 16 c17 (by kernel_rfl)
          have c14 := hcl 16 14 c16 (by kernel_rfl)
          have c15 := hcl 16 15 c16 (by kernel_rfl)
          have c11 := hcl 12 11 c12 (by kernel_rfl)
          have c4 := hcl 12 4 c12 (by kernel_rfl)
          have c10 := hcl 11 10 c11 (by kernel_rfl)
          have c5 := hcl 10 5 c10 (by kernel_rfl)
          have c9 := hcl 10 9 c10 (by kernel_rfl)
          have c8 := hcl 9 8 c9 (by kernel_rfl)
          have c6 := hcl 8 6 c8 (by kernel_rfl)
          have c7 := hcl 8 7 c8 (by kernel_rfl)
          have c3 := hcl 4 3 c4 (by kernel_rfl)
          have c0 := hcl 3 0 c3 (by kernel_rfl)
          have c2 := hcl 3 2 c3 (by kernel_rfl)
          have c1 := hcl 2 1 c2 (by kernel_rfl)
          have : i = 0 ∨ i = 1 ∨ i = 2 ∨ i = 3 ∨ i = 4 ∨ i = 5 ∨ i = 6 ∨ i = 7 ∨ i = 8 ∨ i = 9 ∨ i = 10 ∨ i = 11 ∨ i = 12 ∨ i = 13 ∨ i = 14 ∨ i = 15 ∨ i = 16 ∨ i = 17 ∨ i = 18 := by omega
          rcases this with rfl | rfl | rfl | rfl | rfl | rfl | rfl | rfl | rfl | rfl | rfl | rfl | rfl | rfl | rfl | rfl | rfl | rfl | rfl
          all_goals simp_all
      have hi : i = 0 ∨ i = 1 ∨ i = 2 ∨ i = 3 ∨ i = 4 ∨ i = 5 ∨ i = 6 ∨ i = 7 ∨ i = 8 ∨ i = 9 ∨ i = 10 ∨ i = 11 ∨ i = 12 ∨ i = 13 ∨ i = 14 ∨ i = 15 ∨ i = 16 ∨ i = 17 ∨ i = 18 ∨ i = 19 ∨ i = 20 := by omega
      rcases hi with rfl | rfl | rfl | rfl | rfl | rfl | rfl | rfl | rfl | rfl | rfl | rfl | rfl | rfl | rfl | rfl | rfl | rfl | rfl | rfl | rfl
      · clear hcl
        obtain rfl := hw0 (by omega)
        have E1 := Lib.hid e1; have E2 := Lib.hid e2; have E3 := Lib.hid e3; have E4 := Lib.hid e4; have E5 := Lib.hid e5; have E6 := Lib.hid e6; have E7 := Lib.hid e7; have E8 := Lib.hid e8; have E9 := Lib.hid e9; have E10 := Lib.hid e10; have E11 := Lib.hid e11; have E12 := Lib.hid e12; have E13 := Lib.hid e13; have E14 := Lib.hid e14; have E15 := Lib.hid e15; have E16 := Lib.hid e16; have E17 := Lib.hid e17; have E18 := Lib.hid e18; have E19 := Lib.hid e19; have E20 := Lib.hid e20
        have HW9 := Lib.hid hw
        clear hw0 hdp hLi hw e0 e1 e2 e3 e4 e5 e6 e7 e8 e9 e10 e11 e12 e13 e14 e15 e16 e17 e18 e19 e20
        refine op_any rfl ?_
        intro K hK
        go_simp
        exact hK _ _ ⟨_, _, _, _, _, _, _, _, _, _, _, _, _, _, _, _, _, _, _, _, _, rfl, (fun _ => rfl), (fun h => E1.out (by simpa [upOn] using h)), (fun h => E2.out (by simpa [upOn] using h)), (fun h => E3.out (by simpa [upOn] using h)), (fun h => E4.out (by simpa [upOn] using h)), (fun h => E5.out (by simpa [upOn] using h)), (fun h => E6.out (by simpa [upOn] using h)), (fun h => E7.out (by simpa [upOn] using h)), (fun h => E8.out (by simpa [upOn] using h)), (fun h => E9.out (by simpa [upOn] using h)), (fun h => E10.out (by simpa [upOn] using h)), (fun h => E11.out (by simpa [upOn] using h)), (fun h => E12.out (by simpa [upOn] using h)), (fun h => E13.out (by simpa [upOn] using h)), (fun h => E14.out (by simpa [upOn] using h)), (fun h => E15.out (by simpa [upOn] using h)), (fun h => E16.out (by simpa [upOn] using h)), (fun h => E17.out (by simpa [upOn] using h)), (fun h => E18.out (by simpa [upOn] using h)), (fun h => E19.out (by simpa [upOn] using h)), (fun h => E20.out (by simpa [upOn] using h)), .inl rfl⟩
      · clear hcl
        obtain rfl := hw0 (by omega)
        have E0 := Lib.hid e0; have E2 := Lib.hid e2; have E3 := Lib.hid e3; have E4 := Lib.hid e4; have E5 := Lib.hid e5; have E6 := Lib.hid e6; have E7 := Lib.hid e7; have E8 := Lib.hid e8; have E9 := Lib.hid e9; have E10 := Lib.hid e10; have E11 := Lib.hid e11; have E12 := Lib.hid e12; have E13 := Lib.hid e13; have E14 := Lib.hid e14; have E15 := Lib.hid e15; have E16 := Lib.hid e16; have E17 := Lib.hid e17; have E18 := Lib.hid e18; have E19 := Lib.hid e19; have E20 := Lib.hid e20
        have HW9 := Lib.hid hw
        clear hw0 hdp hLi hw e0 e1 e2 e3 e4 e5 e6 e7 e8 e9 e10 e11 e12 e13 e14 e15 e16 e17 e18 e19 e20
        refine op_any rfl ?_
        intro K hK
        go_simp
        exact hK _ _ ⟨_, _, _, _, _, _, _, _, _, _, _, _, _, _, _, _, _, _, _, _, _, rfl, (fun h => E0.out (by simpa [upOn] using h)), (fun _ => rfl), (fun h => E2.out (by simpa [upOn] using h)), (fun h => E3.out (by simpa [upOn] using h)), (fun h => E4.out (by simpa [upOn] using h)), (fun h => E5.out (by simpa [upOn] using h)), (fun h => E6.out (by simpa [upOn] using h)), (fun h => E7.out (by simpa [upOn] using h)), (fun h => E8.out (by simpa [upOn] using h)), (fun h => E9.out (by simpa [upOn] using h)), (fun h => E10.out (by simpa [upOn] using h)), (fun h => E11.out (by simpa [upOn] using h)), (fun h => E12.out (by simpa [upOn] using h)), (fun h => E13.out (by simpa [upOn] using h)), (fun h => E14.out (by simpa [upOn] using h)), (fun h => E15.out (by simpa [upOn] using h)), (fun h => E16.out (by simpa [upOn] using h)), (fun h => E17.out (by simpa [upOn] using h)), (fun h => E18.out (by simpa [upOn] using h)), (fun h => E19.out (by simpa [upOn] using h)), (fun h => E20.out (by simpa [upOn] using h)), .inl rfl⟩
      · clear hcl
        obtain rfl := hw0 (by omega)
        obtain rfl := e1 (hdp 1 (by kernel_rfl))
        have E0 := Lib.hid e0; have E3 := Lib.hid e3; have E4 := Lib.hid e4; have E5 := Lib.hid e5; have E6 := Lib.hid e6; have E7 := Lib.hid e7; have E8 := Lib.hid e8; have E9 := Lib.hid e9; have E10 := Lib.hid e10; have E11 := Lib.hid e11; have E12 := Lib.hid e12; have E13 := Lib.hid e13; have E14 := Lib.hid e14; have E15 := Lib.hid e15; have E16 := Lib.hid e16; have E17 := Lib.hid e17; have E18 := Lib.hid e18; have E19 := Lib.hid e19; have E20 := Lib.hid e20
        have HW9 := Lib.hid hw
        clear hw0 hdp hLi hw e0 e1 e2 e3 e4 e5 e6 e7 e8 e9 e10 e11 e12 e13 e14 e15 e16 e17 e18 e19 e20
        refine op_any rfl ?_
        intro K hK
        go_simp
        exact hK _ _ ⟨_, _, _, _, _, _, _, _, _, _, _, _, _, _, _, _, _, _, _, _, _, rfl, (fun h => E0.out (by simpa [upOn] using h)), (fun _ => rfl), (fun _ => rfl), (fun h => E3.out (by simpa [upOn] using h)), (fun h => E4.out (by simpa [upOn] using h)), (fun h => E5.out (by simpa [upOn] using h)), (fun h => E6.out (by simpa [upOn] using h)), (fun h => E7.out (by simpa [upOn] using h)), (fun h => E8.out (by simpa [upOn] using h)), (fun h => E9.out (by simpa [upOn] using h)), (fun h => E10.out (by simpa [upOn] using h)), (fun h => E11.out (by simpa [upOn] using h)), (fun h => E12.out (by simpa [upOn] using h)), (fun h => E13.out (by simpa [upOn] using h)), (fun h => E14.out (by simpa [upOn] using h)), (fun h => E15.out (by simpa [upOn] using h)), (fun h => E16.out (by simpa [upOn] using h)), (fun h => E17.out (by simpa [upOn] using h)), (fun h => E18.out (by simpa [upOn] using h)), (fun h => E19.out (by simpa [upOn] using h)), (fun h => E20.out (by simpa [upOn] using h)), .inl rfl⟩
      · clear hcl
        obtain rfl := hw0 (by omega)
        obtain rfl := e0 (hdp 0 (by kernel_rfl))
        obtain rfl := e2 (hdp 2 (by kernel_rfl))
        have E1 := Lib.hid e1; have E4 := Lib.hid e4; have E5 := Lib.hid e5; have E6 := Lib.hid e6; have E7 := Lib.hid e7; have E8 := Lib.hid e8; have E9 := Lib.hid e9; have E10 := Lib.hid e10; have E11 := Lib.hid e11; have E12 := Lib.hid e12; have E13 := Lib.hid e13; have E14 := Lib.hid e14; have E15 := Lib.hid e15; have E16 := Lib.hid e16; have E17 := Lib.hid e17; have E18 := Lib.hid e18; have E19 := Lib.hid e19; have E20 := Lib.hid e20
        have HW9 := Lib.hid hw
        clear hw0 hdp hLi hw e0 e1 e2 e3 e4 e5 e6 e7 e8 e9 e10 e11 e12 e13 e14 e15 e16 e17 e18 e19 e20
        refine op_any rfl ?_
        intro K hK
        go_simp
        exact hK _ _ ⟨_, _, _, _, _, _, _, _, _, _, _, _, _, _, _, _, _, _, _, _, _, rfl, (fun _ => rfl), (fun h => E1.out (by simpa [upOn] using h)), (fun _ => rfl), (fun _ => by rw [decide_eq_false (by omega)]), (fun h => E4.out (by simpa [upOn] using h)), (fun h => E5.out (by simpa [upOn] using h)), (fun h => E6.out (by simpa [upOn] using h)), (fun h => E7.out (by simpa [upOn] using h)), (fun h => E8.out (by simpa [upOn] using h)), (fun h => E9.out (by simpa [upOn] using h)), (fun h => E10.out (by simpa [upOn] using h)), (fun h => E11.out (by simpa [upOn] using h)), (fun h => E12.out (by simpa [upOn] using h)), (fun h => E13.out (by simpa [upOn] using h)), (fun h => E14.out (by simpa [upOn] using h)), (fun h => E15.out (by simpa [upOn] using h)), (fun h => E16.out (by simpa [upOn] using h)), (fun h => E17.out (by simpa [upOn] using h)), (fun h => E18.out (by simpa [upOn] using h)), (fun h => E19.out (by simpa [upOn] using h)), (fun h => E20.out (by simpa [upOn] using h)), .inl rfl⟩
      · clear hcl
        obtain rfl := hw0 (by omega)
        obtain rfl := e3 (hdp 3 (by kernel_rfl))
        have E0 := Lib.hid e0; have E1 := Lib.hid e1; have E2 := Lib.hid e2; have E5 := Lib.hid e5; have E6 := Lib.hid e6; have E7 := Lib.hid e7; have E8 := Lib.hid e8; have E9 := Lib.hid e9; have E10 := Lib.hid e10; have E11 := Lib.hid e11; have E12 := Lib.hid e12; have E13 := Lib.hid e13; have E14 := Lib.hid e14; have E15 := Lib.hid e15; have E16 := Lib.hid e16; have E17 := Lib.hid e17; have E18 := Lib.hid e18; have E19 := Lib.hid e19; have E20 := Lib.hid e20
        have HW9 := Lib.hid hw
        clear hw0 hdp hLi hw e0 e1 e2 e3 e4 e5 e6 e7 e8 e9 e10 e11 e12 e13 e14 e15 e16 e17 e18 e19 e20
        refine op_any rfl ?_
        intro K hK
        go_simp
        exact hK _ _ ⟨_, _, _, _, _, _, _, _, _, _, _, _, _, _, _, _, _, _, _, _, _, rfl, (fun h => E0.out (by simpa [upOn] using h)), (fun h => E1.out (by simpa [upOn] using h)), (fun h => E2.out (by simpa [upOn] using h)), (fun _ => rfl), (fun _ => rfl), (fun h => E5.out (by simpa [upOn] using h)), (fun h => E6.out (by simpa [upOn] using h)), (fun h => E7.out (by simpa [upOn] using h)), (fun h => E8.out (by simpa [upOn] using h)), (fun h => E9.out (by simpa [upOn] using h)), (fun h => E10.out (by simpa [upOn] using h)), (fun h => E11.out (by simpa [upOn] using h)), (fun h => E12.out (by simpa [upOn] using h)), (fun h => E13.out (by simpa [upOn] using h)), (fun h => E14.out (by simpa [upOn] using h)), (fun h => E15.out (by simpa [upOn] using h)), (fun h => E16.out (by simpa [upOn] using h)), (fun h => E17.out (by simpa [upOn] using h)), (fun h => E18.out (by simpa [upOn] using h)), (fun h => E19.out (by simpa [upOn] using h)), (fun h => E20.out (by simpa [upOn] using h)), .inl rfl⟩
      · clear hcl
        obtain rfl := hw0 (by omega)
        obtain rfl := e4 (hdp 4 (by kernel_rfl))
        have E0 := Lib.hid e0; have E1 := Lib.hid e1; have E2 := Lib.hid e2; have E3 := Lib.hid e3; have E6 := Lib.hid e6; have E7 := Lib.hid e7; have E8 := Lib.hid e8; have E9 := Lib.hid e9; have E10 := Lib.hid e10; have E11 := Lib.hid e11; have E12 := Lib.hid e12; have E13 := Lib.hid e13; have E14 := Lib.hid e14; have E15 := Lib.hid e15; have E16 := Lib.hid e16; have E17 := Lib.hid e17; have E18 := Lib.hid e18; have E19 := Lib.hid e19; have E20 := Lib.hid e20
        have HW9 := Lib.hid hw
        clear hw0 hdp hLi hw e0 e1 e2 e3 e4 e5 e6 e7 e8 e9 e10 e11 e12 e13 e14 e15 e16 e17 e18 e19 e20
        refine op_any rfl ?_
        intro K hK
        go_simp
        exact hK _ _ ⟨_, _, _, _, _, _, _, _, _, _, _, _, _, _, _, _, _, _, _, _, _, rfl, (fun h => E0.out (by simpa [upOn] using h)), (fun h => E1.out (by simpa [upOn] using h)), (fun h => E2.out (by simpa [upOn] using h)), (fun h => E3.out (by simpa [upOn] using h)), (fun _ => rfl), (fun _ => rfl), (fun h => E6.out (by simpa [upOn] using h)), (fun h => E7.out (by simpa [upOn] using h)), (fun h => E8.out (by simpa [upOn] using h)), (fun h => E9.out (by simpa [upOn] using h)), (fun h => E10.out (by simpa [upOn] using h)), (fun h => E11.out (by simpa [upOn] using h)), (fun h => E12.out (by simpa [upOn] using h)), (fun h => E13.out (by simpa [upOn] using h)), (fun h => E14.out (by simpa [upOn] using h)), (fun h => E15.out (by simpa [upOn] using h)), (fun h => E16.out (by simpa [upOn] using h)), (fun h => E17.out (by simpa [upOn] using h)), (fun h => E18.out (by simpa [upOn] using h)), (fun h => E19.out (by simpa [upOn] using h)), (fun h => E20.out (by simpa [upOn] using h)), .inl rfl⟩
      · clear hcl
        obtain rfl := hw0 (by omega)
        obtain rfl := e4 (hdp 4 (by kernel_rfl))
        have E0 := Lib.hid e0; have E1 := Lib.hid e1; have E2 := Lib.hid e2; have E3 := Lib.hid e3; have E5 := Lib.hid e5; have E7 := Lib.hid e7; have E8 := Lib.hid e8; have E9 := Lib.hid e9; have E10 := Lib.hid e10; have E11 := Lib.hid e11; have E12 := Lib.hid e12; have E13 := Lib.hid e13; have E14 := Lib.hid e14; have E15 := Lib.hid e15; have E16 := Lib.hid e16; have E17 := Lib.hid e17; have E18 := Lib.hid e18; have E19 := Lib.hid e19; have E20 := Lib.hid e20
        have HW9 := Lib.hid hw
        clear hw0 hdp hLi hw e0 e1 e2 e3 e4 e5 e6 e7 e8 e9 e10 e11 e12 e13 e14 e15 e16 e17 e18 e19 e20
        refine op_any rfl ?_
        intro K hK
        go_simp
        exact hK _ _ ⟨_, _, _, _, _, _, _, _, _, _, _, _, _, _, _, _, _, _, _, _, _, rfl, (fun h => E0.out (by simpa [upOn] using h)), (fun h => E1.out (by simpa [upOn] using h)), (fun h => E2.out (by simpa [upOn] using h)), (fun h => E3.out (by simpa [upOn] using h)), (fun _ => rfl), (fun h => E5.out (by simpa [upOn] using h)), (fun _ => rfl), (fun h => E7.out (by simpa [upOn] using h)), (fun h => E8.out (by simpa [upOn] using h)), (fun h => E9.out (by simpa [upOn] using h)), (fun h => E10.out (by simpa [upOn] using h)), (fun h => E11.out (by simpa [upOn] using h)), (fun h => E12.out (by simpa [upOn] using h)), (fun h => E13.out (by simpa [upOn] using h)), (fun h => E14.out (by simpa [upOn] using h)), (fun h => E15.out (by simpa [upOn] using h)), (fun h => E16.out (by simpa [upOn] using h)), (fun h => E17.out (by simpa [upOn] using h)), (fun h => E18.out (by simpa [upOn] using h)), (fun h => E19.out (by simpa [upOn] using h)), (fun h => E20.out (by simpa [upOn] using h)), .inl rfl⟩
      · clear hcl
        obtain rfl := hw0 (by omega)
        obtain rfl := e4 (hdp 4 (by kernel_rfl))
        have E0 := Lib.hid e0; have E1 := Lib.hid e1; have E2 := Lib.hid e2; have E3 := Lib.hid e3; have E5 := Lib.hid e5; have E6 := Lib.hid e6; have E8 := Lib.hid e8; have E9 := Lib.hid e9; have E10 := Lib.hid e10; have E11 := Lib.hid e11; have E12 := Lib.hid e12; have E13 := Lib.hid e13; have E14 := Lib.hid e14; have E15 := Lib.hid e15; have E16 := Lib.hid e16; have E17 := Lib.hid e17; have E18 := Lib.hid e18; have E19 := Lib.hid e19; have E20 := Lib.hid e20
        have HW9 := Lib.hid hw
        clear hw0 hdp hLi hw e0 e1 e2 e3 e4 e5 e6 e7 e8 e9 e10 e11 e12 e13 e14 e15 e16 e17 e18 e19 e20
        refine op_any rfl ?_
        intro K hK
        go_simp
        exact hK _ _ ⟨_, _, _, _, _, _, _, _, _, _, _, _, _, _, _, _, _, _, _, _, _, rfl, (fun h => E0.out (by simpa [upOn] using h)), (fun h => E1.out (by simpa [upOn] using h)), (fun h => E2.out (by simpa [upOn] using h)), (fun h => E3.out (by simpa [upOn] using h)), (fun _ => rfl), (fun h => E5.out (by simpa [upOn] using h)), (fun h => E6.out (by simpa [upOn] using h)), (fun _ => rfl), (fun h => E8.out (by simpa [upOn] using h)), (fun h => E9.out (by simpa [upOn] using h)), (fun h => E10.out (by simpa [upOn] using h)), (fun h => E11.out (by simpa [upOn] using h)), (fun h => E12.out (by simpa [upOn] using h)), (fun h => E13.out (by simpa [upOn] using h)), (fun h => E14.out (by simpa [upOn] using h)), (fun h => E15.out (by simpa [upOn] using h)), (fun h => E16.out (by simpa [upOn] using h)), (fun h => E17.out (by simpa [upOn] using h)), (fun h => E18.out (by simpa [upOn] using h)), (fun h => E19.out (by simpa [upOn] using h)), (fun h => E20.out (by simpa [upOn] using h)), .inl rfl⟩
      · clear hcl
        obtain rfl := hw0 (by omega)
        obtain rfl := e6 (hdp 6 (by kernel_rfl))
        obtain rfl := e7 (hdp 7 (by kernel_rfl))
        obtain rfl := e4 (hdp 4 (by kernel_rfl))
        have E0 := Lib.hid e0; have E1 := Lib.hid e1; have E2 := Lib.hid e2; have E3 := Lib.hid e3; have E5 := Lib.hid e5; have E9 := Lib.hid e9; have E10 := Lib.hid e10; have E11 := Lib.hid e11; have E12 := Lib.hid e12; have E13 := Lib.hid e13; have E14 := Lib.hid e14; have E15 := Lib.hid e15; have E16 := Lib.hid e16; have E17 := Lib.hid e17; have E18 := Lib.hid e18; have E19 := Lib.hid e19; have E20 := Lib.hid e20
        have HW9 := Lib.hid hw
        clear hw0 hdp hLi hw e0 e1 e2 e3 e4 e5 e6 e7 e8 e9 e10 e11 e12 e13 e14 e15 e16 e17 e18 e19 e20
        refine op_any rfl ?_
        intro K hK
        go_simp
        exact hK _ _ ⟨_, _, _, _, _, _, _, _, _, _, _, _, _, _, _, _, _, _, _, _, _, rfl, (fun h => E0.out (by simpa [upOn] using h)), (fun h => E1.out (by simpa [upOn] using h)), (fun h => E2.out (by simpa [upOn] using h)), (fun h => E3.out (by simpa [upOn] using h)), (fun _ => rfl), (fun h => E5.out (by simpa [upOn] using h)), (fun _ => rfl), (fun _ => rfl), (fun _ => rfl), (fun h => E9.out (by simpa [upOn] using h)), (fun h => E10.out (by simpa [upOn] using h)), (fun h => E11.out (by simpa [upOn] using h)), (fun h => E12.out (by simpa [upOn] using h)), (fun h => E13.out (by simpa [upOn] using h)), (fun h => E14.out (by simpa [upOn] using h)), (fun h => E15.out (by simpa [upOn] using h)), (fun h => E16.out (by simpa [upOn] using h)), (fun h => E17.out (by simpa [upOn] using h)), (fun h => E18.out (by simpa [upOn] using h)), (fun h => E19.out (by simpa [upOn] using h)), (fun h => E20.out (by simpa [upOn] using h)), .inl rfl⟩
      · clear hcl
        obtain rfl := hw0 (by omega)
        obtain rfl := e8 (hdp 8 (by kernel_rfl))
        obtain rfl := e4 (hdp 4 (by kernel_rfl))
        have E0 := Lib.hid e0; have E1 := Lib.hid e1; have E2 := Lib.hid e2; have E3 := Lib.hid e3; have E5 := Lib.hid e5; have E6 := Lib.hid e6; have E7 := Lib.hid e7; have E10 := Lib.hid e10; have E11 := Lib.hid e11; have E12 := Lib.hid e12; have E13 := Lib.hid e13; have E14 := Lib.hid e14; have E15 := Lib.hid e15; have E16 := Lib.hid e16; have E17 := Lib.hid e17; have E18 := Lib.hid e18; have E19 := Lib.hid e19; have E20 := Lib.hid e20
        have HW9 := Lib.hid hw
        clear hw0 hdp hLi hw e0 e1 e2 e3 e4 e5 e6 e7 e8 e9 e10 e11 e12 e13 e14 e15 e16 e17 e18 e19 e20
        refine op_any rfl ?_
        intro K hK
        go_simp
        exact hK _ _ ⟨_, _, _, _, _, _, _, _, _, _, _, _, _, _, _, _, _, _, _, _, _, rfl, (fun h => E0.out (by simpa [upOn] using h)), (fun h => E1.out (by simpa [upOn] using h)), (fun h => E2.out (by simpa [upOn] using h)), (fun h => E3.out (by simpa [upOn] using h)), (fun _ => rfl), (fun h => E5.out (by simpa [upOn] using h)), (fun h => E6.out (by simpa [upOn] using h)), (fun h => E7.out (by simpa [upOn] using h)), (fun _ => rfl), (fun _ => rfl), (fun h => E10.out (by simpa [upOn] using h)), (fun h => E11.out (by simpa [upOn] using h)), (fun h => E12.out (by simpa [upOn] using h)), (fun h => E13.out (by simpa [upOn] using h)), (fun h => E14.out (by simpa [upOn] using h)), (fun h => E15.out (by simpa [upOn] using h)), (fun h => E16.out (by simpa [upOn] using h)), (fun h => E17.out (by simpa [upOn] using h)), (fun h => E18.out (by simpa [upOn] using h)), (fun h => E19.out (by simpa [upOn] using h)), (fun h => E20.out (by simpa [upOn] using h)), .inl rfl⟩
      · clear hcl
        obtain rfl := hw0 (by omega)
        obtain rfl := e5 (hdp 5 (by kernel_rfl))
        obtain rfl := e9 (hdp 9 (by kernel_rfl))
        obtain rfl := e4 (hdp 4 (by kernel_rfl))
        have E0 := Lib.hid e0; have E1 := Lib.hid e1; have E2 := Lib.hid e2; have E3 := Lib.hid e3; have E6 := Lib.hid e6; have E7 := Lib.hid e7; have E8 := Lib.hid e8; have E11 := Lib.hid e11; have E12 := Lib.hid e12; have E13 := Lib.hid e13; have E14 := Lib.hid e14; have E15 := Lib.hid e15; have E16 := Lib.hid e16; have E17 := Lib.hid e17; have E18 := Lib.hid e18; have E19 := Lib.hid e19; have E20 := Lib.hid e20
        have HW9 := Lib.hid hw
        clear hw0 hdp hLi hw e0 e1 e2 e3 e4 e5 e6 e7 e8 e9 e10 e11 e12 e13 e14 e15 e16 e17 e18 e19 e20
        refine op_any rfl ?_
        intro K hK
        go_simp
        exact hK _ _ ⟨_, _, _, _, _, _, _, _, _, _, _, _, _, _, _, _, _, _, _, _, _, rfl, (fun h => E0.out (by simpa [upOn] using h)), (fun h => E1.out (by simpa [upOn] using h)), (fun h => E2.out (by simpa [upOn] using h)), (fun h => E3.out (by simpa [upOn] using h)), (fun _ => rfl), (fun _ => rfl), (fun h => E6.out (by simpa [upOn] using h)), (fun h => E7.out (by simpa [upOn] using h)), (fun h => E8.out (by simpa [upOn] using h)), (fun _ => rfl), (fun _ => rfl), (fun h => E11.out (by simpa [upOn] using h)), (fun h => E12.out (by simpa [upOn] using h)), (fun h => E13.out (by simpa [upOn] using h)), (fun h => E14.out (by simpa [upOn] using h)), (fun h => E15.out (by simpa [upOn] using h)), (fun h => E16.out (by simpa [upOn] using h)), (fun h => E17.out (by simpa [upOn] using h)), (fun h => E18.out (by simpa [upOn] using h)), (fun h => E19.out (by simpa [upOn] using h)), (fun h => E20.out (by simpa [upOn] using h)), .inl rfl⟩
      · clear hcl
        obtain rfl := hw0 (by omega)
        obtain rfl := e4 (hdp 4 (by kernel_rfl))
        obtain rfl := e10 (hdp 10 (by kernel_rfl))
        have E0 := Lib.hid e0; have E1 := Lib.hid e1; have E2 := Lib.hid e2; have E3 := Lib.hid e3; have E5 := Lib.hid e5; have E6 := Lib.hid e6; have E7 := Lib.hid e7; have E8 := Lib.hid e8; have E9 := Lib.hid e9; have E12 := Lib.hid e12; have E13 := Lib.hid e13; have E14 := Lib.hid e14; have E15 := Lib.hid e15; have E16 := Lib.hid e16; have E17 := Lib.hid e17; have E18 := Lib.hid e18; have E19 := Lib.hid e19; have E20 := Lib.hid e20
        have HW9 := Lib.hid hw
        clear hw0 hdp hLi hw e0 e1 e2 e3 e4 e5 e6 e7 e8 e9 e10 e11 e12 e13 e14 e15 e16 e17 e18 e19 e20
        refine op_any rfl ?_
        intro K hK
        go_simp
        exact hK _ _ ⟨_, _, _, _, _, _, _, _, _, _, _, _, _, _, _, _, _, _, _, _, _, rfl, (fun h => E0.out (by simpa [upOn] using h)), (fun h => E1.out (by simpa [upOn] using h)), (fun h => E2.out (by simpa [upOn] using h)), (fun h => E3.out (by simpa [upOn] using h)), (fun _ => rfl), (fun h => E5.out (by simpa [upOn] using h)), (fun h => E6.out (by simpa [upOn] using h)), (fun h => E7.out (by simpa [upOn] using h)), (fun h => E8.out (by simpa [upOn] using h)), (fun h => E9.out (by simpa [upOn] using h)), (fun _ => rfl), (fun _ => rfl), (fun h => E12.out (by simpa [upOn] using h)), (fun h => E13.out (by simpa [upOn] using h)), (fun h => E14.out (by simpa [upOn] using h)), (fun h => E15.out (by simpa [upOn] using h)), (fun h => E16.out (by simpa [upOn] using h)), (fun h => E17.out (by simpa [upOn] using h)), (fun h => E18.out (by simpa [upOn] using h)), (fun h => E19.out (by simpa [upOn] using h)), (fun h => E20.out (by simpa [upOn] using h)), .inl rfl⟩
      · clear hcl
        obtain rfl := hw0 (by omega)
        obtain rfl := e11 (hdp 11 (by kernel_rfl))
        obtain rfl := e4 (hdp 4 (by kernel_rfl))
        have E0 := Lib.hid e0; have E1 := Lib.hid e1; have E2 := Lib.hid e2; have E3 := Lib.hid e3; have E5 := Lib.hid e5; have E6 := Lib.hid e6; have E7 := Lib.hid e7; have E8 := Lib.hid e8; have E9 := Lib.hid e9; have E10 := Lib.hid e10; have E13 := Lib.hid e13; have E14 := Lib.hid e14; have E15 := Lib.hid e15; have E16 := Lib.hid e16; have E17 := Lib.hid e17; have E18 := Lib.hid e18; have E19 := Lib.hid e19; have E20 := Lib.hid e20
        have HW9 := Lib.hid hw
        clear hw0 hdp hLi hw e0 e1 e2 e3 e4 e5 e6 e7 e8 e9 e10 e11 e12 e13 e14 e15 e16 e17 e18 e19 e20
        refine op_any rfl ?_
        intro K hK
        go_simp
        exact hK _ _ ⟨_, _, _, _, _, _, _, _, _, _, _, _, _, _, _, _, _, _, _, _, _, rfl, (fun h => E0.out (by simpa [upOn] using h)), (fun h => E1.out (by simpa [upOn] using h)), (fun h => E2.out (by simpa [upOn] using h)), (fun h => E3.out (by simpa [upOn] using h)), (fun _ => rfl), (fun h => E5.out (by simpa [upOn] using h)), (fun h => E6.out (by simpa [upOn] using h)), (fun h => E7.out (by simpa [upOn] using h)), (fun h => E8.out (by simpa [upOn] using h)), (fun h => E9.out (by simpa [upOn] using h)), (fun h => E10.out (by simpa [upOn] using h)), (fun _ => rfl), (fun _ => rfl), (fun h => E13.out (by simpa [upOn] using h)), (fun h => E14.out (by simpa [upOn] using h)), (fun h => E15.out (by simpa [upOn] using h)), (fun h => E16.out (by simpa [upOn] using h)), (fun h => E17.out (by simpa [upOn] using h)), (fun h => E18.out (by simpa [upOn] using h)), (fun h => E19.out (by simpa [upOn] using h)), (fun h => E20.out (by simpa [upOn] using h)), .inl rfl⟩
      · clear hcl
        obtain rfl := hw0 (by omega)
        obtain rfl := e12 (hdp 12 (by kernel_rfl))
        have E0 := Lib.hid e0; have E1 := Lib.hid e1; have E2 := Lib.hid e2; have E3 := Lib.hid e3; have E4 := Lib.hid e4; have E5 := Lib.hid e5; have E6 := Lib.hid e6; have E7 := Lib.hid e7; have E8 := Lib.hid e8; have E9 := Lib.hid e9; have E10 := Lib.hid e10; have E11 := Lib.hid e11; have E14 := Lib.hid e14; have E15 := Lib.hid e15; have E16 := Lib.hid e16; have E17 := Lib.hid e17; have E18 := Lib.hid e18; have E19 := Lib.hid e19; have E20 := Lib.hid e20
        have HW9 := Lib.hid hw
        clear hw0 hdp hLi hw e0 e1 e2 e3 e4 e5 e6 e7 e8 e9 e10 e11 e12 e13 e14 e15 e16 e17 e18 e19 e20
        refine op_any rfl ?_
        intro K hK
        go_simp
        exact hK _ _ ⟨_, _, _, _, _, _, _, _, _, _, _, _, _, _, _, _, _, _, _, _, _, rfl, (fun h => E0.out (by simpa [upOn] using h)), (fun h => E1.out (by simpa [upOn] using h)), (fun h => E2.out (by simpa [upOn] using h)), (fun h => E3.out (by simpa [upOn] using h)), (fun h => E4.out (by simpa [upOn] using h)), (fun h => E5.out (by simpa [upOn] using h)), (fun h => E6.out (by simpa [upOn] using h)), (fun h => E7.out (by simpa [upOn] using h)), (fun h => E8.out (by simpa [upOn] using h)), (fun h => E9.out (by simpa [upOn] using h)), (fun h => E10.out (by simpa [upOn] using h)), (fun h => E11.out (by simpa [upOn] using h)), (fun _ => rfl), (fun _ => rfl), (fun h => E14.out (by simpa [upOn] using h)), (fun h => E15.out (by simpa [upOn] using h)), (fun h => E16.out (by simpa [upOn] using h)), (fun h => E17.out (by simpa [upOn] using h)), (fun h => E18.out (by simpa [upOn] using h)), (fun h => E19.out (by simpa [upOn] using h)), (fun h => E20.out (by simpa [upOn] using h)), .inl rfl⟩
      · clear hcl
        obtain rfl := hw0 (by omega)
        obtain rfl := e12 (hdp 12 (by kernel_rfl))
        have E0 := Lib.hid e0; have E1 := Lib.hid e1; have E2 := Lib.hid e2; have E3 := Lib.hid e3; have E4 := Lib.hid e4; have E5 := Lib.hid e5; have E6 := Lib.hid e6; have E7 := Lib.hid e7; have E8 := Lib.hid e8; have E9 := Lib.hid e9; have E10 := Lib.hid e10; have E11 := Lib.hid e11; have E13 := Lib.hid e13; have E15 := Lib.hid e15; have E16 := Lib.hid e16; have E17 := Lib.hid e17; have E18 := Lib.hid e18; have E19 := Lib.hid e19; have E20 := Lib.hid e20
        have HW9 := Lib.hid hw
        clear hw0 hdp hLi hw e0 e1 e2 e3 e4 e5 e6 e7 e8 e9 e10 e11 e12 e13 e14 e15 e16 e17 e18 e19 e20
        refine op_any rfl ?_
        intro K hK
        go_simp
        exact hK _ _ ⟨_, _, _, _, _, _, _, _, _, _, _, _, _, _, _, _, _, _, _, _, _, rfl, (fun h => E0.out (by simpa [upOn] using h)), (fun h => E1.out (by simpa [upOn] using h)), (fun h => E2.out (by simpa [upOn] using h)), (fun h => E3.out (by simpa [upOn] using h)), (fun h => E4.out (by simpa [upOn] using h)), (fun h => E5.out (by simpa [upOn] using h)), (fun h => E6.out (by simpa [upOn] using h)), (fun h => E7.out (by simpa [upOn] using h)), (fun h => E8.out (by simpa [upOn] using h)), (fun h => E9.out (by simpa [upOn] using h)), (fun h => E10.out (by simpa [upOn] using h)), (fun h => E11.out (by simpa [upOn] using h)), (fun _ => rfl), (fun h => E13.out (by simpa [upOn] using h)), (fun _ => rfl), (fun h => E15.out (by simpa [upOn] using h)), (fun h => E16.out (by simpa [upOn] using h)), (fun h => E17.out (by simpa [upOn] using h)), (fun h => E18.out (by simpa [upOn] using h)), (fun h => E19.out (by simpa [upOn] using h)), (fun h => E20.out (by simpa [upOn] using h)), .inl rfl⟩
      · clear hcl
        obtain rfl := hw0 (by omega)
        obtain rfl := e12 (hdp 12 (by kernel_rfl))
        have E0 := Lib.hid e0; have E1 := Lib.hid e1; have E2 := Lib.hid e2; have E3 := Lib.hid e3; have E4 := Lib.hid e4; have E5 := Lib.hid e5; have E6 := Lib.hid e6; have E7 := Lib.hid e7; have E8 := Lib.hid e8; have E9 := Lib.hid e9; have E10 := Lib.hid e10; have E11 := Lib.hid e11; have E13 := Lib.hid e13; have E14 := Lib.hid e14; have E16 := Lib.hid e16; have E17 := Lib.hid e17; have E18 := Lib.hid e18; have E19 := Lib.hid e19; have E20 := Lib.hid e20
        have HW9 := Lib.hid hw
        clear hw0 hdp hLi hw e0 e1 e2 e3 e4 e5 e6 e7 e8 e9 e10 e11 e12 e13 e14 e15 e16 e17 e18 e19 e20
        refine op_any rfl ?_
        intro K hK
        go_simp
        exact hK _ _ ⟨_, _, _, _, _, _, _, _, _, _, _, _, _, _, _, _, _, _, _, _, _, rfl, (fun h => E0.out (by simpa [upOn] using h)), (fun h => E1.out (by simpa [upOn] using h)), (fun h => E2.out (by simpa [upOn] using h)), (fun h => E3.out (by simpa [upOn] using h)), (fun h => E4.out (by simpa [upOn] using h)), (fun h => E5.out (by simpa [upOn] using h)), (fun h => E6.out (by simpa [upOn] using h)), (fun h => E7.out (by simpa [upOn] using h)), (fun h => E8.out (by simpa [upOn] using h)), (fun h => E9.out (by simpa [upOn] using h)), (fun h => E10.out (by simpa [upOn] using h)), (fun h => E11.out (by simpa [upOn] using h)), (fun _ => rfl), (fun h => E13.out (by simpa [upOn] using h)), (fun h => E14.out (by simpa [upOn] using h)), (fun _ => rfl), (fun h => E16.out (by simpa [upOn] using h)), (fun h => E17.out (by simpa [upOn] using h)), (fun h => E18.out (by simpa [upOn] using h)), (fun h => E19.out (by simpa [upOn] using h)), (fun h => E20.out (by simpa [upOn] using h)), .inl rfl⟩
      · clear hcl
        obtain rfl := hw0 (by omega)
        obtain rfl := e14 (hdp 14 (by kernel_rfl))
        obtain rfl := e15 (hdp 15 (by kernel_rfl))
        obtain rfl := e12 (hdp 12 (by kernel_rfl))
        have E0 := Lib.hid e0; have E1 := Lib.hid e1; have E2 := Lib.hid e2; have E3 := Lib.hid e3; have E4 := Lib.hid e4; have E5 := Lib.hid e5; have E6 := Lib.hid e6; have E7 := Lib.hid e7; have E8 := Lib.hid e8; have E9 := Lib.hid e9; have E10 := Lib.hid e10; have E11 := Lib.hid e11; have E13 := Lib.hid e13; have E17 := Lib.hid e17; have E18 := Lib.hid e18; have E19 := Lib.hid e19; have E20 := Lib.hid e20
        have HW9 := Lib.hid hw
        clear hw0 hdp hLi hw e0 e1 e2 e3 e4 e5 e6 e7 e8 e9 e10 e11 e12 e13 e14 e15 e16 e17 e18 e19 e20
        refine op_any rfl ?_
        intro K hK
        go_simp
        exact hK _ _ ⟨_, _, _, _, _, _, _, _, _, _, _, _, _, _, _, _, _, _, _, _, _, rfl, (fun h => E0.out (by simpa [upOn] using h)), (fun h => E1.out (by simpa [upOn] using h)), (fun h => E2.out (by simpa [upOn] using h)), (fun h => E3.out (by simpa [upOn] using h)), (fun h => E4.out (by simpa [upOn] using h)), (fun h => E5.out (by simpa [upOn] using h)), (fun h => E6.out (by simpa [upOn] using h)), (fun h => E7.out (by simpa [upOn] using h)), (fun h => E8.out (by simpa [upOn] using h)), (fun h => E9.out (by simpa [upOn] using h)), (fun h => E10.out (by simpa [upOn] using h)), (fun h => E11.out (by simpa [upOn] using h)), (fun _ => rfl), (fun h => E13.out (by simpa [upOn] using h)), (fun _ => rfl), (fun _ => rfl), (fun _ => rfl), (fun h => E17.out (by simpa [upOn] using h)), (fun h => E18.out (by simpa [upOn] using h)), (fun h => E19.out (by simpa [upOn] using h)), (fun h => E20.out (by simpa [upOn] using h)), .inl rfl⟩
      · clear hcl
        obtain rfl := hw0 (by omega)
        obtain rfl := e16 (hdp 16 (by kernel_rfl))
        obtain rfl := e12 (hdp 12 (by kernel_rfl))
        have E0 := Lib.hid e0; have E1 := Lib.hid e1; have E2 := Lib.hid e2; have E3 := Lib.hid e3; have E4 := Lib.hid e4; have E5 := Lib.hid e5; have E6 := Lib.hid e6; have E7 := Lib.hid e7; have E8 := Lib.hid e8; have E9 := Lib.hid e9; have E10 := Lib.hid e10; have E11 := Lib.hid e11; have E13 := Lib.hid e13; have E14 := Lib.hid e14; have E15 := Lib.hid e15; have E18 := Lib.hid e18; have E19 := Lib.hid e19; have E20 := Lib.hid e20
        have HW9 := Lib.hid hw
        clear hw0 hdp hLi hw e0 e1 e2 e3 e4 e5 e6 e7 e8 e9 e10 e11 e12 e13 e14 e15 e16 e17 e18 e19 e20
        refine op_any rfl ?_
        intro K hK
        go_simp
        exact hK _ _ ⟨_, _, _, _, _, _, _, _, _, _, _, _, _, _, _, _, _, _, _, _, _, rfl, (fun h => E0.out (by simpa [upOn] using h)), (fun h => E1.out (by simpa [upOn] using h)), (fun h => E2.out (by simpa [upOn] using h)), (fun h => E3.out (by simpa [upOn] using h)), (fun h => E4.out (by simpa [upOn] using h)), (fun h => E5.out (by simpa [upOn] using h)), (fun h => E6.out (by simpa [upOn] using h)), (fun h => E7.out (by simpa [upOn] using h)), (fun h => E8.out (by simpa [upOn] using h)), (fun h => E9.out (by simpa [upOn] using h)), (fun h => E10.out (by simpa [upOn] using h)), (fun h => E11.out (by simpa [upOn] using h)), (fun _ => rfl), (fun h => E13.out (by simpa [upOn] using h)), (fun h => E14.out (by simpa [upOn] using h)), (fun h => E15.out (by simpa [upOn] using h)), (fun _ => rfl), (fun _ => rfl), (fun h => E18.out (by simpa [upOn] using h)), (fun h => E19.out (by simpa [upOn] using h)), (fun h => E20.out (by simpa [upOn] using h)), .inl rfl⟩
      · clear hcl
        obtain rfl := hw0 (by omega)
        obtain rfl := e13 (hdp 13 (by kernel_rfl))
        obtain rfl := e17 (hdp 17 (by kernel_rfl))
        obtain rfl := e12 (hdp 12 (by kernel_rfl))
        have E0 := Lib.hid e0; have E1 := Lib.hid e1; have E2 := Lib.hid e2; have E3 := Lib.hid e3; have E4 := Lib.hid e4; have E5 := Lib.hid e5; have E6 := Lib.hid e6; have E7 := Lib.hid e7; have E8 := Lib.hid e8; have E9 := Lib.hid e9; have E10 := Lib.hid e10; have E11 := Lib.hid e11; have E14 := Lib.hid e14; have E15 := Lib.hid e15; have E16 := Lib.hid e16; have E19 := Lib.hid e19; have E20 := Lib.hid e20
        have HW9 := Lib.hid hw
        clear hw0 hdp hLi hw e0 e1 e2 e3 e4 e5 e6 e7 e8 e9 e10 e11 e12 e13 e14 e15 e16 e17 e18 e19 e20
        refine op_any rfl ?_
        intro K hK
        go_simp
        refine ⟨trivial, rfl, (calls_inRound HSA.out).mono ?_⟩
        rintro e w2 ⟨rfl, hb⟩
        have HB2 := hdr.trans (hb.mono hdr.size)
        exact hK _ _ ⟨_, _, _, _, _, _, _, _, _, _, _, _, _, _, _, _, _, _, _, _, _, rfl, (fun h => E0.out (by simpa [upOn] using h)), (fun h => E1.out (by simpa [upOn] using h)), (fun h => E2.out (by simpa [upOn] using h)), (fun h => E3.out (by simpa [upOn] using h)), (fun h => E4.out (by simpa [upOn] using h)), (fun h => E5.out (by simpa [upOn] using h)), (fun h => E6.out (by simpa [upOn] using h)), (fun h => E7.out (by simpa [upOn] using h)), (fun h => E8.out (by simpa [upOn] using h)), (fun h => E9.out (by simpa [upOn] using h)), (fun h => E10.out (by simpa [upOn] using h)), (fun h => E11.out (by simpa [upOn] using h)), (fun _ => rfl), (fun _ => rfl), (fun h => E14.out (by simpa [upOn] using h)), (fun h => E15.out (by simpa [upOn] using h)), (fun h => E16.out (by simpa [upOn] using h)), (fun _ => rfl), (fun _ => rfl), (fun h => E19.out (by simpa [upOn] using h)), (fun h => E20.out (by simpa [upOn] using h)), .inr ⟨by simp [upOn], HB2⟩⟩
      · clear hcl
        obtain rfl := e18 (hdp 18 (by kernel_rfl))
        obtain rfl := e12 (hdp 12 (by kernel_rfl))
        have E0 := Lib.hid e0; have E1 := Lib.hid e1; have E2 := Lib.hid e2; have E3 := Lib.hid e3; have E4 := Lib.hid e4; have E5 := Lib.hid e5; have E6 := Lib.hid e6; have E7 := Lib.hid e7; have E8 := Lib.hid e8; have E9 := Lib.hid e9; have E10 := Lib.hid e10; have E11 := Lib.hid e11; have E13 := Lib.hid e13; have E14 := Lib.hid e14; have E15 := Lib.hid e15; have E16 := Lib.hid e16; have E17 := Lib.hid e17; have E20 := Lib.hid e20
        have HW9 := Lib.hid hw
        clear hw0 hdp hLi hw e0 e1 e2 e3 e4 e5 e6 e7 e8 e9 e10 e11 e12 e13 e14 e15 e16 e17 e18 e19 e20
        refine op_any rfl ?_
        intro K hK
        go_simp
        exact hK _ _ ⟨_, _, _, _, _, _, _, _, _, _, _, _, _, _, _, _, _, _, _, _, _, rfl, (fun h => E0.out (by simpa [upOn] using h)), (fun h => E1.out (by simpa [upOn] using h)), (fun h => E2.out (by simpa [upOn] using h)), (fun h => E3.out (by simpa [upOn] using h)), (fun h => E4.out (by simpa [upOn] using h)), (fun h => E5.out (by simpa [upOn] using h)), (fun h => E6.out (by simpa [upOn] using h)), (fun h => E7.out (by simpa [upOn] using h)), (fun h => E8.out (by simpa [upOn] using h)), (fun h => E9.out (by simpa [upOn] using h)), (fun h => E10.out (by simpa [upOn] using h)), (fun h => E11.out (by simpa [upOn] using h)), (fun _ => rfl), (fun h => E13.out (by simpa [upOn] using h)), (fun h => E14.out (by simpa [upOn] using h)), (fun h => E15.out (by simpa [upOn] using h)), (fun h => E16.out (by simpa [upOn] using h)), (fun h => E17.out (by simpa [upOn] using h)), (fun _ => rfl), (fun _ => rfl), (fun h => E20.out (by simpa [upOn] using h)), HW9.out.imp id fun h => ⟨by simp [upOn, h.1], h.2⟩⟩
      · clear hcl
        obtain rfl := e12 (hdp 12 (by kernel_rfl))
        obtain rfl := e19 (hdp 19 (by kernel_rfl))
        have E0 := Lib.hid e0; have E1 := Lib.hid e1; have E2 := Lib.hid e2; have E3 := Lib.hid e3; have E4 := Lib.hid e4; have E5 := Lib.hid e5; have E6 := Lib.hid e6; have E7 := Lib.hid e7; have E8 := Lib.hid e8; have E9 := Lib.hid e9; have E10 := Lib.hid e10; have E11 := Lib.hid e11; have E13 := Lib.hid e13; have E14 := Lib.hid e14; have E15 := Lib.hid e15; have E16 := Lib.hid e16; have E17 := Lib.hid e17; have E18 := Lib.hid e18
        have HW9 := Lib.hid hw
        clear hw0 hdp hLi hw e0 e1 e2 e3 e4 e5 e6 e7 e8 e9 e10 e11 e12 e13 e14 e15 e16 e17 e18 e19 e20
        refine op_any rfl ?_
        intro K hK
        go_simp
        exact hK _ _ ⟨_, _, _, _, _, _, _, _, _, _, _, _, _, _, _, _, _, _, _, _, _, rfl, (fun h => E0.out (by simpa [upOn] using h)), (fun h => E1.out (by simpa [upOn] using h)), (fun h => E2.out (by simpa [upOn] using h)), (fun h => E3.out (by simpa [upOn] using h)), (fun h => E4.out (by simpa [upOn] using h)), (fun h => E5.out (by simpa [upOn] using h)), (fun h => E6.out (by simpa [upOn] using h)), (fun h => E7.out (by simpa [upOn] using h)), (fun h => E8.out (by simpa [upOn] using h)), (fun h => E9.out (by simpa [upOn] using h)), (fun h => E10.out (by simpa [upOn] using h)), (fun h => E11.out (by simpa [upOn] using h)), (fun _ => rfl), (fun h => E13.out (by simpa [upOn] using h)), (fun h => E14.out (by simpa [upOn] using h)), (fun h => E15.out (by simpa [upOn] using h)), (fun h => E16.out (by simpa [upOn] using h)), (fun h => E17.out (by simpa [upOn] using h)), (fun h => E18.out (by simpa [upOn] using h)), (fun _ => rfl), (fun _ => rfl), HW9.out.imp id fun h => ⟨by simp [upOn, h.1], h.2⟩⟩
    case fin =>
      rintro L a' w' hall ⟨y0, y1, y2, y3, y4, y5, y6, y7, y8, y9, y10, y11, y12, y13, y14, y15, y16, y17, y18, y19, y20, rfl, e0, e1, e2, e3, e4, e5, e6, e7, e8, e9, e10, e11, e12, e13, e14, e15, e16, e17, e18, e19, e20, hw⟩
      obtain rfl := e0 (hall 0 (by omega))
      obtain rfl := e1 (hall 1 (by omega))
      obtain rfl := e2 (hall 2 (by omega))
      obtain rfl := e3 (hall 3 (by omega))
      obtain rfl := e4 (hall 4 (by omega))
      obtain rfl := e5 (hall 5 (by omega))
      obtain rfl := e6 (hall 6 (by omega))
      obtain rfl := e7 (hall 7 (by omega))
      obtain rfl := e8 (hall 8 (by omega))
      obtain rfl := e9 (hall 9 (by omega))
      obtain rfl := e10 (hall 10 (by omega))
      obtain rfl := e11 (hall 11 (by omega))
      obtain rfl := e12 (hall 12 (by omega))
      obtain rfl := e13 (hall 13 (by omega))
      obtain rfl := e14 (hall 14 (by omega))
      obtain rfl := e15 (hall 15 (by omega))
      obtain rfl := e16 (hall 16 (by omega))
      obtain rfl := e17 (hall 17 (by omega))
      obtain rfl := e18 (hall 18 (by omega))
      obtain rfl := e19 (hall 19 (by omega))
      obtain rfl := e20 (hall 20 (by omega))
      have HB2 := Lib.hid (show Below A.heap.size A w' from hw.elim (fun e => e ▸ hdr) (fun h => h.2))
      clear hw hall e0 e1 e2 e3 e4 e5 e6 e7 e8 e9 e10 e11 e12 e13 e14 e15 e16 e17 e18 e19 e20
      have HI2 := Lib.hid (HI.out.below (HB2.out.mono (Nat.le_trans hszW (Nat.le_trans (Nat.le_add_right _ 2) HA.out))))
      clear o1 o2 o5 r0 r1 r2 r3 r4 g0 g1' g2' g3 g4 hdc
      clear o1 o2 o5 r0 r1 r2 r3 r4 g0 g1' g2' g3 g4 hdc
      have o3 := cell0 HI2.out.b3
      obtain ⟨bq, hb4⟩ := HI2.out.b4
      have o4 := cell0 hb4
      have z4 := frz0 0 hb4
      have o5 := cell0 HI2.out.b5
      have z5 := frz0 0 HI2.out.b5
      clear hb4
      gi_wp2_with (rw [Oper.semAt_eq _ _ _ (fun c h => by cases h)]; go_simp; try go_bits)
      · exact ⟨(Stay.below (C := W.heap.size) HB2.out).setCell _ _ (by show V.heap.size + 1 + 1 + 1 + 1 + 1 < W.heap.size; omega) |>.setCell _ _ (by show V.heap.size + 1 + 1 + 1 + 1 < W.heap.size; omega), rfl, (HI2.out.next.res true).1, (HI2.out.next.res true).2⟩
      · have hn : (pre ++ [((d, tr, .agg #[.int .i64 k1, .string s1, .int .u32 v1, .bool m1, .slice q1 l1 p1]) : Told)]).length = pre.length + 1 := by simp
        refine ⟨(Stay.below (C := W.heap.size) HB2.out).setCell _ _ (by show V.heap.size + 1 + 1 + 1 + 1 + 1 < W.heap.size; omega), ?_⟩
        show OnceI V t.count c1 c2 g1 g2 leave _ _
        rw [hn]
        exact HI2.out.next
  case done =>
    intro xs W2 hxs hI hD
    have hn : xs.length = t.count := hxs
    have o1 := cell0 hI.b1
    obtain ⟨bq, hb4⟩ := hI.b4
    have o4 := cell0 hb4
    have z4 := frz0 0 hb4
    have o5 := cell0 hI.b5
    rw [hn] at o5
    have HI := Lib.hid hI
    have HD := Lib.hid hD
    clear hI hb4 h hc HBK HRE HBW hV HLF HI0 hD hxs
    gi_wp2
    exact once_fin (HI.out.res true).1 (HI.out.res true).2 hszW ((Below.heap_setCell _ _ _ _ (by intro e; have e : W.heap.size = V.heap.size + 1 + 1 + 1 + 1 := e; omega)).trans HD.out) _ rfl rfl
  case stop =>
    rintro c pre W2 ⟨rfl, hb, hr⟩ hD
    gi_wp2
    exact once_fin hb hr hszW hD _ rfl rfl
end Go.Proofs.Ytkhbmamgfkpdbaa

/-
  script.ActOf: what a line is read as.
-/
import Derived.Test.YtlodoilihminaaaGreatDoorScrU2
import Derived.WalkMore
namespace Go.Proofs.YtlodoilihminaaaGreatDoor
open Go.ChangeShapes Go.WideShapes Go.ChangeAt Go.RowKit
set_option linter.unusedVariables false
set_option linter.unusedSimpArgs false
/-- rows that lie from M on -/
def RLo (M : Nat) (A : Option Addr) (n : Nat) : Prop := 0 < n → ∃ x, A = some x ∧ M ≤ x.block
theorem RLo.less {M M' : Nat} {A : Option Addr} {n : Nat} (h : RLo M A n) (hM : M' ≤ M) : RLo M' A n := fun hn => by
  obtain ⟨x, e, hx⟩ := h hn
  exact ⟨x, e, Nat.le_trans hM hx⟩
/-- an act that lies in rows from M on: whatever keeps these keeps it -/
theorem ActAt.keep {w W : World} {M : Nat} {a : Ac} {bA : Option Addr} {bn bc : Nat} {nA : Option Addr} {nn nc : Nat} (h : ActAt w a bA bn bc nA nn nc) (hb : RLo M bA bn) (hn : RLo M nA nn) (hs : w.heap.size ≤ W.heap.size) (hk : ∀ z, M ≤ z → z < w.heap.size → W.heap[z]? = w.heap[z]?) : ActAt W a bA bn bc nA nn nc := by
  refine ⟨h.hnm, ⟨h.hbr.1, fun h0 => ?_⟩, h.hbb, h.hbn, h.hbc, ⟨h.hnr.1, h.hnr.2.1, fun h0 => ?_⟩, h.hnn, h.hm, h.hf⟩
  · obtain ⟨x, e, hx, hc⟩ := h.hbr.2 h0
    obtain ⟨y, e2, hy⟩ := hb h0
    rw [e] at e2
    cases e2
    refine ⟨x, e, by omega, fun i hi => ?_⟩
    rw [World.cell?_of_block (w := w) (hk _ (by rw [block_add]; exact hy) (by rw [block_add]; exact hx))]
    exact hc i hi
  · obtain ⟨x, e, hx, hc⟩ := h.hnr.2.2 h0
    obtain ⟨y, e2, hy⟩ := hn h0
    rw [e] at e2
    cases e2
    refine ⟨x, e, by omega, fun i l hl => ?_⟩
    rw [World.cell?_of_block (w := w) (hk _ (by rw [block_add]; exact hy) (by rw [block_add]; exact hx))]
    exact hc i l hl
def zAct : Array Value := #[.int .i64 0, .string ⟨#[]⟩, .slice none 0 0, .slice none 0 0, .int .i64 0, .int .i64 0]
/-- a line's reading under way: F the first word, R what is left, a the act so far -/
structure RO (w W : World) (M : Nat) (F R : List UInt8) (a : Ac) (bA : Option Addr) (bn bc : Nat) (nA : Option Addr) (nn nc : Nat) : Prop where
  hb : Below w.heap.size w W
  res : W.heap[w.heap.size]? = some (.cells zAct 27 (0, 0))
  fst : W.heap[w.heap.size + 1]? = some (.cells #[.string (S F)] 9 (0, 0))
  rst : W.heap[w.heap.size + 2]? = some (.cells #[.string (S R)] 9 (0, 0))
  act : W.heap[w.heap.size + 3]? = some (.cells (actC a.kind a.name bA bn bc nA nn nc a.mem a.fuel) 27 (0, 0))
  ats : ActAt W a bA bn bc nA nn nc
  lo : RLo M bA bn ∧ RLo M nA nn
section
variable {w W W' : World} {M : Nat} {F R : List UInt8} {a : Ac} {bA : Option Addr} {bn bc : Nat} {nA : Option Addr} {nn nc : Nat}
theorem RO.lt (h : RO w W M F R a bA bn bc nA nn nc) : w.heap.size + 3 < W.heap.size := (Array.getElem?_eq_some_iff.1 h.act).1
theorem RO.below (h : RO w W M F R a bA bn bc nA nn nc) (hb : Below W.heap.size W W') : RO w W' M F R a bA bn bc nA nn nc := by
  have hl := h.lt
  exact ⟨h.hb.trans (hb.mono h.hb.size), (hb.block _ (by omega)).trans h.res, (hb.block _ (by omega)).trans h.fst, (hb.block _ (by omega)).trans h.rst, (hb.block _ (by omega)).trans h.act, h.ats.below hb, h.lo⟩
/-- what is kept but one block, no box, ahead of the rows -/
theorem RO.but (h : RO w W M F R a bA bn bc nA nn nc) (it : Nat) (h1 : w.heap.size + 4 ≤ it) (h2 : it < M) (hb : Below (w.heap.size + 4) W W') (hk : ∀ z, z ≠ it → z < W.heap.size → W'.heap[z]? = W.heap[z]?) : RO w W' M F R a bA bn bc nA nn nc := by
  have hl := h.lt
  exact ⟨h.hb.trans (hb.mono (by omega)), (hk _ (by omega) (by omega)).trans h.res, (hk _ (by omega) (by omega)).trans h.fst, (hk _ (by omega) (by omega)).trans h.rst, (hk _ (by omega) (by omega)).trans h.act, h.ats.keep h.lo.1 h.lo.2 hb.size (fun z hz hz2 => hk z (by omega) hz2), h.lo⟩
theorem drewN_below (W : World) (n : Nat) : Below W.heap.size W (W.drewN n) := ⟨rfl, rfl, rfl, Nat.le_refl _, fun _ _ => rfl⟩
theorem setCell_kept (W : World) (b o : Nat) (u : Value) (z : Nat) (hz : z ≠ b) : (W.setCell ⟨b, o, none⟩ u).heap[z]? = W.heap[z]? := Below.heap_setCell W _ _ z hz
theorem RO.left (h : RO w W M F R a bA bn bc nA nn nc) (hM : w.heap.size + 4 ≤ M) (R' : List UInt8) : RO w (W.setCell ⟨w.heap.size + 2, 0, none⟩ (.string (S R'))) M F R' a bA bn bc nA nn nc := by
  have hl := h.lt
  refine ⟨(h.hb).setCell (by show w.heap.size ≤ w.heap.size + 2; omega) _, (setCell_kept _ _ _ _ _ (by omega)).trans h.res, (setCell_kept _ _ _ _ _ (by omega)).trans h.fst, (heap_setCell_same W _ 0 _ h.rst).trans rfl, (setCell_kept _ _ _ _ _ (by omega)).trans h.act, h.ats.keep h.lo.1 h.lo.2 (by simp) (fun z hz _ => setCell_kept _ _ _ _ _ (by omega)), h.lo⟩
/-- the act's box turned -/
theorem RO.turn (h : RO w W M F R a bA bn bc nA nn nc) (hM : w.heap.size + 4 ≤ M) (o : Nat) (u : Value) (a' : Ac) (bA' : Option Addr) (bn' bc' : Nat) (nA' : Option Addr) (nn' nc' : Nat) (he : (actC a.kind a.name bA bn bc nA nn nc a.mem a.fuel).setIfInBounds o u = actC a'.kind a'.name bA' bn' bc' nA' nn' nc' a'.mem a'.fuel)
    (hat : ActAt W a' bA' bn' bc' nA' nn' nc') (hlo : RLo M bA' bn' ∧ RLo M nA' nn') : RO w (W.setCell ⟨w.heap.size + 3, o, none⟩ u) M F R a' bA' bn' bc' nA' nn' nc' := by
  have hl := h.lt
  refine ⟨(h.hb).setCell (by show w.heap.size ≤ w.heap.size + 3; omega) _, (setCell_kept _ _ _ _ _ (by omega)).trans h.res, (setCell_kept _ _ _ _ _ (by omega)).trans h.fst, (setCell_kept _ _ _ _ _ (by omega)).trans h.rst, (heap_setCell_same W _ o u h.act).trans (by rw [he]), hat.keep hlo.1 hlo.2 (by simp) (fun z hz _ => setCell_kept _ _ _ _ _ (by omega)), hlo⟩
theorem RO.cell (h : RO w W M F R a bA bn bc nA nn nc) {o : Nat} {u : Value} (hu : (actC a.kind a.name bA bn bc nA nn nc a.mem a.fuel)[o]? = some u) : W.cell? ⟨w.heap.size + 3, o, none⟩ = some u := by rw [World.cell?, h.act]; exact hu
theorem RO.frz (h : RO w W M F R a bA bn bc nA nn nc) (o : Nat) : W.frozen? ⟨w.heap.size + 3, o, none⟩ = false := by rw [World.frozen?, h.act]; simp
end
/-- is a line an act's text? -/
def readB (s : List UInt8) : Bool := (pC s).may && decide ((pC s).txt = s)
/-- the act that a line is read as -/
def rdA (s : List UInt8) : Ac := if readB s then pC s else Ac.none
theorem none_at (W : World) (k : Int) : ActAt W ⟨k, [], [], [], 0, 0⟩ none 0 0 none 0 0 :=
  ⟨Nat.zero_le _, Rd.nil, by simp, Nat.zero_le _, Nat.le_refl _, ⟨rfl, by simp, fun h => absurd h (by omega)⟩, Nat.zero_le _, by simp, by simp⟩
theorem RO.empty {w W : World} {M M' : Nat} {F R : List UInt8} {a : Ac} {bc nc : Nat} (h : RO w W M F R a none 0 bc none 0 nc) : RO w W M' F R a none 0 bc none 0 nc :=
  ⟨h.hb, h.res, h.fst, h.rst, h.act, h.ats, fun h => absurd h (by omega), fun h => absurd h (by omega)⟩
theorem kind_at : ∀ x, x < 7 → kindOf (actWs.getD x []) = 1 + (x : Int) := by decide
theorem kind_none (l : List UInt8) (h : ∀ j, j < 7 → actWs.getD j [] ≠ l) : kindOf l = 0 := by
  unfold kindOf
  rw [if_neg]
  intro hlt
  have hm : actWs.idxOf l < actWs.length := hlt
  have := List.getElem_idxOf hm
  refine h _ hlt ?_
  rw [List.getD_eq_getElem?_getD, List.getElem?_eq_getElem hm]
  exact this
def kA (k : Int) : Ac := ⟨k, [], [], [], 0, 0⟩
/-- .. beside a walk over letters -/
structure LO (w W : World) (M : Nat) (F R : List UInt8) (a : Ac) (bA : Option Addr) (bn bc : Nat) (nA : Option Addr) (nn nc : Nat) (it : Nat) (ps : ByteArray) (pos : Nat) : Prop where
  ro : RO w W M F R a bA bn bc nA nn nc
  itr : W.heap[it]? = some (.stringIter ps pos)
  dfr : W.heap[w.heap.size + 4]? = some (.deferred (some []))
  h1 : w.heap.size + 4 < it
  h2 : it < M
  h3 : M ≤ W.heap.size
section
variable {w W W' : World} {M : Nat} {F R : List UInt8} {a : Ac} {bA : Option Addr} {bn bc : Nat} {nA : Option Addr} {nn nc : Nat} {it : Nat} {ps : ByteArray} {pos : Nat}
theorem LO.ipos (h : LO w W M F R a bA bn bc nA nn nc it ps pos) : W.iterPos it = pos := by simp [World.iterPos, h.itr]
theorem LO.stop (h : LO w W M F R a bA bn bc nA nn nc it ps pos) (hp : ¬ pos < ps.size) : ∀ ty, (Instr.next (.pointer (some ⟨it, 0, none⟩)) true ty).run Tryz.prog W = .ok (.tuple #[.bool false]) W :=
  fun ty => Lib.run_next_end_at W it ps pos ty h.itr hp
theorem LO.next (h : LO w W M F R a bA bn bc nA nn nc it ps pos) (hp : pos < ps.size) (ha : (ps[pos]'hp).toNat < 128) :
    ∃ w1, (∀ ty, (Instr.next (.pointer (some ⟨it, 0, none⟩)) true ty).run Tryz.prog W = .ok (.tuple #[.bool true, .int .i64 pos, .int .i32 (ps[pos]'hp).toNat]) w1) ∧ LO w w1 M F R a bA bn bc nA nn nc it ps (pos + 1) := by
  have q1 := h.h1
  have q2 := h.h2
  refine ⟨W.iterAt it ps (pos + 1), fun ty => Lib.run_next_ascii_at W it ps pos ty h.itr hp ha, h.ro.but it (by omega) q2 (Lib.below_iterAt (Below.refl _ W) (by omega) ps _) (fun z hz _ => Lib.iterAt_other W it z ps _ hz), Lib.iterAt_heap W it ps pos _ h.itr, (Lib.iterAt_other W it _ ps _ (by omega)).trans h.dfr, q1, q2, by rw [Lib.iterAt_size]; exact h.h3⟩
theorem LO.below (h : LO w W M F R a bA bn bc nA nn nc it ps pos) (hb : Below W.heap.size W W') : LO w W' M F R a bA bn bc nA nn nc it ps pos :=
  ⟨h.ro.below hb, (hb.block _ (Array.getElem?_eq_some_iff.1 h.itr).1).trans h.itr, (hb.block _ (Array.getElem?_eq_some_iff.1 h.dfr).1).trans h.dfr, h.h1, h.h2, Nat.le_trans h.h3 hb.size⟩
theorem LO.left (h : LO w W M F R a bA bn bc nA nn nc it ps pos) (R' : List UInt8) : LO w (W.setCell ⟨w.heap.size + 2, 0, none⟩ (.string (S R'))) M F R' a bA bn bc nA nn nc it ps pos := by
  have q1 := h.h1
  have q2 := h.h2
  exact ⟨h.ro.left (by omega) R', (setCell_kept _ _ _ _ _ (by omega)).trans h.itr, (setCell_kept _ _ _ _ _ (by omega)).trans h.dfr, h.h1, h.h2, by simpa using h.h3⟩
theorem LO.turn (h : LO w W M F R a bA bn bc nA nn nc it ps pos) (o : Nat) (u : Value) (a' : Ac) (bA' : Option Addr) (bn' bc' : Nat) (nA' : Option Addr) (nn' nc' : Nat) (he : (actC a.kind a.name bA bn bc nA nn nc a.mem a.fuel).setIfInBounds o u = actC a'.kind a'.name bA' bn' bc' nA' nn' nc' a'.mem a'.fuel)
    (hat : ActAt W a' bA' bn' bc' nA' nn' nc') (hlo : RLo M bA' bn' ∧ RLo M nA' nn') : LO w (W.setCell ⟨w.heap.size + 3, o, none⟩ u) M F R a' bA' bn' bc' nA' nn' nc' it ps pos := by
  have q1 := h.h1
  have q2 := h.h2
  exact ⟨h.ro.turn (by omega) o u a' bA' bn' bc' nA' nn' nc' he hat hlo, (setCell_kept _ _ _ _ _ (by omega)).trans h.itr, (setCell_kept _ _ _ _ _ (by omega)).trans h.dfr, h.h1, h.h2, by simpa using h.h3⟩
theorem LO.word (h : LO w W M F R a bA bn bc nA nn nc it ps pos) (hR : R.length ≤ 1000000) (hM : MxT w) : Calls Tryz.prog 24 #[.pointer (some ⟨w.heap.size + 2, 0, none⟩)] W fun e w' => e = .returned (.string (S (c1 R))) ∧ LO w w' M F (c2 R) a bA bn bc nA nn nc it ps pos := by
  refine (next_any R h.ro.rst hR (hM.below h.ro.hb)).mono ?_
  rintro e w' ⟨rfl, n, rfl⟩
  exact ⟨rfl, (h.below (drewN_below W n)).left (c2 R)⟩
end
theorem pC_kind (s : List UInt8) : (pC s).kind = kindOf (c1 s) := by
  unfold pC
  rcases kindOf_cases (c1 s) with h | h | h | h | h | h | h | h <;> rw [h] <;> rfl
theorem pC_kind_wf (s : List UInt8) : (Lit.int .i64 (pC s).kind).wf = true := by
  rw [pC_kind]
  rcases kindOf_cases (c1 s) with h | h | h | h | h | h | h | h <;> rw [h] <;> decide
def put6 (W : World) (r : Nat) (u0 u1 u2 u3 u4 u5 : Value) : World := (((((W.setCell ⟨r, 0, none⟩ u0).setCell ⟨r, 1, none⟩ u1).setCell ⟨r, 2, none⟩ u2).setCell ⟨r, 3, none⟩ u3).setCell ⟨r, 4, none⟩ u4).setCell ⟨r, 5, none⟩ u5
theorem put6_block {W : World} {r : Nat} {c0 c1 c2 c3 c4 c5 : Value} {t : TypeId} (h : W.heap[r]? = some (.cells #[c0, c1, c2, c3, c4, c5] t (0, 0))) (u0 u1 u2 u3 u4 u5 : Value) : (put6 W r u0 u1 u2 u3 u4 u5).heap[r]? = some (.cells #[u0, u1, u2, u3, u4, u5] t (0, 0)) := by
  unfold put6
  have h1 := heap_setCell_same W r 0 u0 h
  have h2 := heap_setCell_same _ r 1 u1 h1
  have h3 := heap_setCell_same _ r 2 u2 h2
  have h4 := heap_setCell_same _ r 3 u3 h3
  have h5 := heap_setCell_same _ r 4 u4 h4
  exact heap_setCell_same _ r 5 u5 h5
theorem put6_other (W : World) (r : Nat) (u0 u1 u2 u3 u4 u5 : Value) (z : Nat) (hz : z ≠ r) : (put6 W r u0 u1 u2 u3 u4 u5).heap[z]? = W.heap[z]? := by
  unfold put6
  iterate 6 rw [Below.heap_setCell _ _ _ z hz]
theorem put6_below {W V : World} {B : Nat} (h : Below B V W) (r : Nat) (hr : B ≤ r) (u0 u1 u2 u3 u4 u5 : Value) : Below B V (put6 W r u0 u1 u2 u3 u4 u5) := by
  unfold put6
  exact (((((h.setCell hr _).setCell hr _).setCell hr _).setCell hr _).setCell hr _).setCell hr _
theorem put6_size (W : World) (r : Nat) (u0 u1 u2 u3 u4 u5 : Value) : (put6 W r u0 u1 u2 u3 u4 u5).heap.size = W.heap.size := by unfold put6; simp
theorem actof_fin {V W2 : World} {r Wz : Nat} {u0 u1 u2 u3 u4 u5 : Value} {k : Int} (h : W2.heap[r]? = some (.cells #[u0, u1, u2, u3, u4, u5] 27 (0, 0))) (hb : Below V.heap.size V W2) (hz : V.heap.size ≤ Wz) (hr : r ≠ Wz) (hD : W2.heap[Wz]? = some (.deferred (some []))) (a : Act) (h2 : a.tmps[2]? = some (.pointer (some ⟨r, 0, none⟩))) (h3 : a.tmps[3]? = some (.int .i64 k)) (hd : a.defers = [{ target := .collected Wz, args := #[] }])
    (R : Ending → World → Prop) (hR : ∀ B, Below V.heap.size V B → W2.heap.size ≤ B.heap.size → (∀ z, z ≠ Wz → B.heap[z]? = W2.heap[z]?) → R (.returned (.tuple #[.agg #[u0, u1, u2, u3, u4, u5], .int .i64 k])) B) :
    bodyPostM Fence.wide 0 Tryz.prog Tryz.f8 R .ret a W2 := by
  obtain ⟨tm, ds⟩ := a
  simp only at h2 h3 hd
  subst hd
  have hlt := (Array.getElem?_eq_some_iff.1 hD).1
  refine ⟨by simp, .inl ⟨_, _, rfl, run_takeDeferred hD, ?_⟩⟩
  have hB : ∀ z, z ≠ Wz → (W2.putObj Wz (.deferred none)).heap[z]? = W2.heap[z]? := fun z hz => World.putObj_heap_other hz
  have hq := (hB r hr).trans h
  have q0 : (W2.putObj Wz (.deferred none)).cell? ⟨r, 0, none⟩ = some u0 := by rw [World.cell?, hq]; rfl
  have q1 : (W2.putObj Wz (.deferred none)).cell? ⟨r, 1, none⟩ = some u1 := by rw [World.cell?, hq]; rfl
  have q2 : (W2.putObj Wz (.deferred none)).cell? ⟨r, 2, none⟩ = some u2 := by rw [World.cell?, hq]; rfl
  have q3 : (W2.putObj Wz (.deferred none)).cell? ⟨r, 3, none⟩ = some u3 := by rw [World.cell?, hq]; rfl
  have q4 : (W2.putObj Wz (.deferred none)).cell? ⟨r, 4, none⟩ = some u4 := by rw [World.cell?, hq]; rfl
  have q5 : (W2.putObj Wz (.deferred none)).cell? ⟨r, 5, none⟩ = some u5 := by rw [World.cell?, hq]; rfl
  have hBB := hR _ (hb.trans (below_putObj _ (by omega) hlt)) (by simp) hB
  refine ⟨_, ?_, hBB⟩
  simp [results, Tryz.f8, go_sem, h2, h3, q0, q1, q2, q3, q4, q5]
theorem shW_last (kd : Int) : ∀ pos (h : pos < (shW kd).length), ((shW kd)[pos] = 116 ∨ (shW kd)[pos] = 108) → pos + 1 = (shW kd).length := by
  have key : ∀ L ∈ ([[110, 98], [110, 116], [110], [109, 105, 102], [109, 102, 108], []] : List (List UInt8)), ∀ pos (h : pos < L.length), (L[pos] = 116 ∨ L[pos] = 108) → pos + 1 = L.length := by decide
  refine key _ ?_
  unfold shW
  repeat' split
  all_goals simp
theorem inBlock_norm {id : Nat} {Q : Exit → Act → World → Prop} {e : Exit} {a : Act} {w : World} (he : e = .normal ∨ e = .exit id) (h : Exit.inBlock id Q .normal a w) : Exit.inBlock id Q e a w := by
  rcases he with rfl | rfl
  · exact h
  · simpa [Exit.inBlock] using h
set_option maxHeartbeats 4000000 in
set_option maxRecDepth 100000 in
theorem actOf_any (w : World) (s : List UInt8) (hs : s.length ≤ 1000000) (hT : Tab w) (hT2 : SpT w) (hM : MxT w) (hE : ErrT w) :
    Calls Tryz.prog 8 #[.string (S s)] w fun e w' => ∃ bA bn bc nA nn nc, e = .returned (.tuple #[.agg (actC (rdA s).kind (rdA s).name bA bn bc nA nn nc (rdA s).mem (rdA s).fuel), .int .i64 (if readB s then 0 else 4)]) ∧ ActAt w' (rdA s) bA bn bc nA nn nc ∧ RLo w.heap.size bA bn ∧ RLo w.heap.size nA nn ∧ Below w.heap.size w w' := by
  have HCUT := Lib.hid (fun (V : World) (hV : Below w.heap.size w V) => cut_any 32 s (by omega) V (hM.below hV))
  rw [k1_32, k2_32] at HCUT
  refine (callsIn_wide (n := 0)).1 ?_
  refine callsIn_of_wp_marks Tryz.func8 rfl trivial ?_ rfl
  simp only [Tryz.ntmps8, List.size_toArray, List.length_cons, List.length_nil, Nat.reduceAdd, Nat.reduceSub, Array.replicate_succ, Array.replicate_zero, List.push_toArray, List.append_toArray, List.nil_append, List.cons_append]
  refine wpIn_wide.2 ?_
  go_upto_region 1 with fail
  have hq0 := heap_alloc_new w (.cells #[.int .i64 0, .string ⟨#[]⟩, .slice none 0 0, .slice none 0 0, .int .i64 0, .int .i64 0] 27)
  have hs0 : (w.alloc (.cells #[.int .i64 0, .string ⟨#[]⟩, .slice none 0 0, .slice none 0 0, .int .i64 0, .int .i64 0] 27)).heap.size = w.heap.size + 1 := by simp
  have HB1 := Lib.hid (sbelow1 w (.cells #[.int .i64 0, .string ⟨#[]⟩, .slice none 0 0, .slice none 0 0, .int .i64 0, .int .i64 0] 27))
  generalize w.alloc (.cells #[.int .i64 0, .string ⟨#[]⟩, .slice none 0 0, .slice none 0 0, .int .i64 0, .int .i64 0] 27) = W1 at hq0 hs0 HB1 ⊢
  go_step3
  go_upto_region 2 with (go_at_call 22; (with_reducible refine (HCUT.out _ HB1.out).mono ?_); rintro e w' ⟨rfl, n, rfl⟩)
  have hro : RO w ((((W1.drewN n).alloc (.cells #[.string (S (c1 s))] 9)).alloc (.cells #[.string (S (c2 s))] 9)).alloc (.cells #[.int .i64 0, .string ⟨#[]⟩, .slice none 0 0, .slice none 0 0, .int .i64 0, .int .i64 0] 27)) 0 (c1 s) (c2 s) (kA 0) none 0 0 none 0 0 := by
    have z1 : ((W1.drewN n).alloc (.cells #[.string (S (c1 s))] 9)).heap.size = w.heap.size + 2 := by simp [hs0]
    have z2 : (((W1.drewN n).alloc (.cells #[.string (S (c1 s))] 9)).alloc (.cells #[.string (S (c2 s))] 9)).heap.size = w.heap.size + 3 := by simp [hs0]
    have z0 : (W1.drewN n).heap.size = w.heap.size + 1 := hs0
    refine ⟨?_, ?_, ?_, ?_, ?_, none_at _ 0, ⟨fun h => absurd h (by omega), fun h => absurd h (by omega)⟩⟩
    · refine ((((HB1.out.trans ((drewN_below W1 n).mono HB1.out.size))).alloc (by omega) _).alloc (by omega) _).alloc (by omega) _
    · rw [Below.heap_alloc _ _ _ (by omega), Below.heap_alloc _ _ _ (by omega), Below.heap_alloc _ _ _ (by omega)]; exact hq0
    · rw [Below.heap_alloc _ _ _ (by omega), Below.heap_alloc _ _ _ (by omega)]; have := heap_alloc_new (W1.drewN n) (.cells #[.string (S (c1 s))] 9); rw [z0] at this; exact this
    · rw [Below.heap_alloc _ _ _ (by omega)]; have := heap_alloc_new ((W1.drewN n).alloc (.cells #[.string (S (c1 s))] 9)) (.cells #[.string (S (c2 s))] 9); rw [z1] at this; exact this
    · have := heap_alloc_new (((W1.drewN n).alloc (.cells #[.string (S (c1 s))] 9)).alloc (.cells #[.string (S (c2 s))] 9)) (.cells #[.int .i64 0, .string ⟨#[]⟩, .slice none 0 0, .slice none 0 0, .int .i64 0, .int .i64 0] 27); rw [z2] at this; exact this
  have hsz4 : ((((W1.drewN n).alloc (.cells #[.string (S (c1 s))] 9)).alloc (.cells #[.string (S (c2 s))] 9)).alloc (.cells #[.int .i64 0, .string ⟨#[]⟩, .slice none 0 0, .slice none 0 0, .int .i64 0, .int .i64 0] 27)).heap.size = w.heap.size + 4 := by simp [hs0]
  go_upto_region 3 with fail
  generalize ((((W1.drewN n).alloc (.cells #[.string (S (c1 s))] 9)).alloc (.cells #[.string (S (c2 s))] 9)).alloc (.cells #[.int .i64 0, .string ⟨#[]⟩, .slice none 0 0, .slice none 0 0, .int .i64 0, .int .i64 0] 27)) = W4 at hro hsz4 ⊢
  have HRO := Lib.hid hro
  have HSZ4 := Lib.hid hsz4
  clear hq0 hs0 HB1 hro hsz4 HCUT
  generalize decide (32 ∈ s) = b32
  rw [show w.heap.size + 1 + 1 + 1 = w.heap.size + 3 from rfl, show w.heap.size + 1 + 1 = w.heap.size + 2 from rfl]
  go_wp2_with (go_at_call 23; (with_reducible refine (sNames_any _).mono ?_); rintro e w6 ⟨rfl, hw6⟩; subst hw6)
  have HNT := Lib.hid HRO.out
  obtain ⟨Post, hin, hout⟩ : ∃ Post : Act → World → Prop, Hid (∀ a' W', (a' = { tmps := List.toArray ((.string (S s)) :: undef :: (.pointer (some ⟨w.heap.size, 0, none⟩)) :: (.int .i64 0) :: (.pointer (some ⟨w.heap.size + 1, 0, none⟩)) :: (.pointer (some ⟨w.heap.size + 2, 0, none⟩)) :: (.bool b32) :: (.pointer (some ⟨w.heap.size + 3, 0, none⟩)) :: undef :: undef :: undef :: undef :: undef :: undef :: undef :: (.tuple #[.string (S (c1 s)), .string (S (c2 s)), .bool b32]) :: (.string (S s)) :: (.tuple #[.string (S (c1 s)), .string (S (c2 s)), .bool b32]) :: (.string (S (c1 s))) :: (.string (S (c2 s))) :: (.bool b32) :: (.func (.func 53) #[] #[]) :: undef :: undef :: undef :: undef :: undef :: undef :: undef :: undef :: undef :: undef :: undef :: undef :: undef :: undef :: undef :: undef :: undef :: undef :: undef :: undef :: undef :: undef :: undef :: undef :: undef :: undef :: undef :: undef :: undef :: undef :: undef :: undef :: undef :: undef :: undef :: undef :: undef :: undef :: undef :: undef :: undef :: undef :: undef :: undef :: undef :: undef :: undef :: undef :: undef :: undef :: undef :: undef :: undef :: undef :: undef :: undef :: undef :: undef :: undef :: undef :: undef :: undef :: undef :: undef :: undef :: undef :: []), defers := [{ target := .collected (w.heap.size + 4), args := #[] }] } ∧ RO w W' 0 (c1 s) (c2 s) (kA (kindOf (c1 s))) none 0 0 none 0 0 ∧ W'.heap[w.heap.size + 4]? = some (.deferred (some []))) → Post a' W') ∧ Hid (∀ a' W', Post a' W' → (a' = { tmps := List.toArray ((.string (S s)) :: undef :: (.pointer (some ⟨w.heap.size, 0, none⟩)) :: (.int .i64 0) :: (.pointer (some ⟨w.heap.size + 1, 0, none⟩)) :: (.pointer (some ⟨w.heap.size + 2, 0, none⟩)) :: (.bool b32) :: (.pointer (some ⟨w.heap.size + 3, 0, none⟩)) :: undef :: undef :: undef :: undef :: undef :: undef :: undef :: (.tuple #[.string (S (c1 s)), .string (S (c2 s)), .bool b32]) :: (.string (S s)) :: (.tuple #[.string (S (c1 s)), .string (S (c2 s)), .bool b32]) :: (.string (S (c1 s))) :: (.string (S (c2 s))) :: (.bool b32) :: (.func (.func 53) #[] #[]) :: undef :: undef :: undef :: undef :: undef :: undef :: undef :: undef :: undef :: undef :: undef :: undef :: undef :: undef :: undef :: undef :: undef :: undef :: undef :: undef :: undef :: undef :: undef :: undef :: undef :: undef :: undef :: undef :: undef :: undef :: undef :: undef :: undef :: undef :: undef :: undef :: undef :: undef :: undef :: undef :: undef :: undef :: undef :: undef :: undef :: undef :: undef :: undef :: undef :: undef :: undef :: undef :: undef :: undef :: undef :: undef :: undef :: undef :: undef :: undef :: undef :: undef :: undef :: undef :: undef :: undef :: []), defers := [{ target := .collected (w.heap.size + 4), args := #[] }] } ∧ RO w W' 0 (c1 s) (c2 s) (kA (kindOf (c1 s))) none 0 0 none 0 0 ∧ W'.heap[w.heap.size + 4]? = some (.deferred (some [])))) := ⟨_, Lib.hid fun _ _ h => h, Lib.hid fun _ _ h => h⟩
  refine Code.wp_mono (Q := fun e a W => (e = .normal ∨ e = .exit 0) ∧ Post a W) ?_ ?_
  rotate_left
  · as_aux_lemma =>
      refine (wpIn_wide (n := 0)).1 ?_
      refine rangeFunc_told (gf := 53) (lb := #[]) rfl (enters_of Tryz.func53 (by kernel_rfl) rfl) (encs := encN) (fun _ => rfl) (X := fun pre x A => x = pre.length) (N := 7) (S := fun xs => xs.length = 7)
        ?seq (fun pre x A B hx _ => hx) (fun pre A => RO w A 0 (c1 s) (c2 s) (kA 0) none 0 0 none 0 0 ∧ ∀ j, j < pre.length → actWs.getD j [] ≠ c1 s) (fun c pre A => c = .exit 0 ∧ RO w A 0 (c1 s) (c2 s) (kA (kindOf (c1 s))) none 0 0 none 0 0) ?hi ?ix ?h0
        (fun pre x a₁ A => a₁ = { tmps := List.toArray ((.string (S s)) :: undef :: (.pointer (some ⟨w.heap.size, 0, none⟩)) :: (.int .i64 0) :: (.pointer (some ⟨w.heap.size + 1, 0, none⟩)) :: (.pointer (some ⟨w.heap.size + 2, 0, none⟩)) :: (.bool b32) :: (.pointer (some ⟨w.heap.size + 3, 0, none⟩)) :: (.int .i64 (1 + (x : Int))) :: (.string (S (actWs.getD x []))) :: undef :: undef :: undef :: undef :: undef :: (.tuple #[.string (S (c1 s)), .string (S (c2 s)), .bool b32]) :: (.string (S s)) :: (.tuple #[.string (S (c1 s)), .string (S (c2 s)), .bool b32]) :: (.string (S (c1 s))) :: (.string (S (c2 s))) :: (.bool b32) :: (.func (.func 53) #[] #[]) :: (.int .i64 (1 + (x : Int))) :: (.string (S (actWs.getD x []))) :: undef :: undef :: undef :: undef :: undef :: undef :: undef :: undef :: undef :: undef :: undef :: undef :: undef :: undef :: undef :: undef :: undef :: undef :: undef :: undef :: undef :: undef :: undef :: undef :: undef :: undef :: undef :: undef :: undef :: undef :: undef :: undef :: undef :: undef :: undef :: undef :: undef :: undef :: undef :: undef :: undef :: undef :: undef :: undef :: undef :: undef :: undef :: undef :: undef :: undef :: undef :: undef :: undef :: undef :: undef :: undef :: undef :: undef :: undef :: undef :: undef :: undef :: undef :: undef :: []), defers := [] }) ?g ?assign ?body ?done ?stop
      case seq =>
        intro rec
        have hbb : Below w.heap.size w ((w6.alloc (.deferred (some []))).alloc (.loop rec)) := (HRO.out.hb.alloc HRO.out.hb.size _).alloc (by have := HRO.out.hb.size; simp; omega) _
        exact names1_seq (SpT.below hT2 hbb)
      case hi =>
        rintro pre A B ⟨h1, h2⟩ hb
        have h3 : RO w A (A.heap.size + 1) (c1 s) (c2 s) (kA 0) none 0 0 none 0 0 := h1.empty
        have hz := HSZ4.out
        have hl := h1.lt
        refine ⟨⟨h1.hb.trans (hb.mono (by omega)), (hb.block _ (by omega)).trans h1.res, (hb.block _ (by omega)).trans h1.fst, (hb.block _ (by omega)).trans h1.rst, (hb.block _ (by omega)).trans h1.act, none_at _ _, h1.lo⟩, h2⟩
      case ix =>
        rintro c pre A o hlt ⟨h1, h2⟩
        have hz := HSZ4.out
        have hb := below_putObj (n := w.heap.size + 4) (A := A) (l := w6.heap.size + 1) o (by omega) hlt
        refine ⟨h1, h2.hb.trans (hb.mono (by omega)), (hb.block _ (by omega)).trans h2.res, (hb.block _ (by omega)).trans h2.fst, (hb.block _ (by omega)).trans h2.rst, (hb.block _ (by omega)).trans h2.act, none_at _ _, h2.lo⟩
      case h0 => exact ⟨HRO.out, fun j hj => absurd hj (by simp)⟩
      case g => exact fun _ _ _ _ _ h _ => h
      case assign =>
        rintro l pre x A hA hI hX
        clear hA hI hX
        unfold encN
        generalize S (actWs.getD x []) = nm
        gi_wp2_with (rw [Oper.semAt_eq _ _ _ (fun c h => by cases h)]; go_simp; try go_bits)
        exact ⟨Below.refl _ _, trivial⟩
      case body =>
        rintro l pre x a1 A hA ⟨hI, hne⟩ hpl hX rfl hD ⟨r, hL⟩
        have HI := Lib.hid hI
        have HX := Lib.hid hX
        have HPL := Lib.hid hpl
        have HNE := Lib.hid hne
        have HSZ := Lib.hid hA
        have c0 : A.cell? ⟨w.heap.size + 1, 0, none⟩ = some (.string (S (c1 s))) := box_cell hI.fst
        have c3 : A.cell? ⟨w.heap.size + 3, 0, none⟩ = some (.int .i64 0) := hI.cell rfl
        have f3 := hI.frz 0
        by_cases hxe : actWs.getD x [] = c1 s
        · have he : ((S (actWs.getD x [])).toList == (S (c1 s)).toList) = true := by rw [hxe]; simp
          have HXE := Lib.hid hxe
          have HT3 : Hid (RO w (A.setCell ⟨w.heap.size + 3, 0, none⟩ (.int .i64 (1 + (x : Int)))) 0 (c1 s) (c2 s) (kA (1 + (x : Int))) none 0 0 none 0 0) := Lib.hid (by
            have := hI.empty (M' := w.heap.size + 4)
            exact (this.turn (Nat.le_refl _) 0 (.int .i64 (1 + (x : Int))) (kA (1 + (x : Int))) none 0 0 none 0 0 rfl (none_at _ _) ⟨fun h => absurd h (by omega), fun h => absurd h (by omega)⟩).empty)
          clear hI hL hX hpl hne hA hD hxe
          generalize S (actWs.getD x []) = nm at *
          generalize S (c1 s) = fm at *
          gi_wp2_with (rw [Oper.semAt_eq _ _ _ (fun c h => by cases h)]; go_simp; try go_bits)
          refine ⟨⟨by simp, fun b hb hl => setCell_kept _ _ _ _ _ (by have := HSZ4.out; omega)⟩, rfl, ?_⟩
          rw [← HXE.out, kind_at x (by have := HX.out; have := HPL.out; omega)]
          have h := HT3.out
          rw [← HXE.out] at h
          exact h
        · have he : ((S (actWs.getD x [])).toList == (S (c1 s)).toList) = false := by
            rw [ByteArray.toList_eq, ByteArray.toList_eq]
            show (actWs.getD x [] == c1 s) = false
            simpa using hxe
          have HXE := Lib.hid hxe
          clear hI hL hX hpl hne hA hD hxe
          generalize S (actWs.getD x []) = nm at *
          generalize S (c1 s) = fm at *
          gi_wp2_with (rw [Oper.semAt_eq _ _ _ (fun c h => by cases h)]; go_simp; try go_bits)
          refine ⟨Stay.refl _ _, HI.out, fun j hj => ?_⟩
          rw [List.length_append, List.length_singleton] at hj
          by_cases hjx : j = x
          · rw [hjx]; exact HXE.out
          · exact HNE.out j (by have := HX.out; omega)
      case done =>
        rintro xs W hS ⟨h1, h2⟩ hD
        refine ⟨.inl rfl, hin.out _ _ ⟨?_, ?_, ?_⟩⟩
        · rw [HSZ4.out]
        · rw [kind_none _ (fun j hj => h2 j (by rw [hS]; exact hj))]
          exact h1
        · rw [HSZ4.out] at hD; exact hD
      case stop =>
        rintro c pre W ⟨rfl, h2⟩ hD
        refine wpIn_wide.2 (wp_exit ?_)
        refine ⟨.inr rfl, hin.out _ _ ⟨?_, h2, ?_⟩⟩
        · rw [HSZ4.out]
        · rw [HSZ4.out] at hD; exact hD
  · rintro e a' W' ⟨he, hp⟩
    obtain ⟨rfl, hro, hdf⟩ := hout.out _ _ hp
    have HRO2 := Lib.hid hro
    have HDF := Lib.hid hdf
    clear hin hout hp hro hdf HNT HRO HSZ4
    refine inBlock_norm he ?_
    clear he
    go_wp2_with fail
    go_step3
    go_wp2_with fail
    obtain ⟨kd, hkd⟩ : ∃ kd, kd = kindOf (c1 s) := ⟨_, rfl⟩
    rw [← hkd] at HRO2
    have HKD := Lib.hid hkd
    have HK : Hid ((Lit.int .i64 kd).wf = true) := Lib.hid (by rw [hkd]; rcases kindOf_cases (c1 s) with h | h | h | h | h | h | h | h <;> rw [h] <;> decide)
    clear hkd
    generalize W' = WA at HRO2 HDF ⊢
    have HSHP := Lib.hid fun (V : World) => shapes_any V
    have HLK := Lib.hid fun (V : World) (b n : Nat) (hm : V.ownsMap Tryz.prog 23 sheldE b n shD) => (look_sh hm kd HK.out).2
    have HC0 : Hid (WA.cell? ⟨w.heap.size + 3, 0, none⟩ = some (.int .i64 kd)) := Lib.hid (HRO2.out.cell rfl)
    have HQL : Hid (w.heap.size + 3 < WA.heap.size) := Lib.hid HRO2.out.lt
    obtain ⟨Post, hin, hout⟩ : ∃ Post : Act → World → Prop, Hid (∀ a' W', (∃ m it, a' = { tmps := List.toArray ((.string (S s)) :: undef :: (.pointer (some ⟨w.heap.size, 0, none⟩)) :: (.int .i64 0) :: (.pointer (some ⟨w.heap.size + 1, 0, none⟩)) :: (.pointer (some ⟨w.heap.size + 2, 0, none⟩)) :: (.bool b32) :: (.pointer (some ⟨w.heap.size + 3, 0, none⟩)) :: undef :: undef :: (.func (.func 24) #[] #[.pointer (some ⟨w.heap.size + 2, 0, none⟩)]) :: undef :: undef :: undef :: undef :: (.tuple #[.string (S (c1 s)), .string (S (c2 s)), .bool b32]) :: (.string (S s)) :: (.tuple #[.string (S (c1 s)), .string (S (c2 s)), .bool b32]) :: (.string (S (c1 s))) :: (.string (S (c2 s))) :: (.bool b32) :: (.func (.func 53) #[] #[]) :: undef :: undef :: undef :: undef :: undef :: undef :: undef :: (.func (.func 24) #[] #[.pointer (some ⟨w.heap.size + 2, 0, none⟩)]) :: (.map (some m)) :: (.pointer (some ⟨w.heap.size + 3, 0, none⟩)) :: (.int .i64 kd) :: (shV kd) :: (.string (S (shW kd))) :: (.pointer (some ⟨it, 0, none⟩)) :: undef :: undef :: undef :: undef :: undef :: undef :: undef :: undef :: undef :: undef :: undef :: undef :: undef :: undef :: undef :: undef :: undef :: undef :: undef :: undef :: undef :: undef :: undef :: undef :: undef :: undef :: undef :: undef :: undef :: undef :: undef :: undef :: undef :: undef :: undef :: undef :: undef :: undef :: undef :: undef :: undef :: undef :: undef :: undef :: undef :: undef :: undef :: undef :: undef :: undef :: undef :: undef :: []), defers := [{ target := .collected (w.heap.size + 4), args := #[] }] } ∧ Below WA.heap.size WA W' ∧ W'.heap[it]? = some (.stringIter (S (shW kd)) 0) ∧ WA.heap.size ≤ it) → Post a' W') ∧ Hid (∀ a' W', Post a' W' → (∃ m it, a' = { tmps := List.toArray ((.string (S s)) :: undef :: (.pointer (some ⟨w.heap.size, 0, none⟩)) :: (.int .i64 0) :: (.pointer (some ⟨w.heap.size + 1, 0, none⟩)) :: (.pointer (some ⟨w.heap.size + 2, 0, none⟩)) :: (.bool b32) :: (.pointer (some ⟨w.heap.size + 3, 0, none⟩)) :: undef :: undef :: (.func (.func 24) #[] #[.pointer (some ⟨w.heap.size + 2, 0, none⟩)]) :: undef :: undef :: undef :: undef :: (.tuple #[.string (S (c1 s)), .string (S (c2 s)), .bool b32]) :: (.string (S s)) :: (.tuple #[.string (S (c1 s)), .string (S (c2 s)), .bool b32]) :: (.string (S (c1 s))) :: (.string (S (c2 s))) :: (.bool b32) :: (.func (.func 53) #[] #[]) :: undef :: undef :: undef :: undef :: undef :: undef :: undef :: (.func (.func 24) #[] #[.pointer (some ⟨w.heap.size + 2, 0, none⟩)]) :: (.map (some m)) :: (.pointer (some ⟨w.heap.size + 3, 0, none⟩)) :: (.int .i64 kd) :: (shV kd) :: (.string (S (shW kd))) :: (.pointer (some ⟨it, 0, none⟩)) :: undef :: undef :: undef :: undef :: undef :: undef :: undef :: undef :: undef :: undef :: undef :: undef :: undef :: undef :: undef :: undef :: undef :: undef :: undef :: undef :: undef :: undef :: undef :: undef :: undef :: undef :: undef :: undef :: undef :: undef :: undef :: undef :: undef :: undef :: undef :: undef :: undef :: undef :: undef :: undef :: undef :: undef :: undef :: undef :: undef :: undef :: undef :: undef :: undef :: undef :: undef :: undef :: []), defers := [{ target := .collected (w.heap.size + 4), args := #[] }] } ∧ Below WA.heap.size WA W' ∧ W'.heap[it]? = some (.stringIter (S (shW kd)) 0) ∧ WA.heap.size ≤ it)) := ⟨_, Lib.hid fun _ _ h => h, Lib.hid fun _ _ h => h⟩
    refine Code.wp_mono (Q := Exit.then Post (fun _ _ _ => False)) ?_ ?_
    rotate_left
    · as_aux_lemma =>
        refine wp_region_inv' 6 rfl (fun L a' w' => ∃ y0 y1 y2 y3 y4 y5 : Value, a' = { tmps := List.toArray ((.string (S s)) :: undef :: (.pointer (some ⟨w.heap.size, 0, none⟩)) :: (.int .i64 0) :: (.pointer (some ⟨w.heap.size + 1, 0, none⟩)) :: (.pointer (some ⟨w.heap.size + 2, 0, none⟩)) :: (.bool b32) :: (.pointer (some ⟨w.heap.size + 3, 0, none⟩)) :: undef :: undef :: (.func (.func 24) #[] #[.pointer (some ⟨w.heap.size + 2, 0, none⟩)]) :: undef :: undef :: undef :: undef :: (.tuple #[.string (S (c1 s)), .string (S (c2 s)), .bool b32]) :: (.string (S s)) :: (.tuple #[.string (S (c1 s)), .string (S (c2 s)), .bool b32]) :: (.string (S (c1 s))) :: (.string (S (c2 s))) :: (.bool b32) :: (.func (.func 53) #[] #[]) :: undef :: undef :: undef :: undef :: undef :: undef :: undef :: (.func (.func 24) #[] #[.pointer (some ⟨w.heap.size + 2, 0, none⟩)]) :: y0 :: y1 :: y2 :: y3 :: y4 :: y5 :: undef :: undef :: undef :: undef :: undef :: undef :: undef :: undef :: undef :: undef :: undef :: undef :: undef :: undef :: undef :: undef :: undef :: undef :: undef :: undef :: undef :: undef :: undef :: undef :: undef :: undef :: undef :: undef :: undef :: undef :: undef :: undef :: undef :: undef :: undef :: undef :: undef :: undef :: undef :: undef :: undef :: undef :: undef :: undef :: undef :: undef :: undef :: undef :: undef :: undef :: undef :: undef :: []), defers := [{ target := .collected (w.heap.size + 4), args := #[] }] } ∧ (L 0 = true → ∃ m, y0 = .map (some m)) ∧ (L 1 = true → y1 = .pointer (some ⟨w.heap.size + 3, 0, none⟩)) ∧ (L 2 = true → y2 = .int .i64 kd) ∧ (L 3 = true → y3 = shV kd) ∧ (L 4 = true → y4 = .string (S (shW kd))) ∧ (L 5 = true → ∃ i, y5 = .pointer (some ⟨i, 0, none⟩) ∧ WA.heap.size ≤ i) ∧ (Below WA.heap.size WA w') ∧ (L 0 = true → L 3 = false → ∀ m, y0 = .map (some m) → ∃ n, w'.ownsMap Tryz.prog 23 sheldE m n shD) ∧ (L 5 = true → ∀ i, y5 = .pointer (some ⟨i, 0, none⟩) → w'.heap[i]? = some (.stringIter (S (shW kd)) 0))) (by kernel_rfl) (by kernel_rfl) ?h0 ?step ?fin
        case h0 => exact ⟨undef, undef, undef, undef, undef, undef, rfl, (fun e => by simp at e), (fun e => by simp at e), (fun e => by simp at e), (fun e => by simp at e), (fun e => by simp at e), (fun e => by simp at e), (Below.refl _ _).drew, (fun e => by simp at e), (fun e => by simp at e)⟩
        case step =>
          rintro i hi L a' w' hLi hcl hdp ⟨y0, y1, y2, y3, y4, y5, rfl, e0, e1, e2, e3, e4, e5, hw0, hw1, hw2⟩
          have hi2 : i = 0 ∨ i = 1 ∨ i = 2 ∨ i = 3 ∨ i = 4 ∨ i = 5 := by omega
          rcases hi2 with rfl | rfl | rfl | rfl | rfl | rfl
          · have HF0 := Lib.hid hw0; have HF1 := Lib.hid hw1; have HF2 := Lib.hid hw2
            have E1 := Lib.hid e1; have E2 := Lib.hid e2; have E3 := Lib.hid e3; have E4 := Lib.hid e4; have E5 := Lib.hid e5
            clear e0 e1 e2 e3 e4 e5 hw0 hw1 hw2
            refine wpOp_step rfl (fun K hK => ?_)
            go_simp
            refine (HSHP.out _).mono ?_
            rintro e v1 ⟨rfl, hm, hb1⟩
            have HBV := Lib.hid (HF0.out.trans (hb1.mono HF0.out.size))
            exact hK _ _ ⟨_, _, _, _, _, _, rfl, (fun _ => ⟨_, rfl⟩), (fun h => E1.out (by simpa [upOn] using h)), (fun h => E2.out (by simpa [upOn] using h)), (fun h => E3.out (by simpa [upOn] using h)), (fun h => E4.out (by simpa [upOn] using h)), (fun h => E5.out (by simpa [upOn] using h)), HBV.out, (fun _ _ m hm' => by cases hm'; exact ⟨7, hm⟩), (fun h b hb => by have h1 := HF2.out (by simpa [upOn] using h) b hb; exact (hb1.block b (Array.getElem?_eq_some_iff.1 h1).1).trans h1)⟩
          · have HF0 := Lib.hid hw0; have HF1 := Lib.hid hw1; have HF2 := Lib.hid hw2
            have E0 := Lib.hid e0; have E2 := Lib.hid e2; have E3 := Lib.hid e3; have E4 := Lib.hid e4; have E5 := Lib.hid e5
            clear e0 e1 e2 e3 e4 e5 hw0 hw1 hw2
            refine wpOp_step rfl (fun K hK => ?_)
            go_simp
            exact hK _ _ ⟨_, _, _, _, _, _, rfl, (fun h => E0.out (by simpa [upOn] using h)), (fun _ => rfl), (fun h => E2.out (by simpa [upOn] using h)), (fun h => E3.out (by simpa [upOn] using h)), (fun h => E4.out (by simpa [upOn] using h)), (fun h => E5.out (by simpa [upOn] using h)), HF0.out, (fun h0 h1 => HF1.out (by simpa [upOn] using h0) (by simpa [upOn] using h1)), (fun h0 => HF2.out (by simpa [upOn] using h0))⟩
          · have HF0 := Lib.hid hw0; have HF1 := Lib.hid hw1; have HF2 := Lib.hid hw2
            have l1 := (hdp 1 (by kernel_rfl))
            obtain rfl := e1 l1
            have E0 := Lib.hid e0; have E3 := Lib.hid e3; have E4 := Lib.hid e4; have E5 := Lib.hid e5
            clear e0 e1 e2 e3 e4 e5 hw0 hw1 hw2
            have k0 : w'.cell? ⟨w.heap.size + 3, 0, none⟩ = some (.int .i64 kd) := (HF0.out.cell HQL.out).trans HC0.out
            refine wpOp_step rfl (fun K hK => ?_)
            go_simp
            exact hK _ _ ⟨_, _, _, _, _, _, rfl, (fun h => E0.out (by simpa [upOn] using h)), (fun _ => rfl), (fun _ => rfl), (fun h => E3.out (by simpa [upOn] using h)), (fun h => E4.out (by simpa [upOn] using h)), (fun h => E5.out (by simpa [upOn] using h)), HF0.out, (fun h0 h1 => HF1.out (by simpa [upOn] using h0) (by simpa [upOn] using h1)), (fun h0 => HF2.out (by simpa [upOn] using h0))⟩
          · have HF0 := Lib.hid hw0; have HF1 := Lib.hid hw1; have HF2 := Lib.hid hw2
            have l0 := (hdp 0 (by kernel_rfl))
            have l2 := (hdp 2 (by kernel_rfl))
            obtain ⟨m, rfl⟩ := e0 l0
            obtain rfl := e2 l2
            have E1 := Lib.hid e1; have E4 := Lib.hid e4; have E5 := Lib.hid e5
            clear e0 e1 e2 e3 e4 e5 hw0 hw1 hw2
            refine wpOp_step rfl (fun K hK => ?_)
            obtain ⟨n, hm⟩ := HF1.out l0 hLi m rfl
            have hl := HLK.out _ _ _ hm
            go_simp
            exact hK _ _ ⟨_, _, _, _, _, _, rfl, (fun _ => ⟨_, rfl⟩), (fun h => E1.out (by simpa [upOn] using h)), (fun _ => rfl), (fun _ => rfl), (fun h => E4.out (by simpa [upOn] using h)), (fun h => E5.out (by simpa [upOn] using h)), HF0.out, (fun h0 h1 => by simp [upOn] at h1), (fun h0 => HF2.out (by simpa [upOn] using h0))⟩
          · have HF0 := Lib.hid hw0; have HF1 := Lib.hid hw1; have HF2 := Lib.hid hw2
            have l3 := (hdp 3 (by kernel_rfl))
            obtain rfl := e3 l3
            have E0 := Lib.hid e0; have E1 := Lib.hid e1; have E2 := Lib.hid e2; have E5 := Lib.hid e5
            clear e0 e1 e2 e3 e4 e5 hw0 hw1 hw2
            refine wpOp_step rfl (fun K hK => ?_)
            unfold shV
            go_simp
            exact hK _ _ ⟨_, _, _, _, _, _, rfl, (fun h => E0.out (by simpa [upOn] using h)), (fun h => E1.out (by simpa [upOn] using h)), (fun h => E2.out (by simpa [upOn] using h)), (fun _ => rfl), (fun _ => rfl), (fun h => E5.out (by simpa [upOn] using h)), HF0.out, (fun h0 h1 => HF1.out (by simpa [upOn] using h0) (by simpa [upOn] using h1)), (fun h0 => HF2.out (by simpa [upOn] using h0))⟩
          · have HF0 := Lib.hid hw0; have HF1 := Lib.hid hw1; have HF2 := Lib.hid hw2
            have l4 := (hdp 4 (by kernel_rfl))
            obtain rfl := e4 l4
            have E0 := Lib.hid e0; have E1 := Lib.hid e1; have E2 := Lib.hid e2; have E3 := Lib.hid e3
            clear e0 e1 e2 e3 e4 e5 hw0 hw1 hw2
            refine wpOp_step rfl (fun K hK => ?_)
            go_simp
            have HBV := Lib.hid (HF0.out.alloc HF0.out.size (.stringIter (S (shW kd)) 0))
            exact hK _ _ ⟨_, _, _, _, _, _, rfl, (fun h => E0.out (by simpa [upOn] using h)), (fun h => E1.out (by simpa [upOn] using h)), (fun h => E2.out (by simpa [upOn] using h)), (fun h => E3.out (by simpa [upOn] using h)), (fun _ => rfl), (fun _ => ⟨_, rfl, HF0.out.size⟩), HBV.out, (fun h k m hm => by obtain ⟨n, hx⟩ := HF1.out (by simpa [upOn] using h) (by simpa [upOn] using k) m hm; exact ⟨n, hx.alloc _⟩), (fun h b hb => by cases hb; exact heap_alloc_new w' (.stringIter (S (shW kd)) 0))⟩
        case fin =>
          rintro L a' w' hall ⟨y0, y1, y2, y3, y4, y5, rfl, e0, e1, e2, e3, e4, e5, hw0, hw1, hw2⟩
          obtain ⟨m, rfl⟩ := e0 (hall 0 (by omega))
          obtain rfl := e1 (hall 1 (by omega))
          obtain rfl := e2 (hall 2 (by omega))
          obtain rfl := e3 (hall 3 (by omega))
          obtain rfl := e4 (hall 4 (by omega))
          obtain ⟨it, rfl, hi1⟩ := e5 (hall 5 (by omega))
          exact hin.out _ _ ⟨m, it, rfl, hw0, hw2 (hall 5 (by omega)) it rfl, hi1⟩
    · intro e a' W' hE0
      have hen : e = Exit.normal := by cases e <;> first | rfl | exact hE0.elim
      subst hen
      obtain ⟨m, it, rfl, hb, hit, hlt⟩ := hout.out _ _ hE0
      clear hin hout hE0 HLK HSHP HC0
      go_wp2_with fail
      have hlo : LO w W' W'.heap.size (c1 s) (c2 s) (kA kd) none 0 0 none 0 0 it (S (shW kd)) 0 := ⟨(HRO2.out.below hb).empty, hit, (hb.block _ (Array.getElem?_eq_some_iff.1 HDF.out).1).trans HDF.out, by have := (Array.getElem?_eq_some_iff.1 HDF.out).1; omega, (Array.getElem?_eq_some_iff.1 hit).1, Nat.le_refl _⟩
      have HSH := Lib.hid (shW_let kd)
      have HSL := Lib.hid (shW_len kd)
      have HLA := Lib.hid (shW_last kd)
      have HPC : Hid (((shW kd).foldl rdT (kA kd, c2 s)).1 = pC s) := Lib.hid (by rw [HKD.out]; exact pC_fold s)
      obtain ⟨ps, hps⟩ : ∃ ps, ps = S (shW kd) := ⟨_, rfl⟩
      obtain ⟨ls, hlse⟩ : ∃ ls, ls = shW kd := ⟨_, rfl⟩
      rw [← hps] at hlo
      have HPS : Hid (ps = S ls) := Lib.hid (by rw [hps, hlse])
      rw [← hlse] at HSH HSL HLA HPC
      have HMZ : Hid (w.heap.size + 5 ≤ W'.heap.size) := Lib.hid (by have := hlo.h1; have := hlo.h2; omega)
      generalize W'.heap.size = Mz at hlo HMZ
      have HLO := Lib.hid hlo
      clear hps hlse hlo hb hit hlt HRO2 HDF HQL
      obtain ⟨Post, hin, hout⟩ : ∃ Post : Act → World → Prop, Hid (∀ a' W', (∃ (u11 u12 u36 u37 u38 u39 u40 u41 u42 u43 u44 u45 u46 u47 u48 u49 u50 u51 u52 u53 u54 u55 u56 u57 u58 u59 u60 u61 u62 u63 u64 u65 u66 u67 u68 u69 u70 u71 u72 u73 : Value) (R : List UInt8) (bA : Option Addr) (bn bc : Nat) (nA : Option Addr) (nn nc : Nat), a' = { tmps := List.toArray ((.string (S s)) :: undef :: (.pointer (some ⟨w.heap.size, 0, none⟩)) :: (.int .i64 0) :: (.pointer (some ⟨w.heap.size + 1, 0, none⟩)) :: (.pointer (some ⟨w.heap.size + 2, 0, none⟩)) :: (.bool b32) :: (.pointer (some ⟨w.heap.size + 3, 0, none⟩)) :: undef :: undef :: (.func (.func 24) #[] #[.pointer (some ⟨w.heap.size + 2, 0, none⟩)]) :: u11 :: u12 :: undef :: undef :: (.tuple #[.string (S (c1 s)), .string (S (c2 s)), .bool b32]) :: (.string (S s)) :: (.tuple #[.string (S (c1 s)), .string (S (c2 s)), .bool b32]) :: (.string (S (c1 s))) :: (.string (S (c2 s))) :: (.bool b32) :: (.func (.func 53) #[] #[]) :: undef :: undef :: undef :: undef :: undef :: undef :: undef :: (.func (.func 24) #[] #[.pointer (some ⟨w.heap.size + 2, 0, none⟩)]) :: (.map (some m)) :: (.pointer (some ⟨w.heap.size + 3, 0, none⟩)) :: (.int .i64 kd) :: (shV kd) :: (.string (S (shW kd))) :: (.pointer (some ⟨it, 0, none⟩)) :: u36 :: u37 :: u38 :: u39 :: u40 :: u41 :: u42 :: u43 :: u44 :: u45 :: u46 :: u47 :: u48 :: u49 :: u50 :: u51 :: u52 :: u53 :: u54 :: u55 :: u56 :: u57 :: u58 :: u59 :: u60 :: u61 :: u62 :: u63 :: u64 :: u65 :: u66 :: u67 :: u68 :: u69 :: u70 :: u71 :: u72 :: u73 :: undef :: undef :: undef :: undef :: undef :: undef :: undef :: undef :: undef :: undef :: undef :: undef :: undef :: undef :: []), defers := [{ target := .collected (w.heap.size + 4), args := #[] }] } ∧ RO w W' Mz (c1 s) R (pC s) bA bn bc nA nn nc ∧ W'.heap[w.heap.size + 4]? = some (.deferred (some []))) → Post a' W') ∧ Hid (∀ a' W', Post a' W' → (∃ (u11 u12 u36 u37 u38 u39 u40 u41 u42 u43 u44 u45 u46 u47 u48 u49 u50 u51 u52 u53 u54 u55 u56 u57 u58 u59 u60 u61 u62 u63 u64 u65 u66 u67 u68 u69 u70 u71 u72 u73 : Value) (R : List UInt8) (bA : Option Addr) (bn bc : Nat) (nA : Option Addr) (nn nc : Nat), a' = { tmps := List.toArray ((.string (S s)) :: undef :: (.pointer (some ⟨w.heap.size, 0, none⟩)) :: (.int .i64 0) :: (.pointer (some ⟨w.heap.size + 1, 0, none⟩)) :: (.pointer (some ⟨w.heap.size + 2, 0, none⟩)) :: (.bool b32) :: (.pointer (some ⟨w.heap.size + 3, 0, none⟩)) :: undef :: undef :: (.func (.func 24) #[] #[.pointer (some ⟨w.heap.size + 2, 0, none⟩)]) :: u11 :: u12 :: undef :: undef :: (.tuple #[.string (S (c1 s)), .string (S (c2 s)), .bool b32]) :: (.string (S s)) :: (.tuple #[.string (S (c1 s)), .string (S (c2 s)), .bool b32]) :: (.string (S (c1 s))) :: (.string (S (c2 s))) :: (.bool b32) :: (.func (.func 53) #[] #[]) :: undef :: undef :: undef :: undef :: undef :: undef :: undef :: (.func (.func 24) #[] #[.pointer (some ⟨w.heap.size + 2, 0, none⟩)]) :: (.map (some m)) :: (.pointer (some ⟨w.heap.size + 3, 0, none⟩)) :: (.int .i64 kd) :: (shV kd) :: (.string (S (shW kd))) :: (.pointer (some ⟨it, 0, none⟩)) :: u36 :: u37 :: u38 :: u39 :: u40 :: u41 :: u42 :: u43 :: u44 :: u45 :: u46 :: u47 :: u48 :: u49 :: u50 :: u51 :: u52 :: u53 :: u54 :: u55 :: u56 :: u57 :: u58 :: u59 :: u60 :: u61 :: u62 :: u63 :: u64 :: u65 :: u66 :: u67 :: u68 :: u69 :: u70 :: u71 :: u72 :: u73 :: undef :: undef :: undef :: undef :: undef :: undef :: undef :: undef :: undef :: undef :: undef :: undef :: undef :: undef :: []), defers := [{ target := .collected (w.heap.size + 4), args := #[] }] } ∧ RO w W' Mz (c1 s) R (pC s) bA bn bc nA nn nc ∧ W'.heap[w.heap.size + 4]? = some (.deferred (some [])))) := ⟨_, Lib.hid fun _ _ h => h, Lib.hid fun _ _ h => h⟩
      refine Code.wp_mono (Q := fun e a W => e = .exit 2 ∧ Post a W) ?_ ?_
      rotate_left
      · as_aux_lemma =>
          go_loopw [12] (fun rv wr => ∃ (pos : Nat), pos ≤ ls.length ∧ Hid (∃ bA bn bc nA nn nc, LO w wr Mz (c1 s) ((ls.take pos).foldl rdT (kA kd, c2 s)).2 ((ls.take pos).foldl rdT (kA kd, c2 s)).1 bA bn bc nA nn nc it ps pos) ∧ Hid (((ls.take pos).foldl rdT (kA kd, c2 s)).2.length ≤ 1000000)) (fun _ wr => ls.length - wr.iterPos it)
          case atStart => exact ⟨0, Nat.zero_le _, Lib.hid ⟨_, _, _, _, _, _, HLO.out⟩, Lib.hid (by have := c2_len s; simp only [List.take_zero, List.foldl_nil]; omega)⟩
          case round =>
            clear HLO
            obtain ⟨pos, hpos, HL, HN⟩ := hrel
            obtain ⟨bA, bn, bc, nA, nn, nc, hL⟩ := HL.out
            have hpsz : ps.size = ls.length := by rw [HPS.out, S_size]
            by_cases hp : pos < ls.length
            · have hp' : pos < ps.size := by rw [hpsz]; exact hp
              have hg : ps[pos] = ls[pos] := by
                have h := HPS.out
                subst h
                rfl
              have hlet := HSH.out _ (List.getElem_mem hp)
              have hstep : (ls.take (pos + 1)).foldl rdT (kA kd, c2 s) = rdT ((ls.take pos).foldl rdT (kA kd, c2 s)) ls[pos] := by
                rw [List.take_succ_eq_append_getElem hp, List.foldl_append]; rfl
              have hlt128 : (ps[pos]'hp').toNat < 128 := by
                rw [hg]
                unfold okLet at hlet
                rcases hlet with h | h | h | h | h | h | h <;> rw [h] <;> decide
              obtain ⟨w1, hnx, hm1⟩ := hL.next hp' hlt128
              rw [hg] at hnx
              have HL1 := Lib.hid hm1
              have HPM := Lib.hid hL.ipos
              have HRL := Lib.hid HN.out
              have HLAST := Lib.hid (HLA.out pos hp)
              clear hm1 hlt128 hg hp' hpsz HL HN hL
              obtain ⟨x, hx⟩ : ∃ x, x = (ls.take pos).foldl rdT (kA kd, c2 s) := ⟨_, rfl⟩
              rw [← hx] at HL1 HRL hstep
              clear hx
              obtain ⟨A0, R⟩ := x
              replace HL1 : Hid (LO w w1 Mz (c1 s) R A0 bA bn bc nA nn nc it ps (pos + 1)) := HL1
              replace HRL : Hid (R.length ≤ 1000000) := HRL
              obtain ⟨c, hc⟩ : ∃ c, c = ls[pos] := ⟨_, rfl⟩
              rw [← hc] at hlet hstep hnx HLAST
              clear hc
              have hfin : ∀ (wz : World) (y : Ac × List UInt8), y = (ls.take (pos + 1)).foldl rdT (kA kd, c2 s) → (∃ bA bn bc nA nn nc, LO w wz Mz (c1 s) y.2 y.1 bA bn bc nA nn nc it ps (pos + 1)) → y.2.length ≤ 1000000 → (∃ (pos : Nat), pos ≤ ls.length ∧ Hid (∃ bA bn bc nA nn nc, LO w wz Mz (c1 s) ((ls.take pos).foldl rdT (kA kd, c2 s)).2 ((ls.take pos).foldl rdT (kA kd, c2 s)).1 bA bn bc nA nn nc it ps pos) ∧ Hid (((ls.take pos).foldl rdT (kA kd, c2 s)).2.length ≤ 1000000)) ∧ ls.length - wz.iterPos it < ls.length - wr.iterPos it := by
                rintro wz y rfl ⟨b1, b2, b3, b4, b5, b6, hz⟩ hR
                exact ⟨⟨pos + 1, hp, Lib.hid ⟨b1, b2, b3, b4, b5, b6, hz⟩, Lib.hid hR⟩, by rw [hz.ipos, HPM.out]; omega⟩
              have HFIN := Lib.hid hfin
              have HWORD := Lib.hid (HL1.out.word HRL.out hM)
              have HC2 := Lib.hid (Nat.le_trans (c2_len R) HRL.out)
              have HC1 := Lib.hid (Nat.le_trans (c1_len R) HRL.out)
              have HST := Lib.hid hstep
              have HPE : Hid (∀ y : Ac × List UInt8, y = (ls.take (pos + 1)).foldl rdT (kA kd, c2 s) → pos + 1 = ls.length → y.1 = pC s) := Lib.hid fun y hy he => by rw [hy, List.take_of_length_le (by omega)]; exact HPC.out
              have k0 : w1.cell? ⟨w.heap.size + 2, 0, none⟩ = some (.string (S R)) := box_cell HL1.out.ro.rst
              clear hfin hstep
              unfold okLet at hlet
              rcases hlet with rfl | rfl | rfl | rfl | rfl | rfl | rfl
              · replace hnx : ∀ ty, (Instr.next (.pointer (some ⟨it, 0, none⟩)) true ty).run Tryz.prog wr = .ok (.tuple #[.bool true, .int .i64 pos, .int .i32 110]) w1 := hnx
                go_wp2_with (go_at_call 24; (with_reducible refine HWORD.out.mono ?_); rintro e w2 ⟨rfl, hl2⟩; have HL2 := Lib.hid hl2; have k1 : w2.cell? ⟨w.heap.size + 3, 1, none⟩ = some (.string (S A0.name)) := hl2.ro.cell rfl; have f1 := hl2.ro.frz 1; clear hl2)
                exact HFIN.out _ ({ A0 with name := c1 R }, c2 R) (by rw [HST.out]; rfl) ⟨_, _, _, _, _, _, HL2.out.turn 1 (.string (S (c1 R))) { A0 with name := c1 R } _ _ _ _ _ _ rfl ⟨by have := HC1.out; show (c1 R).length ≤ maxLen; unfold maxLen; omega, HL2.out.ro.ats.hbr, HL2.out.ro.ats.hbb, HL2.out.ro.ats.hbn, HL2.out.ro.ats.hbc, HL2.out.ro.ats.hnr, HL2.out.ro.ats.hnn, HL2.out.ro.ats.hm, HL2.out.ro.ats.hf⟩ HL2.out.ro.lo⟩ HC2.out
              · replace hnx : ∀ ty, (Instr.next (.pointer (some ⟨it, 0, none⟩)) true ty).run Tryz.prog wr = .ok (.tuple #[.bool true, .int .i64 pos, .int .i32 109]) w1 := hnx
                go_wp2_with (go_at_call 24; (with_reducible refine HWORD.out.mono ?_); rintro e w2 ⟨rfl, hl2⟩; have HL2 := Lib.hid hl2; have k1 : w2.cell? ⟨w.heap.size + 3, 1, none⟩ = some (.string (S A0.name)) := hl2.ro.cell rfl; have f1 := hl2.ro.frz 1; clear hl2)
                exact HFIN.out _ ({ A0 with name := c1 R }, c2 R) (by rw [HST.out]; rfl) ⟨_, _, _, _, _, _, HL2.out.turn 1 (.string (S (c1 R))) { A0 with name := c1 R } _ _ _ _ _ _ rfl ⟨by have := HC1.out; show (c1 R).length ≤ maxLen; unfold maxLen; omega, HL2.out.ro.ats.hbr, HL2.out.ro.ats.hbb, HL2.out.ro.ats.hbn, HL2.out.ro.ats.hbc, HL2.out.ro.ats.hnr, HL2.out.ro.ats.hnn, HL2.out.ro.ats.hm, HL2.out.ro.ats.hf⟩ HL2.out.ro.lo⟩ HC2.out
              · replace hnx : ∀ ty, (Instr.next (.pointer (some ⟨it, 0, none⟩)) true ty).run Tryz.prog wr = .ok (.tuple #[.bool true, .int .i64 pos, .int .i32 98]) w1 := hnx
                go_wp2_with (first | (go_at_call 24; (with_reducible refine HWORD.out.mono ?_); rintro e w2 ⟨rfl, hl2⟩; have HL2 := Lib.hid hl2; have k2 : w2.cell? ⟨w.heap.size + 3, 2, none⟩ = some (.slice bA bn bc) := hl2.ro.cell rfl; have f2 := hl2.ro.frz 2; clear hl2) | (go_at_call 26; (with_reducible refine (ofHex_any (c1 R) HC1.out _).mono ?_); rintro e w3 ⟨A1, n1, q1, rfl, hrd, hn1, hn2, hlo1, hb3⟩; have HL3 := Lib.hid (HL2.out.below hb3); have HX := Lib.hid (⟨hrd, hn1, hn2, (fun h => (hlo1 h).imp fun x hx => ⟨hx.1, Nat.le_trans HL2.out.h3 hx.2⟩)⟩ : _ ∧ _ ∧ _ ∧ RLo Mz A1 n1); have k2 : w3.cell? ⟨w.heap.size + 3, 2, none⟩ = some (.slice bA bn bc) := HL3.out.ro.cell rfl; have f2 := HL3.out.ro.frz 2; clear hrd hn1 hn2 hlo1 hb3))
                exact HFIN.out _ ({ A0 with bytes := ofH (c1 R) }, c2 R) (by rw [HST.out]; rfl) ⟨_, _, _, _, _, _, HL3.out.turn 2 (.slice A1 n1 q1) { A0 with bytes := ofH (c1 R) } A1 n1 q1 _ _ _ rfl ⟨HL3.out.ro.ats.hnm, HX.out.1, ofH_bytes _, by have := HX.out.2.2.1; unfold maxLen; omega, HX.out.2.1, HL3.out.ro.ats.hnr, HL3.out.ro.ats.hnn, HL3.out.ro.ats.hm, HL3.out.ro.ats.hf⟩ ⟨HX.out.2.2.2, HL3.out.ro.lo.2⟩⟩ HC2.out
              · replace hnx : ∀ ty, (Instr.next (.pointer (some ⟨it, 0, none⟩)) true ty).run Tryz.prog wr = .ok (.tuple #[.bool true, .int .i64 pos, .int .i32 116]) w1 := hnx
                obtain ⟨q1, w3, hq1, hbw, hrd, hcv⟩ := conv_sb w1 R
                have HL3 := Lib.hid (HL1.out.below hbw)
                have HX := Lib.hid (And.intro hrd hq1)
                have k2 : w3.cell? ⟨w.heap.size + 3, 2, none⟩ = some (.slice bA bn bc) := HL3.out.ro.cell rfl; have f2 := HL3.out.ro.frz 2
                have HGE := Lib.hid HL1.out.h3
                clear hbw hrd hq1
                go_wp2_with fail
                have HL4 := HL3.out.turn 2 (.slice (some ⟨w1.heap.size, 0, none⟩) R.length q1) { A0 with bytes := R.map fun c => (c.toNat : Int) } (some ⟨w1.heap.size, 0, none⟩) R.length q1 nA nn nc rfl ⟨HL3.out.ro.ats.hnm, HX.out.1, (by intro x hx; obtain ⟨c, -, rfl⟩ := List.mem_map.1 hx; have := c.toNat_lt; omega), (by have := HRL.out; unfold maxLen; omega), HX.out.2, HL3.out.ro.ats.hnr, HL3.out.ro.ats.hnn, HL3.out.ro.ats.hm, HL3.out.ro.ats.hf⟩ ⟨fun _ => ⟨_, rfl, HGE.out⟩, HL3.out.ro.lo.2⟩
                have he : ({ A0 with bytes := R.map fun c => (c.toNat : Int) } : Ac) = pC s := HPE.out ({ A0 with bytes := R.map fun c => (c.toNat : Int) }, R) (by rw [HST.out]; rfl) (HLAST.out (by simp))
                rw [he] at HL4
                first | exact hin.out _ _ ⟨_, _, _, _, _, _, _, _, _, _, _, _, _, _, _, _, _, _, _, _, _, _, _, _, _, _, _, _, _, _, _, _, _, _, _, _, _, _, _, _, _, _, _, _, _, _, _, rfl, HL4.ro, HL4.dfr⟩ | exact ⟨trivial, hin.out _ _ ⟨_, _, _, _, _, _, _, _, _, _, _, _, _, _, _, _, _, _, _, _, _, _, _, _, _, _, _, _, _, _, _, _, _, _, _, _, _, _, _, _, _, _, _, _, _, _, _, rfl, HL4.ro, HL4.dfr⟩⟩ | exact ⟨rfl, hin.out _ _ ⟨_, _, _, _, _, _, _, _, _, _, _, _, _, _, _, _, _, _, _, _, _, _, _, _, _, _, _, _, _, _, _, _, _, _, _, _, _, _, _, _, _, _, _, _, _, _, _, rfl, HL4.ro, HL4.dfr⟩⟩
              · replace hnx : ∀ ty, (Instr.next (.pointer (some ⟨it, 0, none⟩)) true ty).run Tryz.prog wr = .ok (.tuple #[.bool true, .int .i64 pos, .int .i32 105]) w1 := hnx
                go_wp2_with (first | (go_at_call 24; (with_reducible refine HWORD.out.mono ?_); rintro e w2 ⟨rfl, hl2⟩; have HL2 := Lib.hid hl2; have k4 : w2.cell? ⟨w.heap.size + 3, 4, none⟩ = some (.int .i64 A0.mem) := hl2.ro.cell rfl; have f4 := hl2.ro.frz 4; clear hl2) | (go_at_call 27; (with_reducible refine (number_any (c1 R) _ HC1.out (hT.below HL2.out.ro.hb) (hE.below HL2.out.ro.hb)).mono ?_); rintro e w3 ⟨rfl, hb3⟩; have HL3 := Lib.hid (HL2.out.below hb3); have k4 : w3.cell? ⟨w.heap.size + 3, 4, none⟩ = some (.int .i64 A0.mem) := HL3.out.ro.cell rfl; have f4 := HL3.out.ro.frz 4; clear hb3))
                exact HFIN.out _ ({ A0 with mem := numOf (c1 R) }, c2 R) (by rw [HST.out]; rfl) ⟨_, _, _, _, _, _, HL3.out.turn 4 (.int .i64 (numOf (c1 R))) { A0 with mem := numOf (c1 R) } _ _ _ _ _ _ rfl ⟨HL3.out.ro.ats.hnm, HL3.out.ro.ats.hbr, HL3.out.ro.ats.hbb, HL3.out.ro.ats.hbn, HL3.out.ro.ats.hbc, HL3.out.ro.ats.hnr, HL3.out.ro.ats.hnn, numOf_fits _, HL3.out.ro.ats.hf⟩ HL3.out.ro.lo⟩ HC2.out
              · replace hnx : ∀ ty, (Instr.next (.pointer (some ⟨it, 0, none⟩)) true ty).run Tryz.prog wr = .ok (.tuple #[.bool true, .int .i64 pos, .int .i32 102]) w1 := hnx
                go_wp2_with (first | (go_at_call 24; (with_reducible refine HWORD.out.mono ?_); rintro e w2 ⟨rfl, hl2⟩; have HL2 := Lib.hid hl2; have k5 : w2.cell? ⟨w.heap.size + 3, 5, none⟩ = some (.int .i64 A0.fuel) := hl2.ro.cell rfl; have f5 := hl2.ro.frz 5; clear hl2) | (go_at_call 27; (with_reducible refine (number_any (c1 R) _ HC1.out (hT.below HL2.out.ro.hb) (hE.below HL2.out.ro.hb)).mono ?_); rintro e w3 ⟨rfl, hb3⟩; have HL3 := Lib.hid (HL2.out.below hb3); have k5 : w3.cell? ⟨w.heap.size + 3, 5, none⟩ = some (.int .i64 A0.fuel) := HL3.out.ro.cell rfl; have f5 := HL3.out.ro.frz 5; clear hb3))
                exact HFIN.out _ ({ A0 with fuel := numOf (c1 R) }, c2 R) (by rw [HST.out]; rfl) ⟨_, _, _, _, _, _, HL3.out.turn 5 (.int .i64 (numOf (c1 R))) { A0 with fuel := numOf (c1 R) } _ _ _ _ _ _ rfl ⟨HL3.out.ro.ats.hnm, HL3.out.ro.ats.hbr, HL3.out.ro.ats.hbb, HL3.out.ro.ats.hbn, HL3.out.ro.ats.hbc, HL3.out.ro.ats.hnr, HL3.out.ro.ats.hnn, HL3.out.ro.ats.hm, numOf_fits _⟩ HL3.out.ro.lo⟩ HC2.out
              · replace hnx : ∀ ty, (Instr.next (.pointer (some ⟨it, 0, none⟩)) true ty).run Tryz.prog wr = .ok (.tuple #[.bool true, .int .i64 pos, .int .i32 108]) w1 := hnx
                go_wp2_with (go_at_call 28; (with_reducible refine (split_any R HRL.out _ (hM.below HL1.out.ro.hb)).mono ?_); rintro e w3 ⟨rfl, hnr, hb3⟩; have HL3 := Lib.hid (HL1.out.below hb3); have HX := Lib.hid hnr; have k3 : w3.cell? ⟨w.heap.size + 3, 3, none⟩ = some (.slice nA nn nc) := HL3.out.ro.cell rfl; have f3 := HL3.out.ro.frz 3; clear hnr hb3)
                have hsl : (spl R).length ≤ maxLen := by have := spl_count R; have := HRL.out; unfold maxLen; omega
                have HL4 := HL3.out.turn 3 (.slice (some ⟨w1.heap.size, 0, none⟩) (spl R).length (spl R).length) { A0 with names := spl R } bA bn bc (some ⟨w1.heap.size, 0, none⟩) (spl R).length (spl R).length rfl ⟨HL3.out.ro.ats.hnm, HL3.out.ro.ats.hbr, HL3.out.ro.ats.hbb, HL3.out.ro.ats.hbn, HL3.out.ro.ats.hbc, HX.out, hsl, HL3.out.ro.ats.hm, HL3.out.ro.ats.hf⟩ ⟨HL3.out.ro.lo.1, fun _ => ⟨_, rfl, HL1.out.h3⟩⟩
                have he : ({ A0 with names := spl R } : Ac) = pC s := HPE.out ({ A0 with names := spl R }, R) (by rw [HST.out]; rfl) (HLAST.out (by simp))
                rw [he] at HL4
                first | exact hin.out _ _ ⟨_, _, _, _, _, _, _, _, _, _, _, _, _, _, _, _, _, _, _, _, _, _, _, _, _, _, _, _, _, _, _, _, _, _, _, _, _, _, _, _, _, _, _, _, _, _, _, rfl, HL4.ro, HL4.dfr⟩ | exact ⟨trivial, hin.out _ _ ⟨_, _, _, _, _, _, _, _, _, _, _, _, _, _, _, _, _, _, _, _, _, _, _, _, _, _, _, _, _, _, _, _, _, _, _, _, _, _, _, _, _, _, _, _, _, _, _, rfl, HL4.ro, HL4.dfr⟩⟩ | exact ⟨rfl, hin.out _ _ ⟨_, _, _, _, _, _, _, _, _, _, _, _, _, _, _, _, _, _, _, _, _, _, _, _, _, _, _, _, _, _, _, _, _, _, _, _, _, _, _, _, _, _, _, _, _, _, _, rfl, HL4.ro, HL4.dfr⟩⟩
            · have hnx := hL.stop (by rw [hpsz]; exact hp)
              have hfin : ((ls.take pos).foldl rdT (kA kd, c2 s)).1 = pC s := by rw [List.take_of_length_le (by omega)]; exact HPC.out
              rw [hfin] at hL
              have HLE := Lib.hid hL
              clear hfin hpsz HSH HSL HLA HL hL
              go_wp2_with fail
              first | exact hin.out _ _ ⟨_, _, _, _, _, _, _, _, _, _, _, _, _, _, _, _, _, _, _, _, _, _, _, _, _, _, _, _, _, _, _, _, _, _, _, _, _, _, _, _, _, _, _, _, _, _, _, rfl, HLE.out.ro, HLE.out.dfr⟩ | exact ⟨trivial, hin.out _ _ ⟨_, _, _, _, _, _, _, _, _, _, _, _, _, _, _, _, _, _, _, _, _, _, _, _, _, _, _, _, _, _, _, _, _, _, _, _, _, _, _, _, _, _, _, _, _, _, _, rfl, HLE.out.ro, HLE.out.dfr⟩⟩ | exact ⟨rfl, hin.out _ _ ⟨_, _, _, _, _, _, _, _, _, _, _, _, _, _, _, _, _, _, _, _, _, _, _, _, _, _, _, _, _, _, _, _, _, _, _, _, _, _, _, _, _, _, _, _, _, _, _, rfl, HLE.out.ro, HLE.out.dfr⟩⟩
      · rintro e a' W2 ⟨rfl, hp⟩
        obtain ⟨u11, u12, u36, u37, u38, u39, u40, u41, u42, u43, u44, u45, u46, u47, u48, u49, u50, u51, u52, u53, u54, u55, u56, u57, u58, u59, u60, u61, u62, u63, u64, u65, u66, u67, u68, u69, u70, u71, u72, u73, R, bA, bn, bc, nA, nn, nc, rfl, hro, hdf⟩ := hout.out _ _ hp
        clear hin hout hp HLO HPS HSH HSL HLA HPC HKD
        have k0 : W2.cell? ⟨w.heap.size + 3, 0, none⟩ = some (.int .i64 (pC s).kind) := hro.cell rfl
        have k1 : W2.cell? ⟨w.heap.size + 3, 1, none⟩ = some (.string (S (pC s).name)) := hro.cell rfl
        have k2 : W2.cell? ⟨w.heap.size + 3, 2, none⟩ = some (.slice bA bn bc) := hro.cell rfl
        have k3 : W2.cell? ⟨w.heap.size + 3, 3, none⟩ = some (.slice nA nn nc) := hro.cell rfl
        have k4 : W2.cell? ⟨w.heap.size + 3, 4, none⟩ = some (.int .i64 (pC s).mem) := hro.cell rfl
        have k5 : W2.cell? ⟨w.heap.size + 3, 5, none⟩ = some (.int .i64 (pC s).fuel) := hro.cell rfl
        have HRO3 := Lib.hid hro
        have HDF3 := Lib.hid hdf
        have HKF : Hid ((Lit.int .i64 (pC s).kind).wf = true) := Lib.hid (pC_kind_wf s)
        clear hro hdf
        have hZ : ∀ V, Below W2.heap.size W2 V → V.heap[w.heap.size]? = some (.cells zAct 27 (0, 0)) ∧ V.heap[w.heap.size + 3]? = some (.cells (actC (pC s).kind (pC s).name bA bn bc nA nn nc (pC s).mem (pC s).fuel) 27 (0, 0)) ∧ V.heap[w.heap.size + 4]? = some (.deferred (some [])) := fun V hV => ⟨(hV.block _ (Array.getElem?_eq_some_iff.1 HRO3.out.res).1).trans HRO3.out.res, (hV.block _ (Array.getElem?_eq_some_iff.1 HRO3.out.act).1).trans HRO3.out.act, (hV.block _ (Array.getElem?_eq_some_iff.1 HDF3.out).1).trans HDF3.out⟩
        have HZ := Lib.hid hZ
        clear hZ
        cases hmay : (pC s).may with
        | false =>
          have HAT := Lib.hid (acttext_no W2 (pC s) bA bn bc nA nn nc HRO3.out.ats HKF.out hmay)
          unfold actC at HAT
          have HMA := Lib.hid hmay
          clear hmay
          go_wp2_with (go_at_call 20; (with_reducible refine HAT.out.mono ?_); rintro e w3 ⟨rfl, hb3⟩; have HB3 := Lib.hid hb3; obtain ⟨g0, g1, g2⟩ := HZ.out w3 hb3; have r0 : w3.cell? ⟨w.heap.size, 0, none⟩ = some (.int .i64 0) := (by rw [World.cell?, g0]; rfl); have q0 : w3.frozen? ⟨w.heap.size, 0, none⟩ = false := (by rw [World.frozen?, g0]; simp); have r1 : w3.cell? ⟨w.heap.size, 1, none⟩ = some (.string ⟨#[]⟩) := (by rw [World.cell?, g0]; rfl); have q1 : w3.frozen? ⟨w.heap.size, 1, none⟩ = false := (by rw [World.frozen?, g0]; simp); have r2 : w3.cell? ⟨w.heap.size, 2, none⟩ = some (.slice none 0 0) := (by rw [World.cell?, g0]; rfl); have q2 : w3.frozen? ⟨w.heap.size, 2, none⟩ = false := (by rw [World.frozen?, g0]; simp); have r3 : w3.cell? ⟨w.heap.size, 3, none⟩ = some (.slice none 0 0) := (by rw [World.cell?, g0]; rfl); have q3 : w3.frozen? ⟨w.heap.size, 3, none⟩ = false := (by rw [World.frozen?, g0]; simp); have r4 : w3.cell? ⟨w.heap.size, 4, none⟩ = some (.int .i64 0) := (by rw [World.cell?, g0]; rfl); have q4 : w3.frozen? ⟨w.heap.size, 4, none⟩ = false := (by rw [World.frozen?, g0]; simp); have r5 : w3.cell? ⟨w.heap.size, 5, none⟩ = some (.int .i64 0) := (by rw [World.cell?, g0]; rfl); have q5 : w3.frozen? ⟨w.heap.size, 5, none⟩ = false := (by rw [World.frozen?, g0]; simp); have HG2 := Lib.hid g2; have HG0 := Lib.hid g0; have HG1 := Lib.hid g1; clear g0 g1 g2 hb3)
          have hzc : w3.heap[w.heap.size]? = some (.cells #[.int .i64 0, .string ⟨#[]⟩, .slice none 0 0, .slice none 0 0, .int .i64 0, .int .i64 0] 27 (0, 0)) := HG0.out
          rw [Exit.noGoto_ret]
          refine actof_fin (V := w) (Wz := w.heap.size + 4) (put6_block hzc (.int .i64 0) (.string ⟨#[]⟩) (.slice none 0 0) (.slice none 0 0) (.int .i64 0) (.int .i64 0)) (put6_below (HRO3.out.hb.trans (HB3.out.mono HRO3.out.hb.size)) _ (Nat.le_refl _) _ _ _ _ _ _) (by omega) (by omega) ((put6_other _ _ _ _ _ _ _ _ _ (by omega)).trans HG2.out) _ rfl rfl rfl _ ?_
          intro B hB1 hB2 hB3
          have hrd : readB s = false := by unfold readB; rw [HMA.out]; rfl
          have hra : rdA s = Ac.none := by unfold rdA; rw [hrd]; rfl
          rw [hra, hrd]
          exact ⟨none, 0, 0, none, 0, 0, rfl, none_at B 0, (fun h => absurd h (by omega)), (fun h => absurd h (by omega)), hB1⟩
        | true =>
          have HAT := Lib.hid (acttext_yes W2 (pC s) bA bn bc nA nn nc HRO3.out.ats HKF.out hmay (hT.below HRO3.out.hb) (hT2.below HRO3.out.hb))
          unfold actC at HAT
          have HTX := Lib.hid hmay
          clear hmay
          by_cases hts : (pC s).txt = s
          · have he : ((S (pC s).txt).toList == (S s).toList) = true := by rw [hts]; simp
            have HTS := Lib.hid hts
            clear hts
            generalize S (pC s).txt = tx at *
            go_wp2_with (go_at_call 20; (with_reducible refine HAT.out.mono ?_); rintro e w3 ⟨rfl, hb3⟩; have HB3 := Lib.hid hb3; obtain ⟨g0, g1, g2⟩ := HZ.out w3 hb3; have r0 : w3.cell? ⟨w.heap.size, 0, none⟩ = some (.int .i64 0) := (by rw [World.cell?, g0]; rfl); have q0 : w3.frozen? ⟨w.heap.size, 0, none⟩ = false := (by rw [World.frozen?, g0]; simp); have r1 : w3.cell? ⟨w.heap.size, 1, none⟩ = some (.string ⟨#[]⟩) := (by rw [World.cell?, g0]; rfl); have q1 : w3.frozen? ⟨w.heap.size, 1, none⟩ = false := (by rw [World.frozen?, g0]; simp); have r2 : w3.cell? ⟨w.heap.size, 2, none⟩ = some (.slice none 0 0) := (by rw [World.cell?, g0]; rfl); have q2 : w3.frozen? ⟨w.heap.size, 2, none⟩ = false := (by rw [World.frozen?, g0]; simp); have r3 : w3.cell? ⟨w.heap.size, 3, none⟩ = some (.slice none 0 0) := (by rw [World.cell?, g0]; rfl); have q3 : w3.frozen? ⟨w.heap.size, 3, none⟩ = false := (by rw [World.frozen?, g0]; simp); have r4 : w3.cell? ⟨w.heap.size, 4, none⟩ = some (.int .i64 0) := (by rw [World.cell?, g0]; rfl); have q4 : w3.frozen? ⟨w.heap.size, 4, none⟩ = false := (by rw [World.frozen?, g0]; simp); have r5 : w3.cell? ⟨w.heap.size, 5, none⟩ = some (.int .i64 0) := (by rw [World.cell?, g0]; rfl); have q5 : w3.frozen? ⟨w.heap.size, 5, none⟩ = false := (by rw [World.frozen?, g0]; simp); have m0 : w3.cell? ⟨w.heap.size + 3, 0, none⟩ = some (.int .i64 (pC s).kind) := (by rw [World.cell?, g1]; rfl); have m1 : w3.cell? ⟨w.heap.size + 3, 1, none⟩ = some (.string (S (pC s).name)) := (by rw [World.cell?, g1]; rfl); have m2 : w3.cell? ⟨w.heap.size + 3, 2, none⟩ = some (.slice bA bn bc) := (by rw [World.cell?, g1]; rfl); have m3 : w3.cell? ⟨w.heap.size + 3, 3, none⟩ = some (.slice nA nn nc) := (by rw [World.cell?, g1]; rfl); have m4 : w3.cell? ⟨w.heap.size + 3, 4, none⟩ = some (.int .i64 (pC s).mem) := (by rw [World.cell?, g1]; rfl); have m5 : w3.cell? ⟨w.heap.size + 3, 5, none⟩ = some (.int .i64 (pC s).fuel) := (by rw [World.cell?, g1]; rfl); have HG2 := Lib.hid g2; have HG0 := Lib.hid g0; have HG1 := Lib.hid g1; clear g0 g1 g2 hb3)
            have hzc : w3.heap[w.heap.size]? = some (.cells #[.int .i64 0, .string ⟨#[]⟩, .slice none 0 0, .slice none 0 0, .int .i64 0, .int .i64 0] 27 (0, 0)) := HG0.out
            rw [Exit.noGoto_ret]
            refine actof_fin (V := w) (Wz := w.heap.size + 4) (put6_block hzc (.int .i64 (pC s).kind) (.string (S (pC s).name)) (.slice bA bn bc) (.slice nA nn nc) (.int .i64 (pC s).mem) (.int .i64 (pC s).fuel)) (put6_below (HRO3.out.hb.trans (HB3.out.mono HRO3.out.hb.size)) _ (Nat.le_refl _) _ _ _ _ _ _) (by omega) (by omega) ((put6_other _ _ _ _ _ _ _ _ _ (by omega)).trans HG2.out) _ rfl rfl rfl _ ?_
            intro B hB1 hB2 hB3
            have hrd : readB s = true := by unfold readB; rw [decide_eq_true HTS.out, HTX.out]; rfl
            have hra : rdA s = pC s := by unfold rdA; rw [hrd]; rfl
            rw [hra, hrd]
            have hat : ActAt w3 (pC s) bA bn bc nA nn nc := HRO3.out.ats.below HB3.out
            have hlM : w.heap.size + 5 ≤ Mz := HMZ.out
            refine ⟨bA, bn, bc, nA, nn, nc, rfl, hat.keep HRO3.out.lo.1 HRO3.out.lo.2 (by rw [put6_size] at hB2; exact hB2) (fun z hz1 hz2 => ?_), HRO3.out.lo.1.less (by omega), HRO3.out.lo.2.less (by omega), hB1⟩
            rw [hB3 z (by omega)]
            exact put6_other _ _ _ _ _ _ _ _ z (by omega)
          · have he : ((S (pC s).txt).toList == (S s).toList) = false := by
              rw [ByteArray.toList_eq, ByteArray.toList_eq]
              show ((pC s).txt == s) = false
              simpa using hts
            have HTS := Lib.hid hts
            clear hts
            generalize S (pC s).txt = tx at *
            go_wp2_with (go_at_call 20; (with_reducible refine HAT.out.mono ?_); rintro e w3 ⟨rfl, hb3⟩; have HB3 := Lib.hid hb3; obtain ⟨g0, g1, g2⟩ := HZ.out w3 hb3; have r0 : w3.cell? ⟨w.heap.size, 0, none⟩ = some (.int .i64 0) := (by rw [World.cell?, g0]; rfl); have q0 : w3.frozen? ⟨w.heap.size, 0, none⟩ = false := (by rw [World.frozen?, g0]; simp); have r1 : w3.cell? ⟨w.heap.size, 1, none⟩ = some (.string ⟨#[]⟩) := (by rw [World.cell?, g0]; rfl); have q1 : w3.frozen? ⟨w.heap.size, 1, none⟩ = false := (by rw [World.frozen?, g0]; simp); have r2 : w3.cell? ⟨w.heap.size, 2, none⟩ = some (.slice none 0 0) := (by rw [World.cell?, g0]; rfl); have q2 : w3.frozen? ⟨w.heap.size, 2, none⟩ = false := (by rw [World.frozen?, g0]; simp); have r3 : w3.cell? ⟨w.heap.size, 3, none⟩ = some (.slice none 0 0) := (by rw [World.cell?, g0]; rfl); have q3 : w3.frozen? ⟨w.heap.size, 3, none⟩ = false := (by rw [World.frozen?, g0]; simp); have r4 : w3.cell? ⟨w.heap.size, 4, none⟩ = some (.int .i64 0) := (by rw [World.cell?, g0]; rfl); have q4 : w3.frozen? ⟨w.heap.size, 4, none⟩ = false := (by rw [World.frozen?, g0]; simp); have r5 : w3.cell? ⟨w.heap.size, 5, none⟩ = some (.int .i64 0) := (by rw [World.cell?, g0]; rfl); have q5 : w3.frozen? ⟨w.heap.size, 5, none⟩ = false := (by rw [World.frozen?, g0]; simp); have HG2 := Lib.hid g2; have HG0 := Lib.hid g0; have HG1 := Lib.hid g1; clear g0 g1 g2 hb3)
            have hzc : w3.heap[w.heap.size]? = some (.cells #[.int .i64 0, .string ⟨#[]⟩, .slice none 0 0, .slice none 0 0, .int .i64 0, .int .i64 0] 27 (0, 0)) := HG0.out
            rw [Exit.noGoto_ret]
            refine actof_fin (V := w) (Wz := w.heap.size + 4) (put6_block hzc (.int .i64 0) (.string ⟨#[]⟩) (.slice none 0 0) (.slice none 0 0) (.int .i64 0) (.int .i64 0)) (put6_below (HRO3.out.hb.trans (HB3.out.mono HRO3.out.hb.size)) _ (Nat.le_refl _) _ _ _ _ _ _) (by omega) (by omega) ((put6_other _ _ _ _ _ _ _ _ _ (by omega)).trans HG2.out) _ rfl rfl rfl _ ?_
            intro B hB1 hB2 hB3
            have hrd : readB s = false := by unfold readB; rw [decide_eq_false HTS.out, Bool.and_false]
            have hra : rdA s = Ac.none := by unfold rdA; rw [hrd]; rfl
            rw [hra, hrd]
            exact ⟨none, 0, 0, none, 0, 0, rfl, none_at B 0, (fun h => absurd h (by omega)), (fun h => absurd h (by omega)), hB1⟩
end Go.Proofs.YtlodoilihminaaaGreatDoor

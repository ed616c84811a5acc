/-
  A scanner in memory: its struct, its source, its names and their numbers.
-/
import Derived.Test.YthpdgghjaglhnaaGreatDoorBase
import Derived.Test.YthpdgghjaglhnaaGreatDoorScTab
import Derived.Test.YthpdgghjaglhnaaGreatDoorEvE
import Derived.OwnWalk
import Derived.Tactics
import Derived.Deep.QuietTactic
import Derived.BigQuiet
import Derived.Deep.Cut
import Derived.Deep.MidRow
import Derived.Deep.RegionHeld3
import Derived.Deep.RegionLaw
import Derived.Deep.RegionWith
import Derived.Maps.OwnSet
import Derived.StringKeys
namespace Go.Proofs.YthpdgghjaglhnaaGreatDoor
open Go.ChangeShapes Go.WideShapes Go.ChangeAt Go.RowKit
open Go.ChangeMaps (setBlock)
open Ev (WRow)
set_option linter.unusedVariables false
set_option linter.unusedSimpArgs false
def bs (l : List UInt8) : ByteArray := ⟨⟨l⟩⟩
theorem bs_data (b : ByteArray) : bs b.data.toList = b := rfl
/-- a scanner as data -/
structure Sn where
  src : List Int
  at_ : Nat
  sym : Int
  pos : Int
  val : Int
  id : Int
  txt : ByteArray
  code : Int
  epos : Int
  nms : List (List UInt8)
  kw : Int
/-- where it lies -/
structure Sp where
  p : Nat
  sv : Value
  nv : Value
  ib : Nat
  gb : Nat
def snL (q : Sp) (s : Sn) : List Value := [q.sv, .int .i64 (s.at_ : Int), .int .i64 s.sym, .int .i64 s.pos, .int .i32 s.val, .int .i64 s.id, .string s.txt, .int .i64 s.code, .int .i64 s.epos, q.nv, .map (some q.ib), .int .i64 s.kw, .map (some q.gb)]
theorem snL_len (q : Sp) (s : Sn) : (snL q s).length = 13 := rfl
/-- an element of a map reads as itself -/
def sheld (v : Value) : Option (DataW Value × List MemPlace) := some (.held v, [])
/-- the numbers of names -/
def IdsOk (D : DataW Value) (nms : List (List UInt8)) : Prop := (∀ l, Maps.has D (.string l) = decide (l ∈ nms)) ∧ ∀ l, l ∈ nms → ∀ z, D.atKey (.string l) z = .held (.int .i64 ((nms.idxOf l : Nat) : Int))
/-- the symbols of signs of one byte -/
def lk : List (Int × Int) → Int → Option Int
  | [], _ => none
  | p :: r, c => if c = p.1 then some p.2 else lk r c
def sgP : List (Int × Int) := [(61, 1), (35, 2), (60, 3), (62, 5), (43, 7), (45, 8), (42, 9), (47, 10), (46, 11), (94, 12), (38, 13), (126, 14), (40, 15), (41, 16), (91, 17), (93, 18), (123, 19), (125, 20), (44, 21), (59, 22), (58, 23)]
def sgF (c : Int) : Option Int := lk sgP c
def SgOk (D : DataW Value) : Prop := ∀ c : Int, 0 ≤ c → c < 256 → Maps.has D (.int .u8 c) = (sgF c).isSome ∧ ∀ y, sgF c = some y → ∀ z, D.atKey (.int .u8 c) z = .held (.int .i64 y)
structure SnAt (W : World) (B : Nat) (q : Sp) (s : Sn) : Prop where
  bp : B ≤ q.p
  lt : q.p < W.heap.size
  cells : W.rangeAt q.p 0 (snL q s)
  bt : W.there q.p 0 13
  src : WRow W B 1 q.sv s.src.length (s.src.map fun x => .int .u8 x)
  nms : WRow W B 1 q.nv s.nms.length (s.nms.map fun l => .string (bs l))
  ids : ∃ D, W.ownsMap Tryz.prog 9 sheld q.ib s.nms.length D ∧ IdsOk D s.nms
  sgn : ∃ D, W.ownsMap Tryz.prog 5 sheld q.gb 21 D ∧ SgOk D
  bi : B ≤ q.ib
  bg : B ≤ q.gb
  sp : q.sv.ownBlock ≠ some q.p
  np : q.nv.ownBlock ≠ some q.p
  sn : q.sv.ownBlock = none ∨ q.sv.ownBlock ≠ q.nv.ownBlock
  ip : q.ib ≠ q.p
  si : q.sv.ownBlock ≠ some q.ib
  ni : q.nv.ownBlock ≠ some q.ib
  gp : q.gb ≠ q.p
  gi : q.gb ≠ q.ib
  sg : q.sv.ownBlock ≠ some q.gb
  ng : q.nv.ownBlock ≠ some q.gb
  nd : s.nms.Nodup
  n1 : s.nms.length ≤ 700
  ns : ∀ l ∈ s.nms, l.length ≤ 15
  l1 : s.src.length ≤ 65535
  sb : ∀ x ∈ s.src, 0 ≤ x ∧ x < 256
  at1 : s.at_ ≤ s.src.length
/-- what a writer of a scanner leaves as it was -/
structure Sf (q q' : Sp) (w w' : World) : Prop where
  os : w'.os = w.os
  tape : w'.tape = w.tape
  output : w'.output = w.output
  size : w.heap.size ≤ w'.heap.size
  block : ∀ k, k < w.heap.size → k ≠ q.p → q.nv.ownBlock ≠ some k → k ≠ q.ib → w'.heap[k]? = w.heap[k]?
  p : q'.p = q.p
  sv : q'.sv = q.sv
  ib : q'.ib = q.ib
  gb : q'.gb = q.gb
  nv : q'.nv.ownBlock = q.nv.ownBlock ∨ ∀ k, q'.nv.ownBlock = some k → w.heap.size ≤ k
section
variable {w W V : World} {B : Nat} {q q1 q2 : Sp} {s : Sn}
theorem Sf.refl (q : Sp) (w : World) : Sf q q w w := ⟨rfl, rfl, rfl, Nat.le_refl _, fun _ _ _ _ _ => rfl, rfl, rfl, rfl, rfl, .inl rfl⟩
theorem Sf.trans (h : Sf q q1 w W) (k : Sf q1 q2 W V) : Sf q q2 w V := by
  refine ⟨k.os.trans h.os, k.tape.trans h.tape, k.output.trans h.output, Nat.le_trans h.size k.size, fun i hi a b c => (k.block i (Nat.lt_of_lt_of_le hi h.size) (by rw [h.p]; exact a) ?_ (by rw [h.ib]; exact c)).trans (h.block i hi a b c), k.p.trans h.p, k.sv.trans h.sv, k.ib.trans h.ib, k.gb.trans h.gb, ?_⟩
  · rcases h.nv with e | e
    · rw [e]; exact b
    · intro e2; have := e i e2; omega
  · rcases k.nv with e | e
    · rw [e]; exact h.nv
    · right; intro i hi; exact Nat.le_trans h.size (e i hi)
theorem Sf.ofBelow (q : Sp) (h : Below w.heap.size w W) : Sf q q w W := ⟨h.os, h.tape, h.output, h.size, fun k hk _ _ _ => h.block k hk, rfl, rfl, rfl, rfl, .inl rfl⟩
theorem Sf.drew (h : Sf q q1 w W) : Sf q q1 w W.drew := ⟨h.os, h.tape, h.output, h.size, h.block, h.p, h.sv, h.ib, h.gb, h.nv⟩
theorem Sf.drewN (h : Sf q q1 w W) (n : Nat) : Sf q q1 w (W.drewN n) := ⟨h.os, h.tape, h.output, h.size, h.block, h.p, h.sv, h.ib, h.gb, h.nv⟩
theorem SnAt.lnv (h : SnAt w B q s) : ∀ k, q.nv.ownBlock = some k → B ≤ k ∧ k < w.heap.size := h.nms.lt
theorem Sf.below (h : Sf q q1 w W) (a : SnAt w B q s) (hB : B ≤ w.heap.size) : Below B w W := ⟨h.os, h.tape, h.output, h.size, fun k hk => h.block k (by omega) (by have := a.bp; omega) (fun e => by have := (a.lnv k e).1; omega) (by have := a.bi; omega)⟩
theorem snsize_setCell (w : World) (a : Addr) (v : Value) : (w.setCell a v).heap.size = w.heap.size := by
  simp [World.setCell]
theorem Sf.setCell (h : Sf q q1 w W) (o : Nat) (v : Value) : Sf q q1 w (W.setCell ⟨q.p, o, none⟩ v) :=
  ⟨h.os, h.tape, h.output, by rw [snsize_setCell]; exact h.size, fun k hk a b c => by rw [Below.heap_setCell _ _ _ _ a]; exact h.block k hk a b c, h.p, h.sv, h.ib, h.gb, h.nv⟩
theorem Sf.setCells : ∀ (vs : List Value) (o : Nat) (W : World), Sf q q1 w W → Sf q q1 w (W.setCells q.p o vs)
  | [], _, _, h => h
  | v :: r, o, W, h => by rw [World.setCells]; exact Sf.setCells r (o + 1) _ (h.setCell o v)
theorem SnAt.c (h : SnAt w B q s) (i : Nat) (v : Value) (hv : (snL q s)[i]? = some v) : w.cell? ⟨q.p, i, none⟩ = some v := by
  have := h.cells i v hv
  rwa [Nat.zero_add] at this
theorem SnAt.z (h : SnAt w B q s) (i : Nat) (hi : i < 13) : w.frozen? ⟨q.p, i, none⟩ = false := by
  have := (h.bt i hi).2
  rwa [Nat.zero_add] at this
theorem ownsMap_below {H : Type} {P : Program} {k : TypeId} {R : Value → Option (DataW H × List MemPlace)} {b n : Nat} {D : DataW H} (h : w.ownsMap P k R b n D) (hk : W.heap[b]? = w.heap[b]?) : W.ownsMap P k R b n D := by
  obtain ⟨es, clock, hb, F, hs, hD⟩ := h
  exact ⟨es, clock, hk.trans hb, F, hs, hD⟩
theorem SnAt.li (h : SnAt w B q s) : q.ib < w.heap.size := by obtain ⟨D, h1, _⟩ := h.ids; exact h1.lt
theorem SnAt.lg (h : SnAt w B q s) : q.gb < w.heap.size := by obtain ⟨D, h1, _⟩ := h.sgn; exact h1.lt
/-- what keeps its blocks keeps it -/
theorem SnAt.keep (h : SnAt w B q s) (hs : w.heap.size ≤ W.heap.size) (hk : ∀ k, k < w.heap.size → B ≤ k → k = q.p ∨ k = q.ib ∨ k = q.gb ∨ q.nv.ownBlock = some k ∨ q.sv.ownBlock = some k → W.heap[k]? = w.heap[k]?) : SnAt W B q s := by
  have hp := hk q.p h.lt h.bp (.inl rfl)
  have e1 : ∀ i, W.cell? ⟨q.p, i, none⟩ = w.cell? ⟨q.p, i, none⟩ := fun i => World.cell?_of_block hp
  have e3 : ∀ i, W.frozen? ⟨q.p, i, none⟩ = w.frozen? ⟨q.p, i, none⟩ := fun i => World.frozen?_of_block hp
  have row : ∀ {n : Nat} {v : Value} {xs : List Value}, WRow w B 1 v n xs → (∀ k, v.ownBlock = some k → W.heap[k]? = w.heap[k]?) → WRow W B 1 v n xs := by
    intro n v xs hr hz
    refine ⟨hr.1, ?_⟩
    rcases hr.2 with hn | ⟨b, f, c, rfl, hb, hl, h1, h2, h3, h4⟩
    · exact .inl hn
    · have hk2 := hz b rfl
      exact .inr ⟨b, f, c, rfl, hb, Nat.lt_of_lt_of_le hl hs, h1, h2, fun j x hx => by rw [World.cell?_of_block (w := w) hk2]; exact h3 j x hx, fun j hj => by rw [World.cell?_of_block (w := w) hk2, World.frozen?_of_block (w := w) hk2]; exact h4 j hj⟩
  have hli := h.li
  have hlg := h.lg
  obtain ⟨D, d1, d2⟩ := h.ids
  obtain ⟨D', d3, d4⟩ := h.sgn
  exact ⟨h.bp, Nat.lt_of_lt_of_le h.lt hs, fun j v hv => by rw [e1]; exact h.cells j v hv, fun j hj => by rw [e1, e3]; exact h.bt j hj,
    row h.src fun k e => hk k (h.src.lt k e).2 (h.src.lt k e).1 (.inr (.inr (.inr (.inr e)))), row h.nms fun k e => hk k (h.nms.lt k e).2 (h.nms.lt k e).1 (.inr (.inr (.inr (.inl e)))),
    ⟨D, ownsMap_below d1 (hk _ hli h.bi (.inr (.inl rfl))), d2⟩, ⟨D', ownsMap_below d3 (hk _ hlg h.bg (.inr (.inr (.inl rfl)))), d4⟩, h.bi, h.bg, h.sp, h.np, h.sn, h.ip, h.si, h.ni, h.gp, h.gi, h.sg, h.ng, h.nd, h.n1, h.ns, h.l1, h.sb, h.at1⟩
theorem SnAt.next (h : SnAt w B q s) (hb : Below w.heap.size w W) : SnAt W B q s := h.keep hb.size fun k hk _ _ => hb.block k hk
theorem SnAt.drew (h : SnAt w B q s) : SnAt w.drew B q s := h.next (Below.refl _ _).drew
theorem SnAt.drewN (h : SnAt w B q s) (n : Nat) : SnAt (w.drewN n) B q s := h.keep (Nat.le_refl _) fun _ _ _ _ => rfl
/-- cells of its struct turn -/
theorem SnAt.put (h : SnAt w B q s) (o : Nat) (vs : List Value) (s' : Sn) (hl : o + vs.length ≤ 13) (hn : s'.nms = s.nms) (hf : s'.src = s.src) (ha : s'.at_ ≤ s'.src.length) (he : snL q s' = (snL q s).take o ++ vs ++ (snL q s).drop (o + vs.length)) : SnAt (w.setCells q.p o vs) B q s' := by
  have e0 : ∀ (vs : List Value) (o : Nat) (W : World), (W.setCells q.p o vs).heap.size = W.heap.size := by
    intro vs
    induction vs with
    | nil => intro o W; rfl
    | cons v r ih => intro o W; rw [World.setCells, ih, snsize_setCell]
  have e5 : ∀ (vs : List Value) (o : Nat) (W : World) (k : Nat), k ≠ q.p → (W.setCells q.p o vs).heap[k]? = W.heap[k]? := by
    intro vs
    induction vs with
    | nil => intro o W k hk; rfl
    | cons v r ih => intro o W k hk; rw [World.setCells, ih _ _ _ hk, Below.heap_setCell _ _ _ _ hk]
  have e3 : ∀ a, (w.setCells q.p o vs).frozen? a = w.frozen? a := fun a => World.frozen?_setCells _ _ _ _ _
  have e4 : ∀ j, j < 13 → (w.cell? ⟨q.p, j, none⟩).isSome = true := fun j hj => by have := (h.bt j hj).1; rwa [Nat.zero_add] at this
  have hlen := snL_len q s
  have row : ∀ {n : Nat} {v : Value} {xs : List Value}, WRow w B 1 v n xs → v.ownBlock ≠ some q.p → WRow (w.setCells q.p o vs) B 1 v n xs := by
    intro n v xs hr hz
    refine ⟨hr.1, ?_⟩
    rcases hr.2 with hn | ⟨b, f, c, rfl, hb, hl, h1, h2, h3, h4⟩
    · exact .inl hn
    · have hk2 := e5 vs o w b (fun e => hz (by rw [e]; rfl))
      exact .inr ⟨b, f, c, rfl, hb, by rw [e0]; exact hl, h1, h2, fun j x hx => by rw [World.cell?_of_block (w := w) hk2]; exact h3 j x hx, fun j hj => by rw [World.cell?_of_block (w := w) hk2, World.frozen?_of_block (w := w) hk2]; exact h4 j hj⟩
  obtain ⟨D, d1, d2⟩ := h.ids
  obtain ⟨D', d3, d4⟩ := h.sgn
  refine ⟨h.bp, by rw [e0]; exact h.lt, fun j v hv => ?_, World.there_setCells h.bt _ _ _, by rw [hf]; exact row h.src h.sp, by rw [hn]; exact row h.nms h.np, by rw [hn]; exact ⟨D, ownsMap_below d1 (e5 vs o w _ h.ip), d2⟩, ⟨D', ownsMap_below d3 (e5 vs o w _ h.gp), d4⟩, h.bi, h.bg, h.sp, h.np, h.sn, h.ip, h.si, h.ni, h.gp, h.gi, h.sg, h.ng, by rw [hn]; exact h.nd, by rw [hn]; exact h.n1, by rw [hn]; exact h.ns, by rw [hf]; exact h.l1, by rw [hf]; exact h.sb, ha⟩
  rw [he] at hv
  have hj13 : j < 13 := by
    have := (List.getElem?_eq_some_iff.1 hv).1
    simp only [List.length_append, List.length_take, List.length_drop, hlen] at this
    omega
  rw [Nat.zero_add]
  by_cases h1 : j < o
  · rw [List.getElem?_append_left (by simp only [List.length_append, List.length_take, hlen]; omega), List.getElem?_append_left (by simp only [List.length_take, hlen]; omega), List.getElem?_take, if_pos h1] at hv
    rw [World.cell?_setCells_out q.p vs o w _ fun _ _ => .inl h1]
    exact h.c j v hv
  · by_cases h2 : j < o + vs.length
    · rw [List.getElem?_append_left (by simp only [List.length_append, List.length_take, hlen]; omega), List.getElem?_append_right (by simp only [List.length_take, hlen]; omega)] at hv
      simp only [List.length_take, hlen] at hv
      rw [show min o 13 = o by omega] at hv
      have := World.cell?_setCells_in q.p vs o w (fun i hi => e4 _ (by omega)) (j - o) (by omega)
      rw [show o + (j - o) = j by omega] at this
      rw [this]
      obtain ⟨h3, h4⟩ := List.getElem?_eq_some_iff.1 hv
      rw [h4]
    · rw [List.getElem?_append_right (by simp only [List.length_append, List.length_take, hlen]; omega)] at hv
      simp only [List.length_append, List.length_take, hlen, List.getElem?_drop] at hv
      rw [show o + vs.length + (j - (min o 13 + vs.length)) = j by omega] at hv
      rw [World.cell?_setCells_out q.p vs o w _ fun _ _ => .inr (by show o + vs.length ≤ j; omega)]
      exact h.c j v hv
end
theorem skeyed : Maps.Keyed Tryz.prog 9 := Maps.string_keyed Tryz.underlying9
theorem skey {l : List UInt8} (h : l.length ≤ maxLen) : keyOf Tryz.prog 9 (.string (bs l)) = some (.string l) := Go.WideMaps.keyOf_string_mk (s := bs l) Tryz.underlying9 h
theorem skeyed8 : Maps.Keyed Tryz.prog 5 := Maps.int_keyed Tryz.underlying5
theorem skey8 (x : Int) (h : (Lit.int .u8 x).wf = true) : keyOf Tryz.prog 5 (.int .u8 x) = some (.int .u8 x) := Maps.keyOf_int_mk Tryz.underlying5 h
theorem szero (w : World) : (zeroValue 3).run Tryz.prog w = .ok (.int .i64 0) w := by kernel_rfl
end Go.Proofs.YthpdgghjaglhnaaGreatDoor

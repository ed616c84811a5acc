/-
  A store as it lies in memory: what it holds, and that its parts lie apart.
-/
import Derived.Test.YtbpelchampegaaaBytesA
import Derived.Maps.OwnSet
import Derived.Deep.AppendLies
import Derived.OwnWalk
import Derived.Tactics
import Derived.BigQuiet
import Derived.Laws.OwnMore
namespace Go.Proofs.Ytbpelchampegaaa
open Go.ChangeShapes Go.WideShapes Go.ChangeAt Go.RowKit
set_option linter.unusedVariables false
theorem lt_of_block {W : World} {b : Nat} {o : Obj} (h : W.heap[b]? = some o) : b < W.heap.size := (Array.getElem?_eq_some_iff.1 h).1
theorem set_block {w : World} {b i : Nat} {cs : Array Value} {u : Value} {t : TypeId} (h : w.heap[b]? = some (.cells cs t (0, 0))) : (w.setCell ⟨b, i, none⟩ u).heap[b]? = some (.cells (cs.setIfInBounds i u) t (0, 0)) := by
  have hlt := lt_of_block h
  have h' : w.heap[b] = .cells cs t (0, 0) := by simpa [Array.getElem?_eq_getElem hlt] using h
  show (w.heap.modify b _)[b]? = _
  rw [Array.getElem?_eq_getElem (by simpa using hlt), Array.getElem_modify_self, h']
  rfl
theorem ownsRow_keep {w w' : World} {b0 : Nat} {T : TypeId} {sz : Nat} {v : Value} {n : Nat} {xs : List Value} (h : w.ownsRow b0 T sz v n xs) (hk : ∀ b, v.ownBlock = some b → w'.heap[b]? = w.heap[b]?) : w'.ownsRow b0 T sz v n xs := by
  refine ⟨h.1, ?_⟩
  rcases h.2 with hn | ⟨g, cap, cur, rfl, hb, hgg, rest⟩
  · exact .inl hn
  · exact .inr ⟨g, cap, cur, rfl, hb, by rw [hk g rfl]; exact hgg, rest⟩
theorem ownsRow_set {W : World} {b0 : Nat} {T : TypeId} {sz g n cap : Nat} {xs : List Value} (h : W.ownsRow b0 T sz (.slice (some ⟨g, 0, none⟩) n cap) n xs) (q : Nat) (hq : q < n * sz) (u : Value) : (W.setCell ⟨g, q, none⟩ u).ownsRow b0 T sz (.slice (some ⟨g, 0, none⟩) n cap) n (xs.set q u) := by
  refine ⟨by simp [h.1], ?_⟩
  rcases h.2 with ⟨h1, -⟩ | ⟨g', cap', cur, e, hb, hgg, h1, h2, h3, h4⟩
  · cases h1
  · cases e
    refine .inr ⟨g, cap, cur.setIfInBounds q u, rfl, hb, set_block hgg, h1, h2, by simp [h3], ?_⟩
    rw [← h4, Array.toList_setIfInBounds, List.take_set]
/-- what a block of a store is for -/
inductive Tag where
  | st | mp | rd | file (i : Nat) | data (i : Nat)
structure FileM where
  blk : Nat
  nm : ByteArray
  val : Value
  xs : List Int
  rid : Bool
structure StM where
  cap : Nat
  used : Nat
  mb : Nat
  mn : Nat
  D : DataW Value
  rv : Value
  rs : List (Nat × Nat)
  fs : List FileM
/-- an element of the directory reads as itself -/
def heldE (v : Value) : Option (DataW Value × List MemPlace) := some (.held v, [])
def StM.blkOf (s : StM) (i : Nat) : Nat := (s.fs.map FileM.blk).getD i 0
/-- what the directory has by a name -/
def StM.dir (s : StM) (nm : ByteArray) : DataW Value := s.D.atKey (.string nm.data.toList) (.held (.pointer none))
def StM.riders (s : StM) : List Value := s.rs.flatMap fun r => [.pointer (some ⟨s.blkOf r.1, 0, none⟩), .int .i64 (r.2 : Nat)]
structure StoreAt (w : World) (B p : Nat) (s : StM) (g : Nat → Tag) : Prop where
  hp : w.heap[p]? = some (.cells #[.bool true, .int .i64 s.cap, .int .i64 s.used, .map (some s.mb), s.rv] 53 (0, 0))
  pB : B ≤ p
  gp : g p = .st
  hm : w.ownsMap Try.prog 9 heldE s.mb s.mn s.D
  mB : B ≤ s.mb
  gm : g s.mb = .mp
  hr : w.ownsRow B 66 2 s.rv s.rs.length s.riders
  gr : ∀ b, s.rv.ownBlock = some b → g b = .rd
  hf : ∀ (i : Nat) (f : FileM), s.fs[i]? = some f → w.heap[f.blk]? = some (.cells #[.string f.nm, f.val, .bool f.rid] 57 (0, 0))
  hd : ∀ (i : Nat) (f : FileM), s.fs[i]? = some f → w.ownsRow B 5 1 f.val f.xs.length (vals .u8 f.xs)
  fB : ∀ (i : Nat) (f : FileM), s.fs[i]? = some f → B ≤ f.blk
  gf : ∀ (i : Nat) (f : FileM), s.fs[i]? = some f → g f.blk = .file i
  gd : ∀ (i : Nat) (f : FileM), s.fs[i]? = some f → ∀ b : Nat, f.val.ownBlock = some b → g b = .data i
  ok : ∀ (i : Nat) (f : FileM), s.fs[i]? = some f → f.nm.size ≤ maxLen ∧ f.xs.length ≤ s.cap ∧ ∀ x ∈ f.xs, 0 ≤ x ∧ x ≤ 255
  rk : ∀ (i : Nat) (r : Nat × Nat), s.rs[i]? = some r → ∃ f : FileM, s.fs[r.1]? = some f ∧ r.2 ≤ f.xs.length
  used : s.used ≤ s.cap ∧ s.cap ≤ 67108864 ∧ s.rs.length ≤ 255 ∧ s.mn ≤ 1000000
section
variable {w W : World} {B p : Nat} {s : StM} {g : Nat → Tag}
theorem StoreAt.lp (h : StoreAt w B p s g) : p < w.heap.size := lt_of_block h.hp
theorem StoreAt.lm (h : StoreAt w B p s g) : s.mb < w.heap.size := h.hm.lt
theorem StoreAt.lr (h : StoreAt w B p s g) : ∀ b, s.rv.ownBlock = some b → B ≤ b ∧ b < w.heap.size := h.hr.lt
theorem StoreAt.lf (h : StoreAt w B p s g) {i : Nat} {f : FileM} (hf : s.fs[i]? = some f) : f.blk < w.heap.size := lt_of_block (h.hf i f hf)
theorem StoreAt.ld (h : StoreAt w B p s g) {i : Nat} {f : FileM} (hf : s.fs[i]? = some f) : ∀ b : Nat, f.val.ownBlock = some b → B ≤ b ∧ b < w.heap.size := (h.hd i f hf).lt
theorem ownsMap_keep {b n : Nat} {D : DataW Value} (h : w.ownsMap Try.prog 9 heldE b n D) (hk : W.heap[b]? = w.heap[b]?) : W.ownsMap Try.prog 9 heldE b n D := by
  obtain ⟨es, clock, hb, F, hs, hD⟩ := h
  exact ⟨es, clock, hk.trans hb, F, hs, hD⟩
/-- what keeps all blocks of a store as they were keeps it -/
theorem StoreAt.keep (h : StoreAt w B p s g) (hk : ∀ b, b < w.heap.size → B ≤ b → W.heap[b]? = w.heap[b]?) : StoreAt W B p s g :=
  ⟨by rw [hk p h.lp h.pB]; exact h.hp, h.pB, h.gp, ownsMap_keep h.hm (hk _ h.lm h.mB), h.mB, h.gm, ownsRow_keep h.hr fun b hb => hk b (h.lr b hb).2 (h.lr b hb).1, h.gr,
   fun i f hf => by rw [hk _ (h.lf hf) (h.fB i f hf)]; exact h.hf i f hf, fun i f hf => ownsRow_keep (h.hd i f hf) fun b hb => hk b (h.ld hf b hb).2 (h.ld hf b hb).1, h.fB, h.gf, h.gd, h.ok, h.rk, h.used⟩
theorem StoreAt.below (h : StoreAt w B p s g) (hb : Below w.heap.size w W) : StoreAt W B p s g := h.keep fun b hl _ => hb.block b hl
theorem StoreAt.drew (h : StoreAt w B p s g) : StoreAt w.drew B p s g := h.keep fun _ _ _ => rfl
/-- the store's own cells -/
theorem StoreAt.cells (h : StoreAt w B p s g) : w.cell? ⟨p, 0, none⟩ = some (.bool true) ∧ w.cell? ⟨p, 1, none⟩ = some (.int .i64 s.cap) ∧ w.cell? ⟨p, 2, none⟩ = some (.int .i64 s.used) ∧ w.cell? ⟨p, 3, none⟩ = some (.map (some s.mb)) ∧ w.cell? ⟨p, 4, none⟩ = some s.rv ∧ ∀ o, w.frozen? ⟨p, o, none⟩ = false := by
  have hp := h.hp
  refine ⟨?_, ?_, ?_, ?_, ?_, fun o => ?_⟩
  · simp [World.cell?, hp]
  · simp [World.cell?, hp]
  · simp [World.cell?, hp]
  · simp [World.cell?, hp]
  · simp [World.cell?, hp]
  · simp [World.frozen?, hp]
theorem StoreAt.file (h : StoreAt w B p s g) {i : Nat} {f : FileM} (hf : s.fs[i]? = some f) : w.cell? ⟨f.blk, 0, none⟩ = some (.string f.nm) ∧ w.cell? ⟨f.blk, 1, none⟩ = some f.val ∧ w.cell? ⟨f.blk, 2, none⟩ = some (.bool f.rid) ∧ ∀ o, w.frozen? ⟨f.blk, o, none⟩ = false := by
  have hp := h.hf i f hf
  refine ⟨?_, ?_, ?_, fun o => ?_⟩
  · simp [World.cell?, hp]
  · simp [World.cell?, hp]
  · simp [World.cell?, hp]
  · simp [World.frozen?, hp]
theorem cell_add (g j : Nat) : (⟨g, 0, none⟩ : Addr).add j = ⟨g, j, none⟩ := by unfold Addr.add; split <;> simp_all
theorem riders_at (s : StM) {i : Nat} {r : Nat × Nat} (h : s.rs[i]? = some r) : s.riders[i * 2]? = some (.pointer (some ⟨s.blkOf r.1, 0, none⟩)) ∧ s.riders[i * 2 + 1]? = some (.int .i64 (r.2 : Nat)) := by
  unfold StM.riders
  generalize s.rs = l at h
  generalize s.blkOf = F
  induction l generalizing i with
  | nil => simp at h
  | cons r0 l ih =>
    cases i with
    | zero => simp at h; subst h; simp
    | succ i =>
      have := ih (by simpa using h)
      have e1 : (i + 1) * 2 = i * 2 + 1 + 1 := by omega
      have e2 : (i + 1) * 2 + 1 = i * 2 + 1 + 1 + 1 := by omega
      rw [e1]
      simp only [List.flatMap_cons, List.cons_append, List.nil_append, List.getElem?_cons_succ]
      exact this
/-- a rider's cells: the row is there -/
theorem StoreAt.rider (h : StoreAt w B p s g) {i : Nat} {r : Nat × Nat} (hr : s.rs[i]? = some r) : ∃ b cap, s.rv = .slice (some ⟨b, 0, none⟩) s.rs.length cap ∧ g b = .rd ∧ b < w.heap.size ∧ w.cell? ⟨b, i * 2, none⟩ = some (.pointer (some ⟨s.blkOf r.1, 0, none⟩)) ∧ w.cell? ⟨b, i * 2 + 1, none⟩ = some (.int .i64 (r.2 : Nat)) ∧ ∀ o, w.frozen? ⟨b, o, none⟩ = false := by
  have hl := (List.getElem?_eq_some_iff.1 hr).1
  obtain ⟨b, cap, e, -, hb⟩ := h.hr.form (by omega)
  obtain ⟨c0, c1⟩ := riders_at s hr
  have hc := h.hr.cells (g := b) (by rw [e]; rfl)
  refine ⟨b, cap, e, h.gr b (by rw [e]; rfl), hb, ?_, ?_, fun o => ?_⟩
  · have := hc _ _ c0; rw [cell_add] at this; exact this
  · have := hc _ _ c1; rw [cell_add] at this; exact this
  · have ho := h.hr
    rw [e] at ho
    rcases ho.2 with ⟨h1, -⟩ | ⟨g', cap', cur, e', hb', hgg, -⟩
    · cases h1
    · cases e'
      simp [World.frozen?, hgg]
theorem blkOf_at {i : Nat} {f : FileM} (hf : s.fs[i]? = some f) : s.blkOf i = f.blk := by
  unfold StM.blkOf
  rw [List.getD_eq_getElem?_getD, List.getElem?_map, hf]
  rfl
end
end Go.Proofs.Ytbpelchampegaaa

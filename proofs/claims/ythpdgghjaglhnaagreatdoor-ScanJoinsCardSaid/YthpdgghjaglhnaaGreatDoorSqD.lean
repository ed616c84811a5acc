/-
  The document's scanner: what it has read so far, in memory.
-/
import Derived.Test.YthpdgghjaglhnaaGreatDoorSqB
import Derived.Test.YthpdgghjaglhnaaGreatDoorSqC
import Derived.Test.YthpdgghjaglhnaaGreatDoorSnX
import Derived.Laws.Rows
import Derived.Laws.Tables
namespace Go.Proofs.YthpdgghjaglhnaaGreatDoor
open Go.ChangeShapes Go.WideShapes Go.ChangeAt Go.RowKit
open Ev (WRow)
set_option linter.unusedVariables false
set_option linter.unusedSimpArgs false
def resA (v nv : Value) (e pos : Int) : Array Value := #[v, nv, .int .i64 e, .int .i64 pos]
theorem res_size (v nv : Value) (e pos : Int) : (Tryz.prog.info? 29).map (·.size) = some (resA v nv e pos).size := by kernel_rfl
structure Qr (w W : World) (p : Nat) (v nv : Value) (m : Nat) (xs : List Value) (nms : List (List UInt8)) : Prop where
  b : Below w.heap.size w W
  o : W.heap[w.heap.size]? = some (.cells (resA (.slice none 0 0) (.slice none 0 0) 0 0) 29 (0, 0))
  r : W.heap[p]? = some (.cells (resA v nv 0 0) 29 (0, 0))
  all : WRow W (w.heap.size + 1) 5 v m xs
  nm : WRow W (w.heap.size + 1) 1 nv nms.length (nms.map fun l => .string (bs l))
  lt : w.heap.size < p
  vp : v.ownBlock ≠ some p
  np : nv.ownBlock ≠ some p
  vn : v.ownBlock = none ∨ v.ownBlock ≠ nv.ownBlock
structure Qf (w W : World) (v nv : Value) (m : Nat) (xs : List Value) (nms : List (List UInt8)) : Prop where
  b : Below w.heap.size w W
  all : WRow W (w.heap.size + 1) 5 v m xs
  nm : WRow W (w.heap.size + 1) 1 nv nms.length (nms.map fun l => .string (bs l))
theorem qset_block {w : World} {b i : Nat} {cs : Array Value} {u : Value} {t : TypeId} (h : w.heap[b]? = some (.cells cs t (0, 0))) : (w.setCell ⟨b, i, none⟩ u).heap[b]? = some (.cells (cs.setIfInBounds i u) t (0, 0)) := by
  have hlt : b < w.heap.size := (Array.getElem?_eq_some_iff.1 h).1
  have h' : w.heap[b] = .cells cs t (0, 0) := by simpa [Array.getElem?_eq_getElem hlt] using h
  show (w.heap.modify b _)[b]? = _
  rw [Array.getElem?_eq_getElem (by simpa using hlt), Array.getElem_modify_self, h']
  rfl
theorem qset_far {w : World} {b c i : Nat} {u : Value} (h : c ≠ b) : (w.setCell ⟨b, i, none⟩ u).heap[c]? = w.heap[c]? := Below.heap_setCell _ _ _ _ h
theorem qblock_cell {W : World} {y i : Nat} {cs : Array Value} {t : TypeId} {u : Value} (h : W.heap[y]? = some (.cells cs t (0, 0))) (hu : cs[i]? = some u) : W.cell? ⟨y, i, none⟩ = some u ∧ W.frozen? ⟨y, i, none⟩ = false := by
  refine ⟨?_, ?_⟩
  · rw [World.cell?, h]; exact hu
  · rw [World.frozen?, h]; simp
section
variable {w W V : World} {p : Nat} {v nv : Value} {m : Nat} {xs : List Value} {nms : List (List UInt8)}
theorem Qr.plt (h : Qr w W p v nv m xs nms) : p < W.heap.size := (Array.getElem?_eq_some_iff.1 h.r).1
theorem Qr.cell (h : Qr w W p v nv m xs nms) (i : Nat) (u : Value) (hu : (resA v nv 0 0)[i]? = some u) : W.cell? ⟨p, i, none⟩ = some u ∧ W.frozen? ⟨p, i, none⟩ = false := by
  have hi : i < 4 := by
    have := (Array.getElem?_eq_some_iff.1 hu).1
    exact this
  refine ⟨?_, ?_⟩
  · rw [World.cell?, h.r]; exact hu
  · rw [World.frozen?, h.r]; simp
theorem Qr.next (h : Qr w W p v nv m xs nms) (hb : Below W.heap.size W V) : Qr w V p v nv m xs nms :=
  ⟨h.b.trans (hb.mono h.b.size), (hb.block _ (Nat.lt_of_lt_of_le h.lt (Nat.le_of_lt h.plt))).trans h.o, (hb.block _ h.plt).trans h.r, h.all.below hb, h.nm.below hb, h.lt, h.vp, h.np, h.vn⟩
/-- a symbol more -/
theorem Qr.app (h : Qr w W p v nv m xs nms) {g f cap m' : Nat} {ys : List Value} (hr : WRow V (w.heap.size + 1) 5 (.slice (some ⟨g, f, none⟩) m' cap) m' ys) (hg : W.grownBy V v.ownBlock) (hat : v.ownBlock = some g ∨ g = W.heap.size) :
    Qr w (V.setCell ⟨p, 0, none⟩ (.slice (some ⟨g, f, none⟩) m' cap)) p (.slice (some ⟨g, f, none⟩) m' cap) nv m' ys nms := by
  have hpl := h.plt
  have hgp : g ≠ p := by
    rcases hat with e | e
    · intro e2; exact h.vp (by rw [e, e2])
    · omega
  have hB : Below w.heap.size w V := h.b.grown hg h.b.size (fun z e => by have := (h.all.lt z e).1; omega)
  have hvo : ∀ z, v.ownBlock = some z → w.heap.size + 1 ≤ z := fun z e => (h.all.lt z e).1
  have ho : V.heap[w.heap.size]? = W.heap[w.heap.size]? := hg.block _ (Nat.lt_of_lt_of_le h.lt (Nat.le_of_lt hpl)) (fun e => by have := hvo _ e.symm; omega)
  have hp : V.heap[p]? = W.heap[p]? := hg.block _ hpl (fun e => h.vp e.symm)
  refine ⟨hB.setCell (p := ⟨p, 0, none⟩) (Nat.le_of_lt h.lt) _, ?_, ?_, hr.other _ (fun e => hgp (Option.some.inj e)), (h.nm.kept hg ?_).other _ h.np, h.lt, fun e => hgp (Option.some.inj e), h.np, .inr ?_⟩
  · rw [qset_far (by have := h.lt; omega), ho]; exact h.o
  · rw [qset_block (hp.trans h.r)]; rfl
  · rcases h.vn with e | e
    · cases hn : nv.ownBlock with
      | none => exact .inl rfl
      | some z => right; rw [e]; simp
    · exact .inr (fun e2 => e e2.symm)
  · intro e2
    have e3 : some g = nv.ownBlock := e2
    rcases hat with e | e
    · rcases h.vn with e4 | e4
      · rw [e] at e4; cases e4
      · exact e4 (e.trans e3)
    · have := (h.nm.lt g e3.symm).2
      omega
theorem Qr.app0 (h : Qr w W p v nv m xs nms) (hg : W.grownBy V v.ownBlock) : V.cell? ⟨p, 0, none⟩ = some v ∧ V.frozen? ⟨p, 0, none⟩ = false := by
  have e := hg.block _ h.plt (fun e => h.vp e.symm)
  rw [World.cell?_of_block e, World.frozen?_of_block e]
  exact h.cell 0 _ rfl
theorem Qr.nam0 (h : Qr w W p v nv m xs nms) (hg : W.grownBy V nv.ownBlock) : V.cell? ⟨p, 1, none⟩ = some nv ∧ V.frozen? ⟨p, 1, none⟩ = false := by
  have e := hg.block _ h.plt (fun e => h.np e.symm)
  rw [World.cell?_of_block e, World.frozen?_of_block e]
  exact h.cell 1 _ rfl
/-- a name more -/
theorem Qr.nam (h : Qr w W p v nv m xs nms) {g f cap n' : Nat} {nms' : List (List UInt8)} (hl : nms'.length = n') (hr : WRow V (w.heap.size + 1) 1 (.slice (some ⟨g, f, none⟩) n' cap) n' (nms'.map fun l => .string (bs l))) (hg : W.grownBy V nv.ownBlock) (hat : nv.ownBlock = some g ∨ g = W.heap.size) :
    Qr w (V.setCell ⟨p, 1, none⟩ (.slice (some ⟨g, f, none⟩) n' cap)) p v (.slice (some ⟨g, f, none⟩) n' cap) m xs nms' := by
  subst hl
  have hpl := h.plt
  have hgp : g ≠ p := by
    rcases hat with e | e
    · intro e2; exact h.np (by rw [e, e2])
    · omega
  have hB : Below w.heap.size w V := h.b.grown hg h.b.size (fun z e => by have := (h.nm.lt z e).1; omega)
  have hvo : ∀ z, nv.ownBlock = some z → w.heap.size + 1 ≤ z := fun z e => (h.nm.lt z e).1
  have ho : V.heap[w.heap.size]? = W.heap[w.heap.size]? := hg.block _ (Nat.lt_of_lt_of_le h.lt (Nat.le_of_lt hpl)) (fun e => by have := hvo _ e.symm; omega)
  have hp : V.heap[p]? = W.heap[p]? := hg.block _ hpl (fun e => h.np e.symm)
  refine ⟨hB.setCell (p := ⟨p, 1, none⟩) (Nat.le_of_lt h.lt) _, ?_, ?_, (h.all.kept hg ?_).other _ h.vp, hr.other _ (fun e => hgp (Option.some.inj e)), h.lt, h.vp, fun e => hgp (Option.some.inj e), ?_⟩
  · rw [qset_far (by have := h.lt; omega), ho]; exact h.o
  · rw [qset_block (hp.trans h.r)]; rfl
  · exact h.vn
  · cases hv : v.ownBlock with
    | none => exact .inl rfl
    | some z =>
      right
      intro e2
      have e3 : z = g := Option.some.inj e2
      rcases hat with e | e
      · rcases h.vn with e4 | e4
        · rw [hv] at e4; cases e4
        · exact e4 (by rw [hv, e, e3])
      · have := (h.all.lt z hv).2
        omega
/-- a cell of another block is written -/
theorem Qr.other (h : Qr w W p v nv m xs nms) {y j : Nat} (u : Value) (h0 : w.heap.size < y) (hp : y ≠ p) (hv : v.ownBlock ≠ some y) (hn : nv.ownBlock ≠ some y) : Qr w (W.setCell ⟨y, j, none⟩ u) p v nv m xs nms :=
  ⟨h.b.setCell (p := ⟨y, j, none⟩) (Nat.le_of_lt h0) _, (qset_far (by omega)).trans h.o, (qset_far (fun e => hp e.symm)).trans h.r, h.all.other _ hv, h.nm.other _ hn, h.lt, h.vp, h.np, h.vn⟩
theorem wp_gen {P : Program} {c : Code} {Q : Exit → Act → World → Prop} {a : Act} {W : World} (S : World → Prop) (hS : S W) (h : ∀ V, S V → Code.wp P c Q a V) : Code.wp P c Q a W := h W hS
theorem ex_gen {Q : Exit → Act → World → Prop} {e : Exit} {a : Act} {W : World} (S : World → Prop) (hS : S W) (h : ∀ V, S V → Q e a V) : Q e a W := h W hS
theorem wrow_setRow {W : World} {B sz n g : Nat} {v : Value} {xs : List Value} (h : WRow W B sz v n xs) (hB : g < B) (cs : Array Value) : WRow (W.setRow g cs) B sz v n xs :=
  wrow_keep h (by simp) fun k hk => setRow_other W g k cs (by have := (h.lt k hk).1; omega)
/-- it is told, without an error -/
theorem Qr.fin0 (h : Qr w W p v nv m xs nms) (cs : Array Value) : Qf w (W.setRow w.heap.size cs) v nv m xs nms :=
  ⟨snbelow_setRow h.b (Nat.le_refl _) _, wrow_setRow h.all (Nat.lt_succ_self _) _, wrow_setRow h.nm (Nat.lt_succ_self _) _⟩
/-- it is told, with an error -/
theorem Qr.fin (h : Qr w W p v nv m xs nms) (e pos : Int) : ((W.setCell ⟨p, 2, none⟩ (.int .i64 e)).setCell ⟨p, 3, none⟩ (.int .i64 pos)).heap[p]? = some (.cells (resA v nv e pos) 29 (0, 0)) ∧ ((W.setCell ⟨p, 2, none⟩ (.int .i64 e)).setCell ⟨p, 3, none⟩ (.int .i64 pos)).heap[w.heap.size]? = some (.cells (resA (.slice none 0 0) (.slice none 0 0) 0 0) 29 (0, 0)) ∧ ∀ cs, Qf w (((W.setCell ⟨p, 2, none⟩ (.int .i64 e)).setCell ⟨p, 3, none⟩ (.int .i64 pos)).setRow w.heap.size cs) v nv m xs nms := by
  refine ⟨?_, ?_, fun cs => ⟨snbelow_setRow ((h.b.setCell (p := ⟨p, 2, none⟩) (Nat.le_of_lt h.lt) _).setCell (p := ⟨p, 3, none⟩) (Nat.le_of_lt h.lt) _) (Nat.le_refl _) _, wrow_setRow ((h.all.other _ h.vp).other _ h.vp) (Nat.lt_succ_self _) _, wrow_setRow ((h.nm.other _ h.np).other _ h.np) (Nat.lt_succ_self _) _⟩⟩
  · rw [qset_block (qset_block h.r)]; rfl
  · have := h.lt
    rw [qset_far (by omega), qset_far (by omega)]; exact h.o
end
end Go.Proofs.YthpdgghjaglhnaaGreatDoor

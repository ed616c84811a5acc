/-
  The tree that a node in memory is.
-/
import Derived.Test.YtkhbmamgfkpdbaaTreeC
namespace Go.Proofs.Ytkhbmamgfkpdbaa
open Go.ChangeShapes Go.WideShapes Go.ChangeAt Go.RowKit
set_option linter.unusedVariables false
inductive Tr where
  | mk (k : Int) (s : ByteArray) (v : Int) (m : Bool) (kids : List Tr)
/-- the kid of a number in a row, and what it is -/
def KidIs (w : World) (x : Addr) (j : Nat) (P : Value → Prop) : Prop := ∃ k s v m a l c, Kid w x.block (x.off + j * 5) (if j = 0 then x.spot else none) k s v m a l c ∧ P (nd k s v m a l c)
mutual
/-- a node that is that tree -/
def Reads (w : World) : Tr → Value → Prop
  | .mk k s v m ts, u => ∃ a len cap, u = nd k s v m a len cap ∧ s.size ≤ maxLen ∧ (Lit.int .i64 k).wf = true ∧ (Lit.int .u32 v).wf = true ∧ ts.length = len ∧ len ≤ cap ∧ cap ≤ maxLen ∧ (0 < len → ∃ x, a = some x ∧ x.block < w.heap.size ∧ ReadsL w ts x 0)
/-- a row of them, from a number on -/
def ReadsL (w : World) : List Tr → Addr → Nat → Prop
  | [], _, _ => True
  | t :: ts, x, j => KidIs w x j (Reads w t) ∧ ReadsL w ts x (j + 1)
end
mutual
/-- how many nodes -/
def Tr.count : Tr → Nat
  | .mk _ _ _ _ ts => 1 + Tr.countL ts
def Tr.countL : List Tr → Nat
  | [] => 0
  | t :: ts => t.count + Tr.countL ts
end
theorem readsL_get {w : World} {x : Addr} : ∀ (ts : List Tr) (i j : Nat) (t : Tr), ReadsL w ts x i → ts[j]? = some t → KidIs w x (i + j) (Reads w t)
  | [], _, _, _, _, h => by simp at h
  | t0 :: ts, i, 0, t, h, e => by
    simp at e
    subst e
    unfold ReadsL at h
    exact h.1
  | t0 :: ts, i, j + 1, t, h, e => by
    unfold ReadsL at h
    have := readsL_get ts (i + 1) j t h.2 (by simpa using e)
    rw [show i + (j + 1) = i + 1 + j by omega]
    exact this
theorem readsL_of {w : World} {x : Addr} (f : Nat → Tr) : ∀ (n i : Nat), (∀ j, j < n → KidIs w x (i + j) (Reads w (f (i + j)))) → ReadsL w ((List.range' i n).map f) x i
  | 0, i, h => by simp [ReadsL]
  | n + 1, i, h => by
    rw [List.range'_succ, List.map_cons]
    unfold ReadsL
    refine ⟨h 0 (by omega), readsL_of f n (i + 1) fun j hj => ?_⟩
    have := h (j + 1) (by omega)
    rw [show i + (j + 1) = i + 1 + j by omega] at this
    exact this
theorem reads_of {w : World} : ∀ (d : Nat) (u : Value), At w d u → ∃ t, Reads w t u
  | 0, _, h => h.elim
  | d + 1, u, h => by
    obtain ⟨k, s, v, m, a, len, cap, rfl, hs, h1, h2, hl, hc, hk⟩ := h
    by_cases h0 : len = 0
    · subst h0
      refine ⟨.mk k s v m [], ?_⟩
      unfold Reads
      exact ⟨a, 0, cap, rfl, hs, h1, h2, rfl, hl, hc, fun h => absurd h (by omega)⟩
    · obtain ⟨x, rfl, hb, hK⟩ := hk (by omega)
      have hf : ∀ j, ∃ t : Tr, j < len → KidIs w x j (Reads w t) := fun j => by
        by_cases hj : j < len
        · obtain ⟨k, s, v, m, a, l, c, g1, g2⟩ := hK j hj
          obtain ⟨t, ht⟩ := reads_of d _ g2
          exact ⟨t, fun _ => ⟨k, s, v, m, a, l, c, g1, ht⟩⟩
        · exact ⟨.mk 0 .empty 0 false [], fun h => absurd h hj⟩
      obtain ⟨f, hf⟩ := Classical.axiomOfChoice hf
      refine ⟨.mk k s v m ((List.range' 0 len).map f), ?_⟩
      unfold Reads
      refine ⟨some x, len, cap, rfl, hs, h1, h2, by simp, hl, hc, fun _ => ⟨x, rfl, hb, readsL_of f len 0 fun j hj => ?_⟩⟩
      rw [Nat.zero_add]
      exact hf j hj
end Go.Proofs.Ytkhbmamgfkpdbaa

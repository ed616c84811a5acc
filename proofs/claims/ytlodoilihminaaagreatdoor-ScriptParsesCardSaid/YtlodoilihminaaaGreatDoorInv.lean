/-
  A region that draws its order, BY ONE INVARIANT: what holds of the frame and the world, said by which operations have come up. Each operation is looked at once, whatever the order. Nothing of the program.
-/
import Derived.Test.YtlodoilihminaaaGreatDoorRows
import Derived.WalkKit
import Derived.RegionTactic
import Derived.OrdersHeld
import Derived.Deep.RegionHeld
import Derived.Below
import Derived.ChangeAt
import Derived.Laws.Rows
import Derived.Laws.Tables
namespace Go.Proofs.YtlodoilihminaaaGreatDoor
open Go.ChangeShapes Go.WideShapes Go.ChangeAt Go.RowKit
set_option linter.unusedVariables false

/-- the operations that must have come up ahead of operation i -/
def depsOf (md : Region.Mode) (ops : Array Oper) (i : Nat) : List Nat := ((ops[i]?).map fun o => (o.after.toList.filter fun e => Region.binds md e).map (·.on)).getD []
/-- no operation waits for a later one -/
def sorted (md : Region.Mode) (ops : Array Oper) : Bool := (List.range ops.size).all fun i => (depsOf md ops i).all fun d => decide (d < i)
def upOn (L : Nat → Bool) (i : Nat) (k : Nat) : Bool := if k = i then true else L k
def openIn (n : Nat) (L : Nat → Bool) : Nat := ((List.range n).filter fun k => !L k).length
theorem openIn_up (n : Nat) (L : Nat → Bool) (i : Nat) (hi : i < n) (h : L i = false) : openIn n (upOn L i) + 1 = openIn n L := by
  unfold openIn
  induction n with
  | zero => omega
  | succ n ih =>
    rw [List.range_succ, List.filter_append, List.filter_append, List.length_append, List.length_append]
    by_cases e : i = n
    · subst e
      have e1 : (List.range i).filter (fun k => !upOn L i k) = (List.range i).filter (fun k => !L k) := by
        apply List.filter_congr
        intro k hk
        have : k < i := by simpa using hk
        simp [upOn, show ¬ k = i by omega]
      rw [e1]
      simp [upOn, h]
    · have := ih (by omega)
      have e2 : upOn L i n = L n := by simp [upOn, show ¬ n = i by omega]
      simp only [List.filter_cons, List.filter_nil, e2]
      omega
section
variable {P : Program} {ops : Array Oper} {Q : Exit → Act → World → Prop} {md : Region.Mode}
theorem getD_set_true' {listed : Array Bool} {i j : Nat} (h : listed.getD j true = true) : (listed.setIfInBounds i true).getD j true = true := by
  by_cases hj : i = j
  · subst hj
    by_cases hi : i < listed.size
    · simp [Array.getD, hi]
    · simp [Array.getD, hi]
  · rw [getD_set_ne true hj]
    exact h
theorem wpAny_inv {I : (Nat → Bool) → Act → World → Prop} (hs : sorted md ops = true)
    (hstep : ∀ i, i < ops.size → ∀ (L : Nat → Bool) a w, L i = false → (∀ k d, L k = true → (depsOf md ops k).contains d = true → L d = true) → (∀ d, (depsOf md ops i).contains d = true → L d = true) → I L a w → wpOp P ops Q i (I (upOn L i)) a w)
    (hend : ∀ (L : Nat → Bool) a w, (∀ k, k < ops.size → L k = true) → I L a w → Q .normal a w) :
    ∀ (fuel : Nat) (listed : Array Bool) (a : Act) (w : World), listed.size = ops.size → openIn ops.size (fun k => listed.getD k true) ≤ fuel → (∀ k d, listed.getD k true = true → (depsOf md ops k).contains d = true → listed.getD d true = true) → I (fun k => listed.getD k true) a w → wpAny P md ops Q fuel listed a w := by
  have hnone : ∀ (listed : Array Bool), listed.size = ops.size → Region.ready md ops listed = [] → ∀ k, k < ops.size → listed.getD k true = true := by
    intro listed hsz hr k
    induction k using Nat.strongRecOn with
    | _ k ih =>
      intro hk
      by_cases h : listed.getD k true = true
      · exact h
      · exfalso
        have h0 : listed.getD k true = false := by simpa using h
        have hm : k ∈ Region.ready md ops listed := by
          rw [mem_ready]
          refine ⟨h0, ops[k], Array.getElem?_eq_getElem hk, fun e he hb => ?_⟩
          have hd : (depsOf md ops k).contains e.on = true := by
            unfold depsOf
            rw [Array.getElem?_eq_getElem hk]
            simp only [Option.map_some, Option.getD_some, List.contains_iff_mem, List.mem_map, List.mem_filter]
            exact ⟨e, ⟨by simpa using he, hb⟩, rfl⟩
          have hlt : e.on < k := by
            unfold sorted at hs
            rw [List.all_eq_true] at hs
            have h1 := hs k (by simpa using hk)
            rw [List.all_eq_true] at h1
            simpa using h1 e.on (by simpa using hd)
          have := ih e.on hlt (by omega)
          have hin : e.on < listed.size := by omega
          simpa [Array.getD, hin] using this
        rw [hr] at hm
        exact absurd hm (by simp)
  intro fuel
  induction fuel with
  | zero =>
    intro listed a w hsz hf hc hI
    have hall : ∀ k, k < ops.size → listed.getD k true = true := by
      intro k hk
      by_cases h : listed.getD k true = true
      · exact h
      · exfalso
        have : k ∈ (List.range ops.size).filter (fun k => !listed.getD k true) := by
          rw [List.mem_filter]
          exact ⟨by simpa using hk, by simpa using h⟩
        have h1 := List.length_pos_of_mem this
        exact absurd (Nat.lt_of_lt_of_le h1 hf) (by omega)
    refine ⟨?_, hend _ a w hall hI⟩
    unfold Region.ready
    rw [List.filter_eq_nil_iff]
    intro k hk
    have := hall k (by simpa using hk)
    simp only [this]
    simp
  | succ fuel ih =>
    intro listed a w hsz hf hc hI
    refine ⟨fun hr => hend _ a w (hnone listed hsz hr) hI, fun i hi => ?_⟩
    rw [mem_ready] at hi
    obtain ⟨h0, o, ho, hd⟩ := hi
    have hlt : i < ops.size := (Array.getElem?_eq_some_iff.1 ho).1
    have hdeps : ∀ d, (depsOf md ops i).contains d = true → listed.getD d true = true := by
      intro d hdd
      unfold depsOf at hdd
      rw [ho] at hdd
      simp only [Option.map_some, Option.getD_some, List.contains_iff_mem, List.mem_map, List.mem_filter] at hdd
      obtain ⟨e, ⟨he, hb⟩, rfl⟩ := hdd
      have := hd e (by simpa using he) hb
      have hlt2 : e.on < listed.size := by
        rcases Nat.lt_or_ge e.on listed.size with h | h
        · exact h
        · simp [Array.getD, Nat.not_lt.2 h] at this
      simpa [Array.getD, hlt2] using this
    have hst := hstep i hlt (fun k => listed.getD k true) a w h0 hc hdeps hI
    refine wpOp_mono (fun a' w' h => ?_) hst
    have e : (fun k => (listed.setIfInBounds i true).getD k true) = upOn (fun k => listed.getD k true) i := by
      funext k
      unfold upOn
      by_cases hk : k = i
      · subst hk
        rw [if_pos rfl]
        have : k < listed.size := by omega
        simp [Array.getD, this]
      · rw [if_neg hk]
        exact getD_set_ne true (fun e => hk e.symm)
    refine ih _ a' w' (by simpa using hsz) ?_ ?_ (by rw [e]; exact h)
    · rw [e]
      have := openIn_up ops.size (fun k => listed.getD k true) i hlt h0
      omega
    · intro k d hk hkd
      by_cases hki : k = i
      · subst hki
        exact getD_set_true' (hdeps d hkd)
      · have h1 : listed.getD k true = true := by rw [← getD_set_ne true (fun e => hki e.symm)]; exact hk
        exact getD_set_true' (hc k d h1 hkd)
/-- A region that draws, by one invariant. -/
theorem wp_region_inv {id : Nat} {a : Act} {w : World} (I : (Nat → Bool) → Act → World → Prop) (hm : P.follows .mixedOrders = true) (hs : sorted .any ops = true)
    (h0 : I (fun k => decide (ops.size ≤ k)) a w.drew)
    (hstep : ∀ i, i < ops.size → ∀ (L : Nat → Bool) a w, L i = false → (∀ k d, L k = true → (depsOf .any ops k).contains d = true → L d = true) → (∀ d, (depsOf .any ops i).contains d = true → L d = true) → I L a w → wpOp P ops Q i (I (upOn L i)) a w)
    (hend : ∀ (L : Nat → Bool) a w, (∀ k, k < ops.size → L k = true) → I L a w → Q .normal a w) : (Code.region id ops true).wp P Q a w := by
  refine wp_region_any hm ?_
  refine wpAny_inv hs hstep hend ops.size _ a _ (by simp) ?_ ?_ ?_
  · unfold openIn
    exact Nat.le_trans (List.length_filter_le _ _) (by simp)
  · intro k d hk hkd
    exfalso
    by_cases h : k < ops.size
    · simp [Array.getD, h] at hk
    · unfold depsOf at hkd
      rw [Array.getElem?_eq_none (by omega)] at hkd
      simp at hkd
  · have e : (fun k => (Array.replicate ops.size false).getD k true) = fun k => decide (ops.size ≤ k) := by
      funext k
      by_cases hk : k < ops.size
      · simp [Array.getD, hk]
      · simp [Array.getD, hk]
        omega
    rw [e]
    exact h0
/-- The same, the number of its operations a numeral. -/
theorem wp_region_inv' {id : Nat} {a : Act} {w : World} (n : Nat) (hn : ops.size = n) (I : (Nat → Bool) → Act → World → Prop) (hm : P.follows .mixedOrders = true) (hs : sorted .any ops = true)
    (h0 : I (fun k => decide (n ≤ k)) a w.drew)
    (hstep : ∀ i, i < n → ∀ (L : Nat → Bool) a w, L i = false → (∀ k d, L k = true → (depsOf .any ops k).contains d = true → L d = true) → (∀ d, (depsOf .any ops i).contains d = true → L d = true) → I L a w → wpOp P ops Q i (I (upOn L i)) a w)
    (hend : ∀ (L : Nat → Bool) a w, (∀ k, k < n → L k = true) → I L a w → Q .normal a w) : (Code.region id ops true).wp P Q a w := by
  subst hn
  exact wp_region_inv I hm hs h0 hstep hend
end
/-- a slot holds v, once it has come up -/
def Up (l : Bool) (x v : Value) : Prop := l = true → x = v
/-- a slot points to a new block, once it has come up: cells zs, and cs once they are stored -/
def NewAt (l k : Bool) (x : Value) (B : Nat) (t : TypeId) (zs cs : Array Value) (w : World) : Prop := l = true → ∃ b, x = .pointer (some ⟨b, 0, none⟩) ∧ B ≤ b ∧ w.heap[b]? = some (.cells (if k then cs else zs) t (0, 0))
theorem Up.no {l : Bool} {x v : Value} (h : l = false) : Up l x v := fun e => by rw [h] at e; cases e
theorem NewAt.no {l k : Bool} {x : Value} {B : Nat} {t : TypeId} {zs cs : Array Value} {w : World} (h : l = false) : NewAt l k x B t zs cs w := fun e => by rw [h] at e; cases e
theorem lt_heap {w : World} {b : Nat} {o : Obj} (h : w.heap[b]? = some o) : b < w.heap.size := by
  rcases Nat.lt_or_ge b w.heap.size with h' | h'
  · exact h'
  · simp [Array.getElem?_eq_none h'] at h
theorem NewAt.below {l k : Bool} {x : Value} {B : Nat} {t : TypeId} {zs cs : Array Value} {w w' : World} (h : NewAt l k x B t zs cs w) (hb : Below w.heap.size w w') : NewAt l k x B t zs cs w' := fun e => by
  obtain ⟨b, h1, h2, h3⟩ := h e
  exact ⟨b, h1, h2, (hb.block b (lt_heap h3)).trans h3⟩
theorem NewAt.made {k : Bool} {B : Nat} {t : TypeId} {zs cs : Array Value} {w : World} (l : Bool) (hB : B ≤ w.heap.size) (hk : k = false) : NewAt l k (.pointer (some ⟨w.heap.size, 0, none⟩)) B t zs cs (w.alloc (.cells zs t)) := fun _ =>
  ⟨_, rfl, hB, by subst hk; show (w.heap.push _)[w.heap.size]? = _; simp⟩
/-- a store of a whole row into a new block: another one is as it was -/
theorem NewAt.other {l k : Bool} {x : Value} {B : Nat} {t u : TypeId} {zs cs old new : Array Value} {w : World} {g : Nat} {fr : Nat × Nat} (h : NewAt l k x B t zs cs w) (hg : w.heap[g]? = some (.cells old u fr)) (hne : u ≠ t) : NewAt l k x B t zs cs (w.setRow g new) := fun e => by
  obtain ⟨b, h1, h2, h3⟩ := h e
  refine ⟨b, h1, h2, ?_⟩
  rw [setRow_other w g b new (fun e => ?_)]
  · exact h3
  · subst e
    rw [h3] at hg
    injection hg with hg
    injection hg with _ ht _
    exact hne ht.symm
theorem NewAt.stored {B : Nat} {t : TypeId} {zs cs : Array Value} {w : World} {b : Nat} {old : Array Value} (l : Bool) (hB : B ≤ b) (hg : w.heap[b]? = some (.cells old t (0, 0))) : NewAt l true (.pointer (some ⟨b, 0, none⟩)) B t zs cs (w.setRow b cs) := fun _ =>
  ⟨b, rfl, hB, setRow_heap w b old cs t (0, 0) hg⟩
def SliceAt (l : Bool) (x : Value) (B : Nat) (t : TypeId) (n : Nat) (cs : Array Value) (w : World) : Prop := l = true → ∃ b, x = .slice (some ⟨b, 0, none⟩) n n ∧ B ≤ b ∧ w.heap[b]? = some (.cells cs t (0, 0))
theorem SliceAt.no {l : Bool} {x : Value} {B : Nat} {t : TypeId} {n : Nat} {cs : Array Value} {w : World} (h : l = false) : SliceAt l x B t n cs w := fun e => by rw [h] at e; cases e
theorem SliceAt.below {l : Bool} {x : Value} {B : Nat} {t : TypeId} {n : Nat} {cs : Array Value} {w w' : World} (h : SliceAt l x B t n cs w) (hb : Below w.heap.size w w') : SliceAt l x B t n cs w' := fun e => by
  obtain ⟨b, h1, h2, h3⟩ := h e
  exact ⟨b, h1, h2, (hb.block _ (lt_heap h3)).trans h3⟩
theorem SliceAt.made {B : Nat} {t : TypeId} {n : Nat} {cs : Array Value} {w : World} (l : Bool) (hB : B ≤ w.heap.size) : SliceAt l (.slice (some ⟨w.heap.size, 0, none⟩) n n) B t n cs (w.alloc (.cells cs t)) := fun _ =>
  ⟨_, rfl, hB, heap_alloc_new _ _⟩
theorem SliceAt.other {l : Bool} {x : Value} {B : Nat} {t u : TypeId} {n : Nat} {cs old new : Array Value} {w : World} {g : Nat} {fr : Nat × Nat} (h : SliceAt l x B t n cs w) (hg : w.heap[g]? = some (.cells old u fr)) (hne : u ≠ t) : SliceAt l x B t n cs (w.setRow g new) := fun e => by
  obtain ⟨b, h1, h2, h3⟩ := h e
  refine ⟨b, h1, h2, ?_⟩
  rw [setRow_other w g b new (fun e => ?_)]
  · exact h3
  · subst e
    rw [h3] at hg
    injection hg with hg
    injection hg with _ ht _
    exact hne ht.symm
theorem below_setRow' {B g : Nat} {w0 w : World} (hb : Below B w0 w) (hBg : B ≤ g) (cs : Array Value) : Below B w0 (w.setRow g cs) :=
  ⟨hb.os, hb.tape, hb.output, by simpa using hb.size, fun k hk => (setRow_other w g k cs (by omega)).trans (hb.block k hk)⟩
end Go.Proofs.YtlodoilihminaaaGreatDoor

/-
  A loop over a function whose rounds are told what they are handed: an iterator's contract, and the statement's law over it. Nothing of the program.
-/
import Derived.Test.YtlodoilihminaaaGreatDoorScrG
import Derived.RangeFuncNested
import Derived.RangeFuncBound
import Derived.RangeFuncCalls
import Derived.RangeFuncLeaves
namespace Go.Proofs.YtlodoilihminaaaGreatDoor
open Go.ChangeShapes Go.WideShapes Go.ChangeAt Go.RowKit
set_option linter.unusedVariables false
/-- all that lay from C on lies as it lay -/
def Stay (C : Nat) (A B : World) : Prop := A.heap.size ≤ B.heap.size ∧ ∀ b, C ≤ b → b < A.heap.size → B.heap[b]? = A.heap[b]?
theorem Stay.refl (C : Nat) (A : World) : Stay C A A := ⟨Nat.le_refl _, fun _ _ _ => rfl⟩
theorem Stay.trans {C : Nat} {A B D : World} (h : Stay C A B) (k : Stay C B D) : Stay C A D :=
  ⟨Nat.le_trans h.1 k.1, fun b hc hb => by rw [k.2 b hc (Nat.lt_of_lt_of_le hb h.1)]; exact h.2 b hc hb⟩
theorem Stay.more {C C' : Nat} {A B : World} (h : Stay C A B) (hc : C ≤ C') : Stay C' A B := ⟨h.1, fun b hb hl => h.2 b (Nat.le_trans hc hb) hl⟩
theorem Stay.below {C : Nat} {A B : World} (h : Below A.heap.size A B) : Stay C A B := ⟨h.size, fun b _ hb => h.block b hb⟩
theorem Stay.putObj {C : Nat} {A : World} {l : Nat} (o : Obj) (h : l < C) : Stay C A (A.putObj l o) :=
  ⟨by simp, fun b hc _ => World.putObj_heap_other (by omega)⟩
theorem below_putObj {n : Nat} {A : World} {l : Nat} (o : Obj) (h : n ≤ l) (hl : l < A.heap.size) : Below n A (A.putObj l o) :=
  (Below.refl n A).grown (grownBy_putObj' A l o) (by omega) (fun k e => by cases e; omega)
/-- an iterator's contract: each round is told what it is handed -/
def SeqT {α : Type} (P : Program) (gf : Nat) (lb : Array Value) (encs : α → Array Value) (X : List α → α → World → Prop) (N : Nat) (S : List α → Prop) (W : World) : Prop :=
  ∀ (l : Nat) (J Jx : List α → World → Prop), (∀ pre A B, J pre A → Below W.heap.size A B → J pre B) →
    (∀ pre x A, J pre A → W.heap.size ≤ A.heap.size → pre.length < N → X pre x A → YieldAt Fence.wide 0 P l (encs x) A fun e B => (e = .returned (.bool true) ∧ J (pre ++ [x]) B ∧ Stay W.heap.size A B) ∨ (e = .returned (.bool false) ∧ Jx (pre ++ [x]) B)) →
    J [] W → CallsIn Fence.wide 0 P gf (#[.func (.yield l) #[] #[]] ++ lb) W fun e B => (∃ v, e = .returned v) ∧ ((∃ xs, S xs ∧ J xs B) ∨ (∃ pre, Jx pre B))
/-- how the body of a round may be left -/
def toldPost {α : Type} (C : Nat) (I : List α → World → Prop) (Ix : Code → List α → World → Prop) (xs : List α) (A : World) : Exit → Act → World → Prop
  | .normal, _, B => Stay C A B ∧ I xs B
  | .ret, _, B => Stay C A B ∧ Ix .ret xs B
  | .exit id, _, B => Stay C A B ∧ Ix (.exit id) xs B
  | .goto t, _, B => Stay C A B ∧ Ix (.goto t) xs B
  | .panic _, _, _ => False
  | .outgrown, _, _ => False
theorem rangeFunc_told {α : Type} {P : Program} {g : Operand} {ps : Array Tmp} {assign body : Code} {Q : Exit → Act → World → Prop} {a : Act} {w : World} {gf : Nat} {lb : Array Value}
    (hg : a.eval g = .func (.func gf) #[] lb) (eg : ∀ args w, (callFunc gf args).run P w = .ok (.enter gf args) w) {encs : α → Array Value} (hps : ∀ x, (encs x).size = ps.size) {X : List α → α → World → Prop} {N : Nat} {S : List α → Prop}
    (hseq : ∀ rec, SeqT P gf lb encs X N S ((w.alloc (.deferred (some []))).alloc (.loop rec)))
    (hX : ∀ pre x A B, X pre x A → Stay (w.heap.size + 2) A B → X pre x B)
    (I : List α → World → Prop) (Ix : Code → List α → World → Prop) (hI : ∀ pre A B, I pre A → Below w.heap.size A B → I pre B) (hIx : ∀ c pre A o, w.heap.size + 1 < A.heap.size → Ix c pre A → Ix c pre (A.putObj (w.heap.size + 1) o)) (h0 : I [] w)
    (G : List α → α → Act → World → Prop) (hG : ∀ pre x a₁ A B, G pre x a₁ A → Stay (w.heap.size + 2) A B → G pre x a₁ B)
    (hassign : ∀ (l : Nat) (pre : List α) (x : α) (A : World), w.heap.size + 2 ≤ A.heap.size → I pre A → X pre x A →
      assign.wpIn (Fence.wide.inRound l) 0 P (Exit.then (fun a₁ B => Below A.heap.size A B ∧ G pre x a₁ B) (fun _ _ _ => False)) { tmps := (ps.zip (encs x)).foldl (fun t (p, v) => t.setIfInBounds p v) a.tmps, defers := [] } A)
    (hbody : ∀ (l : Nat) (pre : List α) (x : α) (a₁ : Act) (A : World), w.heap.size + 2 ≤ A.heap.size → I pre A → pre.length < N → X pre x A → G pre x a₁ A → A.heap[w.heap.size]? = some (.deferred (some [])) → (∃ r, A.heap[w.heap.size + 1]? = some (.loop r)) → body.wpIn (Fence.wide.inRound l) 0 P (toldPost w.heap.size I Ix (pre ++ [x]) A) a₁ A)
    (hdone : ∀ (xs : List α) (W : World), S xs → I xs W → W.heap[w.heap.size]? = some (.deferred (some [])) → Q .normal { a with defers := { target := .collected w.heap.size, args := #[] } :: a.defers } W)
    (hstop : ∀ (c : Code) (pre : List α) (W : World), Ix c pre W → W.heap[w.heap.size]? = some (.deferred (some [])) → c.wpIn Fence.wide 0 P Q { a with defers := { target := .collected w.heap.size, args := #[] } :: a.defers } W) :
    (Code.rangeFunc g ps assign body).wpIn Fence.wide 0 P Q a w := by
  refine wpIn_rangeFunc ?_
  intro fn hfn
  let rec0 : LoopState → Option Code → Loop := fun st pe => { state := st, pending := pe, fn, tmps := a.tmps, params := ps, assign, body, defers := w.heap.size }
  have hW1 : ((w.alloc (.deferred (some []))).alloc (.loop (rec0 .ready none))).heap.size = w.heap.size + 2 := by simp
  have hd1 : ((w.alloc (.deferred (some []))).alloc (.loop (rec0 .ready none))).heap[w.heap.size]? = some (.deferred (some [])) := by
    rw [Below.heap_alloc _ _ _ (by simp)]; exact heap_alloc_new w _
  have hl1 : ((w.alloc (.deferred (some []))).alloc (.loop (rec0 .ready none))).heap[w.heap.size + 1]? = some (.loop (rec0 .ready none)) := by
    have := heap_alloc_new (w.alloc (.deferred (some []))) (.loop (rec0 .ready none))
    simpa using this
  have hb1 : Below w.heap.size w ((w.alloc (.deferred (some []))).alloc (.loop (rec0 .ready none))) := (sbelow1 w _).alloc (by simp) _
  have hsq := hseq (rec0 .ready none)
  refine ⟨w.heap.size + 1, [{ target := .collected w.heap.size, args := #[] }], (w.alloc (.deferred (some []))).alloc (.loop (rec0 .ready none)), { target := .fn (.func gf) lb, args := #[.func (.yield (w.heap.size + 1)) #[] #[]] }, (w.alloc (.deferred (some []))).alloc (.loop (rec0 .ready none)), gf,
    #[.func (.yield (w.heap.size + 1)) #[] #[]] ++ lb, (w.alloc (.deferred (some []))).alloc (.loop (rec0 .ready none)), run_enterLoop_outer fn a.tmps ps assign body, ?_, fun f' hf' => trivial, ?_, (fun h => by cases h), ?_⟩
  · simp only [resolve, hg]
    simp [go_sem]
  · simp [invoke, go_sem, eg]
  · refine (hsq (w.heap.size + 1) (fun pre A => I pre A ∧ A.heap[w.heap.size + 1]? = some (.loop (rec0 .ready none)) ∧ A.heap[w.heap.size]? = some (.deferred (some [])))
      (fun pre A => ∃ c, Ix c pre A ∧ A.heap[w.heap.size + 1]? = some (.loop (rec0 .done (some c))) ∧ A.heap[w.heap.size]? = some (.deferred (some []))) ?_ ?_ ⟨hI _ _ _ h0 hb1, hl1, hd1⟩).mono ?_
    · rintro pre A B ⟨hi, hl, hd⟩ hb
      rw [hW1] at hb
      exact ⟨hI _ _ _ hi (hb.mono (by omega)), by rw [hb.block _ (by omega)]; exact hl, by rw [hb.block _ (by omega)]; exact hd⟩
    · rintro pre x A ⟨hi, hl, hd⟩ hs hlen hx
      rw [hW1] at hs ⊢
      refine ⟨fn, _, assign, body, run_yield (args := encs x) hl (hps x), roundIn_of_wpIn hfn (wpIn_mono (hassign (w.heap.size + 1) pre x A hs hi hx) ?_)⟩
      rintro e a₁ A₁ he
      cases e with
      | normal =>
        obtain ⟨hb2, hg2⟩ := he
        have hl2 : A₁.heap[w.heap.size + 1]? = some (.loop (rec0 .ready none)) := by rw [hb2.block _ (by omega)]; exact hl
        have hd2 : A₁.heap[w.heap.size]? = some (.deferred (some [])) := by rw [hb2.block _ (by omega)]; exact hd
        have hs2 : w.heap.size + 2 ≤ A₁.heap.size := Nat.le_trans hs hb2.size
        refine ⟨_, run_beginRound hl2 rfl, ?_⟩
        have hst : Stay (w.heap.size + 2) A (A₁.putObj (w.heap.size + 1) (.loop { rec0 .ready none with state := .busy })) := (Stay.below hb2).trans (Stay.putObj _ (by omega))
        have hbb : Below w.heap.size A (A₁.putObj (w.heap.size + 1) (.loop { rec0 .ready none with state := .busy })) := (hb2.mono (by omega)).trans (below_putObj _ (by omega) (by omega))
        have hl3 : (A₁.putObj (w.heap.size + 1) (.loop { rec0 .ready none with state := .busy })).heap[w.heap.size + 1]? = some (.loop { rec0 .ready none with state := .busy }) := World.putObj_heap_same (by omega)
        have hd3 : (A₁.putObj (w.heap.size + 1) (.loop { rec0 .ready none with state := .busy })).heap[w.heap.size]? = some (.deferred (some [])) := (World.putObj_heap_other (by omega)).trans hd2
        have hs3 : w.heap.size + 2 ≤ (A₁.putObj (w.heap.size + 1) (.loop { rec0 .ready none with state := .busy })).heap.size := by simpa using hs2
        refine wpIn_mono (hbody (w.heap.size + 1) pre x a₁ _ hs3 (hI _ _ _ hi hbb) hlen (hX _ _ _ _ hx hst) (hG _ _ _ _ _ hg2 (Stay.putObj _ (by omega))) hd3 ⟨_, hl3⟩) ?_
        generalize A₁.putObj (w.heap.size + 1) (.loop { rec0 .ready none with state := .busy }) = A₂ at *
        have fin : ∀ (jump : Option Code) (B : World), Stay w.heap.size A₂ B → (Instr.endRound (w.heap.size + 1) jump).run P B = .ok (.bool jump.isNone) (B.putObj (w.heap.size + 1) (.loop (rec0 (if jump.isNone then .ready else .done) jump))) ∧ w.heap.size + 2 ≤ B.heap.size ∧ (B.putObj (w.heap.size + 1) (.loop (rec0 (if jump.isNone then .ready else .done) jump))).heap[w.heap.size + 1]? = some (.loop (rec0 (if jump.isNone then .ready else .done) jump)) ∧ (B.putObj (w.heap.size + 1) (.loop (rec0 (if jump.isNone then .ready else .done) jump))).heap[w.heap.size]? = some (.deferred (some [])) := fun jump B hB => by
          have hB1 : B.heap[w.heap.size + 1]? = some (.loop { rec0 .ready none with state := .busy }) := by rw [hB.2 _ (by omega) (by omega)]; exact hl3
          have hB2 : B.heap[w.heap.size]? = some (.deferred (some [])) := by rw [hB.2 _ (by omega) (by omega)]; exact hd3
          have hBs : w.heap.size + 2 ≤ B.heap.size := Nat.le_trans hs3 hB.1
          exact ⟨run_endRound jump hB1, hBs, World.putObj_heap_same (by omega), (World.putObj_heap_other (by omega)).trans hB2⟩
        rintro e2 a3 B hp
        cases e2 with
        | normal =>
          obtain ⟨hst2, hi2⟩ := hp
          obtain ⟨hr, hBs, hB1, hB2⟩ := fin none B hst2
          exact ⟨_, _, hr, .inl ⟨rfl, ⟨hI _ _ _ hi2 (below_putObj _ (by omega) (by omega)), hB1, hB2⟩, (hst.trans (hst2.more (by omega))).trans (Stay.putObj _ (by omega))⟩⟩
        | ret =>
          obtain ⟨hst2, hi2⟩ := hp
          obtain ⟨hr, hBs, hB1, hB2⟩ := fin (some .ret) B hst2
          exact ⟨_, _, hr, .inr ⟨rfl, .ret, hIx _ _ _ _ (by omega) hi2, hB1, hB2⟩⟩
        | exit id =>
          obtain ⟨hst2, hi2⟩ := hp
          obtain ⟨hr, hBs, hB1, hB2⟩ := fin (some (.exit id)) B hst2
          exact ⟨_, _, hr, .inr ⟨rfl, .exit id, hIx _ _ _ _ (by omega) hi2, hB1, hB2⟩⟩
        | goto t =>
          obtain ⟨hst2, hi2⟩ := hp
          obtain ⟨hr, hBs, hB1, hB2⟩ := fin (some (.goto t)) B hst2
          exact ⟨_, _, hr, .inr ⟨rfl, .goto t, hIx _ _ _ _ (by omega) hi2, hB1, hB2⟩⟩
        | panic ch => exact hp.elim
        | outgrown => exact hp.elim
      | _ => exact he.elim
    · rintro e W2 ⟨⟨v, rfl⟩, (⟨xs, hS, hi, hl, hd⟩ | ⟨pre, c, hi, hl, hd⟩)⟩
      · have hlt : w.heap.size + 1 < W2.heap.size := (Array.getElem?_eq_some_iff.1 hl).1
        exact ⟨none, _, run_endLoop hl (by simp [rec0]), hdone xs _ hS (hI _ _ _ hi (below_putObj _ (by omega) hlt)) ((World.putObj_heap_other (by omega)).trans hd)⟩
      · have hlt : w.heap.size + 1 < W2.heap.size := (Array.getElem?_eq_some_iff.1 hl).1
        exact ⟨some c, _, run_endLoop hl (by simp [rec0]), hstop c pre _ (hIx _ _ _ _ hlt hi) ((World.putObj_heap_other (by omega)).trans hd)⟩
end Go.Proofs.YtlodoilihminaaaGreatDoor

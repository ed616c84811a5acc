/-
  A script's lines; script.take: one of them.
-/
import Derived.Test.YtlodoilihminaaaGreatDoorScrZD
namespace Go.Proofs.YtlodoilihminaaaGreatDoor
open Go.ChangeShapes Go.WideShapes Go.ChangeAt Go.RowKit
set_option linter.unusedVariables false
set_option linter.unusedSimpArgs false
/-! ### lines -/
/-- lines that end, and what stands behind the last one -/
def lnF : List UInt8 → List (List UInt8) × List UInt8
  | [] => ([], [])
  | c :: t => if c = 10 then ([] :: (lnF t).1, (lnF t).2) else match (lnF t).1 with
    | [] => ([], c :: (lnF t).2)
    | w :: r => ((c :: w) :: r, (lnF t).2)
theorem lnF_cut (t : List UInt8) : lnF t = if 10 ∈ t then (k1 10 t :: (lnF (k2 10 t)).1, (lnF (k2 10 t)).2) else ([], t) := by
  induction t with
  | nil => rfl
  | cons c t ih =>
    by_cases hc : c = 10
    · subst hc
      have h1 : k1 10 (10 :: t) = [] := rfl
      have h2 : k2 10 (10 :: t) = t := rfl
      rw [if_pos (by simp), h1, h2]
      conv => lhs; unfold lnF
      rw [if_pos rfl]
    · have e1 : k1 10 (c :: t) = c :: k1 10 t := by unfold k1; rw [List.takeWhile_cons_of_pos (by simp [hc])]
      have e2 : k2 10 (c :: t) = k2 10 t := by unfold k2; rw [List.dropWhile_cons_of_pos (by simp [hc])]
      have e3 : (10 ∈ c :: t) ↔ 10 ∈ t := by simp [Ne.symm hc]
      conv => lhs; unfold lnF
      rw [if_neg hc, e1, e2]
      by_cases hm : 10 ∈ t
      · rw [if_pos (e3.2 hm), ih, if_pos hm]
      · rw [if_neg (fun h => hm (e3.1 h)), ih, if_neg hm]
/-- is the line of that number right? -/
def lineOk (i : Nat) (x : List UInt8) : Bool := if i = 0 then decide (c1 x = wCap) && capB (numOf (c2 x)) else readB x && decide (i ≤ 4096)
def tkC (i : Nat) (c : Int) (x : List UInt8) : Int := if i = 0 then numOf (c2 x) else c
def tkL (i : Nat) (l : List Ac) (x : List UInt8) : List Ac := if i = 0 then l else if lineOk i x = true then l ++ [rdA x] else l
/-! ### acts in a row of one's own -/
def RFar (M : Nat) (v : Value) (A : Option Addr) (n : Nat) : Prop := 0 < n → ∃ x, A = some x ∧ M ≤ x.block ∧ v.ownBlock ≠ some x.block
theorem RFar.lo {M : Nat} {v : Value} {A : Option Addr} {n : Nat} (h : RFar M v A n) : RLo M A n := fun h0 => by
  obtain ⟨x, e, h1, -⟩ := h h0
  exact ⟨x, e, h1⟩
structure OA (W : World) (M : Nat) (v : Value) (l : List Ac) (xs : List Value) : Prop where
  own : W.ownsRow M 27 6 v l.length xs
  at_ : ∀ i a, l[i]? = some a → ∃ bA bn bc nA nn nc, (∀ o, o < 6 → xs[i * 6 + o]? = (actC a.kind a.name bA bn bc nA nn nc a.mem a.fuel)[o]?) ∧ ActAt W a bA bn bc nA nn nc ∧ RFar M v bA bn ∧ RFar M v nA nn ∧ (Lit.int .i64 a.kind).wf = true
theorem own_keep {w w' : World} {b0 : Nat} {T : TypeId} {sz : Nat} {v : Value} {n : Nat} {xs : List Value} (h : w.ownsRow b0 T sz v n xs) (hk : ∀ b, v.ownBlock = some b → w'.heap[b]? = w.heap[b]?) : w'.ownsRow b0 T sz v n xs := by
  refine ⟨h.1, ?_⟩
  rcases h.2 with hn | ⟨g, cap, cur, rfl, hb, hgg, rest⟩
  · exact .inl hn
  · exact .inr ⟨g, cap, cur, rfl, hb, by rw [hk g rfl]; exact hgg, rest⟩
theorem OA.keep {W W' : World} {M : Nat} {v : Value} {l : List Ac} {xs : List Value} (h : OA W M v l xs) (hs : W.heap.size ≤ W'.heap.size) (hk : ∀ z, M ≤ z → z < W.heap.size → W'.heap[z]? = W.heap[z]?) : OA W' M v l xs := by
  refine ⟨own_keep h.own fun b e => hk b (h.own.lt b e).1 (h.own.lt b e).2, fun i a ha => ?_⟩
  obtain ⟨bA, bn, bc, nA, nn, nc, h1, h2, h3, h4, h5⟩ := h.at_ i a ha
  exact ⟨bA, bn, bc, nA, nn, nc, h1, h2.keep h3.lo h4.lo hs hk, h3, h4, h5⟩
theorem OA.below {W W' : World} {M : Nat} {v : Value} {l : List Ac} {xs : List Value} (h : OA W M v l xs) (hb : Below W.heap.size W W') : OA W' M v l xs := h.keep hb.size fun z _ hz => hb.block z hz
theorem OA.nil (W : World) (M : Nat) : OA W M (.slice none 0 0) [] [] := ⟨World.ownsRow_nil _ _ _ _, fun i a h => by simp at h⟩
/-- one more -/
theorem OA.snoc {W X : World} {M : Nat} {v : Value} {l : List Ac} {xs : List Value} (h : OA W M v l xs) {a : Ac} {bA : Option Addr} {bn bc : Nat} {nA : Option Addr} {nn nc : Nat} (ha : ActAt W a bA bn bc nA nn nc) (hr1 : RFar M v bA bn) (hr2 : RFar M v nA nn) (hk : (Lit.int .i64 a.kind).wf = true) {g cap : Nat}
    (ho : X.ownsRow M 27 6 (.slice (some ⟨g, 0, none⟩) (l.length + 1) cap) (l.length + 1) (xs ++ (actC a.kind a.name bA bn bc nA nn nc a.mem a.fuel).toList)) (hg : W.grownBy X v.ownBlock) (hv : v.ownBlock = some g ∨ g = W.heap.size) : OA X M (.slice (some ⟨g, 0, none⟩) (l.length + 1) cap) (l ++ [a]) (xs ++ (actC a.kind a.name bA bn bc nA nn nc a.mem a.fuel).toList) := by
  have hxl : xs.length = l.length * 6 := h.own.1
  have far : ∀ (u : World) (A : Option Addr) (n : Nat), RFar M v A n → (0 < n → ∃ x, A = some x ∧ x.block < W.heap.size) → RFar M (.slice (some ⟨g, 0, none⟩) (l.length + 1) cap) A n := fun u A n hf hlt h0 => by
    obtain ⟨x, e, h1, h2⟩ := hf h0
    obtain ⟨y, e2, h3⟩ := hlt h0
    rw [e] at e2
    cases e2
    refine ⟨x, e, h1, fun e3 => ?_⟩
    have e4 : g = x.block := Option.some.inj e3
    rcases hv with hv | hv
    · exact h2 (by rw [hv, e4])
    · omega
  have kp : ∀ (b : Ac) (bA : Option Addr) (bn bc : Nat) (nA : Option Addr) (nn nc : Nat), ActAt W b bA bn bc nA nn nc → RFar M v bA bn → RFar M v nA nn → ActAt X b bA bn bc nA nn nc := fun b bA bn bc nA nn nc hb h1 h2 => by
    refine ⟨hb.hnm, ⟨hb.hbr.1, fun h0 => ?_⟩, hb.hbb, hb.hbn, hb.hbc, ⟨hb.hnr.1, hb.hnr.2.1, fun h0 => ?_⟩, hb.hnn, hb.hm, hb.hf⟩
    · obtain ⟨x, e, hx, hc⟩ := hb.hbr.2 h0
      obtain ⟨y, e2, _, hy⟩ := h1 h0
      rw [e] at e2
      cases e2
      refine ⟨x, e, Nat.lt_of_lt_of_le hx hg.size, fun i hi => ?_⟩
      rw [World.cell?_of_block (w := W) (hg.block _ (by rw [block_add]; exact hx) (fun e3 => hy (by rw [← e3, block_add])))]
      exact hc i hi
    · obtain ⟨x, e, hx, hc⟩ := hb.hnr.2.2 h0
      obtain ⟨y, e2, _, hy⟩ := h2 h0
      rw [e] at e2
      cases e2
      refine ⟨x, e, Nat.lt_of_lt_of_le hx hg.size, fun i l hl => ?_⟩
      rw [World.cell?_of_block (w := W) (hg.block _ (by rw [block_add]; exact hx) (fun e3 => hy (by rw [← e3, block_add])))]
      exact hc i l hl
  have lt1 : ∀ (b : Ac) (bA : Option Addr) (bn bc : Nat) (nA : Option Addr) (nn nc : Nat), ActAt W b bA bn bc nA nn nc → (0 < bn → ∃ x, bA = some x ∧ x.block < W.heap.size) ∧ (0 < nn → ∃ x, nA = some x ∧ x.block < W.heap.size) := fun b bA bn bc nA nn nc hb =>
    ⟨fun h0 => by obtain ⟨x, e, hx, -⟩ := hb.hbr.2 h0; exact ⟨x, e, hx⟩, fun h0 => by obtain ⟨x, e, hx, -⟩ := hb.hnr.2.2 h0; exact ⟨x, e, hx⟩⟩
  refine ⟨by rw [List.length_append, List.length_singleton]; exact ho, fun i b hb => ?_⟩
  by_cases hi : i < l.length
  · rw [List.getElem?_append_left hi] at hb
    obtain ⟨bA', bn', bc', nA', nn', nc', h1, h2, h3, h4, h5⟩ := h.at_ i b hb
    refine ⟨bA', bn', bc', nA', nn', nc', fun o ho => ?_, kp _ _ _ _ _ _ _ h2 h3 h4, far W _ _ h3 (lt1 _ _ _ _ _ _ _ h2).1, far W _ _ h4 (lt1 _ _ _ _ _ _ _ h2).2, h5⟩
    rw [List.getElem?_append_left (by omega)]
    exact h1 o ho
  · have hil : i = l.length := by
      have := (List.getElem?_eq_some_iff.1 hb).1
      simp at this
      omega
    subst hil
    rw [List.getElem?_append_right (Nat.le_refl _)] at hb
    simp at hb
    subst hb
    refine ⟨bA, bn, bc, nA, nn, nc, fun o ho => ?_, kp _ _ _ _ _ _ _ ha hr1 hr2, far W _ _ hr1 (lt1 _ _ _ _ _ _ _ ha).1, far W _ _ hr2 (lt1 _ _ _ _ _ _ _ ha).2, hk⟩
    rw [List.getElem?_append_right (by omega)]
    rw [show l.length * 6 + o - xs.length = o by omega, Array.getElem?_toList]
/-- .. is a row of acts -/
theorem OA.row {W : World} {M : Nat} {v : Value} {l : List Ac} {xs : List Value} (h : OA W M v l xs) : ∃ A c, v = .slice A l.length c ∧ l.length ≤ c ∧ c ≤ maxLen ∧ ScRow W l A l.length ∧ (0 < l.length → ∃ x, A = some x ∧ M ≤ x.block) := by
  rcases h.own.2 with ⟨rfl, hn⟩ | ⟨g, cap, cur, rfl, hB, hg, hn, hm, hs, hx⟩
  · have : l = [] := List.eq_nil_of_length_eq_zero hn
    subst this
    exact ⟨none, 0, rfl, Nat.le_refl _, Nat.zero_le _, ⟨rfl, fun h => absurd h (by simp)⟩, fun h => absurd h (by simp)⟩
  · refine ⟨_, cap, rfl, hn, hm, ⟨rfl, fun h0 => ⟨⟨g, 0, none⟩, rfl, (Array.getElem?_eq_some_iff.1 hg).1, fun i a ha => ?_⟩⟩, fun _ => ⟨_, rfl, hB⟩⟩
    obtain ⟨bA, bn, bc, nA, nn, nc, h1, h2, h3, h4, h5⟩ := h.at_ i a ha
    have hi := (List.getElem?_eq_some_iff.1 ha).1
    have hc : ∀ o, o < 6 → W.cell? ⟨g, i * 6 + o, none⟩ = (actC a.kind a.name bA bn bc nA nn nc a.mem a.fuel)[o]? := fun o ho => by
      rw [cell_of_row W g (i * 6 + o) cur _ (0, 0) hg, ← h1 o ho, ← hx, List.getElem?_take, if_pos (by omega), Array.getElem?_toList]
    have e : (⟨g, 0, none⟩ : Addr).add (i * 6) = ⟨g, i * 6, none⟩ := by unfold Addr.add; split <;> simp_all
    refine ⟨bA, bn, bc, nA, nn, nc, ?_, h2, h5⟩
    rw [e]
    exact ⟨hc 0 (by omega), hc 1 (by omega), hc 2 (by omega), hc 3 (by omega), hc 4 (by omega), hc 5 (by omega)⟩
end Go.Proofs.YtlodoilihminaaaGreatDoor

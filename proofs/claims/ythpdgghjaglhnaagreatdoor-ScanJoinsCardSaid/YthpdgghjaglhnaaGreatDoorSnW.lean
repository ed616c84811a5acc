/-
  A scanner that is run to its end beside a row of the symbols that it told.
-/
import Derived.Test.YthpdgghjaglhnaaGreatDoorSnV
import Derived.Test.YthpdgghjaglhnaaGreatDoorSnQ
namespace Go.Proofs.YthpdgghjaglhnaaGreatDoor
open Go.ChangeShapes Go.WideShapes Go.ChangeAt Go.RowKit
open Ev (WRow)
set_option linter.unusedVariables false
set_option linter.unusedSimpArgs false
/-- so many symbols on -/
def stp (u : Sn) : Nat → Sn
  | 0 => u
  | n + 1 => getF (stp u n)
/-- a symbol is read -/
theorem get_sym {s : Sn} (hc : s.code = 0) (ha : s.at_ ≤ s.src.length) (hk : 0 ≤ s.kw) (hy : (getF s).sym ≠ 0) : ∃ p : Nat, s.at_ ≤ p ∧ p < s.src.length ∧ (getF s).pos = (p : Int) ∧ p < (getF s).at_ ∧ (getF s).at_ ≤ s.src.length ∧ (getF s).code = 0 ∧ (getF s).src = s.src ∧ (getF s).kw = s.kw := by
  have h0 : (getF s).code = 0 := by
    by_cases h : (getF s).code = 0
    · exact h
    · exact absurd (get_ok (ok_0 hc) h).1 hy
  obtain ⟨p, p1, p2, pb, pp, hcase⟩ := get_cases hc ha hk h0
  rcases hcase with ⟨_, e⟩ | ⟨plt, m, y, va, i, tx, ns, t, e⟩
  · rw [e] at hy
    exact absurd rfl hy
  · have m1 := t.m1
    have ml := t.ml
    exact ⟨p, p1, plt, pp, by rw [e]; show p < p + m; omega, by rw [e]; exact ml, h0, by rw [e]; rfl, by rw [e]; rfl⟩
structure At0 (u s : Sn) (i : Nat) : Prop where
  c : s.code = 0
  a : s.at_ ≤ u.src.length
  k : 0 ≤ s.kw
  e : s.src = u.src
  i : i ≤ s.at_
theorem at0_all {u : Sn} (h : At0 u u 0) : ∀ i, (∀ j, j < i → (stp u (j + 1)).sym ≠ 0) → At0 u (stp u i) i
  | 0, _ => h
  | i + 1, hj => by
    have ih := at0_all h i (fun j hlt => hj j (by omega))
    obtain ⟨p, p1, p2, p3, p4, p5, p6, p7, p8⟩ := get_sym ih.c (by rw [ih.e]; exact ih.a) ih.k (hj i (by omega))
    have hi := ih.i
    exact ⟨p6, by rw [ih.e] at p5; exact p5, by show 0 ≤ (getF _).kw; rw [p8]; exact ih.k, by show (getF _).src = _; rw [p7]; exact ih.e, by show i + 1 ≤ (getF _).at_; omega⟩
/-- the last place -/
def lastP (u : Sn) : Nat → Int
  | 0 => -1
  | i + 1 => (stp u (i + 1)).pos
/-- places rise -/
theorem rise {u : Sn} (h : At0 u u 0) (i : Nat) (hj : ∀ j, j < i → (stp u (j + 1)).sym ≠ 0) (hy : (stp u (i + 1)).sym ≠ 0) : lastP u i < (stp u (i + 1)).pos ∧ (stp u (i + 1)).pos < u.src.length ∧ 0 ≤ (stp u (i + 1)).pos ∧ i < u.src.length := by
  have ih := at0_all h i hj
  obtain ⟨p, p1, p2, p3, p4, p5, p6, p7, p8⟩ := get_sym ih.c (by rw [ih.e]; exact ih.a) ih.k hy
  have hi := ih.i
  rw [ih.e] at p2
  have e : (stp u (i + 1)).pos = (p : Int) := p3
  refine ⟨?_, by omega, by omega, by omega⟩
  match i, hj, ih, p1 with
  | 0, _, _, _ => show -1 < _; omega
  | i + 1, hj, ih, p1 =>
    have ih0 := at0_all h i (fun j hlt => hj j (by omega))
    obtain ⟨q, q1, q2, q3, q4, q5, q6, q7, q8⟩ := get_sym ih0.c (by rw [ih0.e]; exact ih0.a) ih0.k (hj i (by omega))
    have e2 : (stp u (i + 1)).pos = (q : Int) := q3
    have e3 : q < (stp u (i + 1)).at_ := q4
    show (stp u (i + 1)).pos < _
    omega
theorem runs_stp {u : Sn} (h : At0 u u 0) (n : Nat) (hj : ∀ j, j < n → (stp u (j + 1)).sym ≠ 0) (hc : (stp u (n + 1)).code = 0) (hy : (stp u (n + 1)).sym = 0) : ∀ k i, i + k = n → Runs k (stp u i) := by
  intro k
  induction k with
  | zero =>
    intro i hi
    obtain rfl : i = n := by omega
    exact ⟨hc, hy⟩
  | succ k ih =>
    intro i hi
    exact ⟨(at0_all h (i + 1) (fun j hlt => hj j (by omega))).c, hj i (by omega), ih (i + 1) (by omega)⟩
/-- the symbols' cells -/
def rowL (u : Sn) : Nat → List Value
  | 0 => []
  | n + 1 => rowL u n ++ (symC (stp u (n + 1))).toList
theorem rowL_len (u : Sn) : ∀ n, (rowL u n).length = n * 5
  | 0 => rfl
  | n + 1 => by rw [rowL, List.length_append, rowL_len u n]; simp [symC]; omega
theorem rowL_get (u : Sn) : ∀ n i o, i < n → o < 5 → (rowL u n)[i * 5 + o]? = (symC (stp u (i + 1)))[o]?
  | 0, i, o, h, _ => absurd h (Nat.not_lt_zero _)
  | n + 1, i, o, h, ho => by
    rw [rowL, List.getElem?_append, rowL_len]
    by_cases e : i < n
    · rw [if_pos (by omega), rowL_get u n i o e ho]
    · obtain rfl : i = n := by omega
      rw [if_neg (by omega), show i * 5 + o - i * 5 = o by omega, Array.getElem?_toList]
theorem spr_len : ∀ (n : Nat) (s : Sn) (h : Runs n s) (hc : s.code = 0) (ha : s.at_ ≤ s.src.length) (hk : 0 ≤ s.kw), (spr n (getF s)).length + (getF s).pos.toNat ≤ 17 * n + s.src.length
  | 0, s, h, hc, ha, hk => by
    obtain ⟨p, p1, p2, pb, pp, _⟩ := get_cases hc ha hk h.1
    rw [spr, pp]
    simp; omega
  | n + 1, s, h, hc, ha, hk => by
    obtain ⟨r1, r2, r3⟩ := h
    obtain ⟨p, p1, p2, p3, p4, p5, p6, p7, p8⟩ := get_sym hc ha hk r2
    have ih := spr_len n (getF s) r3 p6 (by rw [p7]; exact p5) (by rw [p8]; exact hk)
    obtain ⟨q, q1, q2, qb, qq, _⟩ := get_cases (u := getF s) p6 (by rw [p7]; exact p5) (by rw [p8]; exact hk) r3.code
    rw [p7] at ih q2
    rw [qq] at ih
    rw [spr, p3, qq, p7]
    simp [gapC]
    simp at ih
    omega
theorem wrow_keep {w W : World} {B sz n : Nat} {v : Value} {xs : List Value} (hr : WRow w B sz v n xs) (hs : w.heap.size ≤ W.heap.size) (hz : ∀ k, v.ownBlock = some k → W.heap[k]? = w.heap[k]?) : WRow W B sz v n xs := by
  refine ⟨hr.1, ?_⟩
  rcases hr.2 with hn | ⟨b, f, c, rfl, hb, hl, h1, h2, h3, h4⟩
  · exact .inl hn
  · have e := hz b rfl
    exact .inr ⟨b, f, c, rfl, hb, Nat.lt_of_lt_of_le hl hs, h1, h2, fun j x hj => by rw [World.cell?_of_block e]; exact h3 j x hj, fun j hj => by rw [World.cell?_of_block e, World.frozen?_of_block e]; exact h4 j hj⟩
/-- a scanner beside a row -/
structure L1 (w W : World) (q : Sp) (s : Sn) (v : Value) (n : Nat) (xs : List Value) : Prop where
  b : Below w.heap.size w W
  sn : SnAt W w.heap.size q s
  r : WRow W w.heap.size 5 v n xs
  sep : ∀ k, v.ownBlock = some k → k ≠ q.p ∧ k ≠ q.ib ∧ k ≠ q.gb ∧ q.nv.ownBlock ≠ some k ∧ q.sv.ownBlock ≠ some k
section
variable {w W V : World} {q q' : Sp} {s s' : Sn} {v : Value} {n : Nat} {xs : List Value}
theorem L1.next (h : L1 w W q s v n xs) (hb : Below W.heap.size W V) : L1 w V q s v n xs :=
  ⟨h.b.trans (hb.mono h.b.size), h.sn.next hb, h.r.below hb, h.sep⟩
theorem L1.wrote (h : L1 w W q s v n xs) (hs : SnAt V w.heap.size q' s') (hf : Sf q q' W V) : L1 w V q' s' v n xs := by
  refine ⟨h.b.trans (hf.below h.sn h.b.size), hs, ?_, ?_⟩
  · refine wrow_keep h.r hf.size (fun k hk => ?_)
    have h2 := h.sep k hk
    exact hf.block k (h.r.lt k hk).2 h2.1 h2.2.2.2.1 h2.2.1
  · intro k hk
    have h2 := h.sep k hk
    rw [hf.p, hf.ib, hf.gb, hf.sv]
    refine ⟨h2.1, h2.2.1, h2.2.2.1, ?_, h2.2.2.2.2⟩
    rcases hf.nv with e | e
    · rw [e]; exact h2.2.2.2.1
    · intro e2
      have := e k e2
      have := (h.r.lt k hk).2
      omega
theorem L1.grew (h : L1 w W q s v n xs) {g f cap m : Nat} {ys : List Value} (hr : WRow V w.heap.size 5 (.slice (some ⟨g, f, none⟩) m cap) m ys) (hg : W.grownBy V v.ownBlock) (hat : v.ownBlock = some g ∨ g = W.heap.size) : L1 w V q s (.slice (some ⟨g, f, none⟩) m cap) m ys := by
  have hne : ∀ k, k < W.heap.size → (k = q.p ∨ k = q.ib ∨ k = q.gb ∨ q.nv.ownBlock = some k ∨ q.sv.ownBlock = some k) → V.heap[k]? = W.heap[k]? := fun k hk h0 => hg.block k hk (fun e => by
    have h2 := h.sep k e.symm
    rcases h0 with e2 | e2 | e2 | e2 | e2
    · exact h2.1 e2
    · exact h2.2.1 e2
    · exact h2.2.2.1 e2
    · exact h2.2.2.2.1 e2
    · exact h2.2.2.2.2 e2)
  refine ⟨h.b.grown hg h.b.size (fun z e => (h.r.lt z e).1), h.sn.keep hg.size (fun k hk _ h0 => hne k hk h0), hr, ?_⟩
  intro k hk
  obtain rfl : g = k := Option.some.inj hk
  rcases hat with e | e
  · exact h.sep _ e
  · have a1 := h.sn.lt
    have a2 := h.sn.li
    have a3 := h.sn.lg
    exact ⟨by omega, by omega, by omega, fun e2 => by have := (h.sn.lnv _ e2).2; omega, fun e2 => by have := (h.sn.src.lt _ e2).2; omega⟩
end
end Go.Proofs.YthpdgghjaglhnaaGreatDoor

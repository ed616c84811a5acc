/-
  An evaluator of Go's code over known data, run by the kernel: rows that may be written, wherever they lie. Nothing of the program.
-/
import Derived.Test.YtdoegipkfjndbaaGreatDoorEvD
import Derived.RegionTactic
import Derived.Laws.AppendOwn
namespace Go.Proofs.YtdoegipkfjndbaaGreatDoor.Ev
set_option linter.unusedVariables false
set_option linter.unusedSimpArgs false
noncomputable section
open Go.RowKit
/-- a row that may be written, of so many elements; room behind it, too -/
def WRow (w : World) (B size : Nat) (v : Value) (n : Nat) (xs : List Value) : Prop :=
  xs.length = n * size ∧ ((v = .slice none 0 0 ∧ n = 0) ∨ ∃ b f c, v = .slice (some ⟨b, f, none⟩) n c ∧ B ≤ b ∧ b < w.heap.size ∧ n ≤ c ∧ c ≤ maxLen ∧
    (∀ j x, xs[j]? = some x → w.cell? ⟨b, f + j, none⟩ = some x) ∧ ∀ j, j < c * size → (∃ x, w.cell? ⟨b, f + j, none⟩ = some x) ∧ w.frozen? ⟨b, f + j, none⟩ = false)
section
variable {P : Program} {w : World} {B size : Nat} {v : Value} {n : Nat} {xs : List Value}
theorem WRow.lt (h : WRow w B size v n xs) : ∀ k, v.ownBlock = some k → B ≤ k ∧ k < w.heap.size := by
  intro k hk
  rcases h.2 with ⟨rfl, _⟩ | ⟨b, f, c, rfl, hb, hl, _⟩
  · cases hk
  · obtain rfl : b = k := by simpa [Value.ownBlock] using hk
    exact ⟨hb, hl⟩
theorem WRow.kept {w' : World} {row : Option Nat} (h : WRow w B size v n xs) (hg : w.grownBy w' row) (hne : v.ownBlock = none ∨ v.ownBlock ≠ row) : WRow w' B size v n xs := by
  refine ⟨h.1, ?_⟩
  rcases h.2 with hn | ⟨b, f, c, rfl, hb, hl, h1, h2, h3, h4⟩
  · exact .inl hn
  · have hk : w'.heap[b]? = w.heap[b]? := hg.block b hl (by simpa [Value.ownBlock] using hne)
    exact .inr ⟨b, f, c, rfl, hb, Nat.lt_of_lt_of_le hl hg.size, h1, h2, fun j x hx => by rw [World.cell?_of_block (w := w) hk]; exact h3 j x hx, fun j hj => by rw [World.cell?_of_block (w := w) hk, World.frozen?_of_block (w := w) hk]; exact h4 j hj⟩
theorem WRow.below {w' : World} (h : WRow w B size v n xs) (hb : Below w.heap.size w w') : WRow w' B size v n xs :=
  h.kept (row := none) ⟨hb.os, hb.tape, hb.output, hb.size, fun k hk _ => hb.block k hk⟩ (by cases hv : v.ownBlock; exact .inl rfl; exact .inr (by simp))
theorem WRow.form (h : WRow w B size v n xs) (hn : 0 < n) : ∃ b f c, v = .slice (some ⟨b, f, none⟩) n c ∧ B ≤ b ∧ b < w.heap.size := by
  rcases h.2 with ⟨_, h0⟩ | ⟨b, f, c, hv, hb, hl, _⟩
  · omega
  · exact ⟨b, f, c, hv, hb, hl⟩
theorem WRow.cell {b f c : Nat} (h : WRow w B size (.slice (some ⟨b, f, none⟩) n c) n xs) (j : Nat) (hj : j < n * size) : w.cell? ⟨b, f + j, none⟩ = xs[j]? ∧ w.frozen? ⟨b, f + j, none⟩ = false := by
  rcases h.2 with ⟨h0, _⟩ | ⟨b', f', c', hv, hb, hl, h1, h2, h3, h4⟩
  · cases h0
  · have hv2 : (b = b' ∧ f = f') ∧ c = c' := by simpa using hv
    obtain ⟨⟨rfl, rfl⟩, rfl⟩ := hv2
    refine ⟨?_, (h4 j (Nat.lt_of_lt_of_le hj (Nat.mul_le_mul_right _ h1))).2⟩
    have hx : j < xs.length := by rw [h.1]; exact hj
    rw [List.getElem?_eq_getElem hx]
    exact h3 j _ (List.getElem?_eq_getElem hx)
theorem WRow.set {b f c : Nat} (h : WRow w B size (.slice (some ⟨b, f, none⟩) n c) n xs) (j : Nat) (hj : j < n * size) (u : Value) : WRow (w.setCell ⟨b, f + j, none⟩ u) B size (.slice (some ⟨b, f, none⟩) n c) n (xs.set j u) := by
  refine ⟨by rw [List.length_set]; exact h.1, ?_⟩
  have hjx : j < xs.length := by rw [h.1]; exact hj
  have hc := (h.cell j hj).1
  rcases h.2 with ⟨h0, _⟩ | ⟨b', f', c', hv, hb, hl, h1, h2, h3, h4⟩
  · cases h0
  · have hv2 : (b = b' ∧ f = f') ∧ c = c' := by simpa using hv
    obtain ⟨⟨rfl, rfl⟩, rfl⟩ := hv2
    refine .inr ⟨b, f, c, rfl, hb, by simpa [World.setCell] using hl, h1, h2, fun i x hx => ?_, fun i hi => ?_⟩
    · rw [List.getElem?_set] at hx
      split at hx
      · rename_i e
        subst e
        first
          | (rw [if_pos hjx] at hx; obtain rfl := Option.some.inj hx)
          | obtain rfl := Option.some.inj hx
        rw [List.getElem?_eq_getElem hjx] at hc
        exact World.cell?_setCell_same _ _ _ hc
      · rename_i e
        rw [World.cell?_setCell_other _ _ _ _ (fun e2 => e (by injection e2 with _ e3 _; omega))]
        exact h3 i x hx
    · obtain ⟨⟨x, hx⟩, hf⟩ := h4 i hi
      exact ⟨cell_setCell_some hx, by rw [frozen_setCell]; exact hf⟩
theorem WRow.other (h : WRow w B size v n xs) {b o : Nat} (u : Value) (hne : v.ownBlock ≠ some b) : WRow (w.setCell ⟨b, o, none⟩ u) B size v n xs := by
  refine ⟨h.1, ?_⟩
  rcases h.2 with hn | ⟨b', f, c, rfl, hb, hl, h1, h2, h3, h4⟩
  · exact .inl hn
  · have hk : (w.setCell ⟨b, o, none⟩ u).heap[b']? = w.heap[b']? := Below.heap_setCell _ _ _ _ (fun e => hne (by simp [Value.ownBlock]; exact e))
    exact .inr ⟨b', f, c, rfl, hb, by simpa [World.setCell] using hl, h1, h2, fun j x hx => by rw [World.cell?_of_block (w := w) hk]; exact h3 j x hx, fun j hj => by rw [World.cell?_of_block (w := w) hk, World.frozen?_of_block (w := w) hk]; exact h4 j hj⟩
/-- a new row, of what it holds and more -/
theorem WRow.made (w : World) (e : TypeId) (xs : List Value) (n c : Nat) (rest : List Value) (hB : B ≤ w.heap.size) (hl : xs.length = n * size) (hr : rest.length = (c - n) * size) (hn : n ≤ c) (hc : c ≤ maxLen) :
    WRow (w.alloc (.cells (xs ++ rest).toArray e)) B size (.slice (some ⟨w.heap.size, 0, none⟩) n c) n xs := by
  have hc0 : ∀ j, (w.alloc (.cells (xs ++ rest).toArray e)).cell? ⟨w.heap.size, j, none⟩ = (xs ++ rest)[j]? := fun j => by rw [World.cell?_alloc_new w _ _ _]; simp
  have hf0 : ∀ j, (w.alloc (.cells (xs ++ rest).toArray e)).frozen? ⟨w.heap.size, j, none⟩ = false := fun j => World.frozen?_alloc_new w _ _ _
  refine ⟨hl, .inr ⟨_, 0, c, rfl, hB, by simp, hn, hc, fun j x hx => ?_, fun j hj => ⟨?_, by rw [Nat.zero_add]; exact hf0 j⟩⟩⟩
  · rw [Nat.zero_add, hc0, List.getElem?_append_left (List.getElem?_eq_some_iff.1 hx).1]; exact hx
  · rw [Nat.zero_add, hc0]
    have : j < (xs ++ rest).length := by
      rw [List.length_append, hl, hr, ← Nat.add_mul, Nat.add_sub_cancel' hn]; exact hj
    exact ⟨_, List.getElem?_eq_getElem this⟩
theorem WRow.append (h : WRow w B size v n xs) (t u ty e : TypeId) (i : TypeInfo) (z : Value) (bytes : Nat) (ht : P.underlying t = some (.slice e)) (hu : P.underlying u = some (.slice e)) (hi : P.info? e = some i) (hz : i.zero = some z)
    (hsize : i.size = size) (hby : i.bytes = bytes) (hzs : z.cells.size = size)
    (ad : Addr) (m c : Nat) (news : List Value) (hl : news.length = m * size) (hnews : ∀ j x, news[j]? = some x → w.cell? (ad.add j) = some x) (h1 : ∀ x ∈ news, x.oneCell' = true)
    (hm : 0 < m) (h63 : n + m ≤ 4611686018427387904) (hbytes : (n + m) * bytes ≤ 140737488355328) (hbase : B ≤ w.heap.size) :
    ∃ g f cap w', (Builtin.append_ #[t, u] ty #[v, .slice (some ad) m c]).run P w = .ok (.slice (some ⟨g, f, none⟩) (n + m) cap) w' ∧ WRow w' B size (.slice (some ⟨g, f, none⟩) (n + m) cap) (n + m) (xs ++ news) ∧ w.grownBy w' v.ownBlock ∧ (v.ownBlock = some g ∨ g = w.heap.size) ∧ g < w'.heap.size := by
  subst hsize hby
  have src : ∀ W : World, (∀ a, W.cell? a = w.cell? a) → AppSrc P u e i.size m (.slice (some ad) m c) news W := fun W hW => .inl ⟨_, hu, rfl, fun _ => rfl, run_firstCells_some W i.size m ad m c news hl (fun j x hx => by rw [hW]; exact hnews j x hx)⟩
  have hlen : (xs ++ news).length = (n + m) * i.size := by rw [List.length_append, h.1, hl, Nat.add_mul]
  have big : ∀ (base : Option Addr) (c0 : Nat) (row : Option Nat), c0 < n + m → (Builtin.firstCells i.size n (.slice base n c0)).run P w.drew = .ok xs.toArray w.drew → ∃ g f cap w', (Builtin.append_ #[t, u] ty #[.slice base n c0, .slice (some ad) m c]).run P w = .ok (.slice (some ⟨g, f, none⟩) (n + m) cap) w' ∧ WRow w' B i.size (.slice (some ⟨g, f, none⟩) (n + m) cap) (n + m) (xs ++ news) ∧ w.grownBy w' row ∧ g = w.heap.size ∧ g < w'.heap.size := fun base c0 row hc0 ho => by
    have hrun := run_append_big (P := P) t u ty e i z ht hi hz base n c0 (.slice (some ad) m c) m w xs news ho (src w.drew fun _ => rfl) hc0 h63 hbytes
    have hge := grownCap_ge w (n + m) c0 e
    refine ⟨w.heap.size, 0, _, _, hrun, ?_, ⟨rfl, rfl, rfl, by simp, fun k hk _ => heap_alloc_old w.drew _ k hk⟩, rfl, by simp⟩
    exact WRow.made (w := w.drew) (B := B) e (xs ++ news) (n + m) _ _ hbase hlen (by simp [size_zeroCells, hzs]) hge (grownCap_le_maxLen w (n + m) c0 e (by simp only [maxLen]; omega))
  rcases h.2 with ⟨rfl, rfl⟩ | ⟨b, f, c0, rfl, hb, hbl, hn, hcm, h3, h4⟩
  · have hx : xs = [] := List.eq_nil_of_length_eq_zero (by simpa using h.1)
    obtain ⟨g, f, cap, w', a1, a2, a3, a4, a5⟩ := big none 0 none (by omega) (by rw [hx]; exact run_firstCells_none w.drew i.size 0 0 0)
    exact ⟨g, f, cap, w', a1, a2, a3, .inr a4, a5⟩
  · have olds : (Builtin.firstCells i.size n (.slice (some ⟨b, f, none⟩) n c0)).run P w.drew = .ok xs.toArray w.drew := run_firstCells_some w.drew i.size n _ n c0 xs h.1 (fun j x hx => by rw [add_at]; exact h3 j x hx)
    by_cases hroom : n + m ≤ c0
    · obtain ⟨w1, q0, q1, q2, q3, q4, q5, q6, q7, _⟩ := run_storeFree (P := P) (B := B) (b := b) hb news f (n * i.size) w (fun j hj => by
        have := h4 (n * i.size + j) (by
          have : (n + m) * i.size ≤ c0 * i.size := Nat.mul_le_mul_right _ hroom
          rw [Nat.add_mul] at this
          omega)
        rwa [show f + n * i.size + j = f + (n * i.size + j) by omega]) h1
      have hrun := run_append_small (P := P) t u ty e i ht hi ⟨b, f, none⟩ n c0 (.slice (some ad) m c) m w w1 news (src w fun _ => rfl) hroom (by
        have e1 : (⟨b, f, none⟩ : Addr).add (n * i.size) = ⟨b, f + n * i.size, none⟩ := add_at ..
        rw [e1]
        have e2 : ∀ (xs : List Value) (j : Nat) (W : World), (storeCells ⟨b, f + n * i.size, none⟩ xs j).run P W = (storeCells ⟨b, f, none⟩ xs (n * i.size + j)).run P W := by
          intro xs
          induction xs with
          | nil => intro j W; rfl
          | cons x xs ih =>
            intro j W
            simp only [storeCells, Sem.run_bind]
            have e3 : (⟨b, f + n * i.size, none⟩ : Addr).add j = (⟨b, f, none⟩ : Addr).add (n * i.size + j) := by rw [add_at, add_at]; congr 1; omega
            rw [e3]
            cases (store ((⟨b, f, none⟩ : Addr).add (n * i.size + j)) x).run P W with
            | ok u W1 => simp only [Result.andThen_ok]; rw [ih (j + 1) W1]; rfl
            | _ => rfl
        rw [e2, Nat.add_zero]; exact q0)
      refine ⟨b, f, c0, w1, hrun, ⟨hlen, .inr ⟨b, f, c0, rfl, hb, by rw [q6]; exact hbl, hroom, hcm, fun j x hx => ?_, fun j hj => ?_⟩⟩, ⟨q7.os, q7.tape, q7.output, q7.size, fun k hk hne => q5 k (fun e => hne (by rw [e]; rfl))⟩, .inl rfl, by rw [q6]; exact hbl⟩
      · by_cases hj : j < xs.length
        · rw [List.getElem?_append_left hj] at hx
          rw [q2 ⟨b, f + j, none⟩ (fun _ => by show f + j < f + n * i.size; rw [← h.1]; omega)]
          exact h3 j x hx
        · rw [List.getElem?_append_right (by omega)] at hx
          have := q1 (j - xs.length) x hx
          rwa [show f + n * i.size + (j - xs.length) = f + j by rw [← h.1]; omega] at this
      · obtain ⟨⟨x, hx⟩, hf⟩ := h4 j hj
        exact ⟨q3 _ x hx, by rw [q4]; exact hf⟩
    · obtain ⟨g, f', cap, w', a1, a2, a3, a4, a5⟩ := big (some ⟨b, f, none⟩) c0 (some b) (by omega) olds
      exact ⟨g, f', cap, w', a1, a2, a3, .inr a4, a5⟩
/-- at the operation -/
theorem wp_append_w {o : Oper} {a : Act} {K : Act → World → Prop} {Q : Exit → Act → World → Prop} (s x : Operand) (t u : TypeId)
    (ho : o.op = .call { callee := .builtin .append, args := #[s, x], argTypes := #[t, u] })
    (e : TypeId) (i : TypeInfo) (z : Value) (bytes : Nat) (ht : P.underlying t = some (.slice e)) (hu : P.underlying u = some (.slice e)) (hi : P.info? e = some i) (hz : i.zero = some z)
    (hsize : i.size = size) (hby : i.bytes = bytes) (hzs : z.cells.size = size) (hs : a.eval s = v) (h : WRow w B size v n xs)
    (ad : Addr) (m c : Nat) (news : List Value) (hx : a.eval x = .slice (some ad) m c) (hl : news.length = m * size) (hnews : ∀ j x, news[j]? = some x → w.cell? (ad.add j) = some x) (h1 : ∀ x ∈ news, x.oneCell' = true)
    (hm : 0 < m) (h63 : n + m ≤ 4611686018427387904) (hbytes : (n + m) * bytes ≤ 140737488355328) (hbase : B ≤ w.heap.size) (N : Nat) (hN : w.heap.size = N)
    (hK : ∀ g f cap w', WRow w' B size (.slice (some ⟨g, f, none⟩) (n + m) cap) (n + m) (xs ++ news) → w.grownBy w' v.ownBlock → (v.ownBlock = some g ∨ g = N) → g < w'.heap.size → K (a.put o.dst (.slice (some ⟨g, f, none⟩) (n + m) cap)) w') : o.wp P a w K Q := by
  obtain ⟨g, f, cap, w', hr, h2, h3, h4, h5⟩ := h.append (P := P) t u o.type e i z bytes ht hu hi hz hsize hby hzs ad m c news hl hnews h1 hm h63 hbytes hbase
  unfold Oper.wp execOp
  simp only [ho, resolve, invoke, builtin, Sem.run_bind, Sem.run_pure, Result.andThen_ok, List.map_toArray, List.map_cons, List.map_nil, hs, hx, hr]
  exact hK g f cap w' h2 h3 (by rw [← hN]; exact h4) h5
theorem wpList_append_w {ops : Array Oper} {rest : List Oper} {o : Oper} {a : Act} {Q : Exit → Act → World → Prop} (hgd : o.guard = none) (s x : Operand) (t u : TypeId)
    (ho : o.op = .call { callee := .builtin .append, args := #[s, x], argTypes := #[t, u] })
    (e : TypeId) (i : TypeInfo) (z : Value) (bytes : Nat) (ht : P.underlying t = some (.slice e)) (hu : P.underlying u = some (.slice e)) (hi : P.info? e = some i) (hz : i.zero = some z)
    (hsize : i.size = size) (hby : i.bytes = bytes) (hzs : z.cells.size = size) (hs : a.eval s = v) (h : WRow w B size v n xs)
    (ad : Addr) (m c : Nat) (news : List Value) (hx : a.eval x = .slice (some ad) m c) (hl : news.length = m * size) (hnews : ∀ j x, news[j]? = some x → w.cell? (ad.add j) = some x) (h1 : ∀ x ∈ news, x.oneCell' = true)
    (hm : 0 < m) (h63 : n + m ≤ 4611686018427387904) (hbytes : (n + m) * bytes ≤ 140737488355328) (hbase : B ≤ w.heap.size) (N : Nat) (hN : w.heap.size = N)
    (hK : ∀ g f cap w', WRow w' B size (.slice (some ⟨g, f, none⟩) (n + m) cap) (n + m) (xs ++ news) → w.grownBy w' v.ownBlock → (v.ownBlock = some g ∨ g = N) → g < w'.heap.size → wpList P ops Q rest (a.put o.dst (.slice (some ⟨g, f, none⟩) (n + m) cap)) w') : wpList P ops Q (o :: rest) a w :=
  wpList_plain hgd fun _ hK2 => wp_append_w s x t u ho e i z bytes ht hu hi hz hsize hby hzs hs h ad m c news hx hl hnews h1 hm h63 hbytes hbase N hN fun g f cap w' a b c d => hK2 _ _ (hK g f cap w' a b c d)
theorem step_append_w {ops : Array Oper} {o : Oper} {a : Act} {K : Act → World → Prop} {Q : Exit → Act → World → Prop} {E : Prop} (hgd : o.guard = none) (s x : Operand) (t u : TypeId)
    (ho : o.op = .call { callee := .builtin .append, args := #[s, x], argTypes := #[t, u] })
    (e : TypeId) (i : TypeInfo) (z : Value) (bytes : Nat) (ht : P.underlying t = some (.slice e)) (hu : P.underlying u = some (.slice e)) (hi : P.info? e = some i) (hz : i.zero = some z)
    (hsize : i.size = size) (hby : i.bytes = bytes) (hzs : z.cells.size = size) (hs : a.eval s = v) (h : WRow w B size v n xs)
    (ad : Addr) (m c : Nat) (news : List Value) (hx : a.eval x = .slice (some ad) m c) (hl : news.length = m * size) (hnews : ∀ j x, news[j]? = some x → w.cell? (ad.add j) = some x) (h1 : ∀ x ∈ news, x.oneCell' = true)
    (hm : 0 < m) (h63 : n + m ≤ 4611686018427387904) (hbytes : (n + m) * bytes ≤ 140737488355328) (hbase : B ≤ w.heap.size) (N : Nat) (hN : w.heap.size = N)
    (hK : ∀ g f cap w', WRow w' B size (.slice (some ⟨g, f, none⟩) (n + m) cap) (n + m) (xs ++ news) → w.grownBy w' v.ownBlock → (v.ownBlock = some g ∨ g = N) → g < w'.heap.size → K (a.put o.dst (.slice (some ⟨g, f, none⟩) (n + m) cap)) w') :
    if Region.wanted o (yielded ops a.tmps) = true then Oper.wp P o a w K Q else E := by
  have hw : Region.wanted o (yielded ops a.tmps) = true := by simp [Region.wanted, hgd]
  rw [if_pos hw]
  exact wp_append_w s x t u ho e i z bytes ht hu hi hz hsize hby hzs hs h ad m c news hx hl hnews h1 hm h63 hbytes hbase N hN hK
end
end
end Go.Proofs.YtdoegipkfjndbaaGreatDoor.Ev

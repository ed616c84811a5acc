/-
  What becomes of a store where one of its parts is written.
-/
import Derived.Test.YtbpelchampegaaaStoreA
namespace Go.Proofs.Ytbpelchampegaaa
open Go.ChangeShapes Go.WideShapes Go.ChangeAt Go.RowKit
set_option linter.unusedVariables false
section
variable {w W : World} {B p : Nat} {s : StM} {g : Nat → Tag}
theorem tag_ne {x y : Nat} {a b : Tag} (h : g x = a) (k : g y = b) (hn : a ≠ b) : x ≠ y := fun e => hn (by rw [← h, ← k, e])
theorem riders_set {i : Nat} {r : Nat × Nat} (h : s.rs[i]? = some r) (n : Nat) : s.riders.set (i * 2 + 1) (.int .i64 (n : Nat)) = StM.riders { s with rs := s.rs.set i (r.1, n) } := by
  unfold StM.riders
  have hb : ∀ j, StM.blkOf { s with rs := s.rs.set i (r.1, n) } j = s.blkOf j := fun j => rfl
  simp only [hb]
  clear hb
  generalize s.rs = l at h
  generalize s.blkOf = F
  induction l generalizing i with
  | nil => simp at h
  | cons r0 l ih =>
    cases i with
    | zero => simp at h; subst h; simp
    | succ i =>
      have := ih (by simpa using h)
      have e2 : (i + 1) * 2 + 1 = i * 2 + 1 + 1 + 1 := by omega
      rw [e2]
      simp only [List.flatMap_cons, List.cons_append, List.nil_append, List.set_cons_succ]
      rw [this]
/-- a rider goes to a place -/
theorem StoreAt.setAt (h : StoreAt w B p s g) {i : Nat} {r : Nat × Nat} (hr : s.rs[i]? = some r) {b cap : Nat} (e : s.rv = .slice (some ⟨b, 0, none⟩) s.rs.length cap) {n : Nat} (hn : ∃ f : FileM, s.fs[r.1]? = some f ∧ n ≤ f.xs.length) :
    StoreAt (w.setCell ⟨b, i * 2 + 1, none⟩ (.int .i64 (n : Nat))) B p { s with rs := s.rs.set i (r.1, n) } g := by
  have hl := (List.getElem?_eq_some_iff.1 hr).1
  have gb : g b = .rd := h.gr b (by rw [e]; rfl)
  have hk : ∀ c, c ≠ b → (w.setCell ⟨b, i * 2 + 1, none⟩ (.int .i64 (n : Nat))).heap[c]? = w.heap[c]? := fun c hc => Below.heap_setCell _ _ _ _ hc
  have ho := h.hr
  rw [e] at ho
  have ho2 := ownsRow_set ho (i * 2 + 1) (by omega) (.int .i64 (n : Nat))
  rw [riders_set hr, ← e] at ho2
  refine ⟨by rw [hk p (tag_ne h.gp gb (by simp))]; exact h.hp, h.pB, h.gp, ownsMap_keep h.hm (hk _ (tag_ne h.gm gb (by simp))), h.mB, h.gm, by simpa using ho2, h.gr, fun j f hf => by rw [hk _ (tag_ne (h.gf j f hf) gb (by simp))]; exact h.hf j f hf, fun j f hf => ownsRow_keep (h.hd j f hf) fun c hc => hk c (tag_ne (h.gd j f hf c hc) gb (by simp)), h.fB, h.gf, h.gd, h.ok, fun j q hq => ?_, ⟨h.used.1, h.used.2.1, by simpa using h.used.2.2.1, h.used.2.2.2⟩⟩
  by_cases hij : i = j
  · subst hij
    have hq : (s.rs.set i (r.1, n))[i]? = some q := hq
    rw [List.getElem?_set_self hl] at hq
    cases hq
    exact hn
  · have hq : (s.rs.set i (r.1, n))[j]? = some q := hq
    rw [List.getElem?_set_ne hij] at hq
    exact h.rk j q hq
/-- what is held changes its number -/
theorem StoreAt.setUsed (h : StoreAt w B p s g) {n : Nat} (hn : n ≤ s.cap) : StoreAt (w.setCell ⟨p, 2, none⟩ (.int .i64 (n : Nat))) B p { s with used := n } g := by
  have hk : ∀ c, c ≠ p → (w.setCell ⟨p, 2, none⟩ (.int .i64 (n : Nat))).heap[c]? = w.heap[c]? := fun c hc => Below.heap_setCell _ _ _ _ hc
  exact ⟨set_block h.hp, h.pB, h.gp, ownsMap_keep h.hm (hk _ (tag_ne h.gm h.gp (by simp))), h.mB, h.gm, ownsRow_keep h.hr fun c hc => hk c (tag_ne (h.gr c hc) h.gp (by simp)), h.gr, fun j f hf => by rw [hk _ (tag_ne (h.gf j f hf) h.gp (by simp))]; exact h.hf j f hf, fun j f hf => ownsRow_keep (h.hd j f hf) fun c hc => hk c (tag_ne (h.gd j f hf c hc) h.gp (by simp)), h.fB, h.gf, h.gd, h.ok, h.rk, ⟨hn, h.used.2⟩⟩
theorem blk_set {i : Nat} {f f' : FileM} (hf : s.fs[i]? = some f) (hb : f'.blk = f.blk) (j : Nat) : StM.blkOf { s with fs := s.fs.set i f' } j = s.blkOf j := by
  unfold StM.blkOf
  rw [List.map_set, hb, List.getD_eq_getElem?_getD, List.getD_eq_getElem?_getD]
  by_cases e : i = j
  · subst e
    have hl := (List.getElem?_eq_some_iff.1 hf).1
    rw [List.getElem?_set_self (by simpa using hl), List.getElem?_map, hf]
    rfl
  · rw [List.getElem?_set_ne e]
theorem riders_fs {i : Nat} {f f' : FileM} (hf : s.fs[i]? = some f) (hb : f'.blk = f.blk) : StM.riders { s with fs := s.fs.set i f' } = s.riders := by
  unfold StM.riders
  simp only [blk_set hf hb]
/-- one file becomes another one, at the same place -/
theorem StoreAt.setFile (h : StoreAt w B p s g) {i : Nat} {f f' : FileM} (hf : s.fs[i]? = some f) (hb : f'.blk = f.blk) (hk : ∀ c, c < w.heap.size → c ≠ f.blk → some c ≠ f.val.ownBlock → W.heap[c]? = w.heap[c]?)
    (hblk : W.heap[f.blk]? = some (.cells #[.string f'.nm, f'.val, .bool f'.rid] 57 (0, 0))) (hdat : W.ownsRow B 5 1 f'.val f'.xs.length (vals .u8 f'.xs)) (hat : ∀ b, f'.val.ownBlock = some b → f.val.ownBlock = some b ∨ w.heap.size ≤ b) (hok : f'.nm.size ≤ maxLen ∧ f'.xs.length ≤ s.cap ∧ ∀ x ∈ f'.xs, 0 ≤ x ∧ x ≤ 255) (hlen : f.xs.length ≤ f'.xs.length) :
    ∃ g', StoreAt W B p { s with fs := s.fs.set i f' } g' ∧ ∀ c, c < w.heap.size → g' c = g c := by
  have hl := (List.getElem?_eq_some_iff.1 hf).1
  refine ⟨fun c => if w.heap.size ≤ c then .data i else g c, ?_, fun c hc => by show (if w.heap.size ≤ c then Tag.data i else g c) = g c; rw [if_neg (by omega)]⟩
  have old : ∀ c, c < w.heap.size → ∀ t, g c = t → (if w.heap.size ≤ c then Tag.data i else g c) = t := fun c hc t ht => by rw [if_neg (by omega)]; exact ht
  have far : ∀ {c : Nat} {t : Tag}, c < w.heap.size → g c = t → t ≠ .file i → t ≠ .data i → W.heap[c]? = w.heap[c]? := fun {c t} hc ht h1 h2 => hk c hc (tag_ne ht (h.gf i f hf) h1) fun e => h2 (by rw [← ht, h.gd i f hf c e.symm])
  have get : ∀ {j : Nat} {q : FileM}, (s.fs.set i f')[j]? = some q → (j = i ∧ q = f') ∨ (j ≠ i ∧ s.fs[j]? = some q) := fun {j q} hq => by
    by_cases e : i = j
    · subst e
      rw [List.getElem?_set_self hl] at hq
      cases hq
      exact .inl ⟨rfl, rfl⟩
    · rw [List.getElem?_set_ne e] at hq
      exact .inr ⟨fun e' => e e'.symm, hq⟩
  refine ⟨by rw [far h.lp h.gp (by simp) (by simp)]; exact h.hp, h.pB, old _ h.lp _ h.gp, ownsMap_keep h.hm (far h.lm h.gm (by simp) (by simp)), h.mB, old _ h.lm _ h.gm, ?_, fun b hb => old _ (h.lr b hb).2 _ (h.gr b hb), fun j q hq => ?_, fun j q hq => ?_, fun j q hq => ?_, fun j q hq => ?_, fun j q hq b hb' => ?_, fun j q hq => ?_, fun j r hr => ?_, h.used⟩
  · rw [riders_fs hf hb]
    exact ownsRow_keep h.hr fun c hc => far (h.lr c hc).2 (h.gr c hc) (by simp) (by simp)
  · rcases get hq with ⟨rfl, rfl⟩ | ⟨hj, hq⟩
    · rw [hb]; exact hblk
    · rw [far (h.lf hq) (h.gf j q hq) (by simpa using hj) (by simp)]; exact h.hf j q hq
  · rcases get hq with ⟨rfl, rfl⟩ | ⟨hj, hq⟩
    · exact hdat
    · exact ownsRow_keep (h.hd j q hq) fun c hc => far (h.ld hq c hc).2 (h.gd j q hq c hc) (by simp) (by simpa using hj)
  · rcases get hq with ⟨rfl, rfl⟩ | ⟨hj, hq⟩
    · rw [hb]; exact h.fB _ f hf
    · exact h.fB j q hq
  · rcases get hq with ⟨rfl, rfl⟩ | ⟨hj, hq⟩
    · rw [hb]; exact old _ (h.lf hf) _ (h.gf _ f hf)
    · exact old _ (h.lf hq) _ (h.gf j q hq)
  · rcases get hq with ⟨rfl, rfl⟩ | ⟨hj, hq⟩
    · rcases hat b hb' with e | e
      · exact old _ (h.ld hf b e).2 _ (h.gd _ f hf b e)
      · show (if w.heap.size ≤ b then Tag.data _ else g b) = _
        rw [if_pos e]
    · exact old _ (h.ld hq b hb').2 _ (h.gd j q hq b hb')
  · rcases get hq with ⟨rfl, rfl⟩ | ⟨hj, hq⟩
    · exact hok
    · exact h.ok j q hq
  · obtain ⟨q, hq, hle⟩ := h.rk j r hr
    by_cases e : i = r.1
    · refine ⟨f', by show (s.fs.set i f')[r.1]? = _; rw [← e, List.getElem?_set_self hl], ?_⟩
      rw [← e, hf] at hq
      cases hq
      omega
    · exact ⟨q, by show (s.fs.set i f')[r.1]? = _; rw [List.getElem?_set_ne e]; exact hq, hle⟩
/-- the directory changes -/
theorem StoreAt.setDir (h : StoreAt w B p s g) (hk : ∀ c, c < w.heap.size → c ≠ s.mb → W.heap[c]? = w.heap[c]?) {n : Nat} {D : DataW Value} (hm : W.ownsMap Try.prog 9 heldE s.mb n D) (hn : n ≤ 1000000) : StoreAt W B p { s with D := D, mn := n } g := by
  have far : ∀ {c : Nat} {t : Tag}, c < w.heap.size → g c = t → t ≠ .mp → W.heap[c]? = w.heap[c]? := fun {c t} hc ht h1 => hk c hc (tag_ne ht h.gm h1)
  exact ⟨by rw [far h.lp h.gp (by simp)]; exact h.hp, h.pB, h.gp, hm, h.mB, h.gm, ownsRow_keep h.hr fun c hc => far (h.lr c hc).2 (h.gr c hc) (by simp), h.gr, fun j f hf => by rw [far (h.lf hf) (h.gf j f hf) (by simp)]; exact h.hf j f hf, fun j f hf => ownsRow_keep (h.hd j f hf) fun c hc => far (h.ld hf c hc).2 (h.gd j f hf c hc) (by simp), h.fB, h.gf, h.gd, h.ok, h.rk, ⟨h.used.1, h.used.2.1, h.used.2.2.1, hn⟩⟩
theorem blk_more {f : FileM} {j : Nat} (hj : j < s.fs.length) : StM.blkOf { s with fs := s.fs ++ [f] } j = s.blkOf j := by
  unfold StM.blkOf
  rw [List.map_append, List.getD_eq_getElem?_getD, List.getD_eq_getElem?_getD, List.getElem?_append_left (by simpa using hj)]
theorem riders_more (h : StoreAt w B p s g) (f : FileM) : StM.riders { s with fs := s.fs ++ [f] } = s.riders := by
  unfold StM.riders
  show s.rs.flatMap _ = s.rs.flatMap _
  have : ∀ r ∈ s.rs, StM.blkOf { s with fs := s.fs ++ [f] } r.1 = s.blkOf r.1 := fun r hr => by
    obtain ⟨i, hi⟩ := List.mem_iff_getElem?.1 hr
    obtain ⟨q, hq, -⟩ := h.rk i r hi
    exact blk_more (List.getElem?_eq_some_iff.1 hq).1
  rw [List.flatMap_def, List.flatMap_def]
  congr 1
  exact List.map_congr_left fun r hr => by rw [this r hr]
/-- a file more -/
theorem StoreAt.addFile (h : StoreAt w B p s g) (hB : B ≤ w.heap.size) (hk : ∀ c, c < w.heap.size → W.heap[c]? = w.heap[c]?) {f : FileM} (hnew : w.heap.size ≤ f.blk)
    (hblk : W.heap[f.blk]? = some (.cells #[.string f.nm, f.val, .bool f.rid] 57 (0, 0))) (hdat : W.ownsRow B 5 1 f.val f.xs.length (vals .u8 f.xs)) (hat : ∀ b, f.val.ownBlock = some b → w.heap.size ≤ b ∧ b ≠ f.blk) (hok : f.nm.size ≤ maxLen ∧ f.xs.length ≤ s.cap ∧ ∀ x ∈ f.xs, 0 ≤ x ∧ x ≤ 255) :
    ∃ g', StoreAt W B p { s with fs := s.fs ++ [f] } g' := by
  refine ⟨fun c => if w.heap.size ≤ c then (if c = f.blk then .file s.fs.length else .data s.fs.length) else g c, ?_⟩
  have old : ∀ c, c < w.heap.size → ∀ t, g c = t → (if w.heap.size ≤ c then (if c = f.blk then Tag.file s.fs.length else .data s.fs.length) else g c) = t := fun c hc t ht => by rw [if_neg (by omega)]; exact ht
  have get : ∀ {j : Nat} {q : FileM}, (s.fs ++ [f])[j]? = some q → (j = s.fs.length ∧ q = f) ∨ s.fs[j]? = some q := fun {j q} hq => by
    by_cases e : j < s.fs.length
    · rw [List.getElem?_append_left e] at hq
      exact .inr hq
    · rw [List.getElem?_append_right (by omega)] at hq
      have e2 : j - s.fs.length = 0 := by
        cases hz : j - s.fs.length with
        | zero => rfl
        | succ n => rw [hz] at hq; simp at hq
      rw [e2] at hq
      simp at hq
      exact .inl ⟨by omega, hq.symm⟩
  refine ⟨by rw [hk p h.lp]; exact h.hp, h.pB, old _ h.lp _ h.gp, ownsMap_keep h.hm (hk _ h.lm), h.mB, old _ h.lm _ h.gm, ?_, fun b hb => old _ (h.lr b hb).2 _ (h.gr b hb), fun j q hq => ?_, fun j q hq => ?_, fun j q hq => ?_, fun j q hq => ?_, fun j q hq b hb => ?_, fun j q hq => ?_, fun j r hr => ?_, h.used⟩
  · rw [riders_more h f]
    exact ownsRow_keep h.hr fun c hc => hk c (h.lr c hc).2
  · rcases get hq with ⟨rfl, rfl⟩ | hq
    · exact hblk
    · rw [hk _ (h.lf hq)]; exact h.hf j q hq
  · rcases get hq with ⟨rfl, rfl⟩ | hq
    · exact hdat
    · exact ownsRow_keep (h.hd j q hq) fun c hc => hk c (h.ld hq c hc).2
  · rcases get hq with ⟨rfl, rfl⟩ | hq
    · omega
    · exact h.fB j q hq
  · rcases get hq with ⟨rfl, rfl⟩ | hq
    · show (if w.heap.size ≤ q.blk then (if q.blk = q.blk then Tag.file s.fs.length else .data s.fs.length) else g q.blk) = _
      rw [if_pos hnew, if_pos rfl]
    · exact old _ (h.lf hq) _ (h.gf j q hq)
  · rcases get hq with ⟨rfl, rfl⟩ | hq
    · obtain ⟨h1, h2⟩ := hat b hb
      show (if w.heap.size ≤ b then (if b = q.blk then Tag.file s.fs.length else .data s.fs.length) else g b) = _
      rw [if_pos h1, if_neg h2]
    · exact old _ (h.ld hq b hb).2 _ (h.gd j q hq b hb)
  · rcases get hq with ⟨rfl, rfl⟩ | hq
    · exact hok
    · exact h.ok j q hq
  · obtain ⟨q, hq, hle⟩ := h.rk j r hr
    exact ⟨q, by show (s.fs ++ [f])[r.1]? = _; rw [List.getElem?_append_left (List.getElem?_eq_some_iff.1 hq).1]; exact hq, hle⟩
/-- a rider more -/
theorem StoreAt.addRider (h : StoreAt w B p s g) {i : Nat} {f : FileM} (hf : s.fs[i]? = some f) (hl : s.rs.length < 255) {V : World} {b cap : Nat} (hown : V.ownsRow B 66 2 (.slice (some ⟨b, 0, none⟩) (s.rs.length + 1) cap) (s.rs.length + 1) (s.riders ++ [.pointer (some ⟨f.blk, 0, none⟩), .int .i64 0])) (hg : w.grownBy V s.rv.ownBlock) (hat : s.rv.ownBlock = some b ∨ w.heap.size ≤ b) :
    ∃ g', StoreAt (V.setCell ⟨p, 4, none⟩ (.slice (some ⟨b, 0, none⟩) (s.rs.length + 1) cap)) B p { s with rv := .slice (some ⟨b, 0, none⟩) (s.rs.length + 1) cap, rs := s.rs ++ [(i, 0)] } g' ∧ ∀ c, c < w.heap.size → g' c = g c := by
  refine ⟨fun c => if w.heap.size ≤ c then .rd else g c, ?_, fun c hc => by show (if w.heap.size ≤ c then Tag.rd else g c) = g c; rw [if_neg (by omega)]⟩
  have old : ∀ c, c < w.heap.size → ∀ t, g c = t → (if w.heap.size ≤ c then Tag.rd else g c) = t := fun c hc t ht => by rw [if_neg (by omega)]; exact ht
  have hset : ∀ c, c ≠ p → (V.setCell ⟨p, 4, none⟩ (.slice (some ⟨b, 0, none⟩) (s.rs.length + 1) cap)).heap[c]? = V.heap[c]? := fun c hc => Below.heap_setCell _ _ _ _ hc
  have far : ∀ {c : Nat} {t : Tag}, c < w.heap.size → g c = t → t ≠ .rd → t ≠ .st → (V.setCell ⟨p, 4, none⟩ (.slice (some ⟨b, 0, none⟩) (s.rs.length + 1) cap)).heap[c]? = w.heap[c]? := fun {c t} hc ht h1 h2 => by
    rw [hset c (tag_ne ht h.gp h2)]
    exact hg.block c hc fun e => h1 (by rw [← ht, h.gr c e.symm])
  have hpV : V.heap[p]? = some (.cells #[.bool true, .int .i64 s.cap, .int .i64 s.used, .map (some s.mb), s.rv] 53 (0, 0)) := by
    rw [hg.block p h.lp fun e => by have := h.gr p e.symm; rw [h.gp] at this; cases this]
    exact h.hp
  have hbp : b ≠ p := by
    rcases hat with e | e
    · exact tag_ne (h.gr b e) h.gp (by simp)
    · have := h.lp; omega
  refine ⟨set_block hpV, h.pB, old _ h.lp _ h.gp, ownsMap_keep h.hm (far h.lm h.gm (by simp) (by simp)), h.mB, old _ h.lm _ h.gm, ?_, fun c hc => ?_, fun j q hq => by rw [far (h.lf hq) (h.gf j q hq) (by simp) (by simp)]; exact h.hf j q hq, fun j q hq => ownsRow_keep (h.hd j q hq) fun c hc => far (h.ld hq c hc).2 (h.gd j q hq c hc) (by simp) (by simp), h.fB, fun j q hq => old _ (h.lf hq) _ (h.gf j q hq), fun j q hq c hc => old _ (h.ld hq c hc).2 _ (h.gd j q hq c hc), h.ok, fun j r hr => ?_, ⟨h.used.1, h.used.2.1, by simp; omega, h.used.2.2.2⟩⟩
  · have hrid : StM.riders { s with rv := .slice (some ⟨b, 0, none⟩) (s.rs.length + 1) cap, rs := s.rs ++ [(i, 0)] } = s.riders ++ [.pointer (some ⟨f.blk, 0, none⟩), .int .i64 0] := by
      unfold StM.riders
      show (s.rs ++ [(i, 0)]).flatMap _ = _
      rw [List.flatMap_append]
      congr 1
      have hb : StM.blkOf { s with rv := .slice (some ⟨b, 0, none⟩) (s.rs.length + 1) cap, rs := s.rs ++ [(i, 0)] } i = f.blk := blkOf_at (s := s) hf
      simp [hb]
    rw [hrid]
    have hlen : (s.rs ++ [(i, 0)]).length = s.rs.length + 1 := by simp
    show World.ownsRow _ B _ 2 _ (s.rs ++ [(i, 0)]).length _
    rw [hlen]
    exact ownsRow_keep hown fun c hc => hset c (by have : b = c := by simpa [Value.ownBlock] using hc
                                                   omega)
  · have : b = c := by simpa [Value.ownBlock] using hc
    subst this
    rcases hat with e | e
    · exact old _ (h.lr b e).2 _ (h.gr b e)
    · show (if w.heap.size ≤ b then Tag.rd else g b) = _
      rw [if_pos e]
  · by_cases e : j < s.rs.length
    · have hr : (s.rs ++ [(i, 0)])[j]? = some r := hr
      rw [List.getElem?_append_left e] at hr
      exact h.rk j r hr
    · have hr : (s.rs ++ [(i, 0)])[j]? = some r := hr
      rw [List.getElem?_append_right (by omega)] at hr
      have e2 : j - s.rs.length = 0 := by
        cases hz : j - s.rs.length with
        | zero => rfl
        | succ n => rw [hz] at hr; simp at hr
      rw [e2] at hr
      simp at hr
      subst hr
      exact ⟨f, hf, Nat.zero_le _⟩
end
end Go.Proofs.Ytbpelchampegaaa

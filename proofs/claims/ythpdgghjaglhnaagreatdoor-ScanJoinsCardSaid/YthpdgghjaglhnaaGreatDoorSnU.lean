/-
  The same symbols elsewhere: a symbol's bytes tell it, whatever stands behind them; blanks and comments between are gone over.
-/
import Derived.Test.YthpdgghjaglhnaaGreatDoorSnR
namespace Go.Proofs.YthpdgghjaglhnaaGreatDoor
open Go.ChangeShapes Go.WideShapes Go.ChangeAt Go.RowKit
set_option linter.unusedVariables false
set_option linter.unusedSimpArgs false
theorem tw_is (p : Int → Bool) (hp : p 0 = false) (l : List Int) (k : Nat) (h1 : ∀ j, j < k → p (nth l j) = true) (h2 : p (nth l k) = false) : tw p l = k := by
  rcases Nat.lt_trichotomy (tw p l) k with h | h | h
  · have e := tw_at p hp l (tw p l) (Nat.le_refl _)
    rw [h1 _ h] at e
    simp at e
  · exact h
  · have e := tw_at p hp l k (Nat.le_of_lt h)
    rw [h2] at e
    simp at e
    omega
theorem take_same {l l' : List Int} {k : Nat} (h1 : k ≤ l.length) (h2 : k ≤ l'.length) (h : ∀ j, j < k → nth l' j = nth l j) : l'.take k = l.take k := by
  apply List.ext_getElem
  · simp; omega
  · intro i hi hi2
    simp at hi hi2
    have := h i (by omega)
    rw [nth_eq _ _ (by omega), nth_eq _ _ (by omega)] at this
    simpa using this
theorem mark_no (s : Sn) (c p : Int) (h : s.code = 0) (hc : c ≠ 0) : (markF s c p).code ≠ 0 := by
  unfold markF
  rw [if_pos ⟨h, hc⟩]
  exact hc
theorem tokF_name {s : Sn} (h : s.at_ < s.src.length) (h1 : letB (nth s.src s.at_) = true) : tokF s = nameF s := by
  unfold tokF; rw [if_neg (by omega), if_pos h1]
theorem tokF_num {s : Sn} (h : s.at_ < s.src.length) (h1 : letB (nth s.src s.at_) = false) (h2 : digB (nth s.src s.at_) = true) : tokF s = numF s := by
  unfold tokF; rw [if_neg (by omega), if_neg (by simp [h1]), if_pos h2]
theorem tokF_text {s : Sn} (h : s.at_ < s.src.length) (h1 : nth s.src s.at_ = 34) : tokF s = textF s := by
  unfold tokF; rw [if_neg (by omega), h1, if_neg (by decide), if_neg (by decide), if_pos rfl]
theorem tokF_sign {s : Sn} (h : s.at_ < s.src.length) (h1 : letB (nth s.src s.at_) = false) (h2 : digB (nth s.src s.at_) = false) (h3 : nth s.src s.at_ ≠ 34) : tokF s = signF s := by
  unfold tokF; rw [if_neg (by omega), if_neg (by simp [h1]), if_neg (by simp [h2]), if_neg h3]
theorem full_N {s : Sn} {l : List UInt8} (h1 : ¬ l ∈ s.nms) (h2 : 700 ≤ s.nms.length) : internN s l = -1 := by
  unfold internN; rw [if_neg h1, if_pos h2]
theorem full_F {s : Sn} {l : List UInt8} (h1 : ¬ l ∈ s.nms) (h2 : 700 ≤ s.nms.length) : internF s l = markF s 62 s.pos := by
  unfold internF; rw [if_neg h1, if_pos h2]
/-- a symbol that can be read at p, and so wherever its bytes stand -/
structure Tk (u : Sn) (p : Nat) (m : Nat) (y v i : Int) (tx : ByteArray) (ns : List (List UInt8)) : Prop where
  m1 : 1 ≤ m
  ml : p + m ≤ u.src.length
  y0 : y ≠ 0
  eq : tokF (begF u p) = { begF u p with at_ := p + m, sym := y, val := v, id := i, txt := tx, nms := ns }
  el : ∀ (u' : Sn) (p' : Nat), u'.code = 0 → u'.nms = u.nms → u'.kw = u.kw → p' + m ≤ u'.src.length → (∀ j, j < m → nth u'.src (p' + j) = nth u.src (p + j)) → (nth u'.src (p' + m) = nth u.src (p + m) ∨ nth u'.src (p' + m) = 0 ∨ nth u'.src (p' + m) = 32) → tokF (begF u' p') = { begF u' p' with at_ := p' + m, sym := y, val := v, id := i, txt := tx, nms := ns }
section
variable {u : Sn} {p : Nat}
/-- a name that has room -/
theorem name_eq (s : Sn) (k : Nat) (l : List UInt8) (hk : tw ldB (s.src.drop s.at_) = k) (hl : chars ((s.src.drop s.at_).take k) = l) (h15 : k ≤ 15) (hr : l ∈ s.nms ∨ s.nms.length < 700) : nameF s = { s with at_ := s.at_ + k, sym := if internN s l < s.kw then 30 + internN s l else 25, id := if internN s l < s.kw then s.id else internN s l, nms := if l ∈ s.nms then s.nms else s.nms ++ [l] } := by
  unfold nameF
  simp only [hk, hl]
  rw [if_neg (by omega)]
  have e : internN { s with at_ := s.at_ + k } l = internN s l := rfl
  have e0 : 0 ≤ internN s l := by
    unfold internN
    by_cases h1 : l ∈ s.nms
    · rw [if_pos h1]; omega
    · rw [if_neg h1, if_neg (by rcases hr with h | h; exact absurd h h1; omega)]; omega
  have e2 : internF { s with at_ := s.at_ + k } l = { s with at_ := s.at_ + k, nms := if l ∈ s.nms then s.nms else s.nms ++ [l] } := by
    unfold internF
    by_cases h1 : l ∈ s.nms
    · simp only [if_pos h1]
    · simp only [if_neg h1]
      rw [if_neg (by rcases hr with h | h; exact absurd h h1; omega)]
  rw [e, e2, if_neg (by omega)]
  by_cases h3 : internN s l < s.kw
  · simp only [if_pos h3]
  · simp only [if_neg h3]
theorem internN_same {s s' : Sn} (h : s'.nms = s.nms) (l : List UInt8) : internN s' l = internN s l := by
  unfold internN
  rw [h]
theorem tk_name (hp : p < u.src.length) (hc : u.code = 0) (hkw : 0 ≤ u.kw) (h0 : (nameF (begF u p)).code = 0) (hl : letB (nth u.src p) = true) : ∃ m y v i tx ns, Tk u p m y v i tx ns := by
  obtain ⟨k, hk⟩ : ∃ k, k = tw ldB (u.src.drop p) := ⟨_, rfl⟩
  obtain ⟨l, hll⟩ : ∃ l, l = chars ((u.src.drop p).take k) := ⟨_, rfl⟩
  have hkl : k ≤ u.src.length - p := by have := tw_le ldB (u.src.drop p); simp at this; omega
  have ld0 : ldB 0 = false := by decide
  have hT := fun j (hj : j ≤ k) => (hk ▸ tw_drop ldB ld0 u.src p j (hk ▸ hj) : ldB (nth u.src (p + j)) = decide (j < k))
  have hld : ldB (nth u.src p) = true := by unfold ldB; rw [hl]; rfl
  have hk1 : 1 ≤ k := by
    have e := hT 0 (Nat.zero_le _)
    rw [Nat.add_zero, hld] at e
    have := of_decide_eq_true e.symm
    omega
  have h15 : k ≤ 15 := by
    by_cases h : k ≤ 15
    · exact h
    · exfalso
      unfold nameF at h0
      simp only [show tw ldB ((begF u p).src.drop (begF u p).at_) = k from hk.symm] at h0
      rw [if_pos (by omega)] at h0
      exact absurd h0 (mark_no _ _ _ hc (by decide))
  have hr : l ∈ u.nms ∨ u.nms.length < 700 := by
    by_cases h1 : l ∈ u.nms
    · exact .inl h1
    · by_cases h2 : u.nms.length < 700
      · exact .inr h2
      · exfalso
        unfold nameF at h0
        simp only [show tw ldB ((begF u p).src.drop (begF u p).at_) = k from hk.symm, show chars (((begF u p).src.drop (begF u p).at_).take k) = l from hll.symm] at h0
        rw [if_neg (by omega)] at h0
        rw [full_N (s := { begF u p with at_ := (begF u p).at_ + k }) h1 (show 700 ≤ u.nms.length by omega), if_pos (by decide), full_F (s := { begF u p with at_ := (begF u p).at_ + k }) h1 (show 700 ≤ u.nms.length by omega)] at h0
        exact absurd h0 (mark_no _ _ _ hc (by decide))
  refine ⟨k, if internN u l < u.kw then 30 + internN u l else 25, 0, if internN u l < u.kw then 0 else internN u l, bs [], if l ∈ u.nms then u.nms else u.nms ++ [l], hk1, by omega, ?_, ?_, ?_⟩
  · have e0 : 0 ≤ internN u l := by
      unfold internN
      by_cases h1 : l ∈ u.nms
      · rw [if_pos h1]; omega
      · rw [if_neg h1, if_neg (by rcases hr with h | h; exact absurd h h1; omega)]; omega
    by_cases h3 : internN u l < u.kw
    · rw [if_pos h3]; omega
    · rw [if_neg h3]; decide
  · rw [tokF_name (s := begF u p) hp hl, name_eq (begF u p) k l hk.symm hll.symm h15 hr]
    rfl
  · intro u' p' c' n' w' l' hj hF
    have hj0 := hj 0 (by omega)
    have e : tokF (begF u' p') = nameF (begF u' p') := tokF_name (s := begF u' p') (show p' < u'.src.length by omega) (show letB (nth u'.src p') = true by rw [show nth u'.src p' = nth u.src p from hj0]; exact hl)
    have hk' : tw ldB (u'.src.drop p') = k := tw_is ldB ld0 _ k (fun j h => by rw [nth_drop, hj j h, hT j (by omega)]; simp [h]) (by
      rw [nth_drop]
      rcases hF with h | h | h
      · rw [h, hT k (Nat.le_refl _)]; simp
      · rw [h]; decide
      · rw [h]; decide)
    have hl' : chars ((u'.src.drop p').take k) = l := by
      rw [hll, take_same (l := u.src.drop p) (by simp; omega) (by simp; omega) (fun j h => by rw [nth_drop, nth_drop, hj j h])]
    have hN : internN (begF u' p') l = internN u l := internN_same n' l
    rw [e, name_eq (begF u' p') k l hk' hl' h15 (by rw [show (begF u' p').nms = u.nms from n']; exact hr), hN, show (begF u' p').nms = u.nms from n', show (begF u' p').kw = u.kw from w']
    rw [← w']
    rfl
theorem tk_num (hp : p < u.src.length) (hc : u.code = 0) (h0 : (numF (begF u p)).code = 0) (hl : letB (nth u.src p) = false) (hd : digB (nth u.src p) = true) : ∃ m y v i tx ns, Tk u p m y v i tx ns := by
  obtain ⟨k, hk⟩ : ∃ k, k = tw nuB (u.src.drop p) := ⟨_, rfl⟩
  obtain ⟨e, he⟩ : ∃ e, e = nth u.src (p + k) := ⟨_, rfl⟩
  obtain ⟨t, ht⟩ : ∃ t, t = (u.src.drop p).take k := ⟨_, rfl⟩
  have hkl : k ≤ u.src.length - p := by have := tw_le nuB (u.src.drop p); simp at this; omega
  have hT := fun j (hj : j ≤ k) => (hk ▸ tw_drop nuB nuB_0 u.src p j (hk ▸ hj) : nuB (nth u.src (p + j)) = decide (j < k))
  have hnu : nuB (nth u.src p) = true := by unfold nuB; rw [hd]; rfl
  have hk1 : 1 ≤ k := by
    have e := hT 0 (Nat.zero_le _)
    rw [Nat.add_zero, hnu] at e
    have := of_decide_eq_true e.symm
    omega
  have hel : e ≠ 0 → p + k < u.src.length := fun h => by
    by_cases h2 : p + k < u.src.length
    · exact h2
    · exact absurd (he.trans (nth_ge _ _ (by omega))) h
  obtain ⟨m, hm⟩ : ∃ m, m = if e = 72 ∨ e = 88 then k + 1 else k := ⟨_, rfl⟩
  obtain ⟨v, hv⟩ : ∃ v, v = if e = 72 then hexF t else if e = 88 then (hexF t).bind (fun v => if v ≤ 255 then some v else none) else decF t := ⟨_, rfl⟩
  have num : ∀ s : Sn, tw nuB (s.src.drop s.at_) = k → nth s.src (s.at_ + k) = e ∨ (nth s.src (s.at_ + k) ≠ 72 ∧ nth s.src (s.at_ + k) ≠ 88 ∧ e ≠ 72 ∧ e ≠ 88) → (s.src.drop s.at_).take k = t → numF s = numV { s with sym := if e = 88 then 27 else 26, at_ := s.at_ + m } v := by
    intro s h1 h2 h3
    have e1 : numF s = numV { s with sym := if nth s.src (s.at_ + k) = 88 then 27 else 26, at_ := if nth s.src (s.at_ + k) = 72 ∨ nth s.src (s.at_ + k) = 88 then s.at_ + k + 1 else s.at_ + k } (if nth s.src (s.at_ + k) = 72 then hexF t else if nth s.src (s.at_ + k) = 88 then (hexF t).bind (fun v => if v ≤ 255 then some v else none) else decF t) := by
      unfold numF
      simp only [h1, h3]
      rfl
    rw [e1, hv, hm]
    rcases h2 with h | ⟨a, b, c, d⟩
    · rw [h]
      congr 2
      split <;> omega
    · simp only [if_neg a, if_neg b, if_neg c, if_neg d, if_neg (show ¬ (nth s.src (s.at_ + k) = 72 ∨ nth s.src (s.at_ + k) = 88) by omega), if_neg (show ¬ (e = 72 ∨ e = 88) by omega)]
  have hm1 : 1 ≤ m ∧ p + m ≤ u.src.length := by
    rw [hm]
    split
    · rename_i h
      have := hel (by omega)
      omega
    · omega
  have tk : tokF (begF u p) = numF (begF u p) := tokF_num (s := begF u p) hp hl hd
  have en := num (begF u p) hk.symm (.inl he.symm) ht.symm
  obtain ⟨x, rfl⟩ : ∃ x, v = some x := by
    cases v with
    | none =>
      exfalso
      rw [en] at h0
      exact absurd h0 (mark_no _ _ _ hc (by decide))
    | some x => exact ⟨x, rfl⟩
  refine ⟨m, if e = 88 then 27 else 26, wrap32 x, 0, bs [], u.nms, hm1.1, hm1.2, by split <;> decide, by rw [tk, en]; rfl, ?_⟩
  intro u' p' c' n' w' l' hj hF
  have hj0 := hj 0 (by omega)
  have hkm : k ≤ m := by rw [hm]; split <;> omega
  have e0 : nth u'.src p' = nth u.src p := hj0
  have tk' : tokF (begF u' p') = numF (begF u' p') := tokF_num (s := begF u' p') (show p' < u'.src.length by omega) (show letB (nth u'.src p') = false by rw [e0, hl]) (show digB (nth u'.src p') = true by rw [e0]; exact hd)
  have hek : nth u'.src (p' + k) = e ∨ ((nth u'.src (p' + k) = 0 ∨ nth u'.src (p' + k) = 32) ∧ e ≠ 72 ∧ e ≠ 88) := by
    by_cases h : e = 72 ∨ e = 88
    · rw [if_pos h] at hm
      rw [he]
      exact .inl (hj k (by omega))
    · rw [if_neg h] at hm
      subst hm
      rcases hF with h2 | h2
      · exact .inl (h2.trans he.symm)
      · exact .inr ⟨h2, by omega, by omega⟩
  have hk' : tw nuB (u'.src.drop p') = k := tw_is nuB nuB_0 _ k (fun j h => by rw [nth_drop, hj j (by omega), hT j (by omega)]; simp [h]) (by
    rw [nth_drop]
    rcases hek with h | ⟨h | h, _⟩
    · rw [h, he, hT k (Nat.le_refl _)]; simp
    · rw [h]; decide
    · rw [h]; decide)
  have ht' : (u'.src.drop p').take k = t := by
    rw [ht, take_same (l := u.src.drop p) (by simp; omega) (by simp; omega) (fun j h => by rw [nth_drop, nth_drop, hj j (by omega)])]
  rw [tk', num (begF u' p') hk' (by
    show nth u'.src (p' + k) = e ∨ (nth u'.src (p' + k) ≠ 72 ∧ nth u'.src (p' + k) ≠ 88 ∧ e ≠ 72 ∧ e ≠ 88)
    rcases hek with h | ⟨h, h2, h3⟩
    · exact .inl h
    · exact .inr ⟨by omega, by omega, h2, h3⟩) ht']
  rw [← n']
  rfl
theorem tk_text (hp : p < u.src.length) (hc : u.code = 0) (h0 : (textF (begF u p)).code = 0) (hl : nth u.src p = 34) : ∃ m y v i tx ns, Tk u p m y v i tx ns := by
  obtain ⟨k, hk⟩ : ∃ k, k = tw txB (u.src.drop (p + 1)) := ⟨_, rfl⟩
  obtain ⟨t, ht⟩ : ∃ t, t = (u.src.drop (p + 1)).take k := ⟨_, rfl⟩
  have hT := fun j (hj : j ≤ k) => (hk ▸ tw_drop txB txB_0 u.src (p + 1) j (hk ▸ hj) : txB (nth u.src (p + 1 + j)) = decide (j < k))
  have tx : ∀ s : Sn, tw txB (s.src.drop (s.at_ + 1)) = k → nth s.src (s.at_ + 1 + k) = 34 → k ≤ 63 → (s.src.drop (s.at_ + 1)).take k = t → textF s = { s with sym := 28, txt := bs (chars t), val := if k = 1 then nth s.src (s.at_ + 1) else s.val, at_ := s.at_ + (k + 2) } := by
    intro s h1 h2 h3 h4
    unfold textF
    simp only [h1, h4]
    rw [if_neg (by omega), show s.at_ + 1 + k + 1 = s.at_ + (k + 2) by omega]
  have h34 : nth u.src (p + 1 + k) = 34 ∧ k ≤ 63 := by
    by_cases h : nth u.src (p + 1 + k) ≠ 34 ∨ 63 < k
    · exfalso
      unfold textF at h0
      simp only [show tw txB ((begF u p).src.drop ((begF u p).at_ + 1)) = k from hk.symm] at h0
      rw [if_pos (show nth (begF u p).src ((begF u p).at_ + 1 + k) ≠ 34 ∨ 63 < k from h)] at h0
      exact absurd h0 (mark_no _ _ _ hc (by decide))
    · omega
  have hlen : p + 1 + k < u.src.length := by
    by_cases h2 : p + 1 + k < u.src.length
    · exact h2
    · have := h34.1
      rw [nth_ge _ _ (by omega)] at this
      omega
  have tk : ∀ (u' : Sn) (p' : Nat), p' < u'.src.length → nth u'.src p' = 34 → tokF (begF u' p') = textF (begF u' p') := fun u' p' h1 h2 => tokF_text (s := begF u' p') h1 h2
  refine ⟨k + 2, 28, if k = 1 then nth u.src (p + 1) else 0, 0, bs (chars t), u.nms, by omega, by omega, by decide, ?_, ?_⟩
  · rw [tk u p hp hl, tx (begF u p) hk.symm h34.1 h34.2 ht.symm]
    rfl
  · intro u' p' c' n' w' l' hj hF
    have e0 : nth u'.src p' = nth u.src p := hj 0 (by omega)
    have hj1 : ∀ j, j < k + 1 → nth u'.src (p' + 1 + j) = nth u.src (p + 1 + j) := fun j h => by
      have := hj (1 + j) (by omega)
      rwa [← Nat.add_assoc, ← Nat.add_assoc] at this
    have hk' : tw txB (u'.src.drop (p' + 1)) = k := tw_is txB txB_0 _ k (fun j h => by rw [nth_drop, hj1 j (by omega), hT j (by omega)]; simp [h]) (by rw [nth_drop, hj1 k (by omega), h34.1]; decide)
    have ht' : (u'.src.drop (p' + 1)).take k = t := by
      rw [ht, take_same (l := u.src.drop (p + 1)) (by simp; omega) (by simp; omega) (fun j h => by rw [nth_drop, nth_drop, hj1 j (by omega)])]
    rw [tk u' p' (by omega) (e0.trans hl), tx (begF u' p') hk' ((hj1 k (by omega)).trans h34.1) h34.2 ht']
    have e1 : nth u'.src (p' + 1) = nth u.src (p + 1) := hj1 0 (by omega)
    rw [show nth (begF u' p').src ((begF u' p').at_ + 1) = nth u.src (p + 1) from e1, ← n']
    rfl
theorem tk_sign (hp : p < u.src.length) (hc : u.code = 0) (h0 : (signF (begF u p)).code = 0) (h1 : letB (nth u.src p) = false) (h2 : digB (nth u.src p) = false) (h3 : nth u.src p ≠ 34) : ∃ m y v i tx ns, Tk u p m y v i tx ns := by
  obtain ⟨y, hy⟩ : ∃ y, sgF (nth u.src p) = some y := by
    cases h : sgF (nth u.src p) with
    | none =>
      exfalso
      unfold signF at h0
      rw [show sgF (nth (begF u p).src (begF u p).at_) = none from h] at h0
      exact absurd h0 (mark_no _ _ _ hc (by decide))
    | some y => exact ⟨y, rfl⟩
  have hb := sgF_bd hy
  have tk : ∀ (u' : Sn) (p' : Nat), p' < u'.src.length → nth u'.src p' = nth u.src p → tokF (begF u' p') = signF (begF u' p') := fun u' p' a b => tokF_sign (s := begF u' p') a (show letB (nth u'.src p') = false by rw [b, h1]) (show digB (nth u'.src p') = false by rw [b, h2]) (show nth u'.src p' ≠ 34 by rw [b]; exact h3)
  have sg : ∀ (s : Sn), nth s.src s.at_ = nth u.src p → signF s = if nth s.src (s.at_ + 1) = 61 ∧ (y = 3 ∨ y = 5) then { s with sym := y + 1, at_ := s.at_ + 2 } else if nth s.src (s.at_ + 1) = 61 ∧ y = 23 then { s with sym := 24, at_ := s.at_ + 2 } else { s with sym := y, at_ := s.at_ + 1 } := by
    intro s h
    unfold signF
    rw [h, hy]
  have hlen : nth u.src (p + 1) = 61 → p + 2 ≤ u.src.length := fun h => by
    by_cases h2 : p + 1 < u.src.length
    · omega
    · rw [nth_ge _ _ (by omega)] at h
      omega
  by_cases c1 : nth u.src (p + 1) = 61 ∧ (y = 3 ∨ y = 5)
  · refine ⟨2, y + 1, 0, 0, bs [], u.nms, by omega, hlen c1.1, by omega, ?_, ?_⟩
    · rw [tk u p hp rfl, sg (begF u p) rfl, if_pos (show nth (begF u p).src ((begF u p).at_ + 1) = 61 ∧ (y = 3 ∨ y = 5) from c1)]
      rfl
    · intro u' p' c' n' w' l' hj hF
      have e1 : nth u'.src (p' + 1) = nth u.src (p + 1) := hj 1 (by omega)
      rw [tk u' p' (by omega) (hj 0 (by omega)), sg (begF u' p') (hj 0 (by omega)), if_pos (show nth (begF u' p').src ((begF u' p').at_ + 1) = 61 ∧ (y = 3 ∨ y = 5) from ⟨e1.trans c1.1, c1.2⟩), ← n']
      rfl
  · by_cases c2 : nth u.src (p + 1) = 61 ∧ y = 23
    · refine ⟨2, 24, 0, 0, bs [], u.nms, by omega, hlen c2.1, by omega, ?_, ?_⟩
      · rw [tk u p hp rfl, sg (begF u p) rfl, if_neg (show ¬ (nth (begF u p).src ((begF u p).at_ + 1) = 61 ∧ (y = 3 ∨ y = 5)) from c1), if_pos (show nth (begF u p).src ((begF u p).at_ + 1) = 61 ∧ y = 23 from c2)]
        rfl
      · intro u' p' c' n' w' l' hj hF
        have e1 : nth u'.src (p' + 1) = nth u.src (p + 1) := hj 1 (by omega)
        rw [tk u' p' (by omega) (hj 0 (by omega)), sg (begF u' p') (hj 0 (by omega)), if_neg (show ¬ (nth (begF u' p').src ((begF u' p').at_ + 1) = 61 ∧ (y = 3 ∨ y = 5)) from fun h => c1 ⟨e1.symm.trans h.1, h.2⟩), if_pos (show nth (begF u' p').src ((begF u' p').at_ + 1) = 61 ∧ y = 23 from ⟨e1.trans c2.1, c2.2⟩), ← n']
        rfl
    · refine ⟨1, y, 0, 0, bs [], u.nms, by omega, by omega, by omega, ?_, ?_⟩
      · rw [tk u p hp rfl, sg (begF u p) rfl, if_neg (show ¬ (nth (begF u p).src ((begF u p).at_ + 1) = 61 ∧ (y = 3 ∨ y = 5)) from c1), if_neg (show ¬ (nth (begF u p).src ((begF u p).at_ + 1) = 61 ∧ y = 23) from c2)]
        rfl
      · intro u' p' c' n' w' l' hj hF
        have hF2 : nth u'.src (p' + 1) = nth u.src (p + 1) ∨ nth u'.src (p' + 1) = 0 ∨ nth u'.src (p' + 1) = 32 := hF
        have d1 : ¬ (nth u'.src (p' + 1) = 61 ∧ (y = 3 ∨ y = 5)) := by omega
        have d2 : ¬ (nth u'.src (p' + 1) = 61 ∧ y = 23) := by omega
        rw [tk u' p' (by omega) (hj 0 (by omega)), sg (begF u' p') (hj 0 (by omega)), if_neg (show ¬ (nth (begF u' p').src ((begF u' p').at_ + 1) = 61 ∧ (y = 3 ∨ y = 5)) from d1), if_neg (show ¬ (nth (begF u' p').src ((begF u' p').at_ + 1) = 61 ∧ y = 23) from d2), ← n']
        rfl
/-- every symbol that can be read -/
theorem tk_any (hp : p < u.src.length) (hc : u.code = 0) (hkw : 0 ≤ u.kw) (h0 : (tokF (begF u p)).code = 0) : ∃ m y v i tx ns, Tk u p m y v i tx ns := by
  by_cases h1 : letB (nth u.src p) = true
  · rw [tokF_name (s := begF u p) hp h1] at h0
    exact tk_name hp hc hkw h0 h1
  · have h1 : letB (nth u.src p) = false := by simpa using h1
    by_cases h2 : digB (nth u.src p) = true
    · rw [tokF_num (s := begF u p) hp h1 h2] at h0
      exact tk_num hp hc h0 h1 h2
    · have h2 : digB (nth u.src p) = false := by simpa using h2
      by_cases h3 : nth u.src p = 34
      · rw [tokF_text (s := begF u p) hp h3] at h0
        exact tk_text hp hc h0 h3
      · rw [tokF_sign (s := begF u p) hp h1 h2 h3] at h0
        exact tk_sign hp hc h0 h1 h2 h3
end
end Go.Proofs.YthpdgghjaglhnaaGreatDoor

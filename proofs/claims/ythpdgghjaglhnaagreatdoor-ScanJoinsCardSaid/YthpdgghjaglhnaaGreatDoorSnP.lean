/-
  Sources, plainly: blanks and comments; the longest beginning of bytes of a sort.
-/
import Derived.Test.YthpdgghjaglhnaaGreatDoorBase
namespace Go.Proofs.YthpdgghjaglhnaaGreatDoor
set_option linter.unusedVariables false
set_option linter.unusedSimpArgs false
def hd (l : List Int) : Int := l.headD 0
theorem hd_drop (l : List Int) (a : Nat) : hd (l.drop a) = nth l a := by
  unfold hd nth
  rw [List.headD_eq_head?_getD, List.head?_drop]
  simp
theorem tail_drop (l : List Int) (a : Nat) : (l.drop a).tail = l.drop (a + 1) := by rw [List.tail_drop]
theorem drop_ne (l : List Int) (a : Nat) (h : a < l.length) : l.drop a ≠ [] := by
  intro e
  have := congrArg List.length e
  simp at this
  omega
/-- what stands behind a comment, d open ones before -/
def cm (l : List Int) (d : Nat) : Option (List Int) :=
  if h : l = [] then none
  else if hd l = 40 ∧ hd l.tail = 42 then cm (l.drop 2) (d + 1)
  else if hd l = 42 ∧ hd l.tail = 41 then (if d = 1 then some (l.drop 2) else cm (l.drop 2) (d - 1))
  else cm l.tail d
termination_by l.length
decreasing_by
  all_goals
    cases l
    · contradiction
    · simp
      try omega
section
variable (src : List Int) (a d : Nat)
theorem cm_end (h : src.length ≤ a) : cm (src.drop a) d = none := by
  rw [List.drop_of_length_le h, cm]; rfl
theorem cm_open (h : a < src.length) (h1 : nth src a = 40) (h2 : nth src (a + 1) = 42) : cm (src.drop a) d = cm (src.drop (a + 2)) (d + 1) := by
  rw [cm, dif_neg (drop_ne src a h), hd_drop, tail_drop, hd_drop, if_pos ⟨h1, h2⟩, List.drop_drop]
theorem cm_close (h : a < src.length) (h1 : nth src a = 42) (h2 : nth src (a + 1) = 41) : cm (src.drop a) d = if d = 1 then some (src.drop (a + 2)) else cm (src.drop (a + 2)) (d - 1) := by
  rw [cm, dif_neg (drop_ne src a h), hd_drop, tail_drop, hd_drop, if_neg (by rw [h1]; omega), if_pos ⟨h1, h2⟩, List.drop_drop]
theorem cm_step (h : a < src.length) (h1 : ¬ (nth src a = 40 ∧ nth src (a + 1) = 42)) (h2 : ¬ (nth src a = 42 ∧ nth src (a + 1) = 41)) : cm (src.drop a) d = cm (src.drop (a + 1)) d := by
  rw [cm, dif_neg (drop_ne src a h), hd_drop, tail_drop, hd_drop, if_neg h1, if_neg h2]
end
theorem cm_suffix : ∀ (n : Nat) (l : List Int) (d : Nat) (r : List Int), l.length ≤ n → cm l d = some r → ∃ k, 0 < k ∧ k ≤ l.length ∧ r = l.drop k := by
  intro n
  induction n with
  | zero =>
    intro l d r hn h
    have : l = [] := List.eq_nil_of_length_eq_zero (by omega)
    subst this
    rw [cm] at h
    cases h
  | succ n ih =>
    intro l d r hn h
    rw [cm] at h
    split at h
    · cases h
    · rename_i hne
      have hpos : 0 < l.length := List.length_pos_iff.2 hne
      have two : hd l.tail ≠ 0 → 2 ≤ l.length := fun e => by
        match l, e with
        | [], e => exact absurd rfl e
        | [x], e => exact absurd rfl e
        | x :: y :: t, _ => simp
      split at h
      · rename_i h2
        have := two (by rw [h2.2]; omega)
        obtain ⟨k, k0, k1, rfl⟩ := ih _ _ _ (by simp; omega) h
        simp only [List.length_drop] at k1
        exact ⟨2 + k, by omega, by omega, by rw [List.drop_drop]⟩
      · split at h
        · rename_i h2
          have := two (by rw [h2.2]; omega)
          split at h
          · obtain rfl := Option.some.inj h
            exact ⟨2, by omega, this, rfl⟩
          · obtain ⟨k, k0, k1, rfl⟩ := ih _ _ _ (by simp; omega) h
            simp only [List.length_drop] at k1
            exact ⟨2 + k, by omega, by omega, by rw [List.drop_drop]⟩
        · obtain ⟨k, k0, k1, rfl⟩ := ih _ _ _ (by simp; omega) h
          simp only [List.length_tail] at k1
          exact ⟨1 + k, by omega, by omega, by rw [← List.drop_one, List.drop_drop]⟩
/-- what stands behind blanks and comments; or a comment that does not end -/
def bl (l : List Int) : Bool × List Int :=
  if h : l = [] then (true, l)
  else if hd l = 40 ∧ hd l.tail = 42 then
    match cm l 0 with
    | none => (false, l)
    | some r => if hr : r.length < l.length then bl r else (false, l)
  else if hd l ≤ 32 then bl l.tail
  else (true, l)
termination_by l.length
decreasing_by
  · exact hr
  · cases l
    · contradiction
    · simp
section
variable (src : List Int) (a : Nat)
theorem bl_end (h : src.length ≤ a) : bl (src.drop a) = (true, []) := by
  rw [List.drop_of_length_le h, bl]; rfl
theorem bl_bad (h : a < src.length) (h1 : nth src a = 40) (h2 : nth src (a + 1) = 42) (h3 : cm (src.drop a) 0 = none) : bl (src.drop a) = (false, src.drop a) := by
  rw [bl, dif_neg (drop_ne src a h), hd_drop, tail_drop, hd_drop, if_pos ⟨h1, h2⟩, h3]
theorem bl_over (h : a < src.length) (h1 : nth src a = 40) (h2 : nth src (a + 1) = 42) {r : List Int} (h3 : cm (src.drop a) 0 = some r) : bl (src.drop a) = bl r := by
  obtain ⟨k, k0, k1, e⟩ := cm_suffix _ _ _ _ (Nat.le_refl _) h3
  have hlt : r.length < (src.drop a).length := by rw [e]; simp at k1 ⊢; omega
  rw [bl, dif_neg (drop_ne src a h), hd_drop, tail_drop, hd_drop, if_pos ⟨h1, h2⟩, h3]
  show (if hr : r.length < (src.drop a).length then bl r else (false, src.drop a)) = bl r
  rw [dif_pos hlt]
theorem bl_blank (h : a < src.length) (h1 : ¬ (nth src a = 40 ∧ nth src (a + 1) = 42)) (h2 : nth src a ≤ 32) : bl (src.drop a) = bl (src.drop (a + 1)) := by
  rw [bl, dif_neg (drop_ne src a h), hd_drop, tail_drop, hd_drop, if_neg h1, if_pos h2]
theorem bl_stop (h : a < src.length) (h1 : ¬ (nth src a = 40 ∧ nth src (a + 1) = 42)) (h2 : ¬ nth src a ≤ 32) : bl (src.drop a) = (true, src.drop a) := by
  rw [bl, dif_neg (drop_ne src a h), hd_drop, tail_drop, hd_drop, if_neg h1, if_neg h2]
end
theorem bl_suffix : ∀ (n : Nat) (l : List Int), l.length ≤ n → ∃ k, k ≤ l.length ∧ (bl l).2 = l.drop k := by
  intro n
  induction n with
  | zero =>
    intro l hn
    have : l = [] := List.eq_nil_of_length_eq_zero (by omega)
    subst this
    exact ⟨0, Nat.le_refl _, by rw [bl]; rfl⟩
  | succ n ih =>
    intro l hn
    rw [bl]
    split
    · exact ⟨0, Nat.zero_le _, rfl⟩
    · rename_i hne
      have hpos : 0 < l.length := List.length_pos_iff.2 hne
      split
      · cases hc : cm l 0 with
        | none => exact ⟨0, Nat.zero_le _, rfl⟩
        | some r =>
          obtain ⟨k, k0, k1, e⟩ := cm_suffix _ _ _ _ (Nat.le_refl _) hc
          subst e
          simp only [List.length_drop]
          rw [dif_pos (by omega)]
          obtain ⟨j, j1, e⟩ := ih (l.drop k) (by simp; omega)
          simp only [List.length_drop] at j1
          exact ⟨k + j, by omega, by rw [e, List.drop_drop]⟩
      · split
        · obtain ⟨j, j1, e⟩ := ih l.tail (by simp; omega)
          simp only [List.length_tail] at j1
          exact ⟨1 + j, by omega, by rw [e, ← List.drop_one, List.drop_drop]⟩
        · exact ⟨0, Nat.zero_le _, rfl⟩
/-- how many bytes of a sort stand there -/
def tw (p : Int → Bool) (l : List Int) : Nat := (l.takeWhile p).length
theorem tw_le (p : Int → Bool) (l : List Int) : tw p l ≤ l.length := by unfold tw; exact (List.takeWhile_sublist p).length_le
theorem tw_at (p : Int → Bool) (hp : p 0 = false) : ∀ (l : List Int) (k : Nat), k ≤ tw p l → p (nth l k) = decide (k < tw p l)
  | [], k, h => by
    obtain rfl : k = 0 := by simpa [tw] using h
    simpa [tw, nth] using hp
  | x :: r, 0, h => by
    unfold tw nth
    rw [List.takeWhile_cons]
    cases hx : p x <;> simp [hx]
  | x :: r, k + 1, h => by
    have e : nth (x :: r) (k + 1) = nth r k := by unfold nth; simp
    rw [e]
    cases hx : p x with
    | false =>
      unfold tw at h
      rw [List.takeWhile_cons, hx] at h
      simp at h
    | true =>
      have e2 : tw p (x :: r) = tw p r + 1 := by unfold tw; rw [List.takeWhile_cons, hx]; rfl
      rw [e2] at h ⊢
      rw [tw_at p hp r k (by omega)]
      by_cases h3 : k < tw p r <;> simp [h3]
theorem tw_drop (p : Int → Bool) (hp : p 0 = false) (src : List Int) (a k : Nat) (h : k ≤ tw p (src.drop a)) : p (nth src (a + k)) = decide (k < tw p (src.drop a)) := by
  rw [← tw_at p hp _ k h, nth_drop]
theorem tw_take (p : Int → Bool) (l : List Int) : l.take (tw p l) = l.takeWhile p := by
  unfold tw
  exact (List.prefix_iff_eq_take.1 (List.takeWhile_prefix p)).symm
theorem tw_all (p : Int → Bool) (l : List Int) : ∀ x ∈ l.take (tw p l), p x = true := by
  rw [tw_take]
  intro x hx
  exact List.all_eq_true.1 (List.all_takeWhile (l := l) (p := p)) x hx
end Go.Proofs.YthpdgghjaglhnaaGreatDoor

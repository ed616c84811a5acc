/-
  What was taken for a script has that text; a script's text is read as it. Nothing of the program.
-/
import Derived.Test.YtlodoilihminaaaGreatDoorScrZI
namespace Go.Proofs.YtlodoilihminaaaGreatDoor
set_option linter.unusedVariables false
set_option linter.unusedSimpArgs false
theorem lnF_join : ∀ t : List UInt8, t = endT (lnF t).1 ++ (lnF t).2
  | [] => rfl
  | c :: t => by
    have ih := lnF_join t
    rw [lnF]
    split
    · rename_i h
      show c :: t = endT ([] :: (lnF t).1) ++ (lnF t).2
      rw [endT_cons, h, List.nil_append, List.cons_append, ← ih]
    · split
      · rename_i h
        rw [h] at ih
        show c :: t = [] ++ c :: (lnF t).2
        rw [List.nil_append]
        congr 1
      · rename_i w r h
        rw [h] at ih
        show c :: t = endT ((c :: w) :: r) ++ (lnF t).2
        rw [endT_cons] at ih ⊢
        rw [List.cons_append, List.cons_append, ← ih]
theorem goL_none : ∀ (ls : List (List UInt8)) (i : Nat) (r : List UInt8), goL i ls r = none → r = [] ∧ i + ls.length ≠ 0 ∧ ∀ j x, ls[j]? = some x → lineOk (i + j) x = true
  | [], i, r, h => by
    unfold goL at h
    split at h
    · rename_i h1; exact ⟨h1.1, by simpa using h1.2, fun j x h2 => by simp at h2⟩
    · cases h
  | x :: ls, i, r, h => by
    unfold goL at h
    split at h
    · rename_i hok
      obtain ⟨h1, h2, h3⟩ := goL_none ls (i + 1) r h
      refine ⟨h1, by rw [List.length_cons]; omega, fun j y hy => ?_⟩
      cases j with
      | zero => simp at hy; subst hy; exact hok
      | succ j =>
        have := h3 j y (by simpa using hy)
        rwa [show i + 1 + j = i + (j + 1) by omega] at this
    · cases h
theorem goR_read : ∀ (ls : List (List UInt8)) (i : Nat) (c : Int) (l : List Ac), i ≠ 0 → (∀ j x, ls[j]? = some x → lineOk (i + j) x = true) → goR i c l ls = (c, l ++ ls.map rdA)
  | [], i, c, l, _, _ => by simp [goR]
  | x :: ls, i, c, l, hi, h => by
    have hok : lineOk i x = true := by simpa using h 0 x rfl
    rw [goR, show tkC i c x = c by unfold tkC; rw [if_neg hi], show tkL i l x = l ++ [rdA x] by unfold tkL; rw [if_neg hi, if_pos hok]]
    rw [goR_read ls (i + 1) c (l ++ [rdA x]) (by omega) fun j y hy => by have := h (j + 1) y (by simpa using hy); rwa [show i + 1 + j = i + (j + 1) by omega]]
    simp
theorem c12_join (x : List UInt8) : x = c1 x ++ 32 :: c2 x ∨ c2 x = [] := by
  induction x with
  | nil => exact .inr rfl
  | cons c x ih =>
    by_cases h : c = 32
    · subst h; exact .inl rfl
    · have e1 : c1 (c :: x) = c :: c1 x := by unfold c1; rw [List.takeWhile_cons_of_pos (by simp [h])]
      have e2 : c2 (c :: x) = c2 x := by unfold c2; rw [List.dropWhile_cons_of_pos (by simp [h])]
      rw [e1, e2]
      rcases ih with ih | ih
      · left
        rw [List.cons_append, ← ih]
      · exact .inr ih
theorem itoa_nil (v : Int) : Lib.itoa v ≠ [] := by
  intro e
  unfold Lib.itoa at e
  split at e
  · cases e
  · have := decDigits_pos v.toNat
    rw [e] at this
    simp at this
theorem cap_line {x : List UInt8} (h : lineOk 0 x = true) : capB (numOf (c2 x)) = true ∧ x = cap0 (numOf (c2 x)) := by
  unfold lineOk at h
  rw [if_pos rfl] at h
  simp only [Bool.and_eq_true, decide_eq_true_eq] at h
  refine ⟨h.2, ?_⟩
  have hi : Lib.itoa (numOf (c2 x)) = c2 x := by
    have h2 := h.2
    unfold capB at h2
    simp only [decide_eq_true_eq] at h2
    revert h2
    unfold numOf
    split
    · split
      · rename_i h3; exact fun _ => h3
      · intro h2; omega
    · intro h2; omega
  unfold cap0
  rw [hi, ← h.1]
  rcases c12_join x with e | e
  · exact e
  · rw [e] at hi; exact absurd hi (itoa_nil _)
theorem read_txt {x : List UInt8} (h : readB x = true) : (rdA x).may = true ∧ (rdA x).txt = x := by
  unfold rdA
  rw [if_pos h]
  unfold readB at h
  simp only [Bool.and_eq_true, decide_eq_true_eq] at h
  exact h
theorem par_back {t : List UInt8} (h : parE t = none) : capB (parC t) = true ∧ (parL t).all Ac.may = true ∧ (parL t).length ≤ 4096 ∧ scT (parC t) (parL t) = t := by
  obtain ⟨p1, p2, -, -⟩ := par_ok h
  rw [p1, p2]
  unfold parE at h
  obtain ⟨h1, h2, h3⟩ := goL_none _ 0 _ h
  have hj := lnF_join t
  rw [h1, List.append_nil] at hj
  unfold parR
  generalize (lnF t).1 = ls at *
  cases ls with
  | nil => simp at h2
  | cons x ls =>
    have h0 := cap_line (by simpa using h3 0 x rfl : lineOk 0 x = true)
    have hr : ∀ j y, ls[j]? = some y → lineOk (1 + j) y = true := fun j y hy => by
      have := h3 (j + 1) y (by simpa using hy)
      rwa [show 0 + (j + 1) = 1 + j by omega] at this
    have hok : ∀ j y, ls[j]? = some y → readB y = true ∧ 1 + j ≤ 4096 := fun j y hy => by
      have := hr j y hy
      unfold lineOk at this
      rw [if_neg (by omega)] at this
      simpa using this
    have hm : ∀ y ∈ ls, readB y = true := fun y hy => by
      obtain ⟨j, hj2⟩ := List.mem_iff_getElem?.1 hy
      exact (hok j y hj2).1
    rw [goR, show tkC 0 0 x = numOf (c2 x) from rfl, show tkL 0 [] x = [] from rfl, goR_read ls (0 + 1) (numOf (c2 x)) [] (by omega) (by simpa using hr)]
    show capB (numOf (c2 x)) = true ∧ ([] ++ ls.map rdA).all Ac.may = true ∧ ([] ++ ls.map rdA).length ≤ 4096 ∧ scT (numOf (c2 x)) ([] ++ ls.map rdA) = t
    rw [List.nil_append]
    refine ⟨h0.1, ?_, ?_, ?_⟩
    · rw [List.all_eq_true]
      intro a ha
      obtain ⟨y, hy, rfl⟩ := List.mem_map.1 ha
      exact (read_txt (hm y hy)).1
    · rw [List.length_map]
      rcases Nat.eq_zero_or_pos ls.length with e | e
      · omega
      · have := (hok (ls.length - 1) _ (List.getElem?_eq_getElem (by omega))).2
        omega
    · rw [scT_end, hj]
      congr 1
      unfold lnsOf
      rw [← h0.2, List.map_map]
      congr 1
      conv => rhs; rw [← List.map_id ls]
      refine List.map_congr_left fun y hy => ?_
      exact (read_txt (hm y hy)).2
theorem par_text {t : List UInt8} (h : parE t = none) (hl : t.length ≤ 4194304) : scE (parC t) (parL t) = 0 ∧ scR (parC t) (parL t) = t := by
  obtain ⟨h1, h2, h3, h4⟩ := par_back h
  have he : scE (parC t) (parL t) = 0 := by rw [scE_all h1 h2, h4, if_pos ⟨h3, hl⟩]
  exact ⟨he, by unfold scR; rw [if_pos he, h4]⟩
theorem parX_ok {t : List UInt8} : parX t = 0 ∧ parE t = none ∨ parX t = 4 := by
  unfold parX
  split
  · rename_i h; exact .inl ⟨rfl, h⟩
  · exact .inr rfl
/-- a script's text is read as it -/
theorem scT_reads {c : Int} {l : List Ac} (he : scE c l = 0) (hb : ∀ a ∈ l, ∀ x ∈ a.bytes, 0 ≤ x ∧ x < 256) : parN (scT c l) = 0 ∧ parX (scT c l) = 0 ∧ parC (scT c l) = c ∧ parL (scT c l) = l := by
  obtain ⟨k, r, h1, h2, -, h4⟩ := cut_reads he hb (scT c l).length
  rw [List.take_length] at h1 h4
  obtain ⟨hc, hm, hn, -⟩ := scE_parts he
  have hm' : ∀ a ∈ l, a.may = true := fun a ha => List.all_eq_true.1 hm a ha
  have h10 : ∀ x ∈ lnsOf c l, ∀ c ∈ x, c ≠ 10 := by
    intro x hx
    unfold lnsOf at hx
    rw [List.mem_cons] at hx
    rcases hx with rfl | hx
    · exact app_10 (by decide) (cons_10 (itoa_10 c))
    · obtain ⟨a, ha, rfl⟩ := List.mem_map.1 hx
      exact txt_10 a (hm' a ha) (hb a ha)
  have h5 := lnF_end (lnsOf c l) h10 [] (by simp)
  rw [List.append_nil, ← scT_end, h1] at h5
  obtain ⟨rfl, rfl⟩ := Prod.mk.inj h5
  have hl : (lnsOf c l).length = l.length + 1 := by unfold lnsOf; simp
  obtain ⟨g1, g2, g3, g4⟩ := h4 rfl (by omega)
  refine ⟨g1, g2, g3, ?_⟩
  rw [g4, hl, List.take_of_length_le (by omega)]
/-! ### how long they are -/
theorem txt_len2 {a : Ac} (hm : a.may = true) (h1 : -9223372036854775808 ≤ a.mem ∧ a.mem ≤ 9223372036854775807) (h2 : -9223372036854775808 ≤ a.fuel ∧ a.fuel ≤ 9223372036854775807) : a.txt.length ≤ 2 * a.bytes.length + 1000 := by
  obtain ⟨g1, g2, g3, g4⟩ := may_len hm
  have x1 := hxT_len a.bytes
  have x2 : (chs a.bytes).length = a.bytes.length := by simp [chs]
  have x3 := Lib.itoa_length_le a.mem h1.1 h1.2
  have x4 := Lib.itoa_length_le a.fuel h2.1 h2.2
  have x5 := bls_len a.names g4
  unfold Ac.txt
  repeat' split
  all_goals simp only [List.length_append, List.length_cons, wPut, wAdd, wDrop, wBuild, wRun, wMean, wOwn, List.length_nil]
  all_goals omega
theorem lines_len : ∀ l : List Ac, (∀ a ∈ l, a.may = true ∧ (-9223372036854775808 ≤ a.mem ∧ a.mem ≤ 9223372036854775807) ∧ (-9223372036854775808 ≤ a.fuel ∧ a.fuel ≤ 9223372036854775807)) → (linesT l).length ≤ 2 * (l.map fun a => a.bytes.length).sum + 1001 * l.length
  | [], _ => Nat.le_refl _
  | a :: l, h => by
    obtain ⟨h1, h2, h3⟩ := h a (by simp)
    have ih := lines_len l fun b hb => h b (by simp [hb])
    have h4 := txt_len2 h1 h2 h3
    unfold linesT at ih ⊢
    rw [List.flatMap_cons, List.length_append, List.length_append, List.length_singleton, List.map_cons, List.sum_cons, List.length_cons]
    omega
theorem much_no {l : List Ac} (h : muchB l = false) : l.length ≤ 60 ∧ (l.map fun a => a.bytes.length).sum ≤ 70000 := by
  unfold muchB at h
  simp only [Bool.or_eq_false_iff, decide_eq_false_iff_not] at h
  have h1 : l.length ≤ 60 := by omega
  refine ⟨h1, ?_⟩
  have := h.2.2
  unfold muN at this
  rw [List.take_of_length_le (by omega)] at this
  omega
theorem script_len {c : Int} {l : List Ac} (he : scE c l = 0) (hm : muchB l = false) (hk : ∀ a ∈ l, (-9223372036854775808 ≤ a.mem ∧ a.mem ≤ 9223372036854775807) ∧ (-9223372036854775808 ≤ a.fuel ∧ a.fuel ≤ 9223372036854775807)) : (scT c l).length ≤ 300000 := by
  obtain ⟨hc, hall, -, -⟩ := scE_parts he
  obtain ⟨h1, h2⟩ := much_no hm
  have h3 := lines_len l fun a ha => ⟨List.all_eq_true.1 hall a ha, hk a ha⟩
  have hc' : 0 ≤ c ∧ c ≤ 67108864 := by unfold capB at hc; simpa using hc
  have h4 := Lib.itoa_length_le c (by omega) (by omega)
  unfold scT capT
  rw [List.length_append, List.length_append, List.length_append, List.length_cons, List.length_singleton, show wCap.length = 8 from rfl]
  omega
end Go.Proofs.YtlodoilihminaaaGreatDoor

/-
  The document's scanner, plainly: numbers and signs; what is true of all states of a scanner.
-/
import Derived.Test.YthpdgghjaglhnaaGreatDoorSnW
namespace Go.Proofs.YthpdgghjaglhnaaGreatDoor
set_option linter.unusedVariables false
set_option linter.unusedSimpArgs false
/-! ### numbers -/
theorem dig_noz (t : List Int) : (noz t).all digB = t.all digB := by
  unfold noz
  induction t with
  | nil => rfl
  | cons c r ih =>
    rw [List.dropWhile_cons]
    by_cases h : c = 48
    · subst h
      rw [if_pos (by decide), ih]; rfl
    · rw [if_neg (by simpa using h)]
theorem dcV_noz (t : List Int) : dcV (noz t) = dcV t := by
  unfold noz
  induction t with
  | nil => rfl
  | cons c r ih =>
    rw [List.dropWhile_cons]
    by_cases h : c = 48
    · subst h
      rw [if_pos (by decide), ih]; rfl
    · rw [if_neg (by simpa using h)]
theorem hxV_noz (t : List Int) : hxV (noz t) = hxV t := by
  unfold noz
  induction t with
  | nil => rfl
  | cons c r ih =>
    rw [List.dropWhile_cons]
    by_cases h : c = 48
    · subst h
      rw [if_pos (by decide), ih]; rfl
    · rw [if_neg (by simpa using h)]
theorem dc_up : ∀ (l : List Int) (n : Int), 0 ≤ n → (∀ c ∈ l, 48 ≤ c) → n ≤ l.foldl (fun n c => 10 * n + (c - 48)) n
  | [], n, _, _ => Int.le_refl _
  | c :: r, n, h, hl => by
    have hc := hl c (List.mem_cons_self ..)
    have := dc_up r (10 * n + (c - 48)) (by omega) fun x hx => hl x (List.mem_cons_of_mem _ hx)
    rw [List.foldl_cons]
    omega
theorem dcV_take (t : List Int) (h : ∀ c ∈ t, 48 ≤ c) (j : Nat) : 0 ≤ dcV (t.take j) ∧ dcV (t.take j) ≤ dcV t := by
  have h0 : 0 ≤ dcV (t.take j) := dc_up _ 0 (Int.le_refl _) fun c hc => h c (List.mem_of_mem_take hc)
  refine ⟨h0, ?_⟩
  have e : dcV t = (t.drop j).foldl (fun n c => 10 * n + (c - 48)) (dcV (t.take j)) := by
    unfold dcV
    rw [← List.foldl_append, List.take_append_drop]
  rw [e]
  exact dc_up _ _ h0 fun c hc => h c (List.mem_of_mem_drop hc)
theorem decF_eq (t : List Int) : decF t = if t.all digB = true ∧ dcV t ≤ 2147483647 then some (dcV t) else none := by
  unfold decF
  rw [dig_noz, dcV_noz]
theorem hexF_eq (t : List Int) : hexF t = if 8 < (noz t).length then none else some (hxV t) := by
  unfold hexF
  rw [hxV_noz]
theorem noz_snoc (l : List Int) (c : Int) : noz (l ++ [c]) = if noz l = [] ∧ c = 48 then [] else noz l ++ [c] := by
  unfold noz
  induction l with
  | nil => by_cases h : c = 48 <;> simp [h]
  | cons x r ih =>
    by_cases h : x = 48
    · subst h
      rw [List.cons_append, List.dropWhile_cons_of_pos (by rfl), List.dropWhile_cons_of_pos (by rfl)]; exact ih
    · have h2 : ¬ ((x == 48) = true) := by simpa using h
      have e : ∀ l : List Int, List.dropWhile (fun c => c == 48) (x :: l) = x :: l := fun l => by rw [List.dropWhile_cons]; exact if_neg h2
      rw [List.cons_append, e, e, if_neg (by simp)]; rfl
theorem hxV_snoc (l : List Int) (c : Int) : hxV (l ++ [c]) = 16 * hxV l + (if c ≤ 57 then c - 48 else c - 55) := by
  unfold hxV; rw [List.foldl_append]; rfl
theorem all_snoc (l : List Int) (c : Int) : (l ++ [c]).all digB = (l.all digB && digB c) := by simp
/-- a number's bytes -/
def nuT (src : List Int) (i : Nat) : List Int := (src.drop i).take (tw nuB (src.drop i))
theorem nuT_len (src : List Int) (i : Nat) : (nuT src i).length = tw nuB (src.drop i) := by
  unfold nuT
  rw [List.length_take, Nat.min_eq_left (tw_le _ _)]
theorem nuT_nu (src : List Int) (i : Nat) : NuL (nuT src i) := tw_all _ _
theorem nuT_at (src : List Int) (i j : Nat) (h : j < tw nuB (src.drop i)) : nth (nuT src i) j = nth src (i + j) := by
  unfold nuT
  rw [nth_take _ _ _ h, nth_drop]
theorem nuT_take (src : List Int) (i j : Nat) (h : j < tw nuB (src.drop i)) : (nuT src i).take (j + 1) = (nuT src i).take j ++ [nth src (i + j)] := by
  rw [take_nth _ _ (by rw [nuT_len]; exact h), nuT_at _ _ _ h]
theorem nu_bd {c : Int} (h : nuB c = true) : 48 ≤ c ∧ c ≤ 70 := by have := nu_cases h; omega
/-- what a number is -/
def nuSym (src : List Int) (i : Nat) : Int := if nth src (i + tw nuB (src.drop i)) = 88 then 27 else 26
def nuEnd (src : List Int) (i : Nat) : Nat := if nth src (i + tw nuB (src.drop i)) = 72 ∨ nth src (i + tw nuB (src.drop i)) = 88 then i + tw nuB (src.drop i) + 1 else i + tw nuB (src.drop i)
def nuVal (src : List Int) (i : Nat) : Option Int := if nth src (i + tw nuB (src.drop i)) = 72 then hexF (nuT src i) else if nth src (i + tw nuB (src.drop i)) = 88 then (hexF (nuT src i)).bind (fun v => if v ≤ 255 then some v else none) else decF (nuT src i)
theorem numF_eq (s : Sn) : numF s = numV { s with sym := nuSym s.src s.at_, at_ := nuEnd s.src s.at_ } (nuVal s.src s.at_) := rfl
/-! ### signs -/
def oneL : List Int := [61, 35, 60, 95, 62, 95, 43, 45, 42, 47, 46, 94, 38, 126, 40, 41, 91, 93, 123, 125, 44, 59, 58]
theorem one_hit : ∀ k, k < 23 → nth oneL k ≠ 95 → sgF (nth oneL k) = some ((k : Int) + 1) := by decide
theorem one_none (c : Int) (h : ∀ k, k < 23 → ¬ (nth oneL k = c ∧ c ≠ 95)) : sgF c = none := by
  cases hs : sgF c with
  | none => rfl
  | some y =>
    have hm := lk_mem _ _ _ hs
    have h2 : ∀ p ∈ sgP, ∃ k, k < 23 ∧ nth oneL k = p.1 ∧ p.1 ≠ 95 := by decide
    obtain ⟨k, h1, h2, h3⟩ := h2 _ hm
    exact absurd ⟨h2, h3⟩ (h k h1)
/-- a sign's number, and how many bytes it has -/
def sgR (c d : Int) : Int × Nat := match sgF c with
  | none => (0, 0)
  | some y => if d = 61 ∧ (y = 3 ∨ y = 5) then (y + 1, 2) else if d = 61 ∧ y = 23 then (24, 2) else (y, 1)
theorem signF_eq (s : Sn) : signF s = if (sgR (nth s.src s.at_) (nth s.src (s.at_ + 1))).1 = 0 then markF s 1 s.pos else { s with sym := (sgR (nth s.src s.at_) (nth s.src (s.at_ + 1))).1, at_ := s.at_ + (sgR (nth s.src s.at_) (nth s.src (s.at_ + 1))).2 } := by
  unfold signF sgR
  cases hs : sgF (nth s.src s.at_) with
  | none => rfl
  | some y =>
    have hy := sgF_bd hs
    simp only []
    by_cases h1 : nth s.src (s.at_ + 1) = 61 ∧ (y = 3 ∨ y = 5)
    · rw [if_pos h1, if_pos h1, if_neg (show ¬ (y + 1 = 0) by omega)]
    · rw [if_neg h1, if_neg h1]
      by_cases h2 : nth s.src (s.at_ + 1) = 61 ∧ y = 23
      · rw [if_pos h2, if_pos h2, if_neg (show ¬ ((24 : Int) = 0) by omega)]
      · rw [if_neg h2, if_neg h2, if_neg (show ¬ (y = 0) by omega)]
/-! ### texts and names -/
theorem textF_eq {s : Sn} {K : Nat} (hk : tw txB (s.src.drop (s.at_ + 1)) = K) : textF s = if nth s.src (s.at_ + 1 + K) ≠ 34 ∨ 63 < K then markF { s with at_ := s.at_ + 1 + K } 4 s.pos else { s with at_ := s.at_ + 1 + K + 1, sym := 28, txt := bs (chars ((s.src.drop (s.at_ + 1)).take K)), val := if K = 1 then nth s.src (s.at_ + 1) else s.val } := by
  subst hk
  rfl
theorem nameF_long {s : Sn} {K : Nat} (hk : tw ldB (s.src.drop s.at_) = K) (h : 15 < K) : nameF s = markF { s with at_ := s.at_ + K } 3 s.pos := by
  subst hk
  unfold nameF
  simp only []
  rw [if_pos h]
theorem nameF_full {s : Sn} {K : Nat} {l : List UInt8} (hk : tw ldB (s.src.drop s.at_) = K) (h : ¬ 15 < K) (hl : chars ((s.src.drop s.at_).take K) = l) (hm : l ∉ s.nms) (h7 : 700 ≤ s.nms.length) : nameF s = markF { s with at_ := s.at_ + K } 62 s.pos := by
  subst hk
  unfold nameF
  simp only []
  rw [if_neg h, hl, if_pos]
  · unfold internF
    simp only []
    rw [if_neg hm, if_pos h7]
  · unfold internN
    simp only []
    rw [if_neg hm, if_pos h7]; decide
theorem nameF_ok {s : Sn} {K i : Nat} {l : List UInt8} {N : List (List UInt8)} (hk : tw ldB (s.src.drop s.at_) = K) (h : ¬ 15 < K) (hl : chars ((s.src.drop s.at_).take K) = l) (hw : s.kw = 29)
    (hi : (l ∈ s.nms ∧ N = s.nms ∧ i = s.nms.idxOf l) ∨ (l ∉ s.nms ∧ s.nms.length < 700 ∧ N = s.nms ++ [l] ∧ i = s.nms.length)) :
    nameF s = if (i : Int) < 29 then { s with at_ := s.at_ + K, nms := N, sym := 30 + (i : Int) } else { s with at_ := s.at_ + K, nms := N, sym := 25, id := (i : Int) } := by
  subst hk
  have e1 : internN { s with at_ := s.at_ + tw ldB (s.src.drop s.at_) } l = (i : Int) := by
    unfold internN
    rcases hi with ⟨h1, h2, h3⟩ | ⟨h1, h2, h3, h4⟩
    · rw [if_pos h1, h3]
    · rw [if_neg h1, if_neg (by show ¬ 700 ≤ s.nms.length; omega), h4]
  have e2 : internF { s with at_ := s.at_ + tw ldB (s.src.drop s.at_) } l = { s with at_ := s.at_ + tw ldB (s.src.drop s.at_), nms := N } := by
    unfold internF
    rcases hi with ⟨h1, h2, h3⟩ | ⟨h1, h2, h3, h4⟩
    · rw [if_pos h1, h2]
    · rw [if_neg h1, if_neg (by show ¬ 700 ≤ s.nms.length; omega), h3]
  unfold nameF
  simp only []
  rw [if_neg h, hl, e1, e2, if_neg (by omega), hw]
/-! ### all states -/
structure Fit (s : Sn) : Prop where
  nd : s.nms.Nodup
  n1 : s.nms.length ≤ 700
  ep : s.code = 0 → s.epos = 0
  kw : s.kw = 29
  n57 : 57 ≤ s.nms.length
theorem Fit.mark {s : Sn} (h : Fit s) (c p : Int) : Fit (markF s c p) := by
  unfold markF
  split
  · rename_i hc
    exact ⟨h.nd, h.n1, fun e => absurd e hc.2, h.kw, h.n57⟩
  · exact h
theorem Fit.intern {s : Sn} (h : Fit s) (l : List UInt8) : Fit (internF s l) := by
  unfold internF
  split
  · exact h
  · split
    · exact h.mark _ _
    · rename_i h1 h2
      refine ⟨?_, by simp; omega, h.ep, h.kw, by have := h.n57; simp; omega⟩
      rw [List.nodup_append]
      refine ⟨h.nd, by simp, ?_⟩
      intro a ha b hb
      simp at hb
      subst hb
      intro e
      subst e
      exact h1 ha
theorem Fit.get {s : Sn} (h : Fit s) : Fit (getF s) := by
  unfold getF
  split
  · exact h
  · split
    · unfold tokF
      have hb : Fit (begF s (s.src.length - (bl (s.src.drop s.at_)).2.length)) := ⟨h.nd, h.n1, h.ep, h.kw, h.n57⟩
      generalize begF s (s.src.length - (bl (s.src.drop s.at_)).2.length) = b at hb ⊢
      split
      · exact hb
      · split
        · unfold nameF
          simp only []
          have hb2 : Fit { b with at_ := b.at_ + tw ldB (b.src.drop b.at_) } := ⟨hb.nd, hb.n1, hb.ep, hb.kw, hb.n57⟩
          split
          · exact hb2.mark _ _
          · split
            · exact hb2.intern _
            · have h3 := hb2.intern (chars ((b.src.drop b.at_).take (tw ldB (b.src.drop b.at_))))
              split
              · exact ⟨h3.nd, h3.n1, h3.ep, h3.kw, h3.n57⟩
              · exact ⟨h3.nd, h3.n1, h3.ep, h3.kw, h3.n57⟩
        · split
          · rw [numF_eq]
            have hb2 : Fit { b with sym := nuSym b.src b.at_, at_ := nuEnd b.src b.at_ } := ⟨hb.nd, hb.n1, hb.ep, hb.kw, hb.n57⟩
            unfold numV
            split
            · exact hb2.mark _ _
            · exact ⟨hb2.nd, hb2.n1, hb2.ep, hb2.kw, hb2.n57⟩
          · split
            · unfold textF
              simp only []
              split
              · exact Fit.mark (s := { b with at_ := b.at_ + 1 + tw txB (b.src.drop (b.at_ + 1)) }) ⟨hb.nd, hb.n1, hb.ep, hb.kw, hb.n57⟩ _ _
              · exact ⟨hb.nd, hb.n1, hb.ep, hb.kw, hb.n57⟩
            · rw [signF_eq]
              split
              · exact hb.mark _ _
              · exact ⟨hb.nd, hb.n1, hb.ep, hb.kw, hb.n57⟩
    · exact Fit.mark (s := { s with at_ := s.src.length }) ⟨h.nd, h.n1, h.ep, h.kw, h.n57⟩ _ _
theorem Fit.stp {u : Sn} (h : Fit u) : ∀ i, Fit (stp u i)
  | 0 => h
  | i + 1 => (Fit.stp h i).get
theorem wsL_nodup57 : (wsL.take 57).Nodup := by decide
theorem wsL_len57 : 57 ≤ (wsL.take 57).length ∧ (wsL.take 57).length ≤ 700 := by decide
theorem fit_start (zs : List Int) : Fit { wsF 57 29 with src := zs } := ⟨wsL_nodup57, wsL_len57.2, fun _ => rfl, rfl, wsL_len57.1⟩
end Go.Proofs.YthpdgghjaglhnaaGreatDoor

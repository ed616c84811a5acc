/-
  The same symbols behind other blanks: a source's symbols, each with blanks and a comment ahead.
-/
import Derived.Test.YthpdgghjaglhnaaGreatDoorSnU
namespace Go.Proofs.YthpdgghjaglhnaaGreatDoor
open Go.ChangeShapes Go.WideShapes Go.ChangeAt Go.RowKit
set_option linter.unusedVariables false
set_option linter.unusedSimpArgs false
theorem cm_cons (g : Int) (t : List Int) (d : Nat) : cm (g :: t) d = if g = 40 ∧ hd t = 42 then cm t.tail (d + 1) else if g = 42 ∧ hd t = 41 then (if d = 1 then some t.tail else cm t.tail (d - 1)) else cm t d := by
  rw [cm, dif_neg (by simp)]
  have e : (g :: t).drop 2 = t.tail := by rw [List.drop_succ_cons, List.drop_one]
  rw [e]
  rfl
theorem cm_short {l : List Int} {d : Nat} {r : List Int} (h : cm l d = some r) : r.length < l.length := by
  obtain ⟨k, k0, k1, rfl⟩ := cm_suffix _ _ _ _ (Nat.le_refl _) h
  simp; omega
theorem hd_ne {l : List Int} (h : hd l ≠ 0) : l.tail.length < l.length := by
  cases l with
  | nil => exact absurd rfl h
  | cons a t => simp
/-- a comment that ends within G -/
theorem cm_within : ∀ (n : Nat) (G R : List Int) (d : Nat) (r : List Int), G.length ≤ n → cm (G ++ R) d = some r → R.length ≤ r.length → ∃ k, 2 ≤ k ∧ k ≤ G.length ∧ r = G.drop k ++ R ∧ ∀ X, cm (G ++ X) d = some (G.drop k ++ X) := by
  intro n
  induction n with
  | zero =>
    intro G R d r hn h hl
    obtain rfl : G = [] := List.eq_nil_of_length_eq_zero (by omega)
    have := cm_short h
    simp at this
    omega
  | succ n ih =>
    intro G R d r hn h hl
    match G, hn, h with
    | [], _, h =>
      have := cm_short h
      simp at this
      omega
    | [g], _, h =>
      exfalso
      rw [show [g] ++ R = g :: R from rfl, cm_cons] at h
      split at h
      · rename_i c
        have h1 := cm_short h
        have h2 := hd_ne (l := R) (by rw [c.2]; decide)
        omega
      · split at h
        · rename_i c
          have h2 := hd_ne (l := R) (by rw [c.2]; decide)
          split at h
          · obtain rfl := Option.some.inj h
            omega
          · have h1 := cm_short h
            omega
        · have h1 := cm_short h
          omega
    | g :: x :: G2, hn, h =>
      have hn2 : G2.length + 2 ≤ n + 1 := by simpa using hn
      have e : ∀ X, (g :: x :: G2) ++ X = g :: (x :: (G2 ++ X)) := fun X => rfl
      have hh : ∀ X, hd (x :: (G2 ++ X)) = x := fun X => rfl
      have ht : ∀ X, (x :: (G2 ++ X)).tail = G2 ++ X := fun X => rfl
      rw [e, cm_cons, hh, ht] at h
      by_cases c1 : g = 40 ∧ x = 42
      · rw [if_pos c1] at h
        obtain ⟨k, k2, kl, rfl, hX⟩ := ih G2 R (d + 1) r (by omega) h hl
        exact ⟨k + 2, by omega, by simp; omega, by simp, fun X => by rw [e, cm_cons, hh, ht, if_pos c1, hX X]; simp⟩
      · rw [if_neg c1] at h
        by_cases c2 : g = 42 ∧ x = 41
        · rw [if_pos c2] at h
          by_cases c3 : d = 1
          · rw [if_pos c3] at h
            obtain rfl := Option.some.inj h
            exact ⟨2, by omega, by simp, by simp, fun X => by rw [e, cm_cons, hh, ht, if_neg c1, if_pos c2, if_pos c3]; simp⟩
          · rw [if_neg c3] at h
            obtain ⟨k, k2, kl, rfl, hX⟩ := ih G2 R (d - 1) r (by omega) h hl
            exact ⟨k + 2, by omega, by simp; omega, by simp, fun X => by rw [e, cm_cons, hh, ht, if_neg c1, if_pos c2, if_neg c3, hX X]; simp⟩
        · rw [if_neg c2] at h
          obtain ⟨k, k2, kl, rfl, hX⟩ := ih (x :: G2) R d r (by simp; omega) h hl
          exact ⟨k + 1, by omega, by simp at kl ⊢; omega, by simp, fun X => by rw [e, cm_cons, hh, ht, if_neg c1, if_neg c2]; have := hX X; rw [List.cons_append] at this; rw [this]; simp⟩
theorem bl_some {l r : List Int} (h1 : hd l = 40) (h2 : hd l.tail = 42) (h3 : cm l 0 = some r) : bl l = bl r := by
  have hne : l ≠ [] := by rintro rfl; exact absurd h1 (by decide)
  rw [bl, dif_neg hne, if_pos ⟨h1, h2⟩, h3]
  show (if hr : r.length < l.length then bl r else (false, l)) = bl r
  rw [dif_pos (cm_short h3)]
theorem bl_none {l : List Int} (h1 : hd l = 40) (h2 : hd l.tail = 42) (h3 : cm l 0 = none) : bl l = (false, l) := by
  have hne : l ≠ [] := by rintro rfl; exact absurd h1 (by decide)
  rw [bl, dif_neg hne, if_pos ⟨h1, h2⟩, h3]
theorem bl_sp {g : Int} {t : List Int} (h1 : ¬ (g = 40 ∧ hd t = 42)) (h2 : g ≤ 32) : bl (g :: t) = bl t := by
  rw [bl, dif_neg (by simp), if_neg (show ¬ (hd (g :: t) = 40 ∧ hd (g :: t).tail = 42) from h1), if_pos (show hd (g :: t) ≤ 32 from h2)]
  rfl
theorem bl_at {g : Int} {t : List Int} (h1 : ¬ (g = 40 ∧ hd t = 42)) (h2 : ¬ g ≤ 32) : bl (g :: t) = (true, g :: t) := by
  rw [bl, dif_neg (by simp), if_neg (show ¬ (hd (g :: t) = 40 ∧ hd (g :: t).tail = 42) from h1), if_neg (show ¬ hd (g :: t) ≤ 32 from h2)]
theorem bl_nil : bl [] = (true, []) := by rw [bl]; rfl
theorem bl_len (l : List Int) : (bl l).2.length ≤ l.length := by
  obtain ⟨k, k1, e⟩ := bl_suffix _ l (Nat.le_refl _)
  rw [e]; simp
/-- blanks that end right ahead of R -/
theorem bl_gap : ∀ (n : Nat) (G R : List Int), G.length ≤ n → bl (G ++ R) = (true, R) → ∀ X, bl (G ++ X) = bl X := by
  intro n
  induction n with
  | zero =>
    intro G R hn h X
    obtain rfl : G = [] := List.eq_nil_of_length_eq_zero (by omega)
    rfl
  | succ n ih =>
    intro G R hn h X
    match G, hn, h with
    | [], _, _ => rfl
    | g :: G', hn, h =>
      have hn2 : G'.length ≤ n := by simpa using hn
      have h' := h
      rw [List.cons_append] at h'
      by_cases c1 : g = 40 ∧ hd (G' ++ R) = 42
      · cases hc : cm (g :: (G' ++ R)) 0 with
        | none =>
          rw [bl_none (l := g :: (G' ++ R)) c1.1 c1.2 hc] at h'
          cases h'
        | some r =>
          rw [bl_some (l := g :: (G' ++ R)) c1.1 c1.2 hc] at h'
          have hl := bl_len r
          rw [h'] at hl
          obtain ⟨k, k2, kl, rfl, hX⟩ := cm_within _ (g :: G') R 0 r (Nat.le_refl _) hc hl
          match G', kl, c1 with
          | [], kl, _ => simp at kl; omega
          | x :: G2, kl, c1 =>
            have hX2 := hX X
            rw [List.cons_append] at hX2 ⊢
            rw [bl_some (l := g :: (x :: G2 ++ X)) c1.1 c1.2 hX2]
            exact ih ((g :: x :: G2).drop k) R (by simp at kl hn2 ⊢; omega) h' X
      · by_cases c2 : g ≤ 32
        · rw [bl_sp c1 c2] at h'
          rw [List.cons_append, bl_sp (fun e => by omega) c2]
          exact ih G' R hn2 h' X
        · rw [bl_at c1 c2] at h'
          have := congrArg (fun z => z.2.length) h'
          simp at this
          omega
/-- what stands behind blanks is none -/
theorem bl_done : ∀ (n : Nat) (l r : List Int), l.length ≤ n → bl l = (true, r) → r = [] ∨ (¬ (hd r = 40 ∧ hd r.tail = 42) ∧ ¬ hd r ≤ 32) := by
  intro n
  induction n with
  | zero =>
    intro l r hn h
    obtain rfl : l = [] := List.eq_nil_of_length_eq_zero (by omega)
    rw [bl_nil] at h
    cases h
    exact .inl rfl
  | succ n ih =>
    intro l r hn h
    match l, hn, h with
    | [], _, h =>
      rw [bl_nil] at h
      cases h
      exact .inl rfl
    | g :: t, hn, h =>
      have hn2 : t.length ≤ n := by simpa using hn
      by_cases c1 : g = 40 ∧ hd t = 42
      · cases hc : cm (g :: t) 0 with
        | none =>
          rw [bl_none (l := g :: t) c1.1 c1.2 hc] at h
          cases h
        | some r2 =>
          rw [bl_some (l := g :: t) c1.1 c1.2 hc] at h
          have := cm_short hc
          simp at this
          exact ih r2 r (by omega) h
      · by_cases c2 : g ≤ 32
        · rw [bl_sp c1 c2] at h
          exact ih t r hn2 h
        · rw [bl_at c1 c2] at h
          cases h
          exact .inr ⟨c1, c2⟩
/-- " (* c (* d *) *) " -/
def gapC : List Int := [32, 40, 42, 32, 99, 32, 40, 42, 32, 100, 32, 42, 41, 32, 42, 41, 32]
theorem gapC_bl (X : List Int) : bl (gapC ++ X) = bl X := by
  refine bl_gap _ gapC [] (Nat.le_refl _) ?_ X
  rw [List.append_nil]
  unfold gapC
  rw [bl_sp (by decide) (by decide)]
  have h : cm [40, 42, 32, 99, 32, 40, 42, 32, 100, 32, 42, 41, 32, 42, 41, 32] 0 = some [32] := by
    simp [cm_cons, hd]
  rw [bl_some rfl rfl h, bl_sp (by decide) (by decide), bl_nil]
section
variable {u : Sn}
/-- what the next symbol is, where no error is -/
theorem get_read (hc : u.code = 0) (ha : u.at_ ≤ u.src.length) (h0 : (getF u).code = 0) : ∃ p, u.at_ ≤ p ∧ p ≤ u.src.length ∧ bl (u.src.drop u.at_) = (true, u.src.drop p) ∧ getF u = tokF (begF u p) := by
  unfold getF at h0
  rw [if_neg (by simpa using hc)] at h0
  cases hb : (bl (u.src.drop u.at_)).1 with
  | false =>
    rw [hb, if_neg (by decide)] at h0
    exact absurd h0 (mark_no _ _ _ hc (by decide))
  | true =>
    obtain ⟨k, k1, e⟩ := bl_suffix _ (u.src.drop u.at_) (Nat.le_refl _)
    simp only [List.length_drop] at k1
    rw [List.drop_drop] at e
    refine ⟨u.at_ + k, by omega, by omega, ?_, ?_⟩
    · rw [← e, ← hb]
    · unfold getF
      rw [if_neg (by simpa using hc), hb, if_pos rfl, e]
      congr 2
      simp
      omega
theorem tok_end (h : u.src.length ≤ u.at_) : tokF u = u := by
  unfold tokF
  rw [if_pos h]
/-- it is the end, or a symbol -/
theorem get_cases (hc : u.code = 0) (ha : u.at_ ≤ u.src.length) (hk : 0 ≤ u.kw) (h0 : (getF u).code = 0) : ∃ p, u.at_ ≤ p ∧ p ≤ u.src.length ∧ bl (u.src.drop u.at_) = (true, u.src.drop p) ∧ (getF u).pos = (p : Int) ∧ ((p = u.src.length ∧ getF u = begF u p) ∨ (p < u.src.length ∧ ∃ m y v i tx ns, Tk u p m y v i tx ns ∧ getF u = { begF u p with at_ := p + m, sym := y, val := v, id := i, txt := tx, nms := ns })) := by
  obtain ⟨p, h1, h2, h3, h4⟩ := get_read hc ha h0
  by_cases he : p = u.src.length
  · have e : getF u = begF u p := by rw [h4, tok_end (u := begF u p) (by show u.src.length ≤ p; omega)]
    exact ⟨p, h1, h2, h3, by rw [e]; rfl, .inl ⟨he, e⟩⟩
  · obtain ⟨m, y, v, i, tx, ns, t⟩ := tk_any (u := u) (p := p) (by omega) hc hk (h4 ▸ h0)
    have e := h4.trans t.eq
    exact ⟨p, h1, h2, h3, by rw [e]; rfl, .inr ⟨by omega, m, y, v, i, tx, ns, t, e⟩⟩
end
/-- so many symbols, and then the end, with no error -/
def Runs : Nat → Sn → Prop
  | 0, s => (getF s).code = 0 ∧ (getF s).sym = 0
  | n + 1, s => (getF s).code = 0 ∧ (getF s).sym ≠ 0 ∧ Runs n (getF s)
theorem Runs.code : ∀ {n : Nat} {s : Sn}, Runs n s → (getF s).code = 0
  | 0, _, h => h.1
  | n + 1, _, h => h.1
/-- the source of these symbols, each with blanks ahead -/
def spr : Nat → Sn → List Int
  | 0, _ => []
  | n + 1, s => gapC ++ ((s.src.drop s.pos.toNat).take ((getF s).pos.toNat - s.pos.toNat) ++ spr n (getF s))
theorem spr_hd (n : Nat) (s : Sn) : nth (spr n s) 0 = 0 ∨ nth (spr n s) 0 = 32 := by
  cases n with
  | zero => exact .inl rfl
  | succ n => exact .inr rfl
/-- the same symbols are to come -/
structure Twin (u v : Sn) (n : Nat) : Prop where
  cu : u.code = 0
  cv : v.code = 0
  nm : v.nms = u.nms
  kw : v.kw = u.kw
  k0 : 0 ≤ u.kw
  au : u.at_ ≤ u.src.length
  av : v.at_ ≤ v.src.length
  rest : ∃ G, (∀ X, bl (G ++ X) = bl X) ∧ v.src.drop v.at_ = G ++ spr n (getF u)
section
variable {u v : Sn} {n : Nat}
theorem nth_left (P Y : List Int) (j : Nat) (h : j < P.length) : nth (P ++ Y) j = nth P j := by
  rw [nth_eq _ _ (by simp; omega), nth_eq _ _ h, List.getElem_append_left h]
theorem nth_right (P Y : List Int) : nth (P ++ Y) P.length = nth Y 0 := by
  unfold nth
  simp [List.getElem?_append_right]
theorem Twin.step (h : Twin u v (n + 1)) (hr : Runs (n + 1) u) : ((getF v).sym = (getF u).sym ∧ (getF v).val = (getF u).val ∧ (getF v).id = (getF u).id ∧ (getF v).txt = (getF u).txt) ∧ Twin (getF u) (getF v) n := by
  obtain ⟨cu, cv, nm, kw, k0, au, av, G, hG, hrest⟩ := h
  obtain ⟨r1, r2, r3⟩ := hr
  obtain ⟨p, p1, p2, pb, pp, hcase⟩ := get_cases cu au k0 r1
  rcases hcase with ⟨_, e⟩ | ⟨plt, m, y, va, i, tx, ns, t, e⟩
  · exfalso
    rw [e] at r2
    exact r2 rfl
  · have hs : (getF u).src = u.src := by rw [e]; rfl
    have ha : (getF u).at_ = p + m := by rw [e]
    have hk : (getF u).kw = u.kw := by rw [e]; rfl
    have m1 := t.m1
    have ml := t.ml
    obtain ⟨q, q1, q2, qb, qq, _⟩ := get_cases (u := getF u) r1 (by rw [ha, hs]; omega) (by rw [hk]; exact k0) r3.code
    rw [ha] at q1 qb
    rw [hs] at q2 qb
    obtain ⟨Y, hY⟩ : ∃ Y, Y = spr n (getF (getF u)) := ⟨_, rfl⟩
    obtain ⟨P, hP⟩ : ∃ P, P = (u.src.drop p).take (q - p) := ⟨_, rfl⟩
    have hPl : P.length = q - p := by rw [hP]; simp; omega
    have hPn : ∀ j, j < q - p → nth P j = nth u.src (p + j) := fun j hj => by
      rw [nth_eq _ _ (by omega), nth_eq _ _ (by omega)]
      simp [hP]
    have hsp : spr (n + 1) (getF u) = gapC ++ (P ++ Y) := by
      rw [spr, pp, qq, hs, hP, hY]
      rfl
    rw [hsp, ← List.append_assoc] at hrest
    have hY0 := spr_hd n (getF (getF u))
    rw [← hY] at hY0
    -- where the twin stands behind the blanks
    have hlen := congrArg List.length hrest
    simp only [List.length_drop, List.length_append] at hlen
    have hdrop : v.src.drop (v.at_ + (G ++ gapC).length) = P ++ Y := by
      rw [← List.drop_drop, hrest, List.drop_left]
    have hp' : v.src.length - (P ++ Y).length = v.at_ + (G ++ gapC).length := by
      simp only [List.length_append]; omega
    obtain ⟨p', hpp⟩ : ∃ p', p' = v.at_ + (G ++ gapC).length := ⟨_, rfl⟩
    rw [← hpp] at hdrop hp'
    have hvl : p' + (P ++ Y).length = v.src.length := by
      rw [hpp]; simp only [List.length_append]; omega
    have hvn : ∀ j, nth v.src (p' + j) = nth (P ++ Y) j := fun j => by rw [← nth_drop, hdrop]
    have hdn := bl_done _ _ _ (Nat.le_refl _) pb
    have hdn2 : ¬ (nth u.src p = 40 ∧ nth u.src (p + 1) = 42) ∧ ¬ nth u.src p ≤ 32 := by
      rcases hdn with h | h
      · exact absurd h (drop_ne _ _ plt)
      · rwa [tail_drop, hd_drop, hd_drop] at h
    have hPY : bl (P ++ Y) = (true, P ++ Y) := by
      have h0 : nth (P ++ Y) 0 = nth u.src p := by rw [nth_left _ _ _ (by omega), hPn 0 (by omega), Nat.add_zero]
      have h1 : nth (P ++ Y) 1 = nth u.src (p + 1) ∨ nth (P ++ Y) 1 = 0 ∨ nth (P ++ Y) 1 = 32 := by
        by_cases hq : 1 < P.length
        · exact .inl (by rw [nth_left _ _ _ hq, hPn 1 (by omega)])
        · have : P.length = 1 := by omega
          rw [← this, nth_right]
          exact .inr hY0
      have e2 : P ++ Y = (P ++ Y).drop 0 := rfl
      rw [e2]
      refine bl_stop (P ++ Y) 0 (by simp; omega) ?_ (by rw [h0]; exact hdn2.2)
      rw [h0, Nat.zero_add]
      intro ⟨a, b⟩
      rcases h1 with h1 | h1
      · exact hdn2.1 ⟨a, h1 ▸ b⟩
      · omega
    have hblv : bl (v.src.drop v.at_) = (true, P ++ Y) := by
      rw [hrest, List.append_assoc, hG, gapC_bl, hPY]
    have hel := t.el v p' cv nm kw (by have : m ≤ P.length := by omega
                                       simp only [List.length_append] at hvl; omega) (fun j hj => by rw [hvn, nth_left _ _ _ (by omega), hPn j (by omega)]) (by
      rw [hvn]
      by_cases hq : m < P.length
      · exact .inl (by rw [nth_left _ _ _ hq, hPn m (by omega)])
      · have : m = P.length := by omega
        rw [this, nth_right]
        exact .inr hY0)
    have ev : getF v = { begF v p' with at_ := p' + m, sym := y, val := va, id := i, txt := tx, nms := ns } := by
      rw [← hel]
      unfold getF
      rw [if_neg (by simpa using cv), hblv, if_pos rfl, hp']
    have hgap : ∀ X, bl (P.drop m ++ X) = bl X := bl_gap _ (P.drop m) (u.src.drop q) (Nat.le_refl _) (by
      have e3 : P.drop m ++ u.src.drop q = u.src.drop (p + m) := by
        rw [hP, List.drop_take, List.drop_drop, show u.src.drop q = (u.src.drop (p + m)).drop (q - p - m) by rw [List.drop_drop]; congr 1; omega, List.take_append_drop]
      rw [e3]
      exact qb)
    refine ⟨by rw [e, ev]; exact ⟨rfl, rfl, rfl, rfl⟩, r1, by rw [ev]; exact cv, by rw [e, ev], by rw [e, ev]; exact kw, by rw [hk]; exact k0, by rw [ha, hs]; omega, ?_, P.drop m, hgap, ?_⟩
    · rw [ev]
      show p' + m ≤ v.src.length
      simp only [List.length_append] at hvl
      omega
    · rw [ev]
      show v.src.drop (p' + m) = P.drop m ++ spr n (getF (getF u))
      rw [← List.drop_drop, hdrop, List.drop_append_of_le_length (by omega), hY]
theorem Twin.stop (h : Twin u v 0) : (getF v).sym = 0 := by
  obtain ⟨cu, cv, nm, kw, k0, au, av, G, hG, hrest⟩ := h
  have e : bl (v.src.drop v.at_) = (true, []) := by
    rw [hrest, hG]
    exact bl_nil
  unfold getF
  rw [if_neg (by simpa using cv), e, if_pos rfl, tok_end (show v.src.length ≤ v.src.length - ([] : List Int).length by simp)]
  rfl
end
end Go.Proofs.YthpdgghjaglhnaaGreatDoor

/-
  The first symbols of a source that begins as a module does.
-/
import Derived.Test.YtkeehdaeanmiiaaSqE
namespace Go.Proofs.Ytkeehdaeanmiiaa
open Go.ChangeShapes Go.WideShapes Go.ChangeAt Go.RowKit
open Ev (WRow)
set_option linter.unusedVariables false
set_option linter.unusedSimpArgs false
theorem get_here {s : Sn} (hc : s.code = 0) (ha : s.at_ < s.src.length) (h1 : nth s.src s.at_ ≠ 40) (h2 : 32 < nth s.src s.at_) : getF s = tokF (begF s s.at_) := by
  unfold getF
  rw [if_neg (by simpa using hc), bl_stop s.src s.at_ ha (by omega) (by omega)]
  show tokF (begF s (s.src.length - (s.src.drop s.at_).length)) = _
  rw [List.length_drop, show s.src.length - (s.src.length - s.at_) = s.at_ by omega]
theorem get_blank {s : Sn} (hc : s.code = 0) (ha : s.at_ + 1 < s.src.length) (h0 : nth s.src s.at_ = 32) (h1 : nth s.src (s.at_ + 1) ≠ 40) (h2 : 32 < nth s.src (s.at_ + 1)) : getF s = tokF (begF s (s.at_ + 1)) := by
  unfold getF
  rw [if_neg (by simpa using hc), bl_blank s.src s.at_ (by omega) (by omega) (by omega), bl_stop s.src (s.at_ + 1) ha (by omega) (by omega)]
  show tokF (begF s (s.src.length - (s.src.drop (s.at_ + 1)).length)) = _
  rw [List.length_drop, show s.src.length - (s.src.length - (s.at_ + 1)) = s.at_ + 1 by omega]
theorem intern_keep {s : Sn} {l x : List UInt8} {j : Nat} (h : s.nms[j]? = some x) : (internF s l).nms[j]? = some x := by
  unfold internF
  split
  · exact h
  · split
    · rw [markF_nms]; exact h
    · show (s.nms ++ [l])[j]? = _
      rw [List.getElem?_append_left (List.getElem?_eq_some_iff.1 h).1]; exact h
theorem get_keep {s : Sn} {x : List UInt8} {j : Nat} (h : s.nms[j]? = some x) : (getF s).nms[j]? = some x := by
  unfold getF
  split
  · exact h
  · split
    · unfold tokF
      have hb : (begF s (s.src.length - (bl (s.src.drop s.at_)).2.length)).nms[j]? = some x := h
      generalize begF s (s.src.length - (bl (s.src.drop s.at_)).2.length) = b at hb ⊢
      split
      · exact hb
      · split
        · unfold nameF
          simp only []
          split
          · rw [markF_nms]; exact hb
          · have hi : (internF { b with at_ := b.at_ + tw ldB (b.src.drop b.at_) } (chars ((b.src.drop b.at_).take (tw ldB (b.src.drop b.at_))))).nms[j]? = some x := intern_keep hb
            split
            · exact hi
            · split
              · exact hi
              · exact hi
        · split
          · unfold numF
            simp only []
            split
            · rw [markF_nms]; exact hb
            · exact hb
          · split
            · unfold textF
              simp only []
              split
              · rw [markF_nms]; exact hb
              · exact hb
            · rw [signF_eq]
              split
              · rw [markF_nms]; exact hb
              · exact hb
    · rw [markF_nms]; exact h
theorem stp_keep {u : Sn} {x : List UInt8} {j i : Nat} (h : (stp u i).nms[j]? = some x) : ∀ k, (stp u (i + k)).nms[j]? = some x
  | 0 => h
  | k + 1 => get_keep (stp_keep h k)
/-- a module's beginning -/
def modL : List Int := [77, 79, 68, 85, 76, 69, 32]
def numL (nm : List UInt8) : List Int := nm.map fun b => (b.toNat : Int)
/-- a name that a module may bear here -/
def NmOk (nm : List UInt8) : Prop := 1 ≤ nm.length ∧ nm.length ≤ 15 ∧ letB (nth (numL nm) 0) = true ∧ (∀ j, j < nm.length → ldB (nth (numL nm) j) = true) ∧ chars (numL nm) = nm ∧ nm ∉ wsL.take 57
theorem letB_bd {c : Int} (h : letB c = true) : 65 ≤ c := by
  unfold letB at h
  have := of_decide_eq_true h
  omega
theorem ldB_59 : ldB 59 = false := by decide
theorem ldB_32 : ldB 32 = false := by decide
structure First (u : Sn) (nm : List UInt8) : Prop where
  s1 : (stp u 1).sym = 43
  s2 : (stp u 2).sym = 25
  i2 : (stp u 2).id = 57
  n2 : (stp u 2).nms[57]? = some nm
  s3 : (stp u 3).sym ≠ 0
theorem first_any {zs rest : List Int} {nm : List UInt8} (hn : NmOk nm) (hz : zs = modL ++ (numL nm ++ (59 :: rest))) : First { wsF 57 29 with src := zs } nm := by
  obtain ⟨n1, n2, n3, n4, n5, n6⟩ := hn
  have hnl : (numL nm).length = nm.length := by unfold numL; simp
  have hlen : zs.length = 7 + (nm.length + (rest.length + 1)) := by rw [hz]; simp [modL, hnl]; omega
  have a0 : ∀ j, j < 7 → nth zs j = nth modL j := fun j hj => by rw [hz]; exact nth_left _ _ _ hj
  have a1 : ∀ j, j < nm.length → nth zs (7 + j) = nth (numL nm) j := fun j hj => by
    rw [hz, ← nth_drop, show (7 : Nat) = modL.length from rfl, List.drop_left]; exact nth_left _ _ _ (by omega)
  have a2 : nth zs (7 + nm.length) = 59 := by
    rw [hz, ← nth_drop, show (7 : Nat) = modL.length from rfl, List.drop_left, ← hnl, nth_right]; rfl
  obtain ⟨u, hu⟩ : ∃ u, u = ({ wsF 57 29 with src := zs } : Sn) := ⟨_, rfl⟩
  rw [← hu]
  have u1 : u.src = zs := by rw [hu]
  have u2 : u.at_ = 0 := by first | (rw [hu]; done) | (rw [hu]; rfl)
  have u3 : u.code = 0 := by rw [hu]; rfl
  have u4 : u.nms = wsL.take 57 := by rw [hu]; rfl
  have u5 : u.kw = 29 := by rw [hu]; rfl
  -- MODULE
  have m0 : nth zs 0 = 77 := a0 0 (by omega)
  have g1 : stp u 1 = tokF (begF u 0) := by
    show getF u = _
    rw [get_here u3 (by rw [u1, u2, hlen]; omega) (by rw [u1, u2, m0]; decide) (by rw [u1, u2, m0]; decide), u2]
  have t1 : tokF (begF u 0) = nameF (begF u 0) := tokF_name (by show 0 < u.src.length; rw [u1, hlen]; omega) (by show letB (nth u.src 0) = true; rw [u1, m0]; decide)
  have k1 : tw ldB ((begF u 0).src.drop (begF u 0).at_) = 6 := by
    show tw ldB (u.src.drop 0) = 6
    rw [u1]
    refine tw_is ldB ldB_0 _ 6 (fun j hj => ?_) ?_
    · rw [nth_drop, Nat.zero_add, a0 j (by omega)]
      have : ∀ j, j < 6 → ldB (nth modL j) = true := by decide
      exact this j hj
    · rw [nth_drop, Nat.zero_add, a0 6 (by omega)]; decide
  have l1 : chars (((begF u 0).src.drop (begF u 0).at_).take 6) = [77, 79, 68, 85, 76, 69] := by
    show chars ((u.src.drop 0).take 6) = _
    rw [u1, hz]; rfl
  have e1 := name_eq (begF u 0) 6 [77, 79, 68, 85, 76, 69] k1 l1 (by omega) (.inl (by show _ ∈ u.nms; rw [u4]; decide))
  have i1 : internN (begF u 0) [77, 79, 68, 85, 76, 69] = 13 := by
    have : internN (begF u 0) [77, 79, 68, 85, 76, 69] = internN (wsF 57 29) [77, 79, 68, 85, 76, 69] := internN_same (by show u.nms = _; rw [u4]; rfl) _
    rw [this]; decide
  have kwb : (begF u 0).kw = 29 := u5
  have mem1 : ([77, 79, 68, 85, 76, 69] : List UInt8) ∈ (begF u 0).nms := by show _ ∈ u.nms; rw [u4]; decide
  rw [i1, kwb, if_pos (by decide), if_pos (by decide), if_pos mem1] at e1
  rw [t1, e1] at g1
  obtain ⟨v, hv⟩ : ∃ v, v = stp u 1 := ⟨_, rfl⟩
  have v1 : v.src = zs := by rw [hv, g1]; exact u1
  have v2 : v.at_ = 6 := by first | (rw [hv, g1]; done) | (rw [hv, g1]; rfl)
  have v3 : v.code = 0 := by rw [hv, g1]; exact u3
  have v4 : v.nms = wsL.take 57 := by rw [hv, g1]; exact u4
  have v5 : v.kw = 29 := by first | (rw [hv, g1]; done) | (rw [hv, g1]; exact u5)
  have v6 : v.sym = 43 := by first | (rw [hv, g1]; done) | (rw [hv, g1]; rfl)
  -- the name
  have b6 : nth zs 6 = 32 := a0 6 (by omega)
  have b7 : nth zs 7 = nth (numL nm) 0 := a1 0 (by omega)
  have c7 := letB_bd n3
  have g2 : stp u 2 = tokF (begF v 7) := by
    show getF (stp u 1) = _
    rw [← hv, get_blank v3 (by rw [v1, v2, hlen]; omega) (by rw [v1, v2]; exact b6) (by rw [v1, v2]; show nth zs 7 ≠ 40; rw [b7]; omega) (by rw [v1, v2]; show 32 < nth zs 7; rw [b7]; omega), v2]
  have t2 : tokF (begF v 7) = nameF (begF v 7) := tokF_name (by show 7 < v.src.length; rw [v1, hlen]; omega) (by show letB (nth v.src 7) = true; rw [v1, b7]; exact n3)
  have k2 : tw ldB ((begF v 7).src.drop (begF v 7).at_) = nm.length := by
    show tw ldB (v.src.drop 7) = _
    rw [v1]
    refine tw_is ldB ldB_0 _ _ (fun j hj => ?_) ?_
    · rw [nth_drop, a1 j hj]; exact n4 j hj
    · rw [nth_drop, a2]; decide
  have l2 : chars (((begF v 7).src.drop (begF v 7).at_).take nm.length) = nm := by
    show chars ((v.src.drop 7).take nm.length) = _
    rw [v1, hz, show (7 : Nat) = modL.length from rfl, List.drop_left, ← hnl, List.take_left]
    exact n5
  have nmem : nm ∉ (begF v 7).nms := by show nm ∉ v.nms; rw [v4]; exact n6
  have w57 : (wsL.take 57).length = 57 := by decide
  have e2 := name_eq (begF v 7) nm.length nm k2 l2 n2 (.inr (by show v.nms.length < 700; rw [v4, w57]; decide))
  have i2 : internN (begF v 7) nm = 57 := by
    unfold internN
    rw [if_neg nmem, if_neg (by show ¬ 700 ≤ v.nms.length; rw [v4, w57]; decide)]
    show ((v.nms.length : Nat) : Int) = 57
    rw [v4, w57]; rfl
  have kwv : (begF v 7).kw = 29 := v5
  rw [i2, kwv, if_neg (by decide), if_neg (by decide), if_neg nmem] at e2
  rw [t2, e2] at g2
  obtain ⟨x, hx⟩ : ∃ x, x = stp u 2 := ⟨_, rfl⟩
  have x1 : x.src = zs := by rw [hx, g2]; exact v1
  have x2 : x.at_ = 7 + nm.length := by first | (rw [hx, g2]; done) | (rw [hx, g2]; rfl)
  have x3 : x.code = 0 := by rw [hx, g2]; exact v3
  have x4 : x.nms = wsL.take 57 ++ [nm] := by rw [hx, g2]; show v.nms ++ [nm] = _; rw [v4]
  have x5 : x.sym = 25 := by first | (rw [hx, g2]; done) | (rw [hx, g2]; rfl)
  have x6 : x.id = 57 := by first | (rw [hx, g2]; done) | (rw [hx, g2]; rfl)
  -- ;
  have g3 : stp u 3 = tokF (begF x (7 + nm.length)) := by
    show getF (stp u 2) = _
    rw [← hx, get_here x3 (by rw [x1, x2, hlen]; omega) (by rw [x1, x2, a2]; decide) (by rw [x1, x2, a2]; decide), x2]
  have c59 : nth (begF x (7 + nm.length)).src (begF x (7 + nm.length)).at_ = 59 := by show nth x.src (7 + nm.length) = 59; rw [x1, a2]
  have t3 : tokF (begF x (7 + nm.length)) = signF (begF x (7 + nm.length)) := tokF_sign (by show 7 + nm.length < x.src.length; rw [x1, hlen]; omega) (by rw [c59]; decide) (by rw [c59]; decide) (by rw [c59]; decide)
  have e3 : ∀ d, sgR 59 d = (22, 1) := fun d => by
    unfold sgR
    rw [show sgF 59 = some 22 by decide]
    simp
  have s3 : (stp u 3).sym = 22 := by
    rw [g3, t3, signF_eq, c59, e3, if_neg (by decide)]
  refine ⟨by rw [← hv]; exact v6, by rw [← hx]; exact x5, by rw [← hx]; exact x6, ?_, by rw [s3]; decide⟩
  rw [← hx, x4, List.getElem?_append_right (by rw [w57]; exact Nat.le_refl _), w57]
  rfl
end Go.Proofs.Ytkeehdaeanmiiaa

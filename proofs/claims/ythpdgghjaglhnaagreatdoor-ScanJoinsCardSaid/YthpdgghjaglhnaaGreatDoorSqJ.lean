/-
  Two sources with a blank between, plainly: behind the first one's symbols those of the second one.
-/
import Derived.Test.YthpdgghjaglhnaaGreatDoorSqE
import Derived.Test.YthpdgghjaglhnaaGreatDoorSnX
namespace Go.Proofs.YthpdgghjaglhnaaGreatDoor
open Go.ChangeShapes Go.WideShapes Go.ChangeAt Go.RowKit
set_option linter.unusedVariables false
set_option linter.unusedSimpArgs false
section
variable {a b : List Int}
theorem jdrop (k : Nat) : (a ++ 32 :: b).drop (a.length + 1 + k) = b.drop k := by
  rw [show a.length + 1 + k = a.length + (k + 1) by omega, ← List.drop_drop, List.drop_left]; rfl
theorem jnth (k : Nat) : nth (a ++ 32 :: b) (a.length + 1 + k) = nth b k := by
  show nth (a ++ 32 :: b) (a.length + 1 + k + 0) = nth b (k + 0)
  rw [← nth_drop, ← nth_drop, jdrop]
theorem jlen : (a ++ 32 :: b).length = a.length + 1 + b.length := by simp; omega
/-- the second source's scanner, and that of both -/
structure Jn (a b : List Int) (nx : Nat) (V J : Sn) : Prop where
  vs : V.src = b
  js : J.src = a ++ 32 :: b
  at_ : J.at_ = a.length + 1 + V.at_
  cv : V.code = 0
  cj : J.code = 0
  kv : V.kw = 29
  kj : J.kw = 29
  le : V.at_ ≤ b.length
  fv : Fit V
  fj : Fit J
  wv : V.nms.take 57 = wsL.take 57
  wj : J.nms.take 57 = wsL.take 57
  sub : ∀ l ∈ V.nms, l ∈ J.nms
  room : J.nms.length + 57 ≤ nx + V.nms.length
theorem idx_ws {n1 : List (List UInt8)} (h : n1.take 57 = wsL.take 57) {l : List UInt8} (hl : l ∈ wsL.take 57) : n1.idxOf l = (wsL.take 57).idxOf l := by
  rw [← List.take_append_drop 57 n1, List.idxOf_append, if_pos (by rw [h]; exact hl), h]
theorem idx_lt {n1 : List (List UInt8)} (h : n1.take 57 = wsL.take 57) {l : List UInt8} (hm : l ∈ n1) (hi : n1.idxOf l < 57) : l ∈ wsL.take 57 := by
  have h1 := List.idxOf_lt_length_iff.2 hm
  have h2 : n1[n1.idxOf l] = l := List.getElem_idxOf h1
  rw [← h, ← h2]
  exact List.mem_take_iff_getElem.2 ⟨n1.idxOf l, by omega, rfl⟩
/-- a name's number in both -/
theorem idx_same {n1 n2 : List (List UInt8)} (h1 : n1.take 57 = wsL.take 57) (h2 : n2.take 57 = wsL.take 57) {l : List UInt8} (m1 : l ∈ n1) (m2 : l ∈ n2) : (n1.idxOf l < 29 ∧ n2.idxOf l = n1.idxOf l) ∨ (29 ≤ n1.idxOf l ∧ 29 ≤ n2.idxOf l) := by
  by_cases h : n1.idxOf l < 29
  · have hl := idx_lt h1 m1 (by omega)
    exact .inl ⟨h, by rw [idx_ws h1 hl, idx_ws h2 hl]⟩
  · right
    refine ⟨by omega, ?_⟩
    by_cases h3 : n2.idxOf l < 29
    · have hl := idx_lt h2 m2 (by omega)
      rw [idx_ws h1 hl] at h
      rw [idx_ws h2 hl] at h3
      omega
    · omega
/-- what is told alike -/
structure Alike (k : Int) (V J : Sn) : Prop where
  sym : J.sym = V.sym
  val : J.val = V.val
  txt : J.txt = V.txt
  pos : J.pos = V.pos + k
  nam : V.sym = 25 → ∃ (i j : Nat) (l : List UInt8), V.id = i ∧ J.id = j ∧ V.nms[i]? = some l ∧ J.nms[j]? = some l
theorem take_new {n1 : List (List UInt8)} (h : 57 ≤ n1.length) (l : List UInt8) : (n1 ++ [l]).take 57 = n1.take 57 := List.take_append_of_le_length h
/-- what is the same behind a symbol -/
structure Core (a b : List Int) (nx : Nat) (V' J' : Sn) : Prop where
  al : Alike ((a.length : Int) + 1) V' J'
  cj : J'.code = 0
  at_ : J'.at_ = a.length + 1 + V'.at_
  wv : V'.nms.take 57 = wsL.take 57
  wj : J'.nms.take 57 = wsL.take 57
  sub : ∀ l ∈ V'.nms, l ∈ J'.nms
  room : J'.nms.length + 57 ≤ nx + V'.nms.length
variable {nx : Nat} {V J : Sn}
theorem core_name (h : Jn a b nx V J) {p : Nat} (hp : p < b.length) (h0 : (nameF (begF V p)).code = 0) (hr : nx + (nameF (begF V p)).nms.length ≤ 700) : Core a b nx (nameF (begF V p)) (nameF (begF J (a.length + 1 + p))) := by
  obtain ⟨K, hK⟩ : ∃ K, K = tw ldB (b.drop p) := ⟨_, rfl⟩
  have kV : tw ldB ((begF V p).src.drop (begF V p).at_) = K := by show tw ldB (V.src.drop p) = K; rw [h.vs, hK]
  have kJ : tw ldB ((begF J (a.length + 1 + p)).src.drop (begF J (a.length + 1 + p)).at_) = K := by show tw ldB (J.src.drop (a.length + 1 + p)) = K; rw [h.js, jdrop, hK]
  obtain ⟨l, hl⟩ : ∃ l, l = chars ((b.drop p).take K) := ⟨_, rfl⟩
  have lV : chars (((begF V p).src.drop (begF V p).at_).take K) = l := by show chars ((V.src.drop p).take K) = l; rw [h.vs, hl]
  have lJ : chars (((begF J (a.length + 1 + p)).src.drop (begF J (a.length + 1 + p)).at_).take K) = l := by show chars ((J.src.drop (a.length + 1 + p)).take K) = l; rw [h.js, jdrop, hl]
  have h15 : ¬ 15 < K := fun e => by
    rw [nameF_long kV e] at h0
    refine mark_no _ 3 _ ?_ (by decide) h0
    exact h.cv
  have nv57 := h.fv.n57
  have nj57 := h.fj.n57
  by_cases mV : l ∈ V.nms
  · have mJ := h.sub l mV
    have eV := nameF_ok (s := begF V p) (N := V.nms) (i := V.nms.idxOf l) kV h15 lV h.kv (.inl ⟨mV, rfl, rfl⟩)
    have eJ := nameF_ok (s := begF J (a.length + 1 + p)) (N := J.nms) (i := J.nms.idxOf l) kJ h15 lJ h.kj (.inl ⟨mJ, rfl, rfl⟩)
    rcases idx_same h.wv h.wj mV mJ with ⟨c1, c2⟩ | ⟨c1, c2⟩
    · rw [if_pos (by omega)] at eV eJ
      rw [eV, eJ, c2]
      exact ⟨⟨rfl, rfl, rfl, by show ((a.length + 1 + p : Nat) : Int) = (p : Int) + _; omega, fun e => by
        have : (30 : Int) + (V.nms.idxOf l : Nat) = 25 := e
        omega⟩, h.cj, by show a.length + 1 + p + K = _; show _ = a.length + 1 + (p + K); omega, h.wv, h.wj, h.sub, h.room⟩
    · rw [if_neg (by omega)] at eV eJ
      rw [eV, eJ]
      exact ⟨⟨rfl, rfl, rfl, by show ((a.length + 1 + p : Nat) : Int) = (p : Int) + _; omega, fun _ => ⟨_, _, l, rfl, rfl, by show V.nms[V.nms.idxOf l]? = _; rw [List.getElem?_eq_getElem (List.idxOf_lt_length_iff.2 mV), List.getElem_idxOf], by show J.nms[J.nms.idxOf l]? = _; rw [List.getElem?_eq_getElem (List.idxOf_lt_length_iff.2 mJ), List.getElem_idxOf]⟩⟩, h.cj, by show a.length + 1 + p + K = a.length + 1 + (p + K); omega, h.wv, h.wj, h.sub, h.room⟩
  · have v7 : V.nms.length < 700 := by
      by_cases e : V.nms.length < 700
      · exact e
      · rw [nameF_full kV h15 lV mV (by show 700 ≤ V.nms.length; omega)] at h0
        refine absurd h0 (mark_no _ 62 _ ?_ (by decide))
        exact h.cv
    have eV := nameF_ok (s := begF V p) (N := V.nms ++ [l]) (i := V.nms.length) kV h15 lV h.kv (.inr ⟨mV, v7, rfl, rfl⟩)
    rw [if_neg (by omega)] at eV
    rw [eV] at hr
    have hr2 : nx + (V.nms ++ [l]).length ≤ 700 := hr
    rw [List.length_append] at hr2
    have hr3 : nx + (V.nms.length + 1) ≤ 700 := hr2
    have hroom := h.room
    by_cases mJ : l ∈ J.nms
    · have eJ := nameF_ok (s := begF J (a.length + 1 + p)) (N := J.nms) (i := J.nms.idxOf l) kJ h15 lJ h.kj (.inl ⟨mJ, rfl, rfl⟩)
      have c2 : 29 ≤ J.nms.idxOf l := by
        by_cases e : J.nms.idxOf l < 29
        · have hw := idx_lt h.wj mJ (by omega)
          rw [← h.wv] at hw
          exact absurd (List.mem_of_mem_take hw) mV
        · omega
      rw [if_neg (by omega)] at eJ
      rw [eV, eJ]
      refine ⟨⟨rfl, rfl, rfl, by show ((a.length + 1 + p : Nat) : Int) = (p : Int) + _; omega, fun _ => ⟨_, _, l, rfl, rfl, ?_, by show J.nms[J.nms.idxOf l]? = _; rw [List.getElem?_eq_getElem (List.idxOf_lt_length_iff.2 mJ), List.getElem_idxOf]⟩⟩, h.cj, by show a.length + 1 + p + K = a.length + 1 + (p + K); omega, (take_new nv57 l).trans h.wv, h.wj, ?_, ?_⟩
      · show (V.nms ++ [l])[V.nms.length]? = some l
        rw [List.getElem?_append_right (Nat.le_refl _), Nat.sub_self]; rfl
      · intro x hx
        have hx2 : x ∈ V.nms ++ [l] := hx
        rw [List.mem_append, List.mem_singleton] at hx2
        rcases hx2 with e | e
        · exact h.sub x e
        · rw [e]; exact mJ
      · show J.nms.length + 57 ≤ nx + (V.nms ++ [l]).length
        rw [List.length_append]
        show _ ≤ nx + (V.nms.length + 1)
        omega
    · have eJ := nameF_ok (s := begF J (a.length + 1 + p)) (N := J.nms ++ [l]) (i := J.nms.length) kJ h15 lJ h.kj (.inr ⟨mJ, by show J.nms.length < 700; omega, rfl, rfl⟩)
      rw [if_neg (by omega)] at eJ
      rw [eV, eJ]
      refine ⟨⟨rfl, rfl, rfl, by show ((a.length + 1 + p : Nat) : Int) = (p : Int) + _; omega, fun _ => ⟨_, _, l, rfl, rfl, ?_, ?_⟩⟩, h.cj, by show a.length + 1 + p + K = a.length + 1 + (p + K); omega, (take_new nv57 l).trans h.wv, (take_new nj57 l).trans h.wj, ?_, ?_⟩
      · show (V.nms ++ [l])[V.nms.length]? = some l
        rw [List.getElem?_append_right (Nat.le_refl _), Nat.sub_self]; rfl
      · show (J.nms ++ [l])[J.nms.length]? = some l
        rw [List.getElem?_append_right (Nat.le_refl _), Nat.sub_self]; rfl
      · intro x hx
        have hx2 : x ∈ V.nms ++ [l] := hx
        show x ∈ J.nms ++ [l]
        rw [List.mem_append] at hx2 ⊢
        exact hx2.imp (h.sub x) id
      · show (J.nms ++ [l]).length + 57 ≤ nx + (V.nms ++ [l]).length
        rw [List.length_append, List.length_append]
        show J.nms.length + 1 + 57 ≤ nx + (V.nms.length + 1)
        omega
theorem core_same (h : Jn a b nx V J) {V' J' : Sn} (al : Alike ((a.length : Int) + 1) V' J') (cj : J'.code = 0) (at_ : J'.at_ = a.length + 1 + V'.at_) (nv : V'.nms = V.nms) (nj : J'.nms = J.nms) : Core a b nx V' J' :=
  ⟨al, cj, at_, by rw [nv]; exact h.wv, by rw [nj]; exact h.wj, by rw [nv, nj]; exact h.sub, by rw [nv, nj]; exact h.room⟩
theorem nu_shift (p : Nat) : nuSym (a ++ 32 :: b) (a.length + 1 + p) = nuSym b p ∧ nuEnd (a ++ 32 :: b) (a.length + 1 + p) = a.length + 1 + nuEnd b p ∧ nuVal (a ++ 32 :: b) (a.length + 1 + p) = nuVal b p := by
  have e : ∀ k, nth (a ++ 32 :: b) (a.length + 1 + p + k) = nth b (p + k) := fun k => by rw [show a.length + 1 + p + k = a.length + 1 + (p + k) by omega, jnth]
  unfold nuSym nuEnd nuVal nuT
  rw [jdrop, e]
  refine ⟨rfl, ?_, rfl⟩
  split <;> omega
theorem core_num (h : Jn a b nx V J) {p : Nat} (h0 : (numF (begF V p)).code = 0) (hs : (nuSym b p) ≠ 25) : Core a b nx (numF (begF V p)) (numF (begF J (a.length + 1 + p))) := by
  have eV : numF (begF V p) = numV { begF V p with sym := nuSym b p, at_ := nuEnd b p } (nuVal b p) := by rw [numF_eq]; show numV { begF V p with sym := nuSym V.src p, at_ := nuEnd V.src p } (nuVal V.src p) = _; rw [h.vs]
  have eJ : numF (begF J (a.length + 1 + p)) = numV { begF J (a.length + 1 + p) with sym := nuSym b p, at_ := a.length + 1 + nuEnd b p } (nuVal b p) := by
    rw [numF_eq]
    show numV { begF J (a.length + 1 + p) with sym := nuSym J.src (a.length + 1 + p), at_ := nuEnd J.src (a.length + 1 + p) } (nuVal J.src (a.length + 1 + p)) = _
    obtain ⟨e1, e2, e3⟩ := nu_shift (a := a) (b := b) p
    rw [h.js, e1, e2, e3]
  rw [eV] at h0 ⊢
  rw [eJ]
  cases hv : nuVal b p with
  | none =>
    rw [hv] at h0
    refine absurd h0 (mark_no _ 2 _ ?_ (by decide))
    exact h.cv
  | some v => exact core_same h ⟨rfl, rfl, rfl, by show ((a.length + 1 + p : Nat) : Int) = (p : Int) + _; omega, fun e => absurd e hs⟩ h.cj rfl rfl rfl
theorem core_text (h : Jn a b nx V J) {p : Nat} (h0 : (textF (begF V p)).code = 0) : Core a b nx (textF (begF V p)) (textF (begF J (a.length + 1 + p))) := by
  obtain ⟨K, hK⟩ : ∃ K, K = tw txB (b.drop (p + 1)) := ⟨_, rfl⟩
  have kV : tw txB ((begF V p).src.drop ((begF V p).at_ + 1)) = K := by show tw txB (V.src.drop (p + 1)) = K; rw [h.vs, hK]
  have kJ : tw txB ((begF J (a.length + 1 + p)).src.drop ((begF J (a.length + 1 + p)).at_ + 1)) = K := by show tw txB (J.src.drop (a.length + 1 + p + 1)) = K; rw [h.js, show a.length + 1 + p + 1 = a.length + 1 + (p + 1) by omega, jdrop, hK]
  have eV := textF_eq kV
  have eJ := textF_eq kJ
  have n1 : nth (begF J (a.length + 1 + p)).src ((begF J (a.length + 1 + p)).at_ + 1 + K) = nth b (p + 1 + K) := by show nth J.src (a.length + 1 + p + 1 + K) = _; rw [h.js, show a.length + 1 + p + 1 + K = a.length + 1 + (p + 1 + K) by omega, jnth]
  have n2 : nth (begF V p).src ((begF V p).at_ + 1 + K) = nth b (p + 1 + K) := by show nth V.src _ = _; rw [h.vs]; rfl
  have n3 : nth (begF J (a.length + 1 + p)).src ((begF J (a.length + 1 + p)).at_ + 1) = nth b (p + 1) := by show nth J.src (a.length + 1 + p + 1) = _; rw [h.js, show a.length + 1 + p + 1 = a.length + 1 + (p + 1) by omega, jnth]
  have n4 : nth (begF V p).src ((begF V p).at_ + 1) = nth b (p + 1) := by show nth V.src _ = _; rw [h.vs]; rfl
  have n5 : (begF J (a.length + 1 + p)).src.drop ((begF J (a.length + 1 + p)).at_ + 1) = b.drop (p + 1) := by show J.src.drop (a.length + 1 + p + 1) = _; rw [h.js, show a.length + 1 + p + 1 = a.length + 1 + (p + 1) by omega, jdrop]
  have n6 : (begF V p).src.drop ((begF V p).at_ + 1) = b.drop (p + 1) := by show V.src.drop _ = _; rw [h.vs]; rfl
  rw [n2, n4, n6] at eV
  rw [n1, n3, n5] at eJ
  by_cases e : nth b (p + 1 + K) ≠ 34 ∨ 63 < K
  · rw [if_pos e] at eV
    rw [eV] at h0
    refine absurd h0 (mark_no _ 4 _ ?_ (by decide))
    exact h.cv
  · rw [if_neg e] at eV eJ
    rw [eV, eJ]
    exact core_same h ⟨rfl, rfl, rfl, by show ((a.length + 1 + p : Nat) : Int) = (p : Int) + _; omega, fun e => absurd e (by show (28 : Int) ≠ 25; decide)⟩ h.cj (by show a.length + 1 + p + 1 + K + 1 = a.length + 1 + (p + 1 + K + 1); omega) rfl rfl
theorem sgR_25 (c d : Int) : (sgR c d).1 ≠ 25 := by
  unfold sgR
  cases hs : sgF c with
  | none => show (0 : Int) ≠ 25; decide
  | some y =>
    have := sgF_bd hs
    simp only []
    split
    · show y + 1 ≠ 25; omega
    · split
      · show (24 : Int) ≠ 25; decide
      · show y ≠ 25; omega
theorem core_sign (h : Jn a b nx V J) {p : Nat} (h0 : (signF (begF V p)).code = 0) : Core a b nx (signF (begF V p)) (signF (begF J (a.length + 1 + p))) := by
  have eV := signF_eq (begF V p)
  have eJ := signF_eq (begF J (a.length + 1 + p))
  have n1 : nth (begF J (a.length + 1 + p)).src (begF J (a.length + 1 + p)).at_ = nth b p := by show nth J.src (a.length + 1 + p) = _; rw [h.js, jnth]
  have n2 : nth (begF V p).src (begF V p).at_ = nth b p := by show nth V.src p = _; rw [h.vs]
  have n3 : nth (begF J (a.length + 1 + p)).src ((begF J (a.length + 1 + p)).at_ + 1) = nth b (p + 1) := by show nth J.src (a.length + 1 + p + 1) = _; rw [h.js, show a.length + 1 + p + 1 = a.length + 1 + (p + 1) by omega, jnth]
  have n4 : nth (begF V p).src ((begF V p).at_ + 1) = nth b (p + 1) := by show nth V.src _ = _; rw [h.vs]; rfl
  rw [n2, n4] at eV
  rw [n1, n3] at eJ
  have h25 := sgR_25 (nth b p) (nth b (p + 1))
  by_cases e : (sgR (nth b p) (nth b (p + 1))).1 = 0
  · rw [if_pos e] at eV
    rw [eV] at h0
    refine absurd h0 (mark_no _ 1 _ ?_ (by decide))
    exact h.cv
  · rw [if_neg e] at eV eJ
    rw [eV, eJ]
    exact core_same h ⟨rfl, rfl, rfl, by show ((a.length + 1 + p : Nat) : Int) = (p : Int) + _; omega, fun e => absurd e h25⟩ h.cj (by show a.length + 1 + p + (sgR (nth b p) (nth b (p + 1))).2 = a.length + 1 + (p + (sgR (nth b p) (nth b (p + 1))).2); omega) rfl rfl
/-- a symbol of the second source -/
theorem jn_step (h : Jn a b nx V J) (h0 : (getF V).code = 0) (hr : nx + (getF V).nms.length ≤ 700) :
    Alike ((a.length : Int) + 1) (getF V) (getF J) ∧ (getF J).code = 0 ∧ ((getF V).sym ≠ 0 → Jn a b nx (getF V) (getF J)) := by
  obtain ⟨p, p1, p2, pb, pe⟩ := get_read h.cv (by rw [h.vs]; exact h.le) h0
  rw [h.vs] at p2 pb
  have je : getF J = tokF (begF J (a.length + 1 + p)) := by
    unfold getF
    rw [if_neg (by rw [h.cj]; decide), h.js, h.at_, jdrop, pb, if_pos rfl]
    show tokF (begF J ((a ++ 32 :: b).length - (b.drop p).length)) = _
    rw [jlen, List.length_drop, show a.length + 1 + b.length - (b.length - p) = a.length + 1 + p by omega]
  by_cases he : b.length ≤ p
  · have eV : getF V = begF V p := by rw [pe]; exact tok_end (by show V.src.length ≤ p; rw [h.vs]; exact he)
    have eJ : getF J = begF J (a.length + 1 + p) := by rw [je]; exact tok_end (by show J.src.length ≤ a.length + 1 + p; rw [h.js, jlen]; omega)
    rw [eV, eJ]
    exact ⟨⟨rfl, rfl, rfl, by show ((a.length + 1 + p : Nat) : Int) = (p : Int) + _; omega, fun e => absurd e (by show (0 : Int) ≠ 25; decide)⟩, h.cj, fun e => absurd rfl e⟩
  · have hp : p < b.length := by omega
    have nV : nth (begF V p).src (begF V p).at_ = nth b p := by show nth V.src p = _; rw [h.vs]
    have nJ : nth (begF J (a.length + 1 + p)).src (begF J (a.length + 1 + p)).at_ = nth b p := by show nth J.src (a.length + 1 + p) = _; rw [h.js, jnth]
    have lV : (begF V p).at_ < (begF V p).src.length := by show p < V.src.length; rw [h.vs]; exact hp
    have lJ : (begF J (a.length + 1 + p)).at_ < (begF J (a.length + 1 + p)).src.length := by show a.length + 1 + p < J.src.length; rw [h.js, jlen]; omega
    have core : Core a b nx (getF V) (getF J) := by
      cases hl : letB (nth b p) with
      | true =>
        have eV := tokF_name lV (by rw [nV]; exact hl)
        have eJ := tokF_name lJ (by rw [nJ]; exact hl)
        rw [pe, eV] at h0 hr
        rw [pe, je, eV, eJ]
        exact core_name h hp h0 hr
      | false =>
        cases hd : digB (nth b p) with
        | true =>
          have eV := tokF_num lV (by rw [nV]; exact hl) (by rw [nV]; exact hd)
          have eJ := tokF_num lJ (by rw [nJ]; exact hl) (by rw [nJ]; exact hd)
          rw [pe, eV] at h0
          rw [pe, je, eV, eJ]
          exact core_num h h0 (by unfold nuSym; split <;> decide)
        | false =>
          by_cases h34 : nth b p = 34
          · have eV := tokF_text lV (by rw [nV]; exact h34)
            have eJ := tokF_text lJ (by rw [nJ]; exact h34)
            rw [pe, eV] at h0
            rw [pe, je, eV, eJ]
            exact core_text h h0
          · have eV := tokF_sign lV (by rw [nV]; exact hl) (by rw [nV]; exact hd) (by rw [nV]; exact h34)
            have eJ := tokF_sign lJ (by rw [nJ]; exact hl) (by rw [nJ]; exact hd) (by rw [nJ]; exact h34)
            rw [pe, eV] at h0
            rw [pe, je, eV, eJ]
            exact core_sign h h0
    refine ⟨core.al, core.cj, fun hy => ?_⟩
    obtain ⟨q, q1, q2, q3, q4, q5, q6, q7, q8⟩ := get_sym h.cv (by rw [h.vs]; exact h.le) (by rw [h.kv]; decide) hy
    exact ⟨by rw [q7, h.vs], by rw [get_src, h.js], core.at_, h0, core.cj, by rw [get_kw, h.kv], by rw [get_kw, h.kj], by rw [h.vs] at q5; exact q5, h.fv.get, h.fj.get, core.wv, core.wj, core.sub, core.room⟩
/-! ### the first source -/
/-- a symbol of the first source -/
theorem fst_step {U : Sn} (hs : U.src = a) (hc : U.code = 0) (ha : U.at_ ≤ a.length) (hk : 0 ≤ U.kw) (h0 : (getF U).code = 0) (hy : (getF U).sym ≠ 0) : getF { U with src := a ++ 32 :: b } = { getF U with src := a ++ 32 :: b } := by
  obtain ⟨p, p1, p2, pb, pp, hcase⟩ := get_cases hc (by rw [hs]; exact ha) hk h0
  rcases hcase with ⟨e1, e2⟩ | ⟨plt, m, y, va, i, tx, ns, t, e⟩
  · rw [e2] at hy; exact absurd rfl hy
  · rw [hs] at p2 pb plt
    have hG : (a ++ 32 :: b).drop U.at_ = (a.drop U.at_).take (p - U.at_) ++ (a.drop p ++ 32 :: b) := by
      rw [List.drop_append_of_le_length ha, ← List.append_assoc]
      congr 1
      have := List.take_append_drop (p - U.at_) (a.drop U.at_)
      rw [List.drop_drop, show U.at_ + (p - U.at_) = p by omega] at this
      exact this.symm
    have hG2 : a.drop U.at_ = (a.drop U.at_).take (p - U.at_) ++ a.drop p := by
      have := List.take_append_drop (p - U.at_) (a.drop U.at_)
      rw [List.drop_drop, show U.at_ + (p - U.at_) = p by omega] at this
      exact this.symm
    rw [hG2] at pb
    have hX := bl_gap _ _ (a.drop p) (Nat.le_refl _) pb (a.drop p ++ 32 :: b)
    have hd1 := bl_done _ _ _ (Nat.le_refl _) pb
    have hne : a.drop p ≠ [] := drop_ne a p plt
    have hstop : bl (a.drop p ++ 32 :: b) = (true, a.drop p ++ 32 :: b) := by
      rcases hd1 with h | ⟨h1, h2⟩
      · exact absurd h hne
      · cases hq : a.drop p with
        | nil => exact absurd hq hne
        | cons g r =>
          rw [hq] at h1 h2
          refine bl_at (fun e => ?_) h2
          cases r with
          | nil =>
            have := e.2
            simp [hd] at this
          | cons g2 r2 => exact h1 e
    have je : getF { U with src := a ++ 32 :: b } = tokF (begF { U with src := a ++ 32 :: b } p) := by
      unfold getF
      rw [if_neg (by show ¬ U.code ≠ 0; rw [hc]; decide)]
      show (if (bl ((a ++ 32 :: b).drop U.at_)).1 then tokF (begF { U with src := a ++ 32 :: b } ((a ++ 32 :: b).length - (bl ((a ++ 32 :: b).drop U.at_)).2.length)) else _) = _
      rw [hG, hX, hstop, if_pos rfl]
      congr 2
      simp
      omega
    have hlm : p + m ≤ a.length := by have := t.ml; rw [hs] at this; exact this
    have ht := t.el { U with src := a ++ 32 :: b } p hc rfl rfl (by show p + m ≤ (a ++ 32 :: b).length; rw [jlen]; omega) (fun j hj => by
      rw [hs]
      exact nth_left _ _ _ (by omega)) (by
      by_cases e9 : p + m < a.length
      · left; rw [hs]; exact nth_left _ _ _ e9
      · right; right
        show nth (a ++ 32 :: b) (p + m) = 32
        rw [show p + m = a.length by omega, nth_right]; rfl)
    rw [je, ht, e]
    rfl
theorem getF_0 {s : Sn} (hc : s.code = 0) : getF s = if (bl (s.src.drop s.at_)).1 then tokF (begF s (s.src.length - (bl (s.src.drop s.at_)).2.length)) else markF { s with at_ := s.src.length } 5 ((s.src.length - (bl (s.src.drop s.at_)).2.length : Nat) : Int) := by
  unfold getF
  rw [if_neg (by rw [hc]; decide)]
/-- behind the first source's end -/
theorem fst_end {U : Sn} (hs : U.src = a) (hc : U.code = 0) (ha : U.at_ ≤ a.length) (hk : 0 ≤ U.kw) (h0 : (getF U).code = 0) (hy : (getF U).sym = 0) : getF { U with src := a ++ 32 :: b } = getF { U with src := a ++ 32 :: b, at_ := a.length + 1 } := by
  obtain ⟨p, p1, p2, pb, pp, hcase⟩ := get_cases hc (by rw [hs]; exact ha) hk h0
  rcases hcase with ⟨e1, e2⟩ | ⟨plt, m, y, va, i, tx, ns, t, e⟩
  · rw [hs] at p2 pb e1
    have hG : (a ++ 32 :: b).drop U.at_ = a.drop U.at_ ++ 32 :: b := List.drop_append_of_le_length ha
    have hn : a.drop p = [] := List.drop_of_length_le (by omega)
    rw [hn] at pb
    have pb2 : bl (a.drop U.at_ ++ []) = (true, []) := by rw [List.append_nil]; exact pb
    have hX := bl_gap _ _ [] (Nat.le_refl _) pb2 (32 :: b)
    have h32 : bl (32 :: b) = bl b := bl_sp (fun e => absurd e.1 (by decide)) (by decide)
    have hJ : (a ++ 32 :: b).drop (a.length + 1) = b := by have := jdrop (a := a) (b := b) 0; rwa [Nat.add_zero, List.drop_zero] at this
    rw [getF_0 (s := { U with src := a ++ 32 :: b }) hc, getF_0 (s := { U with src := a ++ 32 :: b, at_ := a.length + 1 }) hc]
    show (if (bl ((a ++ 32 :: b).drop U.at_)).1 then tokF (begF { U with src := a ++ 32 :: b } ((a ++ 32 :: b).length - (bl ((a ++ 32 :: b).drop U.at_)).2.length)) else markF { U with src := a ++ 32 :: b, at_ := (a ++ 32 :: b).length } 5 (((a ++ 32 :: b).length - (bl ((a ++ 32 :: b).drop U.at_)).2.length : Nat) : Int)) = (if (bl ((a ++ 32 :: b).drop (a.length + 1))).1 then tokF (begF { U with src := a ++ 32 :: b, at_ := a.length + 1 } ((a ++ 32 :: b).length - (bl ((a ++ 32 :: b).drop (a.length + 1))).2.length)) else markF { U with src := a ++ 32 :: b, at_ := (a ++ 32 :: b).length } 5 (((a ++ 32 :: b).length - (bl ((a ++ 32 :: b).drop (a.length + 1))).2.length : Nat) : Int))
    rw [hG, hX, h32, hJ]
    rfl
  · exfalso
    have : (getF U).sym = y := by rw [e]
    exact t.y0 (this.symm.trans hy)
/-- the end is where it stays -/
theorem jn_end (h : Jn a b nx V J) (h0 : (getF V).code = 0) (hy : (getF V).sym = 0) : getF (getF J) = getF J := by
  obtain ⟨p, p1, p2, pb, pp, hcase⟩ := get_cases h.cv (by rw [h.vs]; exact h.le) (by rw [h.kv]; decide) h0
  rcases hcase with ⟨e1, e2⟩ | ⟨plt, m, y, va, i, tx, ns, t, e⟩
  · rw [h.vs] at p2 pb e1
    have je : getF J = begF J (a.length + 1 + p) := by
      rw [getF_0 h.cj, h.js, h.at_, jdrop, pb, if_pos rfl]
      show tokF (begF J ((a ++ 32 :: b).length - (b.drop p).length)) = _
      rw [jlen, List.length_drop, show a.length + 1 + b.length - (b.length - p) = a.length + 1 + p by omega]
      exact tok_end (by show J.src.length ≤ a.length + 1 + p; rw [h.js, jlen]; omega)
    have e4 : begF (begF J (a.length + 1 + p)) (a.length + 1 + p) = begF J (a.length + 1 + p) := rfl
    have hd : (a ++ 32 :: b).drop (a.length + 1 + p) = [] := List.drop_of_length_le (by rw [jlen]; omega)
    rw [je, getF_0 (s := begF J (a.length + 1 + p)) h.cj]
    show (if (bl (J.src.drop (a.length + 1 + p))).1 then tokF (begF (begF J (a.length + 1 + p)) (J.src.length - (bl (J.src.drop (a.length + 1 + p))).2.length)) else _) = _
    rw [h.js, hd, bl_nil, if_pos rfl]
    show tokF (begF (begF J (a.length + 1 + p)) ((a ++ 32 :: b).length - 0)) = _
    rw [Nat.sub_zero, jlen, show a.length + 1 + b.length = a.length + 1 + p by omega, e4]
    exact tok_end (by show J.src.length ≤ a.length + 1 + p; rw [h.js, jlen]; omega)
  · exfalso
    have : (getF V).sym = y := by rw [e]
    exact t.y0 (this.symm.trans hy)
end
theorem jintern_keep {s : Sn} {l x : List UInt8} {j : Nat} (h : s.nms[j]? = some x) : (internF s l).nms[j]? = some x := by
  unfold internF
  split
  · exact h
  · split
    · rw [markF_nms]; exact h
    · show (s.nms ++ [l])[j]? = _
      rw [List.getElem?_append_left (List.getElem?_eq_some_iff.1 h).1]; exact h
theorem jget_keep {s : Sn} {x : List UInt8} {j : Nat} (h : s.nms[j]? = some x) : (getF s).nms[j]? = some x := by
  unfold getF
  split
  · exact h
  · split
    · unfold tokF
      have hb : (begF s (s.src.length - (bl (s.src.drop s.at_)).2.length)).nms[j]? = some x := h
      generalize begF s (s.src.length - (bl (s.src.drop s.at_)).2.length) = b at hb ⊢
      split
      · exact hb
      · split
        · unfold nameF
          simp only []
          split
          · rw [markF_nms]; exact hb
          · have hi : (internF { b with at_ := b.at_ + tw ldB (b.src.drop b.at_) } (chars ((b.src.drop b.at_).take (tw ldB (b.src.drop b.at_))))).nms[j]? = some x := jintern_keep hb
            split
            · exact hi
            · split
              · exact hi
              · exact hi
        · split
          · unfold numF
            simp only []
            split
            · rw [markF_nms]; exact hb
            · exact hb
          · split
            · unfold textF
              simp only []
              split
              · rw [markF_nms]; exact hb
              · exact hb
            · rw [signF_eq]
              split
              · rw [markF_nms]; exact hb
              · exact hb
    · rw [markF_nms]; exact h
theorem jlen_mono (s : Sn) : s.nms.length ≤ (getF s).nms.length := by
  by_cases h : s.nms.length ≤ (getF s).nms.length
  · exact h
  · exfalso
    have h1 : (getF s).nms.length < s.nms.length := by omega
    have h2 := jget_keep (List.getElem?_eq_getElem h1)
    have := (List.getElem?_eq_some_iff.1 h2).1
    omega
theorem jlen_stp (u : Sn) (i : Nat) : ∀ k, (stp u i).nms.length ≤ (stp u (i + k)).nms.length
  | 0 => Nat.le_refl _
  | k + 1 => Nat.le_trans (jlen_stp u i k) (jlen_mono _)
theorem jtake (u : Sn) (h : u.nms = wsL.take 57) : ∀ i, (stp u i).nms.take 57 = wsL.take 57
  | 0 => by rw [show stp u 0 = u from rfl, h]; decide
  | i + 1 => by
    have ih := jtake u h i
    apply List.ext_getElem?
    intro j
    by_cases hj : j < 57
    · rw [← ih, List.getElem?_take, List.getElem?_take, if_pos hj, if_pos hj]
      have h57 : (wsL.take 57).length = 57 := by decide
      have hl : j < (stp u i).nms.length := by
        have := congrArg List.length ih
        rw [List.length_take, h57] at this
        omega
      rw [List.getElem?_eq_getElem hl]
      exact jget_keep (List.getElem?_eq_getElem hl)
    · rw [List.getElem?_take, if_neg hj, List.getElem?_take, if_neg hj]
/-- both sources' scanners from their beginnings on -/
structure Joined (a b : List Int) (mx my : Nat) (U V J : Sn) : Prop where
  fst : ∀ k, k ≤ mx → stp J k = { stp U k with src := a ++ 32 :: b }
  snd : ∀ i, i ≤ my → Alike ((a.length : Int) + 1) (stp V (i + 1)) (stp J (mx + 1 + i)) ∧ (stp J (mx + 1 + i)).code = 0
  fin : (stp J (mx + 1 + my + 1)).code = 0
theorem joined_any {a b : List Int} {mx my : Nat} {U V J : Sn} (hU : U = { wsF 57 29 with src := a }) (hV : V = { wsF 57 29 with src := b }) (hJ : J = { wsF 57 29 with src := a ++ 32 :: b })
    (sU : Scd U mx) (sV : Scd V my) (cU : (stp U (mx + 1)).code = 0) (cV : (stp V (my + 1)).code = 0) (hn : (stp U (mx + 1)).nms.length + (stp V (my + 1)).nms.length ≤ 700) : Joined a b mx my U V J := by
  have aU : At0 U U 0 := by subst hU; exact ⟨rfl, Nat.zero_le _, (by decide : (0 : Int) ≤ 29), rfl, Nat.le_refl _⟩
  have aV : At0 V V 0 := by subst hV; exact ⟨rfl, Nat.zero_le _, (by decide : (0 : Int) ≤ 29), rfl, Nat.le_refl _⟩
  have fU : Fit U := by rw [hU]; exact fit_start a
  have fV : Fit V := by rw [hV]; exact fit_start b
  have srcU : U.src = a := by rw [hU]
  have srcV : V.src = b := by rw [hV]
  have nmU : U.nms = wsL.take 57 := by rw [hU]; rfl
  have nmV : V.nms = wsL.take 57 := by rw [hV]; rfl
  have fst : ∀ k, k ≤ mx → stp J k = { stp U k with src := a ++ 32 :: b } := by
    intro k
    induction k with
    | zero => intro _; rw [hJ, hU]; rfl
    | succ k ih =>
      intro hk
      have at0 := at0_all aU k (fun j hj => sU.j j (by omega))
      have at1 := at0_all aU (k + 1) (fun j hj => sU.j j (by omega))
      show getF (stp J k) = _
      rw [ih (by omega)]
      exact fst_step (by rw [at0.e, srcU]) at0.c (by have := at0.a; rw [srcU] at this; exact this) at0.k at1.c (sU.j k (by omega))
  have atm := at0_all aU mx sU.j
  have hE := fst_end (b := b) (U := stp U mx) (by rw [atm.e, srcU]) atm.c (by have := atm.a; rw [srcU] at this; exact this) atm.k cU sU.f
  have hJ1 : stp J (mx + 1) = getF { stp U mx with src := a ++ 32 :: b, at_ := a.length + 1 } := by
    show getF (stp J mx) = _
    rw [fst mx (Nat.le_refl _)]
    exact hE
  obtain ⟨nx, hnx⟩ : ∃ nx, nx = (stp U (mx + 1)).nms.length := ⟨_, rfl⟩
  rw [← hnx] at hn
  have fm := fU.stp mx
  have w57 : (wsL.take 57).length = 57 := by decide
  have jn0 : Jn a b nx (stp V 0) { stp U mx with src := a ++ 32 :: b, at_ := a.length + 1 } := by
    have ewj : (stp U mx).nms.take 57 = wsL.take 57 := jtake U nmU mx
    exact ⟨srcV, rfl, by show a.length + 1 = a.length + 1 + V.at_; rw [hV]; rfl, by rw [hV]; rfl, atm.c, by rw [hV]; rfl, fm.kw, by rw [hV]; exact Nat.zero_le _, fV, ⟨fm.nd, fm.n1, fm.ep, fm.kw, fm.n57⟩, by show V.nms.take 57 = _; rw [nmV]; decide, ewj, fun l hl => by
      have hl2 : l ∈ V.nms := hl
      rw [nmV, ← ewj] at hl2
      exact List.mem_of_mem_take hl2, by
      show (stp U mx).nms.length + 57 ≤ nx + V.nms.length
      have := jlen_stp U mx 1
      rw [nmV, w57, hnx]
      omega⟩
  have key : ∀ i, i ≤ my → ∃ W, Jn a b nx (stp V i) W ∧ stp J (mx + 1 + i) = getF W := by
    intro i
    induction i with
    | zero => intro _; exact ⟨_, jn0, hJ1⟩
    | succ i ih =>
      intro hi
      obtain ⟨W, hW, hg⟩ := ih (by omega)
      have at1 := at0_all aV (i + 1) (fun j hj => sV.j j (by omega))
      have hr : nx + (getF (stp V i)).nms.length ≤ 700 := by
        have := jlen_stp V (i + 1) (my - i)
        rw [show i + 1 + (my - i) = my + 1 by omega] at this
        have e : (getF (stp V i)).nms.length = (stp V (i + 1)).nms.length := rfl
        omega
      have st := jn_step hW at1.c hr
      refine ⟨getF W, st.2.2 (sV.j i (by omega)), ?_⟩
      show getF (stp J (mx + 1 + i)) = _
      rw [hg]
  have code : ∀ i, i ≤ my → (stp V (i + 1)).code = 0 := fun i hi => by
    by_cases e : i < my
    · exact (at0_all aV (i + 1) (fun j hj => sV.j j (by omega))).c
    · obtain rfl : i = my := by omega
      exact cV
  have hrr : ∀ i, i ≤ my → nx + (getF (stp V i)).nms.length ≤ 700 := fun i hi => by
    have := jlen_stp V (i + 1) (my - i)
    rw [show i + 1 + (my - i) = my + 1 by omega] at this
    have e : (getF (stp V i)).nms.length = (stp V (i + 1)).nms.length := rfl
    omega
  refine ⟨fst, fun i hi => ?_, ?_⟩
  · obtain ⟨W, hW, hg⟩ := key i hi
    have st := jn_step hW (code i hi) (hrr i hi)
    rw [hg]
    exact ⟨st.1, st.2.1⟩
  · obtain ⟨W, hW, hg⟩ := key my (Nat.le_refl _)
    have st := jn_step hW cV (hrr my (Nat.le_refl _))
    show (getF (stp J (mx + 1 + my))).code = 0
    rw [hg, jn_end hW cV sV.f]
    exact st.2.1
end Go.Proofs.YthpdgghjaglhnaaGreatDoor

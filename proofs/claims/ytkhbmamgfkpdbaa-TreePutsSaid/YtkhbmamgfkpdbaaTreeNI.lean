/-
  A part of a tree that may be, another of its sort in its place: what is told of the whole tree stays.
-/
import Derived.Test.YtkhbmamgfkpdbaaTreeNG
namespace Go.Proofs.Ytkhbmamgfkpdbaa
open Go.ChangeShapes Go.WideShapes Go.ChangeAt Go.RowKit
set_option linter.unusedVariables false
/-- wherever the one may stand, the other may, too -/
structure Sm.Le (x y : Sm) : Prop where
  idt : x.idt = true → y.idt = true
  non : x.non = true → y.non = true
  des : x.des = true → y.des = true
  lev : x.lev ≠ -1 → y.lev = x.lev
  qual : x.qual = true → y.qual = true
  opn : x.opn = true → y.opn = true
  typ : x.typ = true → y.typ = true
  fld : x.fld = true → y.fld = true
  prm : x.prm = true → y.prm = true
  prms : x.prms = true → y.prms = true
  stm : x.stm = true → y.stm = true
  stms : x.stms = true → y.stms = true
  imp : x.imp = true → y.imp = true
  df : ∀ i, x.df i = true → y.df i = true
  dc : ∀ i, x.dc i = true → y.dc i = true ∧ y.kind = x.kind
  dcs : ∀ i, x.dcs i = true → y.dcs i = true
theorem Sm.Le.refl (x : Sm) : x.Le x := ⟨id, id, id, fun _ => rfl, id, id, id, id, id, id, id, id, id, fun _ => id, fun _ h => ⟨h, rfl⟩, fun _ => id⟩
theorem lev_of_exp {x : Sm} (h : x.exp = true) : x.lev ≠ -1 := by unfold Sm.exp at h; simpa using h
theorem Sm.Le.exp {x y : Sm} (h : x.Le y) (g : x.exp = true) : y.exp = true := exp_of_lev (by rw [h.lev (lev_of_exp g)]; exact lev_of_exp g)
theorem Sm.Le.bel {x y : Sm} (h : x.Le y) {n : Int} (g : x.bel n = true) : y.bel n = true := by
  have hx : x.lev ≠ -1 := by unfold Sm.bel at g; simp at g; exact g.1
  unfold Sm.bel at g ⊢
  rw [h.lev hx]
  exact g
theorem upto_of {n : Nat} {f : Nat → Bool} (h : ∀ j, j < n → f j = true) : upto n f = true := by
  unfold upto
  rw [List.all_eq_true]
  exact fun j hj => h j (by simpa using hj)
section
variable {k : Int} {s : ByteArray} {v : Int} {m : Bool} {n : Nat} {K L : Nat → Sm}
theorem des_mono (hk : ∀ j, j < n → (K j).Le (L j)) (h : desF k s v m n K = true) : desF k s v m n L = true := by
  unfold desF at h ⊢
  repeat' split at h
  · rw [if_pos (by assumption)]; exact h
  · rename_i h1 h2
    rw [if_neg h1, if_pos h2]
    simp only [Bool.and_eq_true] at h ⊢
    have hn := sh_n h.1 (by omega)
    exact ⟨h.1, h.2.1, h.2.2.1, (hk 0 (by omega)).des h.2.2.2⟩
  · rename_i h1 h2 h3
    rw [if_neg h1, if_neg h2, if_pos h3]
    simp only [Bool.and_eq_true] at h ⊢
    have hn := sh_n (ba_sh h.1) (by omega)
    exact ⟨h.1, (hk 0 (by omega)).des h.2.1, (hk 1 (by omega)).exp h.2.2⟩
  · rename_i h1 h2 h3 h4
    rw [if_neg h1, if_neg h2, if_neg h3, if_pos h4]
    simp only [Bool.and_eq_true] at h ⊢
    have hn := sh_n (ba_sh h.1) (by omega)
    exact ⟨h.1, (hk 0 (by omega)).des h.2⟩
  · cases h
theorem cal_mono (hk : ∀ j, j < n → (K j).Le (L j)) (h : calF k s v m n K = true) : calF k s v m n L = true := by
  unfold calF at h ⊢
  simp only [Bool.and_eq_true, decide_eq_true_eq] at h ⊢
  exact ⟨h.1, h.2.1, (hk 0 h.2.1).des h.2.2.1, upto_of fun j hj => (hk (j + 1) (by omega)).exp (upto_at h.2.2.2 hj)⟩
theorem fac_mono (hk : ∀ j, j < n → (K j).Le (L j)) (h : facF k s v m n K = true) : facF k s v m n L = true := by
  have hd := des_mono (k := k) (s := s) (v := v) (m := m) hk
  have hc := cal_mono (k := 21) (s := s) (v := v) (m := m) hk
  unfold facF at h ⊢
  by_cases h1 : k = 11 ∨ k = 36 ∨ k = 37 ∨ k = 38
  · rw [if_pos h1] at h ⊢; exact hd h
  rw [if_neg h1] at h ⊢
  by_cases h2 : k = 21
  · rw [if_pos h2] at h ⊢; exact hc h
  rw [if_neg h2] at h ⊢
  by_cases c25 : k = 25
  · rw [if_pos c25] at h ⊢; exact h
  rw [if_neg c25] at h ⊢
  by_cases c26 : k = 26
  · rw [if_pos c26] at h ⊢; exact h
  rw [if_neg c26] at h ⊢
  by_cases c27 : k = 27
  · rw [if_pos c27] at h ⊢; exact h
  rw [if_neg c27] at h ⊢
  by_cases c28 : k = 28
  · rw [if_pos c28] at h ⊢; exact h
  rw [if_neg c28] at h ⊢
  by_cases c29 : k = 29
  · rw [if_pos c29] at h ⊢; exact h
  rw [if_neg c29] at h ⊢
  by_cases c30 : k = 30
  · rw [if_pos c30] at h ⊢; exact h
  rw [if_neg c30] at h ⊢
  by_cases c31 : k = 31
  · rw [if_pos c31] at h ⊢; simp only [Bool.and_eq_true] at h ⊢; exact ⟨h.1, upto_of fun j hj => (hk j hj).exp (upto_at h.2 hj)⟩
  rw [if_neg c31] at h ⊢
  by_cases c32 : k = 32
  · rw [if_pos c32] at h ⊢; simp only [Bool.and_eq_true] at h ⊢; have hn := sh_n (ba_sh h.1) (by omega); exact ⟨h.1, (hk 0 (by omega)).exp h.2⟩
  rw [if_neg c32] at h ⊢
  by_cases c33 : k = 33
  · rw [if_pos c33] at h ⊢; simp only [Bool.and_eq_true] at h ⊢; have hn := sh_n (ba_sh h.1) (by omega); exact ⟨h.1, (hk 0 (by omega)).bel h.2⟩
  rw [if_neg c33] at h
  cases h
theorem op_same {l0 l1 q0 q1 : Int} (h : opF s l0 l1 ≠ -1) (h0 : l0 ≠ -1 → q0 = l0) (h1 : l1 ≠ -1 → q1 = l1) : opF s q0 q1 = opF s l0 l1 := by
  obtain ⟨g0, g1⟩ := op_kids h
  rw [h0 g0, h1 g1]
theorem lev_mono (hk : ∀ j, j < n → (K j).Le (L j)) (h : levI k s v m n K ≠ -1) : levI k s v m n L = levI k s v m n K := by
  have hf := fac_mono (k := k) (s := s) (v := v) (m := m) hk
  unfold levI at h ⊢
  by_cases h1 : k = 35
  · rw [if_pos h1] at h
    rw [if_pos h1, if_pos h1]
    by_cases h2 : (shB 35 v n 35 2 && !m) = true
    · rw [if_pos h2] at h
      rw [if_pos h2, if_pos h2]
      simp only [Bool.and_eq_true] at h2
      have hn := sh_n h2.1 (by omega)
      exact op_same h (hk 0 (by omega)).lev (hk 1 (by omega)).lev
    · rw [if_neg h2] at h
      exact absurd rfl h
  · rw [if_neg h1] at h
    rw [if_neg h1, if_neg h1]
    by_cases h2 : k = 34
    · rw [if_pos h2] at h
      rw [if_pos h2, if_pos h2]
      by_cases h3 : (shB 34 v n 34 1 && ((!m && (decide (s.toList = [43]) || decide (s.toList = [45]))) && (K 0).bel 1)) = true
      · rw [if_pos h3, if_pos]
        simp only [Bool.and_eq_true] at h3 ⊢
        have hn := sh_n h3.1 (by omega)
        exact ⟨h3.1, h3.2.1, (hk 0 (by omega)).bel h3.2.2⟩
      · rw [if_neg h3] at h
        exact absurd rfl h
    · rw [if_neg h2] at h
      rw [if_neg h2, if_neg h2]
      by_cases h3 : facF k s v m n K = true
      · rw [if_pos h3, if_pos (hf h3)]
      · rw [if_neg h3] at h
        exact absurd rfl h
theorem qua_mono (hk : ∀ j, j < n → (K j).Le (L j)) (h : quaF k s v m n K = true) : quaF k s v m n L = true := by
  unfold quaF at h ⊢
  simp only [Bool.or_eq_true, Bool.and_eq_true] at h ⊢
  rcases h with h | h
  · exact .inl h
  · have hn := sh_n h.1 (by omega)
    exact .inr ⟨h.1, h.2.1, h.2.2.1, (hk 0 (by omega)).idt h.2.2.2⟩
theorem typ_mono (hk : ∀ j, j < n → (K j).Le (L j)) (h : typF k s v m n K = true) : typF k s v m n L = true := by
  have hq := qua_mono (k := k) (s := s) (v := v) (m := m) hk
  unfold typF at h ⊢
  by_cases h1 : k = 11 ∨ k = 12
  · rw [if_pos h1] at h ⊢; exact hq h
  rw [if_neg h1] at h ⊢
  by_cases h2 : k = 14
  · rw [if_pos h2] at h ⊢
    simp only [Bool.and_eq_true] at h ⊢
    have hn := sh_n (ba_sh h.1) (by omega)
    exact ⟨h.1, (hk 0 (by omega)).exp h.2.1, (hk 1 (by omega)).typ h.2.2⟩
  rw [if_neg h2] at h ⊢
  by_cases h3 : k = 15
  · rw [if_pos h3] at h ⊢
    simp only [Bool.and_eq_true] at h ⊢
    exact ⟨h.1, upto_of fun j hj => (hk j hj).fld (upto_at h.2 hj)⟩
  rw [if_neg h3] at h ⊢
  by_cases h4 : k = 17
  · rw [if_pos h4] at h ⊢
    simp only [Bool.and_eq_true] at h ⊢
    have hn := sh_n (ba_sh h.1) (by omega)
    exact ⟨h.1, (hk 0 (by omega)).typ h.2⟩
  rw [if_neg h4] at h
  cases h
theorem fld_mono (hk : ∀ j, j < n → (K j).Le (L j)) (h : fldF k s v m n K = true) : fldF k s v m n L = true := by
  unfold fldF at h ⊢
  simp only [Bool.and_eq_true, decide_eq_true_eq] at h ⊢
  exact ⟨h.1, h.2.1, upto_of fun j hj => (hk j (by omega)).idt (upto_at h.2.2.1 hj), (hk _ (by omega)).typ h.2.2.2⟩
theorem prm_mono (hk : ∀ j, j < n → (K j).Le (L j)) (h : prmF k s v n K = true) : prmF k s v n L = true := by
  unfold prmF at h ⊢
  simp only [Bool.and_eq_true, decide_eq_true_eq, Bool.or_eq_true] at h ⊢
  exact ⟨h.1, h.2.1, h.2.2.1, upto_of fun j hj => (hk j (by omega)).idt (upto_at h.2.2.2.1 hj), h.2.2.2.2.imp (hk _ (by omega)).qual (hk _ (by omega)).opn⟩
theorem stm_mono (hk : ∀ j, j < n → (K j).Le (L j)) (h : stmF k s v m n K = true) : stmF k s v m n L = true := by
  have hc := cal_mono (k := 21) (s := s) (v := v) (m := m) hk
  unfold stmF at h ⊢
  by_cases h1 : k = 20
  · rw [if_pos h1] at h ⊢
    simp only [Bool.and_eq_true] at h ⊢
    have hn := sh_n (ba_sh h.1) (by omega)
    exact ⟨h.1, (hk 0 (by omega)).des h.2.1, (hk 1 (by omega)).exp h.2.2⟩
  rw [if_neg h1] at h ⊢
  by_cases h2 : k = 21
  · rw [if_pos h2] at h ⊢; exact hc h
  rw [if_neg h2] at h ⊢
  by_cases h3 : k = 23
  · rw [if_pos h3] at h ⊢
    simp only [Bool.and_eq_true] at h ⊢
    have hn := sh_n (ba_sh h.1) (by omega)
    exact ⟨h.1, (hk 0 (by omega)).exp h.2.1, (hk 1 (by omega)).stms h.2.2⟩
  rw [if_neg h3] at h ⊢
  by_cases h4 : k = 24
  · rw [if_pos h4] at h ⊢
    simp only [Bool.and_eq_true] at h ⊢
    have hn := sh_n (ba_sh h.1) (by omega)
    exact ⟨h.1, (hk 0 (by omega)).stms h.2.1, (hk 1 (by omega)).exp h.2.2⟩
  rw [if_neg h4] at h ⊢
  by_cases h5 : k = 22
  · rw [if_pos h5] at h ⊢
    unfold ifF at h ⊢
    simp only [Bool.and_eq_true] at h ⊢
    refine ⟨h.1, h.2.1, upto_of fun j hj => ?_⟩
    have := upto_at h.2.2 hj
    split at this
    · rw [if_pos (by assumption)]; exact (hk j hj).stms this
    · rw [if_neg (by assumption)]; exact (hk j hj).exp this
  rw [if_neg h5] at h
  cases h
theorem dcl_mono {i : Bool} (hk : ∀ j, j < n → (K j).Le (L j)) (h : dclF k s v m n K i = true) : dclF k s v m n L i = true := by
  unfold dclF at h ⊢
  by_cases h1 : k = 4
  · rw [if_pos h1] at h ⊢
    simp only [Bool.and_eq_true] at h ⊢
    have h3 := h.1
    unfold naB at h3
    simp only [Bool.and_eq_true] at h3
    have hn := sh_n h3.1 (by omega)
    exact ⟨h.1, (hk 0 (by omega)).exp h.2⟩
  rw [if_neg h1] at h ⊢
  by_cases h2 : k = 5
  · rw [if_pos h2] at h ⊢
    simp only [Bool.and_eq_true] at h ⊢
    have h3 := h.1
    unfold naB at h3
    simp only [Bool.and_eq_true] at h3
    have hn := sh_n h3.1 (by omega)
    exact ⟨h.1, (hk 0 (by omega)).typ h.2⟩
  rw [if_neg h2] at h ⊢
  by_cases h3 : k = 6
  · rw [if_pos h3] at h ⊢
    simp only [Bool.and_eq_true, decide_eq_true_eq] at h ⊢
    exact ⟨h.1, h.2.1, (hk _ (by omega)).typ h.2.2.1, upto_of fun j hj => (hk j (by omega)).df i (upto_at h.2.2.2 hj)⟩
  rw [if_neg h3] at h ⊢
  by_cases h4 : k = 7
  · rw [if_pos h4] at h ⊢
    unfold proF at h ⊢
    simp only [Bool.and_eq_true, Bool.or_eq_true] at h ⊢
    have h5 := h.1
    unfold naB at h5
    simp only [Bool.and_eq_true] at h5
    have hn := sh_n h5.1 (by omega)
    exact ⟨h.1, (hk 0 (by omega)).prms h.2.1, h.2.2.1.imp (hk 1 (by omega)).non (hk 1 (by omega)).qual, (hk 2 (by omega)).dcs true h.2.2.2.1, (hk 3 (by omega)).stms h.2.2.2.2.1, h.2.2.2.2.2.imp (hk 4 (by omega)).non (hk 4 (by omega)).exp⟩
  rw [if_neg h4] at h
  cases h
theorem dcs_mono {i : Bool} (hk : ∀ j, j < n → (K j).Le (L j)) (h : dcsF k s v m n K i = true) : dcsF k s v m n L i = true := by
  unfold dcsF at h ⊢
  simp only [Bool.and_eq_true] at h ⊢
  refine ⟨h.1, upto_of fun j hj => ?_⟩
  have hj1 := upto_at h.2 hj
  simp only [Bool.and_eq_true, decide_eq_true_eq] at hj1 ⊢
  obtain ⟨d1, d2⟩ := (hk j hj).dc i hj1.2
  refine ⟨?_, d1⟩
  rw [d2]
  have e : kdA L j = kdA K j := by
    unfold kdA
    split
    · rfl
    · have h0 := upto_at h.2 (show j - 1 < n by omega)
      simp only [Bool.and_eq_true] at h0
      exact ((hk (j - 1) (by omega)).dc i h0.2).2
  rw [e]
  exact hj1.1
theorem step_mono (hk : ∀ j, j < n → (K j).Le (L j)) : (step k s v m n K).Le (step k s v m n L) where
  idt := id
  non := id
  des := des_mono hk
  lev := lev_mono hk
  qual := qua_mono hk
  opn := fun h => by
    have h : (baB k s v m n 13 1 && (K 0).qual) = true := h
    show (baB k s v m n 13 1 && (L 0).qual) = true
    simp only [Bool.and_eq_true] at h ⊢
    have hn := sh_n (ba_sh h.1) (by omega)
    exact ⟨h.1, (hk 0 (by omega)).qual h.2⟩
  typ := typ_mono hk
  fld := fld_mono hk
  prm := prm_mono hk
  prms := fun h => by
    have h : (baB k s v m n 8 (-1) && upto n fun j => (K j).prm) = true := h
    show (baB k s v m n 8 (-1) && upto n fun j => (L j).prm) = true
    simp only [Bool.and_eq_true] at h ⊢
    exact ⟨h.1, upto_of fun j hj => (hk j hj).prm (upto_at h.2 hj)⟩
  stm := stm_mono hk
  stms := fun h => by
    have h : smsF k s v m n K = true := h
    show smsF k s v m n L = true
    unfold smsF at h ⊢
    simp only [Bool.and_eq_true] at h ⊢
    exact ⟨h.1, upto_of fun j hj => (hk j hj).stm (upto_at h.2 hj)⟩
  imp := fun h => by
    have h : impF k s v m n K = true := h
    show impF k s v m n L = true
    unfold impF at h ⊢
    simp only [Bool.and_eq_true] at h ⊢
    exact ⟨h.1, upto_of fun j hj => (hk j hj).idt (upto_at h.2 hj)⟩
  df := fun _ => id
  dc := fun i h => ⟨dcl_mono hk h, rfl⟩
  dcs := fun i h => dcs_mono hk h
theorem may_mono (hk : ∀ j, j < n → (K j).Le (L j)) (h : mayF k s v m n K = true) : mayF k s v m n L = true := by
  unfold mayF at h ⊢
  simp only [Bool.and_eq_true] at h ⊢
  have hn := sh_n h.1 (by omega)
  exact ⟨h.1, h.2.1, h.2.2.1, (hk 0 (by omega)).imp h.2.2.2.1, (hk 1 (by omega)).dcs false h.2.2.2.2.1, (hk 2 (by omega)).stms h.2.2.2.2.2⟩
/-- a factor that is no name stands wherever such a one stood -/
theorem le_factor {y : Sm} (hk : 25 ≤ k ∧ k ≤ 33) (hy : y.lev = 0) : (step k s v m n K).Le y where
  idt := fun h => by have := (idt_kids (K := K) h).2; omega
  non := fun h => by have := sh_k (ba_sh (show baB k s v m n 18 0 = true from h)); omega
  des := fun h => by have := (des_kids (show desF k s v m n K = true from h)).2; omega
  lev := fun h => by
    have h : levI k s v m n K ≠ -1 := h
    show y.lev = levI k s v m n K
    rw [hy]
    unfold levI at h ⊢
    rw [if_neg (by omega), if_neg (by omega)] at h ⊢
    split
    · rfl
    · rename_i h3
      rw [if_neg h3] at h
      exact absurd rfl h
  qual := fun h => by have := (qua_kids (show quaF k s v m n K = true from h)).2; omega
  opn := fun h => by
    have h : (baB k s v m n 13 1 && (K 0).qual) = true := h
    simp only [Bool.and_eq_true] at h
    have := sh_k (ba_sh h.1); omega
  typ := fun h => by have := (typ_kids (show typF k s v m n K = true from h)).2; omega
  fld := fun h => by have := (fld_kids (show fldF k s v m n K = true from h)).2; omega
  prm := fun h => by have := (prm_kids (show prmF k s v n K = true from h)).2; omega
  prms := fun h => by
    have h : (baB k s v m n 8 (-1) && upto n fun j => (K j).prm) = true := h
    simp only [Bool.and_eq_true] at h
    have := sh_k (ba_sh h.1); omega
  stm := fun h => by have := (stm_kids (show stmF k s v m n K = true from h)).2; omega
  stms := fun h => by
    have h : smsF k s v m n K = true := h
    unfold smsF at h
    simp only [Bool.and_eq_true] at h
    have := sh_k (ba_sh h.1); omega
  imp := fun h => by
    have h : impF k s v m n K = true := h
    unfold impF at h
    simp only [Bool.and_eq_true] at h
    have := sh_k (ba_sh h.1); omega
  df := fun i h => by
    have h : ((k == 10) && naB k s v m n 0 i) = true := h
    simp only [Bool.and_eq_true, beq_iff_eq] at h
    omega
  dc := fun i h => by have := (dcl_kids (show dclF k s v m n K i = true from h)).2; omega
  dcs := fun i h => by
    have h : dcsF k s v m n K i = true := h
    unfold dcsF at h
    simp only [Bool.and_eq_true] at h
    have := sh_k (ba_sh h.1); omega
/-- statements stand wherever statements stood -/
theorem le_stmts {y : Sm} (hk : k = 19) (hy : y.stms = true) : (step k s v m n K).Le y where
  idt := fun h => by have := (idt_kids (K := K) h).2; omega
  non := fun h => by have := sh_k (ba_sh (show baB k s v m n 18 0 = true from h)); omega
  des := fun h => by have := (des_kids (show desF k s v m n K = true from h)).2; omega
  lev := fun h => by have := (lev_kids (show levI k s v m n K ≠ -1 from h)).2; omega
  qual := fun h => by have := (qua_kids (show quaF k s v m n K = true from h)).2; omega
  opn := fun h => by
    have h : (baB k s v m n 13 1 && (K 0).qual) = true := h
    simp only [Bool.and_eq_true] at h
    have := sh_k (ba_sh h.1); omega
  typ := fun h => by have := (typ_kids (show typF k s v m n K = true from h)).2; omega
  fld := fun h => by have := (fld_kids (show fldF k s v m n K = true from h)).2; omega
  prm := fun h => by have := (prm_kids (show prmF k s v n K = true from h)).2; omega
  prms := fun h => by
    have h : (baB k s v m n 8 (-1) && upto n fun j => (K j).prm) = true := h
    simp only [Bool.and_eq_true] at h
    have := sh_k (ba_sh h.1); omega
  stm := fun h => by have := (stm_kids (show stmF k s v m n K = true from h)).2; omega
  stms := fun _ => hy
  imp := fun h => by
    have h : impF k s v m n K = true := h
    unfold impF at h
    simp only [Bool.and_eq_true] at h
    have := sh_k (ba_sh h.1); omega
  df := fun i h => by
    have h : ((k == 10) && naB k s v m n 0 i) = true := h
    simp only [Bool.and_eq_true, beq_iff_eq] at h
    omega
  dc := fun i h => by have := (dcl_kids (show dclF k s v m n K i = true from h)).2; omega
  dcs := fun i h => by
    have h : dcsF k s v m n K i = true := h
    unfold dcsF at h
    simp only [Bool.and_eq_true] at h
    have := sh_k (ba_sh h.1); omega
end
def Tr.knd : Tr → Int
  | .mk k _ _ _ _ => k
theorem kind_factor : ∀ {t : Tr} {y : Sm}, 25 ≤ t.knd ∧ t.knd ≤ 33 → y.lev = 0 → t.sm.Le y
  | .mk k s v m ts, y, h, hy => le_factor h hy
theorem kind_stmts : ∀ {t : Tr} {y : Sm}, t.knd = 19 → y.stms = true → t.sm.Le y
  | .mk k s v m ts, y, h, hy => le_stmts h hy
/-- kids, each as good as the one that stood there -/
def KLe (ts us : List Tr) : Prop := us.length = ts.length ∧ ∀ j, j < ts.length → (Tr.smL ts j).Le (Tr.smL us j)
theorem KLe.refl (ts : List Tr) : KLe ts ts := ⟨rfl, fun _ _ => Sm.Le.refl _⟩
theorem KLe.node {ts us : List Tr} (h : KLe ts us) (k : Int) (s : ByteArray) (v : Int) (m : Bool) : (Tr.mk k s v m ts).sm.Le (Tr.mk k s v m us).sm := by
  show (step k s v m ts.length (Tr.smL ts)).Le (step k s v m us.length (Tr.smL us))
  rw [h.1]
  exact step_mono h.2
theorem KLe.may {ts us : List Tr} (h : KLe ts us) {k : Int} {s : ByteArray} {v : Int} {m : Bool} (g : Tr.may (.mk k s v m ts) = true) : Tr.may (.mk k s v m us) = true := by
  show mayF k s v m us.length (Tr.smL us) = true
  rw [h.1]
  exact may_mono h.2 g
theorem KLe.set {ts : List Tr} {j : Nat} {t : Tr} (hj : j < ts.length) (h : ts[j].sm.Le t.sm) : KLe ts (ts.set j t) := by
  refine ⟨by simp, fun i hi => ?_⟩
  rw [smL_get ts i hi, smL_get (ts.set j t) i (by simpa using hi)]
  by_cases e : i = j
  · subst e
    rw [List.getElem_set_self]
    exact h
  · rw [List.getElem_set_ne (fun h => e h.symm)]
    exact Sm.Le.refl _
end Go.Proofs.Ytkhbmamgfkpdbaa

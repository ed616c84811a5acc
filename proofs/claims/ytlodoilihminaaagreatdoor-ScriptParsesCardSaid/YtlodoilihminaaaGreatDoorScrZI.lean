/-
  A script's text that is cut: which lines are there, what is read. Nothing of the program.
-/
import Derived.Test.YtlodoilihminaaaGreatDoorScrZH
namespace Go.Proofs.YtlodoilihminaaaGreatDoor
set_option linter.unusedVariables false
set_option linter.unusedSimpArgs false
theorem not10 {c : UInt8} (h : c.toNat ≠ 10) : c ≠ 10 := fun e => h (by rw [e]; rfl)
theorem hexdig_10 (n : Nat) (h : n < 16) : hexdig n ≠ 10 := by
  have : ∀ m : Fin 16, hexdig m.val ≠ 10 := by decide
  exact this ⟨n, h⟩
theorem hxT_10 (b : List Int) (h : ∀ x ∈ b, 0 ≤ x ∧ x < 256) : ∀ c ∈ hxT b, c ≠ 10 := by
  unfold hxT
  intro c hc
  split at hc
  · rw [List.mem_singleton] at hc; rw [hc]; decide
  · obtain ⟨x, hx, hc⟩ := List.mem_flatMap.1 hc
    have := h x hx
    simp only [hx2, List.mem_cons, List.not_mem_nil, or_false] at hc
    rcases hc with rfl | rfl
    · exact hexdig_10 _ (by omega)
    · exact hexdig_10 _ (by omega)
theorem itoa_10 (v : Int) : ∀ c ∈ Lib.itoa v, c ≠ 10 := by
  intro c hc
  unfold Lib.itoa at hc
  split at hc
  · rw [List.mem_cons] at hc
    rcases hc with rfl | hc
    · decide
    · have := decDigits_dig _ c hc
      unfold isDig at this
      exact not10 (by omega)
  · have := decDigits_dig _ c hc
    unfold isDig at this
    exact not10 (by omega)
theorem fn_10 {l : List UInt8} (h : fnB l = true) : ∀ c ∈ l, c ≠ 10 := by
  unfold fnB at h
  simp only [Bool.and_eq_true] at h
  intro c hc
  have := List.all_eq_true.1 h.2.2 c hc
  rintro rfl
  revert this
  decide
theorem chs_10 {b : List Int} (h : plnB b = true) : ∀ c ∈ chs b, c ≠ 10 := by
  unfold plnB at h
  simp only [Bool.and_eq_true] at h
  intro c hc
  obtain ⟨x, hx, rfl⟩ := List.mem_map.1 hc
  have := List.all_eq_true.1 h.1 x hx
  simp only [decide_eq_true_eq] at this
  refine not10 ?_
  simp
  omega
theorem app_10 {a b : List UInt8} (ha : ∀ c ∈ a, c ≠ 10) (hb : ∀ c ∈ b, c ≠ 10) : ∀ c ∈ a ++ b, c ≠ 10 := fun c hc => by
  rw [List.mem_append] at hc
  rcases hc with h | h
  · exact ha c h
  · exact hb c h
theorem cons_10 {a : List UInt8} (ha : ∀ c ∈ a, c ≠ 10) : ∀ c ∈ 32 :: a, c ≠ 10 := fun c hc => by
  rw [List.mem_cons] at hc
  rcases hc with rfl | h
  · decide
  · exact ha c h
theorem bls_10 : ∀ l : List (List UInt8), (∀ x ∈ l, ∀ c ∈ x, c ≠ 10) → ∀ c ∈ bls l, c ≠ 10
  | [], _ => fun c hc => by cases hc
  | x :: l, h => by
    rw [show bls (x :: l) = 32 :: (x ++ bls l) from rfl]
    exact cons_10 (app_10 (h x (by simp)) (bls_10 l fun y hy => h y (by simp [hy])))
theorem txt_10 (a : Ac) (hm : a.may = true) (hb : ∀ x ∈ a.bytes, 0 ≤ x ∧ x < 256) : ∀ c ∈ a.txt, c ≠ 10 := by
  obtain ⟨k, n, b, ns, m, f⟩ := a
  replace hb : ∀ x ∈ b, 0 ≤ x ∧ x < 256 := hb
  have w1 : ∀ c ∈ wPut, c ≠ 10 := by decide
  have w2 : ∀ c ∈ wAdd, c ≠ 10 := by decide
  have w3 : ∀ c ∈ wDrop, c ≠ 10 := by decide
  have w4 : ∀ c ∈ wBuild, c ≠ 10 := by decide
  have w5 : ∀ c ∈ wRun, c ≠ 10 := by decide
  have w6 : ∀ c ∈ wMean, c ≠ 10 := by decide
  have w7 : ∀ c ∈ wOwn, c ≠ 10 := by decide
  rcases may_kind hm with h | h | h | h | h | h | h <;> replace h : k = _ := h <;> subst h
  · replace hm : (fnB n && (decide (b.length ≤ 65536) && (ns.isEmpty && (decide (m = 0) && decide (f = 0))))) = true := hm
    simp only [Bool.and_eq_true] at hm
    rw [show (⟨1, n, b, ns, m, f⟩ : Ac).txt = wPut ++ (32 :: n ++ (32 :: hxT b)) from rfl]
    exact app_10 w1 (app_10 (cons_10 (fn_10 hm.1)) (cons_10 (hxT_10 b hb)))
  · replace hm : (fnB n && (plnB b && (ns.isEmpty && (decide (m = 0) && decide (f = 0))))) = true := hm
    simp only [Bool.and_eq_true] at hm
    rw [show (⟨2, n, b, ns, m, f⟩ : Ac).txt = wAdd ++ (32 :: n ++ (32 :: chs b)) from rfl]
    exact app_10 w2 (app_10 (cons_10 (fn_10 hm.1)) (cons_10 (chs_10 hm.2.1)))
  · replace hm : (fnB n && (b.isEmpty && (ns.isEmpty && (decide (m = 0) && decide (f = 0))))) = true := hm
    simp only [Bool.and_eq_true] at hm
    rw [show (⟨3, n, b, ns, m, f⟩ : Ac).txt = wDrop ++ (32 :: n) from rfl]
    exact app_10 w3 (cons_10 (fn_10 hm.1))
  · replace hm : (fnB n && (b.isEmpty && (ns.isEmpty && (decide (m = 0) && decide (f = 0))))) = true := hm
    simp only [Bool.and_eq_true] at hm
    rw [show (⟨4, n, b, ns, m, f⟩ : Ac).txt = wBuild ++ (32 :: n) from rfl]
    exact app_10 w4 (cons_10 (fn_10 hm.1))
  · replace hm : (modB n && (b.isEmpty && (ns.isEmpty && (numB m && numB f)))) = true := hm
    simp only [Bool.and_eq_true] at hm
    rw [show (⟨5, n, b, ns, m, f⟩ : Ac).txt = wRun ++ (32 :: n ++ (32 :: Lib.itoa m ++ (32 :: Lib.itoa f))) from rfl]
    exact app_10 w5 (app_10 (cons_10 (fn_10 (mod_fn hm.1))) (app_10 (cons_10 (itoa_10 m)) (cons_10 (itoa_10 f))))
  · replace hm : (modB n && (b.isEmpty && (nmsB ns && (decide (m = 0) && numB f)))) = true := hm
    simp only [Bool.and_eq_true] at hm
    rw [show (⟨6, n, b, ns, m, f⟩ : Ac).txt = wMean ++ (32 :: n ++ (32 :: Lib.itoa f ++ bls ns)) from rfl]
    exact app_10 w6 (app_10 (cons_10 (fn_10 (mod_fn hm.1))) (app_10 (cons_10 (itoa_10 f)) (bls_10 ns fun x hx => fn_10 ((nms_ne hm.2.2.1).1 x hx))))
  · exact w7
/-! ### lines -/
def endT (xs : List (List UInt8)) : List UInt8 := xs.flatMap fun x => x ++ [10]
def cap0 (c : Int) : List UInt8 := wCap ++ 32 :: Lib.itoa c
def lnsOf (c : Int) (l : List Ac) : List (List UInt8) := cap0 c :: l.map Ac.txt
theorem scT_end (c : Int) (l : List Ac) : scT c l = endT (lnsOf c l) := by
  unfold scT capT linesT endT lnsOf cap0
  rw [List.flatMap_cons, List.flatMap_map]
theorem endT_cons (x : List UInt8) (xs : List (List UInt8)) : endT (x :: xs) = x ++ 10 :: endT xs := by
  unfold endT
  rw [List.flatMap_cons, List.append_assoc]
  rfl
theorem lnF_word (x : List UInt8) (hx : ∀ c ∈ x, c ≠ 10) (t : List UInt8) : lnF (x ++ 10 :: t) = (x :: (lnF t).1, (lnF t).2) := by
  induction x with
  | nil => show lnF (10 :: t) = _; rw [lnF, if_pos rfl]
  | cons c x ih =>
    rw [List.cons_append, lnF, if_neg (hx c (by simp)), ih (fun c hc => hx c (by simp [hc]))]
theorem lnF_rest (r : List UInt8) (hr : ∀ c ∈ r, c ≠ 10) : lnF r = ([], r) := by
  rw [lnF_cut, if_neg (fun h => hr 10 h rfl)]
theorem lnF_end (xs : List (List UInt8)) (hx : ∀ x ∈ xs, ∀ c ∈ x, c ≠ 10) (r : List UInt8) (hr : ∀ c ∈ r, c ≠ 10) : lnF (endT xs ++ r) = (xs, r) := by
  induction xs with
  | nil => exact lnF_rest r hr
  | cons x xs ih =>
    rw [endT_cons, List.append_assoc, List.cons_append, lnF_word x (hx x (by simp)), ih fun y hy => hx y (by simp [hy])]
theorem endT_take (xs : List (List UInt8)) (hx : ∀ x ∈ xs, ∀ c ∈ x, c ≠ 10) : ∀ cut : Nat, ∃ k r, k ≤ xs.length ∧ (endT xs).take cut = endT (xs.take k) ++ r ∧ ∀ c ∈ r, c ≠ 10 := by
  induction xs with
  | nil => exact fun cut => ⟨0, [], Nat.le_refl _, by simp [endT], by simp⟩
  | cons x xs ih =>
    intro cut
    by_cases h : cut ≤ x.length
    · refine ⟨0, x.take cut, Nat.zero_le _, ?_, fun c hc => hx x (by simp) c (List.mem_of_mem_take hc)⟩
      rw [endT_cons, List.take_append_of_le_length h]
      rfl
    · obtain ⟨m, rfl⟩ : ∃ m, cut = x.length + (m + 1) := ⟨cut - x.length - 1, by omega⟩
      obtain ⟨k, r, h1, h2, h3⟩ := ih (fun y hy => hx y (by simp [hy])) m
      refine ⟨k + 1, r, by simp; omega, ?_, h3⟩
      rw [endT_cons, List.take_append, List.take_of_length_le (by omega), show x.length + (m + 1) - x.length = m + 1 by omega, List.take_succ_cons, h2, List.take_succ_cons, endT_cons]
      simp
theorem goL_ok : ∀ (ls : List (List UInt8)) (i : Nat) (r : List UInt8), (∀ j x, ls[j]? = some x → lineOk (i + j) x = true) → goL i ls r = if r = [] ∧ i + ls.length ≠ 0 then none else some (i + ls.length)
  | [], i, r, _ => by unfold goL; simp
  | x :: ls, i, r, h => by
    unfold goL
    rw [if_pos (by simpa using h 0 x rfl), goL_ok ls (i + 1) r fun j y hy => by have := h (j + 1) y (by simpa using hy); rwa [show i + 1 + j = i + (j + 1) by omega]]
    rw [List.length_cons, show i + 1 + ls.length = i + (ls.length + 1) by omega]
theorem rdA_txt {a : Ac} (hm : a.may = true) (hb : ∀ x ∈ a.bytes, 0 ≤ x ∧ x < 256) : readB a.txt = true ∧ rdA a.txt = a := by
  have h := pC_txt a hm hb
  have h1 : readB a.txt = true := by unfold readB; rw [h, hm]; simp
  exact ⟨h1, by unfold rdA; rw [if_pos h1, h]⟩
theorem goR_acts : ∀ (as_ : List Ac) (i : Nat) (c : Int) (l : List Ac), i ≠ 0 → i + as_.length ≤ 4097 → (∀ a ∈ as_, a.may = true ∧ ∀ x ∈ a.bytes, 0 ≤ x ∧ x < 256) → goR i c l (as_.map Ac.txt) = (c, l ++ as_)
  | [], i, c, l, _, _, _ => by simp [goR]
  | a :: as_, i, c, l, hi, hn, h => by
    obtain ⟨h1, h2⟩ := h a (by simp)
    obtain ⟨r1, r2⟩ := rdA_txt h1 h2
    have hn' : i + (as_.length + 1) ≤ 4097 := hn
    have hok : lineOk i a.txt = true := by unfold lineOk; rw [if_neg hi, r1]; simp; omega
    rw [List.map_cons, goR, show tkC i c a.txt = c by unfold tkC; rw [if_neg hi], show tkL i l a.txt = l ++ [a] by unfold tkL; rw [if_neg hi, if_pos hok, r2]]
    rw [goR_acts as_ (i + 1) c (l ++ [a]) (by omega) (by omega) fun b hb => h b (by simp [hb])]
    simp
theorem c_cap0 (c : Int) : c1 (cap0 c) = wCap ∧ c2 (cap0 c) = Lib.itoa c := by
  have w : ∀ c ∈ wCap, c ≠ 32 := by decide
  exact ⟨c1_app _ w _, c2_app _ w _⟩
theorem scE_parts {c : Int} {l : List Ac} (h : scE c l = 0) : capB c = true ∧ l.all Ac.may = true ∧ l.length ≤ 4096 ∧ (scT c l).length ≤ 4194304 := by
  unfold scE at h
  split at h
  · rename_i h1
    rw [Bool.and_eq_true] at h1
    split at h
    · rename_i h2; exact ⟨h1.1, h1.2, h2.1, h2.2⟩
    · cases h
  · cases h
theorem numOf_cap {c : Int} (h : capB c = true) : numOf (Lib.itoa c) = c := by
  unfold capB at h
  simp only [decide_eq_true_eq] at h
  exact numOf_itoa c h.1 (by omega)
/-- a script's text, cut -/
theorem cut_reads {c : Int} {l : List Ac} (he : scE c l = 0) (hb : ∀ a ∈ l, ∀ x ∈ a.bytes, 0 ≤ x ∧ x < 256) (cut : Nat) : ∃ k r, lnF ((scT c l).take cut) = (k, r) ∧ k.length ≤ l.length + 1 ∧ (r ≠ [] ∨ k.length = 0 → parN ((scT c l).take cut) = k.length ∧ parX ((scT c l).take cut) = 4) ∧
    (r = [] → k.length ≠ 0 → parN ((scT c l).take cut) = 0 ∧ parX ((scT c l).take cut) = 0 ∧ parC ((scT c l).take cut) = c ∧ parL ((scT c l).take cut) = l.take (k.length - 1)) := by
  obtain ⟨hc, hm, hn, -⟩ := scE_parts he
  have hm' : ∀ a ∈ l, a.may = true := fun a ha => List.all_eq_true.1 hm a ha
  have h10 : ∀ x ∈ lnsOf c l, ∀ c ∈ x, c ≠ 10 := by
    intro x hx
    unfold lnsOf at hx
    rw [List.mem_cons] at hx
    rcases hx with rfl | hx
    · exact app_10 (by decide) (cons_10 (itoa_10 c))
    · obtain ⟨a, ha, rfl⟩ := List.mem_map.1 hx
      exact txt_10 a (hm' a ha) (hb a ha)
  obtain ⟨k, r, h1, h2, h3⟩ := endT_take (lnsOf c l) h10 cut
  have hlen : (lnsOf c l).length = l.length + 1 := by unfold lnsOf; simp
  have h4 : lnF ((scT c l).take cut) = ((lnsOf c l).take k, r) := by
    rw [scT_end, h2]
    exact lnF_end _ (fun x hx => h10 x (List.mem_of_mem_take hx)) r h3
  have hk : ((lnsOf c l).take k).length = k := by rw [List.length_take]; omega
  have hok : ∀ j x, ((lnsOf c l).take k)[j]? = some x → lineOk (0 + j) x = true := by
    intro j x hx
    rw [Nat.zero_add]
    rw [List.getElem?_take] at hx
    split at hx
    · unfold lnsOf at hx
      cases j with
      | zero =>
        simp at hx
        subst hx
        unfold lineOk
        rw [if_pos rfl, (c_cap0 c).1, (c_cap0 c).2, numOf_cap hc, hc]
        simp
      | succ j =>
        rw [List.getElem?_cons_succ, List.getElem?_map] at hx
        obtain ⟨a, ha, rfl⟩ := Option.map_eq_some_iff.1 hx
        have hmem := List.mem_of_getElem? ha
        have := (List.getElem?_eq_some_iff.1 ha).1
        unfold lineOk
        rw [if_neg (by omega), (rdA_txt (hm' a hmem) (hb a hmem)).1]
        simp
        omega
    · cases hx
  have hgo := goL_ok ((lnsOf c l).take k) 0 r hok
  rw [hk, Nat.zero_add] at hgo
  have hpe : parE ((scT c l).take cut) = if r = [] ∧ k ≠ 0 then none else some k := by unfold parE; rw [h4]; exact hgo
  refine ⟨_, r, h4, by omega, fun h => ?_, fun hr h0 => ?_⟩
  · rw [hk] at h ⊢
    rw [if_neg (by rintro ⟨e1, e2⟩; rcases h with h | h; exact h e1; exact e2 h)] at hpe
    obtain ⟨-, -, p1, p2⟩ := par_no hpe
    exact ⟨p1, p2⟩
  · rw [hk] at h0 ⊢
    rw [if_pos ⟨hr, h0⟩] at hpe
    obtain ⟨p1, p2, p3, p4⟩ := par_ok hpe
    refine ⟨p3, p4, ?_⟩
    rw [p1, p2]
    unfold parR
    rw [h4]
    obtain ⟨j, rfl⟩ : ∃ j, k = j + 1 := ⟨k - 1, by omega⟩
    show (goR 0 0 [] ((lnsOf c l).take (j + 1))).1 = c ∧ (goR 0 0 [] ((lnsOf c l).take (j + 1))).2 = _
    unfold lnsOf
    rw [List.take_succ_cons, ← List.map_take, goR, show tkC 0 0 (cap0 c) = c by unfold tkC; rw [if_pos rfl, (c_cap0 c).2, numOf_cap hc], show tkL 0 [] (cap0 c) = [] from rfl]
    rw [goR_acts (l.take j) 1 c [] (by omega) (by rw [List.length_take]; omega) fun a ha => ⟨hm' a (List.mem_of_mem_take ha), hb a (List.mem_of_mem_take ha)⟩]
    simp
end Go.Proofs.YtlodoilihminaaaGreatDoor

/-
  What the document reads a line as. Nothing of the program.
-/
import Derived.Test.YtlodoilihminaaaGreatDoorScrZI
namespace Go.Proofs.YtlodoilihminaaaGreatDoor
set_option linter.unusedVariables false
set_option linter.unusedSimpArgs false
def isD (c : UInt8) : Bool := decide (48 ≤ c.toNat ∧ c.toNat ≤ 57)
def nrV (l : List UInt8) : Nat := l.foldl (fun n c => 10 * n + (c.toNat - 48)) 0
theorem nrV_snoc (l : List UInt8) (c : UInt8) : nrV (l ++ [c]) = 10 * nrV l + (c.toNat - 48) := by unfold nrV; rw [List.foldl_append]; rfl
/-- a decimal text's number -/
def numR (l : List UInt8) : Int := if (l.take 14).all isD = true then (if Lib.itoa (nrV (l.take 14) : Nat) = l then (nrV (l.take 14) : Nat) else -1) else -1
theorem nrV_dec (u : Nat) : nrV (Lib.decDigits u) = u := by
  induction u using Nat.strongRecOn with
  | _ u ih =>
    rw [Lib.decDigits]
    split
    · rename_i h1
      show nrV ([] ++ [UInt8.ofNat (48 + u)]) = u
      rw [nrV_snoc]
      simp [nrV]
      omega
    · rename_i h1
      rw [nrV_snoc, ih (u / 10) (by omega)]
      simp
      omega
theorem dec_len : ∀ (k u : Nat), u < 10 ^ (k + 1) → (Lib.decDigits u).length ≤ k + 1
  | 0, u, h => by rw [Lib.decDigits, dif_pos (by simpa using h)]; simp
  | k + 1, u, h => by
    rw [Lib.decDigits]
    split
    · simp
    · have := dec_len k (u / 10) (by rw [Nat.pow_succ] at h; omega)
      simp
      omega
theorem nrV_fold : ∀ (l : List UInt8) (acc : Nat), (∀ c ∈ l, isD c = true) → l.foldl (fun n c => 10 * n + (c.toNat - 48)) acc < (acc + 1) * 10 ^ l.length
  | [], acc, _ => by simp
  | c :: l, acc, h => by
    have h1 := nrV_fold l (10 * acc + (c.toNat - 48)) fun d hd => h d (by simp [hd])
    have h2 := h c (by simp)
    unfold isD at h2
    simp only [decide_eq_true_eq] at h2
    rw [List.foldl_cons, List.length_cons, Nat.pow_succ]
    have h3 : (10 * acc + (c.toNat - 48) + 1) * 10 ^ l.length ≤ (10 * (acc + 1)) * 10 ^ l.length := Nat.mul_le_mul_right _ (by omega)
    have h4 : (10 * (acc + 1)) * 10 ^ l.length = (acc + 1) * (10 ^ l.length * 10) := by rw [Nat.mul_comm 10 (acc + 1), Nat.mul_assoc, Nat.mul_comm 10]
    omega
theorem nrV_lt (l : List UInt8) (h : ∀ c ∈ l, isD c = true) : nrV l < 10 ^ l.length := by
  have := nrV_fold l 0 h
  unfold nrV
  simpa using this
theorem numR_itoa (v : Int) (h0 : 0 ≤ v) (h1 : v ≤ 1099511627776) : numR (Lib.itoa v) = v := by
  obtain ⟨u, rfl⟩ : ∃ u : Nat, v = u := ⟨v.toNat, by omega⟩
  have e : Lib.itoa (u : Int) = Lib.decDigits u := by unfold Lib.itoa; rw [if_neg (by omega)]; rfl
  have hl : (Lib.decDigits u).length ≤ 13 := dec_len 12 u (by omega)
  unfold numR
  rw [e, List.take_of_length_le (by omega), nrV_dec, e, if_pos, if_pos rfl]
  refine List.all_eq_true.2 fun c hc => ?_
  have := decDigits_dig u c hc
  unfold isDig at this
  unfold isD
  simp
  omega
def nthL (l : List (List UInt8)) (i : Nat) : List UInt8 := l[i]?.getD []
/-- what a line is read as, by its words -/
def rA (s : List UInt8) : Ac :=
  if kindOf (nthL (spl s) 0) = 0 ∨ kindOf (nthL (spl s) 0) < 7 ∧ (spl s).length < 2 then Ac.none
  else if kindOf (nthL (spl s) 0) = 1 then ⟨1, nthL (spl s) 1, if (spl s).length = 3 ∧ nthL (spl s) 2 ≠ [45] then ofHx (nthL (spl s) 2) else [], [], 0, 0⟩
  else if kindOf (nthL (spl s) 0) = 2 then ⟨2, nthL (spl s) 1, if 3 ≤ (spl s).length then (s.drop ((nthL (spl s) 0).length + (nthL (spl s) 1).length + 2)).map (fun c => (c.toNat : Int)) else [], [], 0, 0⟩
  else if kindOf (nthL (spl s) 0) = 5 then ⟨5, nthL (spl s) 1, [], [], if (spl s).length = 4 then numR (nthL (spl s) 2) else 0, if (spl s).length = 4 then numR (nthL (spl s) 3) else 0⟩
  else if kindOf (nthL (spl s) 0) = 6 then ⟨6, nthL (spl s) 1, [], if 4 ≤ (spl s).length then (spl s).drop 3 else [], 0, if 4 ≤ (spl s).length then numR (nthL (spl s) 2) else 0⟩
  else ⟨kindOf (nthL (spl s) 0), if kindOf (nthL (spl s) 0) < 7 then nthL (spl s) 1 else [], [], [], 0, 0⟩
set_option maxHeartbeats 1000000 in
theorem rA_txt (a : Ac) (hm : a.may = true) (hb : ∀ x ∈ a.bytes, 0 ≤ x ∧ x < 256) : rA a.txt = a := by
  obtain ⟨k, n, b, ns, m, f⟩ := a
  replace hb : ∀ x ∈ b, 0 ≤ x ∧ x < 256 := hb
  have w1 : ∀ c ∈ wPut, c ≠ 32 := by decide
  have w2 : ∀ c ∈ wAdd, c ≠ 32 := by decide
  have w3 : ∀ c ∈ wDrop, c ≠ 32 := by decide
  have w4 : ∀ c ∈ wBuild, c ≠ 32 := by decide
  have w5 : ∀ c ∈ wRun, c ≠ 32 := by decide
  have w6 : ∀ c ∈ wMean, c ≠ 32 := by decide
  have w7 : ∀ c ∈ wOwn, c ≠ 32 := by decide
  have k1 : kindOf wPut = 1 := by decide
  have k2 : kindOf wAdd = 2 := by decide
  have k3 : kindOf wDrop = 3 := by decide
  have k4 : kindOf wBuild = 4 := by decide
  have k5 : kindOf wRun = 5 := by decide
  have k6 : kindOf wMean = 6 := by decide
  have k7 : kindOf wOwn = 7 := by decide
  rcases may_kind hm with h | h | h | h | h | h | h <;> replace h : k = _ := h <;> subst h
  · replace hm : (fnB n && (decide (b.length ≤ 65536) && (ns.isEmpty && (decide (m = 0) && decide (f = 0))))) = true := hm
    simp only [Bool.and_eq_true, decide_eq_true_eq, List.isEmpty_iff] at hm
    obtain ⟨hn, -, rfl, rfl, rfl⟩ := hm
    have e : (⟨1, n, b, [], 0, 0⟩ : Ac).txt = wPut ++ 32 :: (n ++ 32 :: hxT b) := rfl
    have hs : spl (⟨1, n, b, [], 0, 0⟩ : Ac).txt = [wPut, n, hxT b] := by rw [e, spl_app _ w1, spl_app _ (fn_ne hn), spl_word _ (hxT_ne b hb)]
    have ho := ofH_hxT b hb
    unfold ofH at ho
    unfold rA
    rw [hs]
    simp only [nthL, List.getElem?_cons_zero, List.getElem?_cons_succ, Option.getD_some, k1, List.length_cons, List.length_nil]
    rw [if_neg (by decide), if_pos trivial]
    congr 1
    by_cases h : hxT b = [45]
    · rw [if_pos h] at ho
      rw [if_neg (fun e => e.2 h)]
      exact ho
    · rw [if_neg h] at ho
      rw [if_pos (by first | exact ⟨rfl, h⟩ | exact ⟨trivial, h⟩)]
      exact ho
  · replace hm : (fnB n && (plnB b && (ns.isEmpty && (decide (m = 0) && decide (f = 0))))) = true := hm
    simp only [Bool.and_eq_true, decide_eq_true_eq, List.isEmpty_iff] at hm
    obtain ⟨hn, -, rfl, rfl, rfl⟩ := hm
    have e : (⟨2, n, b, [], 0, 0⟩ : Ac).txt = wAdd ++ 32 :: (n ++ 32 :: chs b) := rfl
    have hs : spl (⟨2, n, b, [], 0, 0⟩ : Ac).txt = wAdd :: n :: spl (chs b) := by rw [e, spl_app _ w2, spl_app _ (fn_ne hn)]
    have hl := List.length_pos_iff.2 (spl_ne (chs b))
    unfold rA
    rw [hs]
    simp only [nthL, List.getElem?_cons_zero, List.getElem?_cons_succ, Option.getD_some, k2, List.length_cons]
    rw [if_neg (by omega), if_neg (by decide), if_pos trivial, if_pos (by omega)]
    congr 1
    rw [e]
    have : (wAdd ++ 32 :: (n ++ 32 :: chs b)).drop (wAdd.length + n.length + 2) = chs b := by
      rw [show wAdd ++ 32 :: (n ++ 32 :: chs b) = (wAdd ++ 32 :: (n ++ [32])) ++ chs b by simp, show wAdd.length + n.length + 2 = (wAdd ++ 32 :: (n ++ [32])).length by simp; omega, List.drop_left]
    rw [this]
    exact chs_chs b hb
  · replace hm : (fnB n && (b.isEmpty && (ns.isEmpty && (decide (m = 0) && decide (f = 0))))) = true := hm
    simp only [Bool.and_eq_true, decide_eq_true_eq, List.isEmpty_iff] at hm
    obtain ⟨hn, rfl, rfl, rfl, rfl⟩ := hm
    have e : (⟨3, n, [], [], 0, 0⟩ : Ac).txt = wDrop ++ 32 :: n := rfl
    have hs : spl (⟨3, n, [], [], 0, 0⟩ : Ac).txt = [wDrop, n] := by rw [e, spl_app _ w3, spl_word _ (fn_ne hn)]
    unfold rA
    rw [hs]
    simp only [nthL, List.getElem?_cons_zero, List.getElem?_cons_succ, Option.getD_some, k3, List.length_cons, List.length_nil]
    rfl
  · replace hm : (fnB n && (b.isEmpty && (ns.isEmpty && (decide (m = 0) && decide (f = 0))))) = true := hm
    simp only [Bool.and_eq_true, decide_eq_true_eq, List.isEmpty_iff] at hm
    obtain ⟨hn, rfl, rfl, rfl, rfl⟩ := hm
    have e : (⟨4, n, [], [], 0, 0⟩ : Ac).txt = wBuild ++ 32 :: n := rfl
    have hs : spl (⟨4, n, [], [], 0, 0⟩ : Ac).txt = [wBuild, n] := by rw [e, spl_app _ w4, spl_word _ (fn_ne hn)]
    unfold rA
    rw [hs]
    simp only [nthL, List.getElem?_cons_zero, List.getElem?_cons_succ, Option.getD_some, k4, List.length_cons, List.length_nil]
    rfl
  · replace hm : (modB n && (b.isEmpty && (ns.isEmpty && (numB m && numB f)))) = true := hm
    simp only [Bool.and_eq_true, decide_eq_true_eq, List.isEmpty_iff, numB] at hm
    obtain ⟨hn, rfl, rfl, ⟨m0, m1⟩, f0, f1⟩ := hm
    replace hn := mod_fn hn
    have e : (⟨5, n, [], [], m, f⟩ : Ac).txt = wRun ++ 32 :: (n ++ 32 :: (Lib.itoa m ++ 32 :: Lib.itoa f)) := rfl
    have hs : spl (⟨5, n, [], [], m, f⟩ : Ac).txt = [wRun, n, Lib.itoa m, Lib.itoa f] := by rw [e, spl_app _ w5, spl_app _ (fn_ne hn), spl_app _ (itoa_ne m), spl_word _ (itoa_ne f)]
    unfold rA
    rw [hs]
    simp only [nthL, List.getElem?_cons_zero, List.getElem?_cons_succ, Option.getD_some, k5, List.length_cons, List.length_nil, numR_itoa m m0 m1, numR_itoa f f0 f1]
    rfl
  · replace hm : (modB n && (b.isEmpty && (nmsB ns && (decide (m = 0) && numB f)))) = true := hm
    simp only [Bool.and_eq_true, decide_eq_true_eq, List.isEmpty_iff, numB] at hm
    obtain ⟨hn, rfl, hns, rfl, f0, f1⟩ := hm
    replace hn := mod_fn hn
    obtain ⟨hx, hne⟩ := nms_ne hns
    obtain ⟨y, ys, rfl⟩ : ∃ y ys, ns = y :: ys := by cases ns with | nil => exact absurd rfl hne | cons y ys => exact ⟨y, ys, rfl⟩
    have e : (⟨6, n, [], y :: ys, 0, f⟩ : Ac).txt = wMean ++ 32 :: (n ++ 32 :: (Lib.itoa f ++ 32 :: (y ++ bls ys))) := rfl
    have hs : spl (⟨6, n, [], y :: ys, 0, f⟩ : Ac).txt = wMean :: n :: Lib.itoa f :: y :: ys := by rw [e, spl_app _ w6, spl_app _ (fn_ne hn), spl_app _ (itoa_ne f), spl_bls y ys (fun x hx' => fn_ne (hx x hx'))]
    unfold rA
    rw [hs]
    simp only [nthL, List.getElem?_cons_zero, List.getElem?_cons_succ, Option.getD_some, k6, List.length_cons, numR_itoa f f0 f1]
    rw [if_neg (by omega), if_neg (by decide), if_neg (by decide), if_neg (by decide), if_pos trivial, if_pos (by omega), if_pos (by omega)]
    rfl
  · replace hm : (n.isEmpty && (b.isEmpty && (ns.isEmpty && (decide (m = 0) && decide (f = 0))))) = true := hm
    simp only [Bool.and_eq_true, decide_eq_true_eq, List.isEmpty_iff] at hm
    obtain ⟨rfl, rfl, rfl, rfl, rfl⟩ := hm
    have e : (⟨7, [], [], [], 0, 0⟩ : Ac).txt = wOwn := rfl
    have hs : spl (⟨7, [], [], [], 0, 0⟩ : Ac).txt = [wOwn] := by rw [e, spl_word _ w7]
    unfold rA
    rw [hs]
    simp only [nthL, List.getElem?_cons_zero, List.getElem?_cons_succ, Option.getD_some, k7, List.length_cons, List.length_nil]
    rfl
theorem ofHx_bytes (l : List UInt8) : ∀ x ∈ ofHx l, 0 ≤ x ∧ x < 256 := by
  induction l using ofHx.induct with
  | case1 a b l ih =>
    intro x hx
    rw [ofHx, List.mem_cons] at hx
    have hb : ∀ c : UInt8, hv c < 16 := fun c => by unfold hv; split <;> (try split) <;> omega
    have := hb a; have := hb b
    rcases hx with rfl | hx
    · omega
    · exact ih x hx
  | case2 l h =>
    intro x hx
    unfold ofHx at hx
    split at hx
    · exact absurd rfl (h _ _ _)
    · cases hx
theorem bytes_rA (s : List UInt8) : ∀ x ∈ (rA s).bytes, 0 ≤ x ∧ x < 256 := by
  intro x hx
  unfold rA at hx
  split at hx
  · cases hx
  · split at hx
    · replace hx : x ∈ (if _ then _ else _ : List Int) := hx
      split at hx
      · exact ofHx_bytes _ x hx
      · cases hx
    · split at hx
      · replace hx : x ∈ (if _ then _ else _ : List Int) := hx
        split at hx
        · obtain ⟨c, -, rfl⟩ := List.mem_map.1 hx
          have := c.toNat_lt
          omega
        · cases hx
      · repeat' split at hx
        all_goals cases hx
/-- .. is what the program reads -/
theorem rA_read (s : List UInt8) : ((rA s).may && decide ((rA s).txt = s)) = readB s ∧ (readB s = true → rA s = pC s) := by
  have h2 : readB s = true → rA s = pC s := fun h => by
    unfold readB at h
    simp only [Bool.and_eq_true, decide_eq_true_eq] at h
    have := rA_txt (pC s) h.1 (bytes_pC s)
    rwa [h.2] at this
  refine ⟨?_, h2⟩
  cases h : readB s with
  | true =>
    rw [h2 h]
    exact h
  | false =>
    cases h3 : ((rA s).may && decide ((rA s).txt = s)) with
    | false => rfl
    | true =>
      simp only [Bool.and_eq_true, decide_eq_true_eq] at h3
      have h4 := pC_txt (rA s) h3.1 (bytes_rA s)
      rw [h3.2] at h4
      have : readB s = true := by unfold readB; rw [h4]; simp [h3.1, h3.2]
      rw [h] at this
      cases this
end Go.Proofs.YtlodoilihminaaaGreatDoor

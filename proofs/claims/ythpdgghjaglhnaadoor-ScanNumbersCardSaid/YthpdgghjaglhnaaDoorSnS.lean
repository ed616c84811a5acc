/-
  Numbers, plainly: digits to a base; what a scanner makes of them.
-/
import Derived.Test.YthpdgghjaglhnaaDoorSnR
namespace Go.Proofs.YthpdgghjaglhnaaDoor
open Go.ChangeShapes Go.WideShapes Go.ChangeAt Go.RowKit
set_option linter.unusedVariables false
set_option linter.unusedSimpArgs false
def dgt (d : Nat) : Int := if d ≤ 9 then 48 + (d : Int) else 55 + (d : Int)
/-- digits to a base -/
def dgs (B u : Nat) : List Int := if h : u < B ∨ B < 2 then [dgt u] else dgs B (u / B) ++ [dgt (u % B)]
termination_by u
decreasing_by exact Nat.div_lt_self (by omega) (by omega)
theorem dgs_lt {B u : Nat} (h : u < B) : dgs B u = [dgt u] := by rw [dgs, dif_pos (.inl h)]
theorem dgs_ge {B u : Nat} (h : B ≤ u) (hB : 2 ≤ B) : dgs B u = dgs B (u / B) ++ [dgt (u % B)] := by rw [dgs, dif_neg (by omega)]
theorem dgs_ne (B u : Nat) : dgs B u ≠ [] := by rw [dgs]; split <;> simp
theorem dgs_ind {B : Nat} (hB : 2 ≤ B) {P : Nat → Prop} (h0 : ∀ u, u < B → P u) (h1 : ∀ u, B ≤ u → P (u / B) → P u) (u : Nat) : P u := by
  induction u using Nat.strongRecOn with
  | ind u ih =>
    by_cases h : u < B
    · exact h0 u h
    · exact h1 u (by omega) (ih (u / B) (Nat.div_lt_self (by omega) (by omega)))
theorem dgt_nu {d : Nat} (h : d < 16) : nuB (dgt d) = true := by
  have : ∀ d : Nat, d < 16 → nuB (dgt d) = true := by decide
  exact this d h
theorem dgs16_nu (u : Nat) : NuL (dgs 16 u) := by
  refine dgs_ind (B := 16) (by omega) (P := fun u => NuL (dgs 16 u)) (fun u h => ?_) (fun u h ih => ?_) u
  · rw [dgs_lt h]; intro c hc; obtain rfl : c = dgt u := (by simpa using hc); exact dgt_nu h
  · rw [dgs_ge h (by omega)]; intro c hc
    rcases List.mem_append.1 hc with e | e
    · exact ih c e
    · obtain rfl : c = dgt (u % 16) := by simpa using e
      exact dgt_nu (by omega)
theorem dgs10_dig (u : Nat) : ∀ c ∈ dgs 10 u, 48 ≤ c ∧ c ≤ 57 := by
  refine dgs_ind (B := 10) (by omega) (P := fun u => ∀ c ∈ dgs 10 u, 48 ≤ c ∧ c ≤ 57) (fun u h => ?_) (fun u h ih => ?_) u
  · rw [dgs_lt h]; intro c hc; obtain rfl : c = dgt u := (by simpa using hc); unfold dgt; rw [if_pos (by omega)]; omega
  · rw [dgs_ge h (by omega)]; intro c hc
    rcases List.mem_append.1 hc with e | e
    · exact ih c e
    · obtain rfl : c = dgt (u % 10) := by simpa using e
      unfold dgt; rw [if_pos (by omega)]; omega
theorem hxV_snoc (l : List Int) (c : Int) : hxV (l ++ [c]) = 16 * hxV l + (if c ≤ 57 then c - 48 else c - 55) := by unfold hxV; rw [List.foldl_append]; rfl
theorem dgs16_val (u : Nat) : hxV (dgs 16 u) = u := by
  have hd : ∀ d : Nat, d < 16 → (if dgt d ≤ 57 then dgt d - 48 else dgt d - 55) = (d : Int) := by decide
  refine dgs_ind (B := 16) (by omega) (P := fun u => hxV (dgs 16 u) = u) (fun u h => ?_) (fun u h ih => ?_) u
  · rw [dgs_lt h]
    show 16 * 0 + (if dgt u ≤ 57 then dgt u - 48 else dgt u - 55) = _
    rw [hd u h]; omega
  · rw [dgs_ge h (by omega), hxV_snoc, ih, hd _ (by omega)]; omega
theorem dgs10_val (u : Nat) : dcV (dgs 10 u) = u := by
  refine dgs_ind (B := 10) (by omega) (P := fun u => dcV (dgs 10 u) = u) (fun u h => ?_) (fun u h ih => ?_) u
  · rw [dgs_lt h]
    show 10 * 0 + (dgt u - 48) = _
    unfold dgt; rw [if_pos (by omega)]; omega
  · rw [dgs_ge h (by omega), dcV_snoc, ih]
    unfold dgt; rw [if_pos (by omega)]; omega
theorem dgs16_len (k : Nat) : ∀ u : Nat, u < 16 ^ (k + 1) → (dgs 16 u).length ≤ k + 1 := by
  induction k with
  | zero => intro u h; rw [dgs_lt (by simpa using h)]; simp
  | succ k ih =>
    intro u h
    by_cases h1 : u < 16
    · rw [dgs_lt h1]; simp
    · rw [dgs_ge (by omega) (by omega), List.length_append]
      have := ih (u / 16) (by rw [Nat.pow_succ] at h; omega)
      simp; omega
theorem dgs_len10 (k : Nat) : ∀ u : Nat, u < 10 ^ (k + 1) → (dgs 10 u).length ≤ k + 1 := by
  induction k with
  | zero => intro u h; rw [dgs_lt (by simpa using h)]; simp
  | succ k ih =>
    intro u h
    by_cases h1 : u < 10
    · rw [dgs_lt h1]; simp
    · rw [dgs_ge (by omega) (by omega), List.length_append]
      have := ih (u / 10) (by rw [Nat.pow_succ] at h; omega)
      simp; omega
theorem noz_rep (n : Nat) (l : List Int) : noz (List.replicate n 48 ++ l) = noz l := by
  induction n with
  | zero => rfl
  | succ n ih =>
    rw [List.replicate_succ, List.cons_append]
    unfold noz at *
    rw [List.dropWhile_cons, if_pos (by simp)]
    exact ih
theorem hxV_noz (l : List Int) : hxV (noz l) = hxV l := by
  induction l with
  | nil => rfl
  | cons c r ih =>
    unfold noz at *
    rw [List.dropWhile_cons]
    split
    · rename_i h
      have h : c = 48 := by simpa using h
      subst h
      rw [ih]; rfl
    · rfl
theorem dcV_noz (l : List Int) : dcV (noz l) = dcV l := by
  induction l with
  | nil => rfl
  | cons c r ih =>
    unfold noz at *
    rw [List.dropWhile_cons]
    split
    · rename_i h
      have h : c = 48 := by simpa using h
      subst h
      rw [ih]; rfl
    · rfl
theorem noz_le (l : List Int) : (noz l).length ≤ l.length := (List.dropWhile_sublist _).length_le
/-- a text of digits with noughts ahead, in hexadecimal -/
theorem hexF_dgs (n u : Nat) (h : u < 4294967296) : hexF (List.replicate n 48 ++ dgs 16 u) = some (u : Int) := by
  unfold hexF
  rw [noz_rep, if_neg, hxV_noz, dgs16_val]
  have h1 := noz_le (dgs 16 u)
  have h2 := dgs16_len 7 u (by omega)
  omega
theorem decF_dgs (n u : Nat) : decF (List.replicate n 48 ++ dgs 10 u) = if u ≤ 2147483647 then some (u : Int) else none := by
  unfold decF
  rw [noz_rep, dcV_noz, dgs10_val]
  have hd : (noz (dgs 10 u)).all digB = true := List.all_eq_true.2 fun c hc => by
    have := dgs10_dig u c (noz_sub _ c hc)
    unfold digB
    simpa using this
  rw [hd]
  by_cases h : u ≤ 2147483647
  · rw [if_pos ⟨rfl, by omega⟩, if_pos h]
  · rw [if_neg (by omega), if_neg h]
/-- a source that is a number -/
theorem new_num {t r : List Int} (ht : NuL t) (hl : (t ++ r).length ≤ 65535) (hdd : digB (hd (t ++ r)) = true) (hne : t ≠ []) (hr : nuB (hd r) = false) : newF (t ++ r) = numV { begF { wsF 57 29 with src := t ++ r } 0 with sym := if hd r = 88 then 27 else 26, at_ := if hd r = 72 ∨ hd r = 88 then t.length + 1 else t.length } (if hd r = 72 then hexF t else if hd r = 88 then (hexF t).bind (fun v => if v ≤ 255 then some v else none) else decF t) := by
  have hn0 : t ++ r ≠ [] := by simp [hne]
  have hh := hdd
  unfold digB at hh
  simp only [decide_eq_true_eq] at hh
  have e1 : bl (t ++ r) = (true, t ++ r) := by rw [bl, dif_neg hn0, if_neg (by omega), if_neg (by omega)]
  unfold newF
  rw [if_neg (by omega)]
  unfold getF
  rw [if_neg (by simp [wsF])]
  show (if (bl ((t ++ r).drop 0)).1 = true then tokF (begF _ ((t ++ r).length - (bl ((t ++ r).drop 0)).2.length)) else _) = _
  rw [List.drop_zero, e1, if_pos rfl]
  show tokF (begF { wsF 57 29 with src := t ++ r } ((t ++ r).length - (t ++ r).length)) = _
  rw [Nat.sub_self]
  unfold tokF
  have hp : 0 < (t ++ r).length := List.length_pos_iff.2 hn0
  have hnth : nth (t ++ r) 0 = Go.Proofs.YthpdgghjaglhnaaDoor.hd (t ++ r) := by rw [← hd_drop]; rfl
  rw [if_neg (by show ¬ (t ++ r).length ≤ 0; omega)]
  have e2 : letB (nth (t ++ r) 0) = false := by rw [hnth]; unfold letB; rw [decide_eq_false (by omega)]
  have e3 : digB (nth (t ++ r) 0) = true := by rw [hnth]; exact hdd
  show (if letB (nth (t ++ r) 0) = true then _ else if digB (nth (t ++ r) 0) = true then numF _ else _) = _
  rw [e2, if_neg (by simp), e3, if_pos rfl]
  have htw : (t ++ r).takeWhile nuB = t := by
    rw [List.takeWhile_append_of_pos ht]
    have : r.takeWhile nuB = [] := by
      cases r with
      | nil => rfl
      | cons c r => rw [List.takeWhile_cons]; rw [show nuB c = false from hr]; rfl
    rw [this, List.append_nil]
  have hk : tw nuB ((t ++ r).drop 0) = t.length := by unfold tw; rw [List.drop_zero, htw]
  unfold numF
  show numV { begF { wsF 57 29 with src := t ++ r } 0 with sym := if nth (t ++ r) (0 + tw nuB ((t ++ r).drop 0)) = 88 then 27 else 26, at_ := if nth (t ++ r) (0 + tw nuB ((t ++ r).drop 0)) = 72 ∨ nth (t ++ r) (0 + tw nuB ((t ++ r).drop 0)) = 88 then 0 + tw nuB ((t ++ r).drop 0) + 1 else 0 + tw nuB ((t ++ r).drop 0) } (if nth (t ++ r) (0 + tw nuB ((t ++ r).drop 0)) = 72 then hexF (((t ++ r).drop 0).take (tw nuB ((t ++ r).drop 0))) else if nth (t ++ r) (0 + tw nuB ((t ++ r).drop 0)) = 88 then (hexF (((t ++ r).drop 0).take (tw nuB ((t ++ r).drop 0)))).bind (fun v => if v ≤ 255 then some v else none) else decF (((t ++ r).drop 0).take (tw nuB ((t ++ r).drop 0)))) = _
  have hnt : nth (t ++ r) t.length = Go.Proofs.YthpdgghjaglhnaaDoor.hd r := by rw [← hd_drop, List.drop_left]
  rw [hk, Nat.zero_add, hnt, List.drop_zero, List.take_left]
end Go.Proofs.YthpdgghjaglhnaaDoor

/-
  Instructions' texts: unlike instructions that may be have unlike texts. Plain lists of bytes; nothing of the program.
-/
import Derived.Test.YtbhnkfhikjhaoaaDoorMeansN
import Derived.Test.YtbhnkfhikjhaoaaDoorText
import Derived.Test.YtbhnkfhikjhaoaaDoorIsaB
namespace Go.Proofs.YtbhnkfhikjhaoaaDoor
open Go.ChangeShapes Go.WideShapes Go.ChangeAt Go.RowKit
set_option linter.unusedVariables false
set_option linter.unusedSimpArgs false
noncomputable section
theorem decDigits_inj {a b : Nat} (h : Lib.decDigits a = Lib.decDigits b) : a = b := by
  have := congrArg dval h
  rw [dval_decDigits, dval_decDigits] at this
  omega
theorem decDigits_cons (u : Nat) : ∃ c r, Lib.decDigits u = c :: r ∧ isDig c := by
  have h := decDigits_pos u
  cases e : Lib.decDigits u with
  | nil => rw [e] at h; simp at h
  | cons c r => exact ⟨c, r, rfl, decDigits_dig u c (by rw [e]; simp)⟩
theorem itoa_inj {m n : Int} (h : Lib.itoa m = Lib.itoa n) : m = n := by
  unfold Lib.itoa at h
  by_cases hm : m < 0 <;> by_cases hn : n < 0
  · rw [if_pos hm, if_pos hn] at h
    have := decDigits_inj (List.cons.inj h).2
    omega
  · rw [if_pos hm, if_neg hn] at h
    obtain ⟨c, r, e, hd⟩ := decDigits_cons n.toNat
    rw [e] at h
    have := (List.cons.inj h).1
    subst this
    unfold isDig at hd
    simp at hd
  · rw [if_neg hm, if_pos hn] at h
    obtain ⟨c, r, e, hd⟩ := decDigits_cons m.toNat
    rw [e] at h
    have := (List.cons.inj h).1
    subst this
    unfold isDig at hd
    simp at hd
  · rw [if_neg hm, if_neg hn] at h
    have := decDigits_inj h
    omega
theorem itoa_cons (n : Int) : ∃ c r, Lib.itoa n = c :: r ∧ c.toNat ≤ 57 := by
  unfold Lib.itoa
  split
  · exact ⟨45, _, rfl, by decide⟩
  · obtain ⟨c, r, e, hd⟩ := decDigits_cons n.toNat
    exact ⟨c, r, e, hd.2⟩
theorem itoa_blank (n : Int) : (32 : UInt8) ∉ Lib.itoa n := by
  have hd : ∀ u, (32 : UInt8) ∉ Lib.decDigits u := fun u h => by
    have := (decDigits_dig u 32 h).1
    simp at this
  unfold Lib.itoa
  split
  · intro h
    rcases List.mem_cons.1 h with h | h
    · exact absurd h (by decide)
    · exact hd _ h
  · exact hd _
/-! ### texts joined by blanks -/
def joinB : List (List UInt8) → List UInt8
  | [] => []
  | [p] => p
  | p :: q :: r => p ++ 32 :: joinB (q :: r)
theorem cut_blank : ∀ {x y : List UInt8} {r s : List UInt8}, (32 : UInt8) ∉ x → (32 : UInt8) ∉ y → x ++ 32 :: r = y ++ 32 :: s → x = y ∧ r = s
  | [], [], r, s, _, _, h => ⟨rfl, by simpa using h⟩
  | [], b :: y, r, s, _, hy, h => by
    have := (List.cons.inj h).1
    subst this
    exact absurd (List.mem_cons_self ..) hy
  | a :: x, [], r, s, hx, _, h => by
    have := (List.cons.inj h).1
    subst this
    exact absurd (List.mem_cons_self ..) hx
  | a :: x, b :: y, r, s, hx, hy, h => by
    obtain ⟨h1, h2⟩ := List.cons.inj h
    obtain ⟨e1, e2⟩ := cut_blank (fun k => hx (List.mem_cons_of_mem _ k)) (fun k => hy (List.mem_cons_of_mem _ k)) h2
    exact ⟨by rw [h1, e1], e2⟩
theorem joinB_inj : ∀ {p q : List (List UInt8)}, p ≠ [] → q ≠ [] → (∀ x ∈ p, (32 : UInt8) ∉ x) → (∀ x ∈ q, (32 : UInt8) ∉ x) → joinB p = joinB q → p = q
  | [], _, h, _, _, _, _ => absurd rfl h
  | _, [], _, h, _, _, _ => absurd rfl h
  | [a], [b], _, _, _, _, h => by rw [show a = b from h]
  | [a], b :: c :: r, _, _, hp, _, h => by
    have : (32 : UInt8) ∈ a := by rw [show a = b ++ 32 :: joinB (c :: r) from h]; simp
    exact absurd this (hp a (List.mem_cons_self ..))
  | b :: c :: r, [a], _, _, _, hq, h => by
    have : (32 : UInt8) ∈ a := by rw [show a = b ++ 32 :: joinB (c :: r) from h.symm]; simp
    exact absurd this (hq a (List.mem_cons_self ..))
  | a :: b :: r, c :: d :: s, _, _, hp, hq, h => by
    obtain ⟨e1, e2⟩ := cut_blank (hp a (List.mem_cons_self ..)) (hq c (List.mem_cons_self ..)) h
    rw [e1, joinB_inj (by simp) (by simp) (fun x hx => hp x (List.mem_cons_of_mem _ hx)) (fun x hx => hq x (List.mem_cons_of_mem _ hx)) e2]
/-! ### an instruction's text -/
def opT : List (List UInt8) := [[77, 79, 86], [76, 83, 76], [65, 83, 82], [82, 79, 82], [65, 78, 68], [65, 78, 78], [73, 79, 82], [88, 79, 82], [65, 68, 68], [83, 85, 66], [77, 85, 76], [68, 73, 86]]
def cdT : List (List UInt8) := [[77, 73], [69, 81], [67, 83], [86, 83], [76, 83], [76, 84], [76, 69], [84], [80, 76], [78, 69], [67, 67], [86, 67], [72, 73], [71, 69], [71, 84], [70]]
def opB (n : Int) : List UInt8 := opT.getD n.toNat []
def cdB (n : Int) : List UInt8 := cdT.getD n.toNat []
def regB (n : Int) : List UInt8 := 82 :: Lib.itoa n
def lastB (I : Ins) : List UInt8 := if I.form = 0 then regB I.c else Lib.itoa (wrap32 (valI I.u I.v I.op I.im))
def partsI (I : Ins) : List (List UInt8) :=
  if I.form ≤ 1 then
    if I.op = 0 then
      if I.u = true then (if I.form = 0 then [opB I.op, regB I.a, if I.c = 0 then [72] else [70]] else [opB I.op ++ [39, 39], regB I.a, Lib.itoa I.im])
      else [opB I.op, regB I.a, lastB I]
    else [opB I.op ++ (if I.u = true then [39] else []), regB I.a, regB I.b, lastB I]
  else if I.form ≤ 3 then [(if I.form = 2 then [76, 68] else [83, 84]) ++ (if I.v = true then [66] else [87]), regB I.a, regB I.b, Lib.itoa I.off]
  else if I.form = 4 then [if I.v = true then [66, 76] else [66], cdB I.cond, Lib.itoa I.off]
  else if I.form = 5 then [if I.v = true then [66, 76] else [66], cdB I.cond, regB I.c]
  else [if I.n < 16 then [84, 82, 65, 80] else [83, 89, 83], cdB I.cond, Lib.itoa I.n]
def textI (I : Ins) : List UInt8 := joinB (partsI I)
/-! what an instruction is by its text's parts -/
open Classical in
def unI (l : List UInt8) : Int := if h : ∃ n, Lib.itoa n = l then Classical.choose h else 0
theorem unI_itoa (n : Int) : unI (Lib.itoa n) = n := by
  unfold unI
  have h : ∃ m, Lib.itoa m = Lib.itoa n := ⟨n, rfl⟩
  rw [dif_pos h]
  exact itoa_inj (Classical.choose_spec h)
def unR (l : List UInt8) : Int := unI l.tail
theorem unR_reg (n : Int) : unR (regB n) = n := unI_itoa n
def unC (l : List UInt8) : Int := (cdT.findIdx (· == l) : Nat)
theorem unC_cd (n : Int) (h0 : 0 ≤ n) (h1 : n ≤ 15) : unC (cdB n) = n := by
  obtain ⟨k, rfl⟩ := Int.eq_ofNat_of_zero_le h0
  have key : ∀ k : Fin 16, unC (cdB ((k.val : Nat) : Int)) = (k.val : Int) := by decide +kernel
  exact key ⟨k, by omega⟩
/-- a number for what stands first -/
def heads : List (List UInt8 × Int) := (List.range 12).flatMap (fun k : Nat => [(opB (k : Int), 10 * (k : Int)), (opB (k : Int) ++ [39], 10 * (k : Int) + 1)]) ++ [([77, 79, 86, 39, 39], 2), ([76, 68, 87], 200), ([76, 68, 66], 201), ([83, 84, 87], 210), ([83, 84, 66], 211), ([66], 220), ([66, 76], 221), ([84, 82, 65, 80], 230), ([83, 89, 83], 230)]
def code (l : List UInt8) : Int := ((heads.find? (fun x => x.1 == l)).map (·.2)).getD (-1)
theorem code_op (n : Int) (h0 : 0 ≤ n) (h1 : n ≤ 11) : code (opB n) = 10 * n ∧ code (opB n ++ [39]) = 10 * n + 1 := by
  obtain ⟨k, rfl⟩ := Int.eq_ofNat_of_zero_le h0
  have key : ∀ k : Fin 12, code (opB ((k.val : Nat) : Int)) = 10 * (k.val : Int) ∧ code (opB ((k.val : Nat) : Int) ++ [39]) = 10 * (k.val : Int) + 1 := by decide +kernel
  exact key ⟨k, by omega⟩
theorem code_fix : code [77, 79, 86, 39, 39] = 2 ∧ code [76, 68, 87] = 200 ∧ code [76, 68, 66] = 201 ∧ code [83, 84, 87] = 210 ∧ code [83, 84, 66] = 211 ∧ code [66] = 220 ∧ code [66, 76] = 221 ∧ code [84, 82, 65, 80] = 230 ∧ code [83, 89, 83] = 230 := by decide +kernel
theorem op_blank (n : Int) (h0 : 0 ≤ n) (h1 : n ≤ 11) : (32 : UInt8) ∉ opB n := by
  obtain ⟨k, rfl⟩ := Int.eq_ofNat_of_zero_le h0
  have key : ∀ k : Fin 12, (32 : UInt8) ∉ opB ((k.val : Nat) : Int) := by decide +kernel
  exact key ⟨k, by omega⟩
theorem cd_blank (n : Int) (h0 : 0 ≤ n) (h1 : n ≤ 15) : (32 : UInt8) ∉ cdB n := by
  obtain ⟨k, rfl⟩ := Int.eq_ofNat_of_zero_le h0
  have key : ∀ k : Fin 16, (32 : UInt8) ∉ cdB ((k.val : Nat) : Int) := by decide +kernel
  exact key ⟨k, by omega⟩
theorem reg_blank (n : Int) : (32 : UInt8) ∉ regB n := fun h => by
  rcases List.mem_cons.1 h with h | h
  · exact absurd h (by decide)
  · exact itoa_blank n h
def fst (l : List UInt8) : Nat := (l.headD 0).toNat
theorem fst_reg (n : Int) : fst (regB n) = 82 := rfl
theorem fst_itoa (n : Int) : fst (Lib.itoa n) ≤ 57 := by
  obtain ⟨c, r, e, h⟩ := itoa_cons n
  rw [e]; exact h
def un (p : List (List UInt8)) : Ins :=
  let k := code (p.getD 0 [])
  let p1 := p.getD 1 []
  let p2 := p.getD 2 []
  let p3 := p.getD 3 []
  if k < 200 then
    if k = 2 then ⟨1, true, false, unR p1, 0, 0, 0, unI p2, 0, 0, 0⟩
    else if k = 0 then
      (if fst p2 = 72 then ⟨0, true, false, unR p1, 0, 0, 0, 0, 0, 0, 0⟩
      else if fst p2 = 70 then ⟨0, true, false, unR p1, 0, 1, 0, 0, 0, 0, 0⟩
      else if fst p2 = 82 then ⟨0, false, false, unR p1, 0, unR p2, 0, 0, 0, 0, 0⟩
      else ⟨1, false, decide (unI p2 < 0), unR p1, 0, 0, 0, unI p2 % 65536, 0, 0, 0⟩)
    else if fst p3 = 82 then ⟨0, k % 10 == 1, false, unR p1, unR p2, unR p3, k / 10, 0, 0, 0, 0⟩
    else ⟨1, k % 10 == 1, decide (unI p3 < 0), unR p1, unR p2, 0, k / 10, unI p3 % 65536, 0, 0, 0⟩
  else if k < 220 then ⟨k / 10 - 18, false, k % 10 == 1, unR p1, unR p2, 0, 0, 0, unI p3, 0, 0⟩
  else if k < 230 then (if fst p2 = 82 then ⟨5, false, k % 10 == 1, 0, 0, unR p2, 0, 0, 0, unC p1, 0⟩ else ⟨4, false, k % 10 == 1, 0, 0, 0, 0, 0, unI p2, unC p1, 0⟩)
  else ⟨6, false, false, 0, 0, 0, 0, 0, 0, unC p1, unI p2⟩
theorem mov_may {f : Int} {u v : Bool} {b c : Int} (h : mayOpB f u v b c 0 = true) : b = 0 ∧ (u = true → (f = 1 → v = false) ∧ (f = 0 → c ≤ 1)) := by
  unfold mayOpB at h
  rw [if_pos rfl] at h
  cases u <;> cases v <;> simp at h ⊢ <;> omega
theorem val_low (u v : Bool) (op im : Int) (h0 : 0 ≤ im) (h1 : im ≤ 65535) (h : ¬ (u = true ∧ op = 0)) : decide (wrap32 (valI u v op im) < 0) = v ∧ wrap32 (valI u v op im) % 65536 = im := by
  unfold valI
  rw [if_neg h]
  cases v
  · simp only [Bool.false_eq_true, if_false]
    unfold wrap32
    refine ⟨by simp; omega, by omega⟩
  · simp only [if_true]
    unfold wrap32
    refine ⟨by simp; omega, by omega⟩
theorem un_parts (I : Ins) (h : MayIs I) : un (partsI I) = I := by
  obtain ⟨f0, f1, a0, a1, b0, b1, c0, c1, o0, o1, m0, m1, k0, k1, n0, n1, hr, hi, hl, hj, ht, hs⟩ := h
  obtain ⟨x1, x2⟩ := code_op I.op o0 o1
  obtain ⟨y0, y1, y2, y3, y4, y5, y6, y7, y8⟩ := code_fix
  unfold partsI
  by_cases h01 : I.form ≤ 1
  · rw [if_pos h01]
    by_cases ho : I.op = 0
    · rw [if_pos ho]
      rw [ho] at x1
      cases hu : I.u with
      | true =>
        rw [if_pos rfl]
        by_cases h0 : I.form = 0
        · obtain ⟨g1, g2, g3, g4, g5, g6⟩ := hr h0
          rw [ho, hu] at g6
          obtain ⟨g7, g8⟩ := mov_may g6
          have g9 := (g8 rfl).2 rfl
          rw [if_pos h0, ho]
          by_cases hc : I.c = 0
          · rw [if_pos hc]
            simp only [un, List.getD_cons_zero, List.getD_cons_succ, x1, unR_reg]
            rw [if_pos (by omega), if_neg (by omega), if_pos (by omega), if_pos (by decide)]
            exact ins_eta I h0 hu g1 rfl g7 hc ho g2 g3 g4 g5
          · rw [if_neg hc]
            simp only [un, List.getD_cons_zero, List.getD_cons_succ, x1, unR_reg]
            rw [if_pos (by omega), if_neg (by omega), if_pos (by omega), if_neg (by decide), if_pos (by decide)]
            exact ins_eta I h0 hu g1 rfl g7 (by omega) ho g2 g3 g4 g5
        · obtain ⟨g1, g2, g3, g4, g5⟩ := hi (by omega)
          rw [ho, hu] at g5
          obtain ⟨g7, g8⟩ := mov_may g5
          have g9 := (g8 rfl).1 rfl
          rw [if_neg h0, ho, show opB 0 ++ [39, 39] = [77, 79, 86, 39, 39] from rfl]
          simp only [un, List.getD_cons_zero, List.getD_cons_succ, y0, unR_reg, unI_itoa]
          rw [if_pos (by omega), if_pos trivial]
          exact ins_eta I (by omega) hu g9 rfl g7 g1 ho rfl g2 g3 g4
      | false =>
        rw [if_neg (by simp), ho]
        unfold lastB
        by_cases h0 : I.form = 0
        · obtain ⟨g1, g2, g3, g4, g5, g6⟩ := hr h0
          rw [ho, hu] at g6
          obtain ⟨g7, g8⟩ := mov_may g6
          rw [if_pos h0]
          simp only [un, List.getD_cons_zero, List.getD_cons_succ, x1, unR_reg, fst_reg]
          rw [if_pos (by omega), if_neg (by omega), if_pos (by omega), if_neg (by omega), if_neg (by omega), if_pos trivial]
          exact ins_eta I h0 hu g1 rfl g7 rfl ho g2 g3 g4 g5
        · obtain ⟨g1, g2, g3, g4, g5⟩ := hi (by omega)
          rw [ho, hu] at g5
          obtain ⟨g7, g8⟩ := mov_may g5
          rw [if_neg h0, hu, ho]
          obtain ⟨v1, v2⟩ := val_low false I.v 0 I.im m0 m1 (by simp)
          have hf := fst_itoa (wrap32 (valI false I.v 0 I.im))
          simp only [un, List.getD_cons_zero, List.getD_cons_succ, x1, unR_reg, unI_itoa, v1, v2]
          rw [if_pos (by omega), if_neg (by omega), if_pos (by omega), if_neg (by omega), if_neg (by omega), if_neg (by omega)]
          exact ins_eta I (by omega) hu rfl rfl g7 g1 ho rfl g2 g3 g4
    · rw [if_neg ho]
      have hk : ∃ k, code (opB I.op ++ (if I.u = true then [39] else [])) = k ∧ (k % 10 == 1) = I.u ∧ k / 10 = I.op ∧ k < 200 ∧ k ≠ 2 ∧ k ≠ 0 := by
        cases hu : I.u with
        | true => exact ⟨_, x2, by rw [show (10 * I.op + 1) % 10 = 1 by omega]; rfl, by omega, by omega, by omega, by omega⟩
        | false =>
          refine ⟨10 * I.op, ?_, by rw [show (10 * I.op) % 10 = 0 by omega]; rfl, by omega, by omega, by omega, by omega⟩
          rw [if_neg (by simp), List.append_nil]; exact x1
      obtain ⟨k, e0, e1, e2, e3, e4, e5⟩ := hk
      unfold lastB
      by_cases h0 : I.form = 0
      · obtain ⟨g1, g2, g3, g4, g5, g6⟩ := hr h0
        rw [if_pos h0]
        simp only [un, List.getD_cons_zero, List.getD_cons_succ, e0, unR_reg, fst_reg]
        rw [if_pos e3, if_neg e4, if_neg e5, if_pos trivial]
        exact ins_eta I h0 e1.symm g1 rfl rfl rfl e2.symm g2 g3 g4 g5
      · obtain ⟨g1, g2, g3, g4, g5⟩ := hi (by omega)
        rw [if_neg h0]
        obtain ⟨v1, v2⟩ := val_low I.u I.v I.op I.im m0 m1 (fun h => ho h.2)
        have hf := fst_itoa (wrap32 (valI I.u I.v I.op I.im))
        simp only [un, List.getD_cons_zero, List.getD_cons_succ, e0, unR_reg, unI_itoa, v1, v2]
        rw [if_pos e3, if_neg e4, if_neg e5, if_neg (by omega)]
        exact ins_eta I (by omega) e1.symm rfl rfl rfl g1 e2.symm rfl g2 g3 g4
  rw [if_neg h01]
  by_cases h23 : I.form ≤ 3
  · obtain ⟨g1, g2, g3, g4, g5, g6, g7, g8⟩ := hl (by omega)
    rw [if_pos h23]
    have hk : ∃ k, code ((if I.form = 2 then [76, 68] else [83, 84]) ++ (if I.v = true then [66] else [87])) = k ∧ (k % 10 == 1) = I.v ∧ k / 10 - 18 = I.form ∧ ¬ k < 200 ∧ k < 220 := by
      by_cases h2 : I.form = 2 <;> cases hv : I.v
      · rw [if_pos h2]; exact ⟨200, y1, rfl, by omega, by omega, by omega⟩
      · rw [if_pos h2]; exact ⟨201, y2, rfl, by omega, by omega, by omega⟩
      · rw [if_neg h2]; exact ⟨210, y3, rfl, by omega, by omega, by omega⟩
      · rw [if_neg h2]; exact ⟨211, y4, rfl, by omega, by omega, by omega⟩
    obtain ⟨k, e0, e1, e2, e3, e4⟩ := hk
    simp only [un, List.getD_cons_zero, List.getD_cons_succ, e0, unR_reg, unI_itoa]
    rw [if_neg e3, if_pos e4]
    exact ins_eta I e2.symm g1 e1.symm rfl rfl g2 g3 g4 rfl g5 g6
  rw [if_neg h23]
  have hb : ∃ k, code (if I.v = true then [66, 76] else [66]) = k ∧ (k % 10 == 1) = I.v ∧ ¬ k < 200 ∧ ¬ k < 220 ∧ k < 230 := by
    cases hv : I.v
    · exact ⟨220, y5, rfl, by omega, by omega, by omega⟩
    · exact ⟨221, y6, rfl, by omega, by omega, by omega⟩
  have hc := unC_cd I.cond k0 k1
  by_cases h4 : I.form = 4
  · obtain ⟨g1, g2, g3, g4, g5, g6, g7, g8, g9⟩ := hj h4
    obtain ⟨k, e0, e1, e2, e3, e4⟩ := hb
    rw [if_pos h4]
    have hf := fst_itoa I.off
    simp only [un, List.getD_cons_zero, List.getD_cons_succ, e0, hc, unI_itoa]
    rw [if_neg e2, if_neg e3, if_pos e4, if_neg (by omega)]
    exact ins_eta I h4 g1 e1.symm g2 g3 g4 g5 g6 rfl rfl g7
  rw [if_neg h4]
  by_cases h5 : I.form = 5
  · obtain ⟨g1, g2, g3, g4, g5, g6, g7, g8⟩ := ht h5
    obtain ⟨k, e0, e1, e2, e3, e4⟩ := hb
    rw [if_pos h5]
    simp only [un, List.getD_cons_zero, List.getD_cons_succ, e0, hc, unR_reg, fst_reg]
    rw [if_neg e2, if_neg e3, if_pos e4, if_pos trivial]
    exact ins_eta I h5 g1 e1.symm g2 g3 rfl g4 g5 g6 rfl g7
  rw [if_neg h5]
  obtain ⟨g1, g2, g3, g4, g5, g6, g7, g8⟩ := hs (by omega)
  have hk : code (if I.n < 16 then [84, 82, 65, 80] else [83, 89, 83]) = 230 := by
    split
    · exact y7
    · exact y8
  simp only [un, List.getD_cons_zero, List.getD_cons_succ, hk, hc, unI_itoa]
  rw [if_neg (by omega), if_neg (by omega), if_neg (by omega)]
  exact ins_eta I (by omega) g1 g2 g3 g4 g5 g6 g7 g8 rfl rfl
theorem parts_blank (I : Ins) (h : MayIs I) : partsI I ≠ [] ∧ ∀ x ∈ partsI I, (32 : UInt8) ∉ x := by
  have hop := op_blank I.op h.o0 h.o1
  have hcd := cd_blank I.cond h.k0 h.k1
  have hlast : (32 : UInt8) ∉ lastB I := by unfold lastB; split; exact reg_blank _; exact itoa_blank _
  have happ : ∀ x y : List UInt8, (32 : UInt8) ∉ x → (32 : UInt8) ∉ y → (32 : UInt8) ∉ x ++ y := fun x y hx hy hm => (List.mem_append.1 hm).elim hx hy
  have h3 : ∀ x y z : List UInt8, (32 : UInt8) ∉ x → (32 : UInt8) ∉ y → (32 : UInt8) ∉ z → [x, y, z] ≠ [] ∧ ∀ u ∈ [x, y, z], (32 : UInt8) ∉ u := fun x y z hx hy hz => ⟨by simp, fun u hu => by
    simp only [List.mem_cons, List.not_mem_nil, or_false] at hu
    rcases hu with rfl | rfl | rfl <;> assumption⟩
  have h4 : ∀ x y z t : List UInt8, (32 : UInt8) ∉ x → (32 : UInt8) ∉ y → (32 : UInt8) ∉ z → (32 : UInt8) ∉ t → [x, y, z, t] ≠ [] ∧ ∀ u ∈ [x, y, z, t], (32 : UInt8) ∉ u := fun x y z t hx hy hz ht => ⟨by simp, fun u hu => by
    simp only [List.mem_cons, List.not_mem_nil, or_false] at hu
    rcases hu with rfl | rfl | rfl | rfl <;> assumption⟩
  unfold partsI
  split
  · split
    · split
      · split
        · exact h3 _ _ _ hop (reg_blank _) (by split <;> decide)
        · exact h3 _ _ _ (happ _ _ hop (by decide)) (reg_blank _) (itoa_blank _)
      · exact h3 _ _ _ hop (reg_blank _) hlast
    · exact h4 _ _ _ _ (happ _ _ hop (by split <;> decide)) (reg_blank _) (reg_blank _) hlast
  · split
    · exact h4 _ _ _ _ (happ _ _ (by split <;> decide) (by split <;> decide)) (reg_blank _) (reg_blank _) (itoa_blank _)
    · split
      · exact h3 _ _ _ (by split <;> decide) hcd (itoa_blank _)
      · split
        · exact h3 _ _ _ (by split <;> decide) hcd (reg_blank _)
        · exact h3 _ _ _ (by split <;> decide) hcd (itoa_blank _)
theorem text_inj (I J : Ins) (hI : MayIs I) (hJ : MayIs J) (h : textI I = textI J) : I = J := by
  obtain ⟨p1, p2⟩ := parts_blank I hI
  obtain ⟨q1, q2⟩ := parts_blank J hJ
  rw [← un_parts I hI, ← un_parts J hJ, joinB_inj p1 q1 p2 q2 h]
end
end Go.Proofs.YtbhnkfhikjhaoaaDoor

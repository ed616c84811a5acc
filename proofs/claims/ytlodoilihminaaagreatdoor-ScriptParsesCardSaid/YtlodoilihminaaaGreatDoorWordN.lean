/-
  Plain lemmas on words: masks, shifts, turns. Nothing of the program.
-/
import Derived.Test.YtlodoilihminaaaGreatDoorBase
import Derived.Laws.BitsAllLaws
import Derived.Laws.Bits64
namespace Go.Proofs.YtlodoilihminaaaGreatDoor
open Go.ChangeShapes Go.WideShapes Go.ChangeAt Go.RowKit
set_option linter.unusedVariables false

theorem and31 (b : Int) (h0 : 0 ≤ b) (h1 : b ≤ 4294967295) : bits BinOp.and IntKind.u32 b 31 = b % 32 := by
  obtain ⟨n, rfl⟩ := Int.eq_ofNat_of_zero_le h0
  rw [show (31 : Int) = ((31 : Nat) : Int) from rfl, u32_and_nat n 31 (by omega) (by omega)]
  rw [show (31 : Nat) = 2 ^ 5 - 1 from rfl, Nat.and_two_pow_sub_one_eq_mod]
  omega
theorem and31_64 (b : Int) (h0 : 0 ≤ b) (h1 : b ≤ 18446744073709551615) : bits BinOp.and IntKind.u64 b 31 = b % 32 := by
  obtain ⟨n, rfl⟩ := Int.eq_ofNat_of_zero_le h0
  rw [show (31 : Int) = ((31 : Nat) : Int) from rfl, u64_and_nat n 31 (by omega) (by omega)]
  rw [show (31 : Nat) = 2 ^ 5 - 1 from rfl, Nat.and_two_pow_sub_one_eq_mod]
  omega
theorem bit31 (n : Nat) (h : n < 4294967296) : n.testBit 31 = decide (2147483648 ≤ n) := by
  rw [Nat.testBit_eq_decide_div_mod_eq]
  rw [show (2 : Nat) ^ 31 = 2147483648 from rfl]
  rw [Bool.eq_iff_iff]
  simp only [decide_eq_true_eq]
  omega
theorem hi31 (n : Nat) (h : n < 4294967296) : n / 2147483648 = if n.testBit 31 then 1 else 0 := by
  rw [bit31 n h]
  by_cases g : 2147483648 ≤ n
  · simp only [g, decide_true, if_true]; omega
  · simp only [g, decide_false]; simp; omega
theorem max32 : IntKind.u32.max = ((4294967295 : Nat) : Int) := by decide +kernel
/-- the borrow of Hacker's Delight, as bits.Sub32 has it -/
theorem borrow (x y d : Nat) (hx : x < 4294967296) (hy : y < 4294967296) (hd : d < 4294967296) :
    bits BinOp.or IntKind.u32 (bits BinOp.and IntKind.u32 (bits BinOp.xor IntKind.u32 IntKind.u32.max (x : Int)) (y : Int))
      (bits BinOp.and IntKind.u32 (bits BinOp.xor IntKind.u32 IntKind.u32.max (bits BinOp.xor IntKind.u32 (x : Int) (y : Int))) (d : Int)) / 2147483648 =
    if (!decide (2147483648 ≤ x) && decide (2147483648 ≤ y)) || ((decide (2147483648 ≤ x) == decide (2147483648 ≤ y)) && decide (2147483648 ≤ d)) then 1 else 0 := by
  have lt : ∀ a b : Nat, a < 4294967296 → b < 4294967296 → a ^^^ b < 4294967296 := fun a b ha hb => Nat.xor_lt_two_pow (n := 32) ha hb
  have la : ∀ a b : Nat, b < 4294967296 → a &&& b < 4294967296 := fun a b hb => Nat.and_lt_two_pow (n := 32) a hb
  have lo : ∀ a b : Nat, a < 4294967296 → b < 4294967296 → a ||| b < 4294967296 := fun a b ha hb => Nat.or_lt_two_pow (n := 32) ha hb
  rw [max32, u32_xor_nat _ _ (by omega) hx, u32_xor_nat _ _ hx hy, u32_xor_nat _ _ (by omega) (lt _ _ hx hy), u32_and_nat _ _ (lt _ _ (by omega) hx) hy,
    u32_and_nat _ _ (lt _ _ (by omega) (lt _ _ hx hy)) hd, u32_or_nat _ _ (la _ _ hy) (la _ _ hd)]
  rw [show (2147483648 : Int) = ((2147483648 : Nat) : Int) from rfl, ← Int.natCast_ediv, hi31 _ (lo _ _ (la _ _ hy) (la _ _ hd))]
  simp only [Nat.testBit_or, Nat.testBit_and, Nat.testBit_xor]
  rw [bit31 x hx, bit31 y hy, bit31 d hd, show Nat.testBit 4294967295 31 = true from by decide +kernel]
  cases decide (2147483648 ≤ x) <;> cases decide (2147483648 ≤ y) <;> cases decide (2147483648 ≤ d) <;> rfl
theorem borrow_int (x y c : Int) (x0 : 0 ≤ x) (x1 : x ≤ 4294967295) (y0 : 0 ≤ y) (y1 : y ≤ 4294967295) (c0 : 0 ≤ c) (c1 : c ≤ 1) :
    bits BinOp.or IntKind.u32 (bits BinOp.and IntKind.u32 (bits BinOp.xor IntKind.u32 IntKind.u32.max x) y)
      (bits BinOp.and IntKind.u32 (bits BinOp.xor IntKind.u32 IntKind.u32.max (bits BinOp.xor IntKind.u32 x y)) ((x - y - c) % 4294967296)) / 2147483648 =
    if x - y - c < 0 then 1 else 0 := by
  obtain ⟨a, rfl⟩ := Int.eq_ofNat_of_zero_le x0
  obtain ⟨b, rfl⟩ := Int.eq_ofNat_of_zero_le y0
  obtain ⟨d, hd⟩ := Int.eq_ofNat_of_zero_le (show 0 ≤ ((a : Int) - b - c) % 4294967296 by omega)
  rw [hd, borrow a b d (by omega) (by omega) (by omega)]
  by_cases h1 : 2147483648 ≤ a <;> by_cases h2 : 2147483648 ≤ b <;> by_cases h3 : 2147483648 ≤ d <;> by_cases h4 : (a : Int) - b - c < 0 <;> simp [h1, h2, h3, h4] <;> omega

/-! ### closed forms -/
theorem pow_toNat (n : Nat) : (2 : Int) ^ n = ((2 ^ n : Nat) : Int) := by simp
def brw (n : Int) : Int := if n < 0 then 1 else 0
theorem brw_eq (n : Int) : (brw n == 1) = decide (n < 0) := by unfold brw; by_cases h : n < 0 <;> simp [h]
theorem brw_bd (n : Int) : 0 ≤ brw n ∧ brw n ≤ 1 := by unfold brw; split <;> omega
theorem prod32 (x y : Int) (hx : -2147483648 ≤ x ∧ x ≤ 2147483647) (hy : -2147483648 ≤ y ∧ y ≤ 2147483647) : -4611686018427387904 ≤ x * y ∧ x * y ≤ 4611686018427387904 := by
  have h : (x * y).natAbs ≤ 2147483648 * 2147483648 := by
    rw [Int.natAbs_mul]; exact Nat.mul_le_mul (by omega) (by omega)
  omega
theorem neg31 (k : Int) (h0 : 0 ≤ k) (h1 : k ≤ 31) : bits BinOp.and IntKind.u64 (IntKind.u64.wrap (-k)) 31 = (-k) % 32 := by
  rw [and31_64 _ (by rw [IntKind.wrap_u64]; omega) (by rw [IntKind.wrap_u64]; omega), IntKind.wrap_u64]; omega
def lshN (a : Int) (j : Nat) : Int := a * 2 ^ j % 4294967296
def ashN (a : Int) (j : Nat) : Int := w32 (wrap32 a / 2 ^ j)
def trnN (a : Int) (j : Nat) : Int := a / 2 ^ j + a % 2 ^ j * 2 ^ (32 - j)
def lsh (a n : Int) : Int := lshN a (n % 32).toNat
def ash (a n : Int) : Int := ashN a (n % 32).toNat
/-- a word turned to the right by n bits (0 to 31) -/
def trn (a n : Int) : Int := trnN a (n % 32).toNat
theorem lshN_bd (a : Int) (j : Nat) : 0 ≤ lshN a j ∧ lshN a j ≤ 4294967295 := by unfold lshN; omega
theorem ashN_bd (a : Int) (j : Nat) : 0 ≤ ashN a j ∧ ashN a j ≤ 4294967295 := w32_bd _
theorem lshN_zero (a : Int) (h0 : 0 ≤ a) (h1 : a ≤ 4294967295) : lshN a 0 = a := by unfold lshN; simp; omega
theorem ashN_zero (a : Int) (h0 : 0 ≤ a) (h1 : a ≤ 4294967295) : ashN a 0 = a := by unfold ashN w32 wrap32; simp; omega
theorem trnN_zero (a : Int) : trnN a 0 = a := by unfold trnN; simp
theorem lshN_succ (a : Int) (j : Nat) : lshN a (j + 1) = w32 (2 * lshN a j) := by
  unfold lshN w32
  rw [Int.pow_succ, ← Int.mul_assoc]
  generalize a * 2 ^ j = p
  omega
theorem ashN_succ (a : Int) (j : Nat) : ashN a (j + 1) = ashN a j / 2 + ashN a j / 2147483648 * 2147483648 := by
  unfold ashN
  have hw := wrap32_bd a
  rw [Int.pow_succ, ← Int.ediv_ediv_of_nonneg (by exact Int.le_of_lt (Int.pow_pos (by omega)))]
  have hp : (0 : Int) < 2 ^ j := Int.pow_pos (by omega)
  have hs : -2147483648 ≤ wrap32 a / 2 ^ j ∧ wrap32 a / 2 ^ j ≤ 2147483647 := by
    have h1 : (wrap32 a / 2 ^ j) * 2 ^ j ≤ wrap32 a := Int.ediv_mul_le _ (by omega)
    constructor
    · rw [Int.le_ediv_iff_mul_le hp]
      have : (1 : Int) ≤ 2 ^ j := by omega
      have := Int.mul_le_mul_of_nonpos_left (show (-2147483648 : Int) ≤ 0 by omega) this
      omega
    · have : wrap32 a / 2 ^ j < 2147483648 := by
        rw [Int.ediv_lt_iff_lt_mul hp]
        have : (1 : Int) ≤ 2 ^ j := by omega
        have := Int.mul_le_mul_of_nonneg_left this (show (0 : Int) ≤ 2147483648 by omega)
        omega
      omega
  generalize wrap32 a / 2 ^ j = s at hs
  unfold w32
  omega
theorem trnN_succ (a : Int) (j : Nat) (h0 : 0 ≤ a) (hj : j ≤ 30) : trnN a (j + 1) = trnN a j / 2 + trnN a j % 2 * 2147483648 := by
  unfold trnN
  obtain ⟨m, hm⟩ : ∃ m, m + j = 31 := ⟨31 - j, by omega⟩
  have e1 : 32 - j = m + 1 := by omega
  have e2 : 32 - (j + 1) = m := by omega
  rw [e1, e2, Int.pow_succ (2 : Int) m, Int.pow_succ (2 : Int) j]
  have hp : (0 : Int) < 2 ^ j := Int.pow_pos (by omega)
  have hk : (2 : Int) ^ j * 2 ^ m = 2147483648 := by rw [← Int.pow_add, Nat.add_comm, hm]; rfl
  have d1 : a / (2 ^ j * 2) = a / 2 ^ j / 2 := (Int.ediv_ediv_of_nonneg (by omega)).symm
  have d2 : a % (2 ^ j * 2) = a % 2 ^ j + a / 2 ^ j % 2 * 2 ^ j := by
    have f1 := Int.mul_ediv_add_emod a (2 ^ j * 2)
    have f2 := Int.mul_ediv_add_emod a (2 ^ j)
    have f3 := Int.mul_ediv_add_emod (a / 2 ^ j) 2
    rw [d1] at f1
    have : a % (2 ^ j * 2) = 2 ^ j * (a / 2 ^ j) + a % 2 ^ j - 2 ^ j * 2 * (a / 2 ^ j / 2) := by omega
    rw [this]
    have g : 2 ^ j * (a / 2 ^ j) = 2 ^ j * (2 * (a / 2 ^ j / 2) + a / 2 ^ j % 2) := by rw [f3]
    rw [g, Int.mul_add, Int.mul_assoc, Int.mul_comm (a / 2 ^ j % 2)]
    omega
  rw [d1, d2, Int.add_mul, Int.mul_assoc (a / 2 ^ j % 2), hk]
  generalize hq : a / 2 ^ j = q
  generalize ha : a % 2 ^ j = r
  rw [← Int.mul_assoc r]
  generalize r * 2 ^ m = v
  omega
/-! ### the sign of the lowest bits -/
def clampB (b : Int) : Int := if b < 1 then 1 else if 32 < b then 32 else b
theorem clampB_bd (b : Int) : 1 ≤ clampB b ∧ clampB b ≤ 32 := by unfold clampB; split <;> (try split) <;> omega
theorem clampB_eq (b : Int) : (b < 1 → clampB b = 1) ∧ (32 < b → clampB b = 32) ∧ (1 ≤ b → b ≤ 32 → clampB b = b) := by
  unfold clampB; refine ⟨fun h => if_pos h, fun h => ?_, fun h g => ?_⟩
  · rw [if_neg (by omega), if_pos h]
  · rw [if_neg (by omega), if_neg (by omega)]
def sx (a : Int) (k : Nat) : Int := if 2 ^ (k - 1) ≤ a % 2 ^ k then a % 2 ^ k - 2 ^ k else a % 2 ^ k
def ext (a b : Int) : Int := w32 (sx a (clampB b).toNat)
theorem sx_bd (a : Int) (k : Nat) (h1 : 1 ≤ k) (h2 : k ≤ 32) : -2147483648 ≤ sx a k ∧ sx a k ≤ 2147483647 := by
  unfold sx
  obtain ⟨m, rfl⟩ : ∃ m, k = m + 1 := ⟨k - 1, by omega⟩
  have hp : (0 : Int) < 2 ^ m := Int.pow_pos (by omega)
  have hle : (2 : Int) ^ m ≤ 2147483648 := by
    have : (2 : Nat) ^ m ≤ 2 ^ 31 := Nat.pow_le_pow_right (by omega) (by omega)
    rw [pow_toNat]; omega
  have hq : (2 : Int) ^ (m + 1) = 2 * 2 ^ m := by rw [Int.pow_succ, Int.mul_comm]
  have g0 := Int.emod_nonneg a (show (2 : Int) ^ (m + 1) ≠ 0 by omega)
  have g1 := Int.emod_lt_of_pos a (show (0 : Int) < 2 ^ (m + 1) by omega)
  rw [show m + 1 - 1 = m by omega]
  rw [hq] at g0 g1 ⊢
  generalize a % (2 * 2 ^ m) = r at *
  split <;> omega
theorem ext_sh (a : Int) (k : Nat) (h1 : 1 ≤ k) (h2 : k ≤ 32) : wrap32 (a * 2 ^ (32 - k) % 4294967296) / 2 ^ (32 - k) = sx a k := by
  obtain ⟨m, rfl⟩ : ∃ m, k = m + 1 := ⟨k - 1, by omega⟩
  obtain ⟨p, hp⟩ : ∃ p, p = 32 - (m + 1) := ⟨_, rfl⟩
  rw [← hp]
  unfold sx
  rw [show m + 1 - 1 = m by omega]
  have hP : (0 : Int) < 2 ^ p := Int.pow_pos (by omega)
  have hM : (0 : Int) < 2 ^ m := Int.pow_pos (by omega)
  have hMP : (2 : Int) ^ m * 2 ^ p = 2147483648 := by rw [← Int.pow_add, show m + p = 31 by omega]; rfl
  have hq : (2 : Int) ^ (m + 1) = 2 * 2 ^ m := by rw [Int.pow_succ, Int.mul_comm]
  have hall : (4294967296 : Int) = 2 ^ (m + 1) * 2 ^ p := by rw [hq, Int.mul_assoc, hMP]; rfl
  have hmod : a * 2 ^ p % 4294967296 = a % 2 ^ (m + 1) * 2 ^ p := by rw [hall, Int.mul_comm a, Int.mul_comm (2 ^ (m + 1)), Int.mul_emod_mul_of_pos _ _ hP, Int.mul_comm]
  rw [hmod]
  have g0 := Int.emod_nonneg a (show (2 : Int) ^ (m + 1) ≠ 0 by omega)
  have g1 := Int.emod_lt_of_pos a (show (0 : Int) < 2 ^ (m + 1) by omega)
  generalize a % 2 ^ (m + 1) = r at *
  by_cases hc : 2 ^ m ≤ r
  · rw [if_pos hc]
    have h3 : 2147483648 ≤ r * 2 ^ p := by rw [← hMP]; exact Int.mul_le_mul_of_nonneg_right hc (by omega)
    have h4 : r * 2 ^ p < 4294967296 := by rw [hall]; exact Int.mul_lt_mul_of_pos_right g1 hP
    rw [wrap32_hi _ h3 (by omega)]
    rw [hall, ← Int.sub_mul, Int.mul_ediv_cancel _ (by omega)]
  · rw [if_neg hc]
    have h3 : r * 2 ^ p < 2147483648 := by rw [← hMP]; exact Int.mul_lt_mul_of_pos_right (by omega) hP
    rw [wrap32_lo _ (Int.mul_nonneg g0 (by omega)) h3, Int.mul_ediv_cancel _ (by omega)]
theorem ext_of (a b : Int) (k : Nat) (hk : clampB b = k) (j : Nat) (hj : j = 32 - k) : wrap32 (a * 2 ^ j % 4294967296) / 2 ^ j % 4294967296 = ext a b := by
  have h := clampB_bd b
  unfold ext w32
  rw [hk, hj, ext_sh a k (by omega) (by omega), Int.toNat_natCast]
theorem divfix (x y : Int) (hy : 1 ≤ y) : (x.tmod y < 0 → x.tdiv y - 1 = x / y ∧ x.tmod y + y = x % y) ∧ (0 ≤ x.tmod y → x.tdiv y = x / y ∧ x.tmod y = x % y) := by
  have e := Int.mul_tdiv_add_tmod x y
  have f := Int.mul_ediv_add_emod x y
  have m0 := Int.emod_nonneg x (show y ≠ 0 by omega)
  have m1 := Int.emod_lt_of_pos x (show 0 < y by omega)
  have t1 := Int.tmod_lt_of_pos x (show 0 < y by omega)
  have t0 : -y < x.tmod y := Int.lt_tmod_of_pos x (by omega)
  have key : ∀ q r : Int, y * q + r = x → 0 ≤ r → r < y → q = x / y ∧ r = x % y := fun q r h h0 h1 => by
    have := (Int.ediv_emod_unique (a := x) (b := y) (r := r) (q := q) (by omega)).2 ⟨by omega, h0, h1⟩
    exact ⟨this.1.symm, this.2.symm⟩
  refine ⟨fun h => key _ _ ?_ (by omega) (by omega), fun h => key _ _ (by omega) h t1⟩
  rw [Int.mul_sub]; omega
theorem tdiv_bd (x y : Int) (hx : -2147483648 ≤ x ∧ x ≤ 2147483647) (hy : 1 ≤ y) : -2147483648 ≤ x.tdiv y ∧ x.tdiv y ≤ 2147483647 := by
  have h : (x.tdiv y).natAbs ≤ x.natAbs := by rw [Int.natAbs_tdiv]; exact Nat.div_le_self _ _
  by_cases g : 0 ≤ x
  · omega
  · have := Int.tdiv_nonneg (a := -x) (b := y) (by omega) (by omega)
    rw [Int.neg_tdiv] at this
    omega
theorem rotN (a k : Nat) (ha : a < 2 ^ 32) (h0 : 1 ≤ k) (h1 : k ≤ 31) : (a * 2 ^ (32 - k) % 2 ^ 32) ||| (a / 2 ^ k) = a / 2 ^ k + a % 2 ^ k * 2 ^ (32 - k) := by
  have e : (2 : Nat) ^ 32 = 2 ^ k * 2 ^ (32 - k) := by rw [← Nat.pow_add]; congr 1; omega
  have hlt : a / 2 ^ k < 2 ^ (32 - k) := by
    rw [Nat.div_lt_iff_lt_mul (Nat.two_pow_pos k), Nat.mul_comm, ← e]; exact ha
  rw [e, Nat.mul_mod_mul_right, Nat.mul_comm (a % 2 ^ k), ← Nat.two_pow_add_eq_or_of_lt hlt, Nat.add_comm]
theorem rot_or (a k : Int) (a0 : 0 ≤ a) (a1 : a ≤ 4294967295) (b0 : 0 ≤ k) (b1 : k ≤ 31) :
    bits BinOp.or IntKind.u32 (a * 2 ^ (-k % 32).toNat % 4294967296) (a / 2 ^ (32 - -k % 32).toNat) = trn a k := by
  unfold trn trnN
  obtain ⟨n, rfl⟩ := Int.eq_ofNat_of_zero_le a0
  obtain ⟨j, rfl⟩ := Int.eq_ofNat_of_zero_le b0
  by_cases hj : j = 0
  · subst hj
    simp
    rw [show (n : Int) % 4294967296 = ((n : Nat) : Int) by omega, show (n : Int) / 4294967296 = ((0 : Nat) : Int) by omega, u32_or_nat _ _ (by omega) (by omega)]
    simp
  · rw [show (-(j : Int) % 32).toNat = 32 - j by omega, show (32 - -(j : Int) % 32).toNat = j by omega, show ((j : Int) % 32).toNat = j by omega]
    have h := rotN n j (by omega) (by omega) (by omega)
    have l1 : n * 2 ^ (32 - j) % 2 ^ 32 < 4294967296 := Nat.mod_lt _ (by decide)
    have l2 : n / 2 ^ j < 4294967296 := Nat.lt_of_le_of_lt (Nat.div_le_self _ _) (by omega)
    simp only [pow_toNat]
    rw [show ((n : Int) * ((2 ^ (32 - j) : Nat) : Int) % 4294967296) = ((n * 2 ^ (32 - j) % 2 ^ 32 : Nat) : Int) by simp, show ((n : Int) / ((2 ^ j : Nat) : Int)) = ((n / 2 ^ j : Nat) : Int) by simp, u32_or_nat _ _ l1 l2, h]
    simp
theorem trnN_bd (a : Int) (j : Nat) (h0 : 0 ≤ a) (h1 : a ≤ 4294967295) (hj : j ≤ 31) : 0 ≤ trnN a j ∧ trnN a j ≤ 4294967295 := by
  unfold trnN
  have hp : (0 : Int) < 2 ^ j := Int.pow_pos (by omega)
  have hq : (0 : Int) < 2 ^ (32 - j) := Int.pow_pos (by omega)
  have hk : (2 : Int) ^ (32 - j) * 2 ^ j = 4294967296 := by rw [← Int.pow_add, show 32 - j + j = 32 by omega]; rfl
  have d0 := Int.ediv_nonneg h0 (show (0 : Int) ≤ 2 ^ j by omega)
  have d1 : a / 2 ^ j < 2 ^ (32 - j) := by rw [Int.ediv_lt_iff_lt_mul hp, hk]; omega
  have m0 := Int.emod_nonneg a (show (2 : Int) ^ j ≠ 0 by omega)
  have m1 := Int.emod_lt_of_pos a hp
  have p0 := Int.mul_nonneg m0 (show (0 : Int) ≤ 2 ^ (32 - j) by omega)
  have p1 := Int.mul_le_mul_of_nonneg_right (show a % 2 ^ j ≤ 2 ^ j - 1 by omega) (show (0 : Int) ≤ 2 ^ (32 - j) by omega)
  rw [Int.sub_mul, Int.mul_comm (2 ^ j), hk] at p1
  omega
theorem quo_mul (x y : Int) (hy : 1 ≤ y) : x / y * y ≤ x ∧ x < (x / y + 1) * y ∧ x - x / y * y = x % y := by
  have f := Int.mul_ediv_add_emod x y
  have m0 := Int.emod_nonneg x (show y ≠ 0 by omega)
  have m1 := Int.emod_lt_of_pos x (show 0 < y by omega)
  rw [Int.add_mul, Int.mul_comm (x / y)]
  omega
theorem quo_bd (x y : Int) (hx : -2147483648 ≤ x ∧ x ≤ 2147483647) (hy : 1 ≤ y) : -2147483648 ≤ x / y ∧ x / y ≤ 2147483647 ∧ (x / y = 2147483647 → y = 1) := by
  have h := quo_mul x y hy
  refine ⟨?_, ?_, ?_⟩
  · rw [Int.le_ediv_iff_mul_le (by omega)]
    have := Int.mul_le_mul_of_nonpos_left (show (-2147483648 : Int) ≤ 0 by omega) hy
    omega
  · have : x / y < 2147483648 := by
      rw [Int.ediv_lt_iff_lt_mul (by omega)]
      have := Int.mul_le_mul_of_nonneg_left hy (show (0 : Int) ≤ 2147483648 by omega)
      omega
    omega
  · intro e
    rw [e] at h
    omega
theorem quo_all (x y : Int) (hx : -2147483648 ≤ x ∧ x ≤ 2147483647) (hy : 1 ≤ y) : ∃ Q R : Int, x / y = Q ∧ x % y = R ∧ Q * y ≤ x ∧ x < (Q + 1) * y ∧ x - Q * y = R ∧ 0 ≤ R ∧ R < y ∧
    -2147483648 ≤ Q ∧ Q ≤ 2147483647 ∧ (x.tdiv y = Q ∨ (x.tdiv y = Q + 1 ∧ Q ≤ 2147483646)) := by
  have h := quo_mul x y hy
  have g := quo_bd x y hx hy
  have f := divfix x y hy
  have t := tdiv_bd x y hx hy
  refine ⟨_, _, rfl, rfl, h.1, h.2.1, h.2.2, Int.emod_nonneg x (by omega), Int.emod_lt_of_pos x (by omega), g.1, g.2.1, ?_⟩
  by_cases c : x.tmod y < 0
  · have e := (f.1 c).1
    generalize x / y = Q at *
    generalize x.tdiv y = T at *
    right; constructor <;> omega
  · exact .inl (f.2 (by omega)).1
theorem prod16 (x y : Int) (hx : 0 ≤ x ∧ x ≤ 65535) (hy : 0 ≤ y ∧ y ≤ 65535) : 0 ≤ x * y ∧ x * y ≤ 4294836225 :=
  ⟨Int.mul_nonneg hx.1 hy.1, by have := Int.mul_le_mul hx.2 hy.2 hy.1 (by omega); omega⟩
theorem mul_parts (a b x1 x0 y1 y0 : Int) (hx : a = x1 * 65536 + x0) (hy : b = y1 * 65536 + y0) : a * b = x1 * y1 * 4294967296 + (x1 * y0 + x0 * y1) * 65536 + x0 * y0 := by
  have e1 : x1 * 65536 * (y1 * 65536) = x1 * y1 * 4294967296 := by rw [Int.mul_assoc, Int.mul_left_comm 65536, ← Int.mul_assoc]; rfl
  have e2 : x1 * 65536 * y0 = x1 * y0 * 65536 := Int.mul_right_comm ..
  have e3 : x0 * (y1 * 65536) = x0 * y1 * 65536 := (Int.mul_assoc ..).symm
  rw [hx, hy, Int.add_mul, Int.mul_add, Int.mul_add, e1, e2, e3]
  omega
theorem mul_signed (a b : Int) (a0 : 0 ≤ a) (a1 : a ≤ 4294967295) (b0 : 0 ≤ b) (b1 : b ≤ 4294967295) :
    wrap32 a * wrap32 b = a * b - (if 2147483648 ≤ a then 4294967296 * b else 0) - (if 2147483648 ≤ b then 4294967296 * a else 0) + (if 2147483648 ≤ a then (if 2147483648 ≤ b then 18446744073709551616 else 0) else 0) := by
  by_cases ha : 2147483648 ≤ a <;> by_cases hb : 2147483648 ≤ b
  · rw [if_pos ha, if_pos hb, if_pos ha, if_pos hb, wrap32_hi a ha a1, wrap32_hi b hb b1, Int.sub_mul, Int.mul_sub, Int.mul_sub]; omega
  · rw [if_pos ha, if_neg hb, if_pos ha, if_neg hb, wrap32_hi a ha a1, wrap32_lo b b0 (by omega), Int.sub_mul]; omega
  · rw [if_neg ha, if_pos hb, if_neg ha, wrap32_lo a a0 (by omega), wrap32_hi b hb b1, Int.mul_sub]; omega
  · rw [if_neg ha, if_neg hb, if_neg ha, wrap32_lo a a0 (by omega), wrap32_lo b b0 (by omega)]; omega
theorem pow_bd (k : Nat) (h1 : 1 ≤ k) (h2 : k ≤ 32) : (2 : Int) ^ k = 2 * 2 ^ (k - 1) ∧ 1 ≤ (2 : Int) ^ (k - 1) ∧ (2 : Int) ^ (k - 1) ≤ 2147483648 := by
  obtain ⟨m, rfl⟩ : ∃ m, k = m + 1 := ⟨k - 1, by omega⟩
  have hp : (0 : Int) < 2 ^ m := Int.pow_pos (by omega)
  have hle : (2 : Nat) ^ m ≤ 2 ^ 31 := Nat.pow_le_pow_right (by omega) (by omega)
  refine ⟨by rw [Int.pow_succ, Int.mul_comm]; rfl, by rw [show m + 1 - 1 = m by omega]; omega, ?_⟩
  rw [show m + 1 - 1 = m by omega, pow_toNat]; omega
theorem pow_all (a : Int) (k : Nat) (h1 : 1 ≤ k) (h2 : k ≤ 32) : ∃ Q M r : Int, (2 : Int) ^ k = Q ∧ (2 : Int) ^ (k - 1) = M ∧ a % Q = r ∧ Q = 2 * M ∧ 1 ≤ M ∧ M ≤ 2147483648 ∧ 0 ≤ r ∧ r < Q := by
  obtain ⟨q1, q2, q3⟩ := pow_bd k h1 h2
  exact ⟨_, _, _, rfl, rfl, rfl, q1, q2, q3, Int.emod_nonneg a (by omega), Int.emod_lt_of_pos a (by omega)⟩
theorem ext_bd (a b : Int) : 0 ≤ ext a b ∧ ext a b ≤ 4294967295 := w32_bd _
/-- of a number's lowest bits the sign tells the number, if it fits -/
theorem sx_in (n : Int) (k : Nat) (h1 : 1 ≤ k) (h2 : k ≤ 32) (h3 : -2 ^ (k - 1) ≤ n) (h4 : n < 2 ^ (k - 1)) : sx (w32 n) k = n := by
  obtain ⟨q1, q2, q3⟩ := pow_bd k h1 h2
  unfold sx
  have e : w32 n % 2 ^ k = n % 2 ^ k := by
    unfold w32
    rw [Int.emod_emod_of_dvd]
    refine ⟨2 ^ (32 - k), ?_⟩
    rw [← Int.pow_add, show k + (32 - k) = 32 by omega]; rfl
  rw [e]
  generalize (2 : Int) ^ (k - 1) = M at *
  rw [q1]
  by_cases h : 0 ≤ n
  · rw [Int.emod_eq_of_lt h (by omega), if_neg (by omega)]
  · have : n % (2 * M) = n + 2 * M := by
      rw [← Int.add_emod_right]
      exact Int.emod_eq_of_lt (by omega) (by omega)
    rw [this, if_pos (by omega)]; omega
theorem sx_range (a : Int) (k : Nat) (h1 : 1 ≤ k) (h2 : k ≤ 32) : -2 ^ (k - 1) ≤ sx a k ∧ sx a k < 2 ^ (k - 1) := by
  obtain ⟨q1, q2, q3⟩ := pow_bd k h1 h2
  unfold sx
  rw [q1]
  generalize (2 : Int) ^ (k - 1) = M at *
  have g0 := Int.emod_nonneg a (show 2 * M ≠ 0 by omega)
  have g1 := Int.emod_lt_of_pos a (show 0 < 2 * M by omega)
  split <;> omega
theorem clampB_nat (b : Int) : ∃ k : Nat, clampB b = k ∧ 1 ≤ k ∧ k ≤ 32 := by
  have h := clampB_bd b
  exact ⟨(clampB b).toNat, by omega, by omega, by omega⟩
theorem clampB_mono (b c : Int) (h : b ≤ c) : clampB b ≤ clampB c := by
  have hb := clampB_eq b
  have hc := clampB_eq c
  by_cases b1 : b < 1 <;> by_cases b2 : 32 < b <;> by_cases c1 : c < 1 <;> by_cases c2 : 32 < c <;> omega
theorem ext_ext (a b c : Int) (h : b ≤ c) : ext (ext a b) c = ext a b := by
  obtain ⟨k, ek, k1, k2⟩ := clampB_nat b
  obtain ⟨j, ej, j1, j2⟩ := clampB_nat c
  have hm := clampB_mono b c h
  unfold ext
  rw [ek, ej, Int.toNat_natCast, Int.toNat_natCast]
  have hr := sx_range a k k1 k2
  have hp : (2 : Int) ^ (k - 1) ≤ 2 ^ (j - 1) := by
    have : (2 : Nat) ^ (k - 1) ≤ 2 ^ (j - 1) := Nat.pow_le_pow_right (by omega) (by omega)
    rw [pow_toNat, pow_toNat]; omega
  rw [sx_in (sx a k) j j1 j2 (by omega) (by omega)]
theorem ext_less (a b c : Int) (h : c < b) : ext (ext a b) c = ext a c := by
  obtain ⟨k, ek, k1, k2⟩ := clampB_nat b
  obtain ⟨j, ej, j1, j2⟩ := clampB_nat c
  have hm := clampB_mono c b (by omega)
  unfold ext
  rw [ek, ej, Int.toNat_natCast, Int.toNat_natCast]
  congr 1
  have e : w32 (sx a k) % 2 ^ j = a % 2 ^ j := by
    unfold w32
    rw [Int.emod_emod_of_dvd]
    · unfold sx
      have hd : (2 : Int) ^ j ∣ 2 ^ k := ⟨2 ^ (k - j), by rw [← Int.pow_add, show j + (k - j) = k by omega]⟩
      split
      · rw [Int.sub_emod, Int.emod_emod_of_dvd _ hd, Int.emod_eq_zero_of_dvd hd, Int.sub_zero, Int.emod_emod_of_dvd _ (Int.dvd_refl _)]
      · rw [Int.emod_emod_of_dvd _ hd]
    · exact ⟨2 ^ (32 - j), by rw [← Int.pow_add, show j + (32 - j) = 32 by omega]; rfl⟩
  unfold sx at *
  rw [e]
end Go.Proofs.YtlodoilihminaaaGreatDoor

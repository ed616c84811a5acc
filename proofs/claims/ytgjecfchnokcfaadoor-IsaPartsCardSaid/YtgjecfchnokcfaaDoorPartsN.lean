/-
  Of two words that differ in one bit, and are both instructions of one form, one part differs: plain numbers.
-/
import Derived.Test.YtgjecfchnokcfaaDoorRefOf
namespace Go.Proofs.YtgjecfchnokcfaaDoor
open Go.ChangeShapes Go.WideShapes Go.ChangeAt Go.RowKit
open rof
set_option linter.unusedVariables false
set_option linter.unusedSimpArgs false
/-- an instruction's parts, as numbers -/
def prt (I : Ins) : Nat → Int
  | 0 => bit I.u
  | 1 => bit I.v
  | 2 => I.a
  | 3 => I.b
  | 4 => I.c
  | 5 => I.op
  | 6 => I.im
  | 7 => I.off
  | _ => I.cond + 16 * I.n
theorem fb_nat (n f s : Nat) : fb (n : Int) f s = ((n / 2 ^ f % 2 ^ s : Nat) : Int) := by
  unfold fb
  push_cast
  rfl
/-- one bit of a word is another one -/
theorem fb_xor (n b : Nat) : ∀ f s : Nat, (f ≤ b ∧ b < f + s → fb ((n ^^^ 2 ^ b : Nat) : Int) f s ≠ fb (n : Int) f s) ∧ (b < f ∨ f + s ≤ b → fb ((n ^^^ 2 ^ b : Nat) : Int) f s = fb (n : Int) f s) := by
  intro f s
  rw [fb_nat, fb_nat, Nat.xor_div_two_pow, Nat.xor_mod_two_pow]
  refine ⟨fun ⟨h1, h2⟩ => ?_, fun h => ?_⟩
  · rw [Nat.pow_div h1 (by omega), Nat.mod_eq_of_lt (a := 2 ^ (b - f)) (Nat.pow_lt_pow_right (by omega) (by omega))]
    intro e
    have e2 : (n / 2 ^ f % 2 ^ s ^^^ 2 ^ (b - f)).testBit (b - f) = (n / 2 ^ f % 2 ^ s).testBit (b - f) := congrArg (fun z => Nat.testBit z (b - f)) (Int.ofNat.inj e)
    rw [Nat.testBit_xor, Nat.testBit_two_pow_self] at e2
    cases h3 : (n / 2 ^ f % 2 ^ s).testBit (b - f) <;> rw [h3] at e2 <;> cases e2
  · rcases h with h | h
    · rw [Nat.div_eq_of_lt (a := 2 ^ b) (Nat.pow_lt_pow_right (by omega) h), Nat.zero_mod, Nat.xor_zero]
    · rw [Nat.pow_div (by omega) (by omega), Nat.mod_eq_zero_of_dvd (Nat.pow_dvd_pow 2 (show s ≤ b - f by omega)), Nat.xor_zero]
theorem one_0 {p q : Nat → Int} (h0 : p 0 ≠ q 0) (h1 : p 1 = q 1) (h2 : p 2 = q 2) (h3 : p 3 = q 3) (h4 : p 4 = q 4) (h5 : p 5 = q 5) (h6 : p 6 = q 6) (h7 : p 7 = q 7) (h8 : p 8 = q 8) : ∃ k0, k0 < 9 ∧ ∀ k, k < 9 → (p k != q k) = decide (k = k0) := ⟨0, by omega, fun k hk => by
  have : k = 0 ∨ k = 1 ∨ k = 2 ∨ k = 3 ∨ k = 4 ∨ k = 5 ∨ k = 6 ∨ k = 7 ∨ k = 8 := by omega
  rcases this with rfl | rfl | rfl | rfl | rfl | rfl | rfl | rfl | rfl <;> simp [h0, h1, h2, h3, h4, h5, h6, h7, h8]⟩
theorem one_1 {p q : Nat → Int} (h0 : p 0 = q 0) (h1 : p 1 ≠ q 1) (h2 : p 2 = q 2) (h3 : p 3 = q 3) (h4 : p 4 = q 4) (h5 : p 5 = q 5) (h6 : p 6 = q 6) (h7 : p 7 = q 7) (h8 : p 8 = q 8) : ∃ k0, k0 < 9 ∧ ∀ k, k < 9 → (p k != q k) = decide (k = k0) := ⟨1, by omega, fun k hk => by
  have : k = 0 ∨ k = 1 ∨ k = 2 ∨ k = 3 ∨ k = 4 ∨ k = 5 ∨ k = 6 ∨ k = 7 ∨ k = 8 := by omega
  rcases this with rfl | rfl | rfl | rfl | rfl | rfl | rfl | rfl | rfl <;> simp [h0, h1, h2, h3, h4, h5, h6, h7, h8]⟩
theorem one_2 {p q : Nat → Int} (h0 : p 0 = q 0) (h1 : p 1 = q 1) (h2 : p 2 ≠ q 2) (h3 : p 3 = q 3) (h4 : p 4 = q 4) (h5 : p 5 = q 5) (h6 : p 6 = q 6) (h7 : p 7 = q 7) (h8 : p 8 = q 8) : ∃ k0, k0 < 9 ∧ ∀ k, k < 9 → (p k != q k) = decide (k = k0) := ⟨2, by omega, fun k hk => by
  have : k = 0 ∨ k = 1 ∨ k = 2 ∨ k = 3 ∨ k = 4 ∨ k = 5 ∨ k = 6 ∨ k = 7 ∨ k = 8 := by omega
  rcases this with rfl | rfl | rfl | rfl | rfl | rfl | rfl | rfl | rfl <;> simp [h0, h1, h2, h3, h4, h5, h6, h7, h8]⟩
theorem one_3 {p q : Nat → Int} (h0 : p 0 = q 0) (h1 : p 1 = q 1) (h2 : p 2 = q 2) (h3 : p 3 ≠ q 3) (h4 : p 4 = q 4) (h5 : p 5 = q 5) (h6 : p 6 = q 6) (h7 : p 7 = q 7) (h8 : p 8 = q 8) : ∃ k0, k0 < 9 ∧ ∀ k, k < 9 → (p k != q k) = decide (k = k0) := ⟨3, by omega, fun k hk => by
  have : k = 0 ∨ k = 1 ∨ k = 2 ∨ k = 3 ∨ k = 4 ∨ k = 5 ∨ k = 6 ∨ k = 7 ∨ k = 8 := by omega
  rcases this with rfl | rfl | rfl | rfl | rfl | rfl | rfl | rfl | rfl <;> simp [h0, h1, h2, h3, h4, h5, h6, h7, h8]⟩
theorem one_4 {p q : Nat → Int} (h0 : p 0 = q 0) (h1 : p 1 = q 1) (h2 : p 2 = q 2) (h3 : p 3 = q 3) (h4 : p 4 ≠ q 4) (h5 : p 5 = q 5) (h6 : p 6 = q 6) (h7 : p 7 = q 7) (h8 : p 8 = q 8) : ∃ k0, k0 < 9 ∧ ∀ k, k < 9 → (p k != q k) = decide (k = k0) := ⟨4, by omega, fun k hk => by
  have : k = 0 ∨ k = 1 ∨ k = 2 ∨ k = 3 ∨ k = 4 ∨ k = 5 ∨ k = 6 ∨ k = 7 ∨ k = 8 := by omega
  rcases this with rfl | rfl | rfl | rfl | rfl | rfl | rfl | rfl | rfl <;> simp [h0, h1, h2, h3, h4, h5, h6, h7, h8]⟩
theorem one_5 {p q : Nat → Int} (h0 : p 0 = q 0) (h1 : p 1 = q 1) (h2 : p 2 = q 2) (h3 : p 3 = q 3) (h4 : p 4 = q 4) (h5 : p 5 ≠ q 5) (h6 : p 6 = q 6) (h7 : p 7 = q 7) (h8 : p 8 = q 8) : ∃ k0, k0 < 9 ∧ ∀ k, k < 9 → (p k != q k) = decide (k = k0) := ⟨5, by omega, fun k hk => by
  have : k = 0 ∨ k = 1 ∨ k = 2 ∨ k = 3 ∨ k = 4 ∨ k = 5 ∨ k = 6 ∨ k = 7 ∨ k = 8 := by omega
  rcases this with rfl | rfl | rfl | rfl | rfl | rfl | rfl | rfl | rfl <;> simp [h0, h1, h2, h3, h4, h5, h6, h7, h8]⟩
theorem one_6 {p q : Nat → Int} (h0 : p 0 = q 0) (h1 : p 1 = q 1) (h2 : p 2 = q 2) (h3 : p 3 = q 3) (h4 : p 4 = q 4) (h5 : p 5 = q 5) (h6 : p 6 ≠ q 6) (h7 : p 7 = q 7) (h8 : p 8 = q 8) : ∃ k0, k0 < 9 ∧ ∀ k, k < 9 → (p k != q k) = decide (k = k0) := ⟨6, by omega, fun k hk => by
  have : k = 0 ∨ k = 1 ∨ k = 2 ∨ k = 3 ∨ k = 4 ∨ k = 5 ∨ k = 6 ∨ k = 7 ∨ k = 8 := by omega
  rcases this with rfl | rfl | rfl | rfl | rfl | rfl | rfl | rfl | rfl <;> simp [h0, h1, h2, h3, h4, h5, h6, h7, h8]⟩
theorem one_7 {p q : Nat → Int} (h0 : p 0 = q 0) (h1 : p 1 = q 1) (h2 : p 2 = q 2) (h3 : p 3 = q 3) (h4 : p 4 = q 4) (h5 : p 5 = q 5) (h6 : p 6 = q 6) (h7 : p 7 ≠ q 7) (h8 : p 8 = q 8) : ∃ k0, k0 < 9 ∧ ∀ k, k < 9 → (p k != q k) = decide (k = k0) := ⟨7, by omega, fun k hk => by
  have : k = 0 ∨ k = 1 ∨ k = 2 ∨ k = 3 ∨ k = 4 ∨ k = 5 ∨ k = 6 ∨ k = 7 ∨ k = 8 := by omega
  rcases this with rfl | rfl | rfl | rfl | rfl | rfl | rfl | rfl | rfl <;> simp [h0, h1, h2, h3, h4, h5, h6, h7, h8]⟩
theorem one_8 {p q : Nat → Int} (h0 : p 0 = q 0) (h1 : p 1 = q 1) (h2 : p 2 = q 2) (h3 : p 3 = q 3) (h4 : p 4 = q 4) (h5 : p 5 = q 5) (h6 : p 6 = q 6) (h7 : p 7 = q 7) (h8 : p 8 ≠ q 8) : ∃ k0, k0 < 9 ∧ ∀ k, k < 9 → (p k != q k) = decide (k = k0) := ⟨8, by omega, fun k hk => by
  have : k = 0 ∨ k = 1 ∨ k = 2 ∨ k = 3 ∨ k = 4 ∨ k = 5 ∨ k = 6 ∨ k = 7 ∨ k = 8 := by omega
  rcases this with rfl | rfl | rfl | rfl | rfl | rfl | rfl | rfl | rfl <;> simp [h0, h1, h2, h3, h4, h5, h6, h7, h8]⟩
/-- what a word that is read as an instruction has -/
def DecIs (x : Int) (I : Ins) : Prop := (fb x 30 2 = 0 ∧ fb x 28 1 = 0 ∧ fb x 4 12 = 0 ∧ I.form = 0 ∧ prt I 0 = fb x 29 1 ∧ prt I 1 = 0 ∧ prt I 2 = fb x 24 4 ∧ prt I 3 = fb x 20 4 ∧ prt I 4 = fb x 0 4 ∧ prt I 5 = fb x 16 4 ∧ prt I 6 = 0 ∧ prt I 7 = 0 ∧ prt I 8 = 0) ∨ (fb x 30 2 = 1 ∧ I.form = 1 ∧ prt I 0 = fb x 29 1 ∧ prt I 1 = fb x 28 1 ∧ prt I 2 = fb x 24 4 ∧ prt I 3 = fb x 20 4 ∧ prt I 4 = 0 ∧ prt I 5 = fb x 16 4 ∧ prt I 6 = fb x 0 16 ∧ prt I 7 = 0 ∧ prt I 8 = 0) ∨ (fb x 30 2 = 2 ∧ I.form = 2 + fb x 29 1 ∧ prt I 0 = 0 ∧ prt I 1 = fb x 28 1 ∧ prt I 2 = fb x 24 4 ∧ prt I 3 = fb x 20 4 ∧ prt I 4 = 0 ∧ prt I 5 = 0 ∧ prt I 6 = 0 ∧ prt I 7 = sg (fb x 0 20) 524288 ∧ prt I 8 = 0) ∨ (fb x 30 2 = 3 ∧ fb x 29 1 = 1 ∧ I.form = 4 ∧ prt I 0 = 0 ∧ prt I 1 = fb x 28 1 ∧ prt I 2 = 0 ∧ prt I 3 = 0 ∧ prt I 4 = 0 ∧ prt I 5 = 0 ∧ prt I 6 = 0 ∧ prt I 7 = sg (fb x 0 24) 8388608 ∧ prt I 8 = fb x 24 4) ∨ (fb x 30 2 = 3 ∧ fb x 29 1 = 0 ∧ fb x 28 1 = 1 ∧ fb x 0 4 = 12 ∧ fb x 12 12 = 0 ∧ I.form = 6 ∧ prt I 0 = 0 ∧ prt I 1 = 0 ∧ prt I 2 = 0 ∧ prt I 3 = 0 ∧ prt I 4 = 0 ∧ prt I 5 = 0 ∧ prt I 6 = 0 ∧ prt I 7 = 0 ∧ prt I 8 = fb x 24 4 + 16 * fb x 4 8) ∨ (fb x 30 2 = 3 ∧ fb x 29 1 = 0 ∧ fb x 4 20 = 0 ∧ I.form = 5 ∧ prt I 0 = 0 ∧ prt I 1 = fb x 28 1 ∧ prt I 2 = 0 ∧ prt I 3 = 0 ∧ prt I 4 = fb x 0 4 ∧ prt I 5 = 0 ∧ prt I 6 = 0 ∧ prt I 7 = 0 ∧ prt I 8 = fb x 24 4)
theorem dec_is (x : Int) (x0 : 0 ≤ x) (x1 : x ≤ 4294967295) (I : Ins) (h : dec x = (I, false)) : DecIs x I := by
  have d30 : fb x 30 2 = x / 1073741824 := by show x / 1073741824 % 4 = _; omega
  have d29 : fb x 29 1 = x / 536870912 % 2 := rfl
  have d28 : fb x 28 1 = x / 268435456 % 2 := rfl
  have d24 : fb x 24 4 = x / 16777216 % 16 := rfl
  have d20 : fb x 20 4 = x / 1048576 % 16 := rfl
  have d16 : fb x 16 4 = x / 65536 % 16 := rfl
  have d0_20 : fb x 0 20 = x % 1048576 := by show x / 1 % 1048576 = _; rw [Int.ediv_one]
  have d0_4 : fb x 0 4 = x % 16 := by show x / 1 % 16 = _; rw [Int.ediv_one]
  have d0_16 : fb x 0 16 = x % 65536 := by show x / 1 % 65536 = _; rw [Int.ediv_one]
  have d0_24 : fb x 0 24 = x % 16777216 := by show x / 1 % 16777216 = _; rw [Int.ediv_one]
  have d4 : fb x 4 8 = x / 16 % 256 := rfl
  have e4 : fb x 4 12 = x / 16 % 4096 := rfl
  have e12 : fb x 12 12 = x / 4096 % 4096 := rfl
  have g4 : fb x 4 20 = x / 16 % 1048576 := rfl
  have b29 := fb_bd x 29 1
  have b28 := fb_bd x 28 1
  have b30 := fb_bd x 30 2
  have B29 := bit_of (fb x 29 1) b29.1 b29.2
  have B28 := bit_of (fb x 28 1) b28.1 b28.2
  rw [dec_fields] at h
  rw [← d30, ← d29, ← d28, ← d24, ← d20, ← d16, ← d0_20, ← d0_4, ← d0_16, ← d0_24, ← d4, ← e4, ← e12, ← g4] at h
  unfold DecIs
  by_cases q0 : fb x 30 2 = 0
  · rw [if_pos q0] at h
    obtain ⟨rfl, ho⟩ := Prod.mk.inj h
    simp only [Bool.or_eq_false_iff, bne_eq_false_iff_eq, Bool.not_eq_false'] at ho
    obtain ⟨⟨z0, z1⟩, hM⟩ := ho
    have z1 : fb x 28 1 = 0 := by simp at z1; have := b28.2; omega
    exact .inl ⟨q0, z1, z0, rfl, B29, rfl, rfl, rfl, rfl, rfl, rfl, rfl, rfl⟩
  rw [if_neg q0] at h
  by_cases q1 : fb x 30 2 = 1
  · rw [if_pos q1] at h
    obtain ⟨rfl, ho⟩ := Prod.mk.inj h
    exact .inr (.inl ⟨q1, rfl, B29, B28, rfl, rfl, rfl, rfl, rfl, rfl, rfl⟩)
  rw [if_neg q1] at h
  by_cases q2 : fb x 30 2 = 2
  · rw [if_pos q2] at h
    obtain ⟨rfl, ho⟩ := Prod.mk.inj h
    exact .inr (.inr (.inl ⟨q2, rfl, rfl, B28, rfl, rfl, rfl, rfl, rfl, rfl, rfl⟩))
  rw [if_neg q2] at h
  have q3 : fb x 30 2 = 3 := by have := b30.2; have := b30.1; omega
  by_cases q4 : fb x 29 1 = 1
  · rw [if_pos q4] at h
    obtain ⟨rfl, ho⟩ := Prod.mk.inj h
    refine .inr (.inr (.inr (.inl ⟨q3, q4, rfl, rfl, B28, rfl, rfl, rfl, rfl, rfl, rfl, ?_⟩)))
    show fb x 24 4 + 16 * 0 = _
    omega
  rw [if_neg q4] at h
  have q4 : fb x 29 1 = 0 := by have := b29.2; omega
  by_cases q5 : fb x 28 1 = 1 ∧ fb x 0 4 = 12
  · rw [if_pos q5] at h
    obtain ⟨rfl, ho⟩ := Prod.mk.inj h
    simp only [bne_eq_false_iff_eq] at ho
    exact .inr (.inr (.inr (.inr (.inl ⟨q3, q4, q5.1, q5.2, ho, rfl, rfl, rfl, rfl, rfl, rfl, rfl, rfl, rfl, rfl⟩))))
  · rw [if_neg q5] at h
    obtain ⟨rfl, ho⟩ := Prod.mk.inj h
    simp only [bne_eq_false_iff_eq] at ho
    refine .inr (.inr (.inr (.inr (.inr ⟨q3, q4, ho, rfl, rfl, B28, rfl, rfl, rfl, rfl, rfl, rfl, ?_⟩))))
    show fb x 24 4 + 16 * 0 = _
    omega
theorem sg_inj {m n s : Int} (m0 : 0 ≤ m) (m1 : m < 2 * s) (n0 : 0 ≤ n) (n1 : n < 2 * s) (h : sg m s = sg n s) : m = n := by rw [← sg_mod m s m0 m1, ← sg_mod n s n0 n1, h]
set_option maxHeartbeats 8000000 in
theorem loc0 {x y : Int} {I J : Ins} (hI : DecIs x I) (hJ : DecIs y J) (hf : I.form = J.form) (u29 : 0 ≤ fb x 29 1 ∧ fb x 29 1 ≤ 1) (v29 : 0 ≤ fb y 29 1 ∧ fb y 29 1 ≤ 1) (e30_2 : fb y 30 2 = fb x 30 2) (e29_1 : fb y 29 1 = fb x 29 1) (e28_1 : fb y 28 1 = fb x 28 1) (e24_4 : fb y 24 4 = fb x 24 4) (e20_4 : fb y 20 4 = fb x 20 4) (e16_4 : fb y 16 4 = fb x 16 4) (e4_12 : fb y 4 12 = fb x 4 12) (e0_4 : fb y 0 4 ≠ fb x 0 4) (e0_16 : fb y 0 16 ≠ fb x 0 16) (e0_20 : fb y 0 20 ≠ fb x 0 20) (e0_24 : fb y 0 24 ≠ fb x 0 24) (e12_12 : fb y 12 12 = fb x 12 12) (e4_8 : fb y 4 8 = fb x 4 8) (e4_20 : fb y 4 20 = fb x 4 20) (s20 : sg (fb y 0 20) 524288 ≠ sg (fb x 0 20) 524288) (s24 : sg (fb y 0 24) 8388608 ≠ sg (fb x 0 24) 8388608) : ∃ k0, k0 < 9 ∧ ∀ k, k < 9 → (prt I k != prt J k) = decide (k = k0) := by
  unfold DecIs at hI hJ
  rcases hI with hI | hI | hI | hI | hI | hI <;> rcases hJ with hJ | hJ | hJ | hJ | hJ | hJ
  all_goals first | (exfalso; omega) | (refine one_4 ?_ ?_ ?_ ?_ ?_ ?_ ?_ ?_ ?_ <;> omega) | (refine one_6 ?_ ?_ ?_ ?_ ?_ ?_ ?_ ?_ ?_ <;> omega) | (refine one_7 ?_ ?_ ?_ ?_ ?_ ?_ ?_ ?_ ?_ <;> omega)
set_option maxHeartbeats 8000000 in
theorem loc1 {x y : Int} {I J : Ins} (hI : DecIs x I) (hJ : DecIs y J) (hf : I.form = J.form) (u29 : 0 ≤ fb x 29 1 ∧ fb x 29 1 ≤ 1) (v29 : 0 ≤ fb y 29 1 ∧ fb y 29 1 ≤ 1) (e30_2 : fb y 30 2 = fb x 30 2) (e29_1 : fb y 29 1 = fb x 29 1) (e28_1 : fb y 28 1 = fb x 28 1) (e24_4 : fb y 24 4 = fb x 24 4) (e20_4 : fb y 20 4 = fb x 20 4) (e16_4 : fb y 16 4 = fb x 16 4) (e4_12 : fb y 4 12 ≠ fb x 4 12) (e0_4 : fb y 0 4 = fb x 0 4) (e0_16 : fb y 0 16 ≠ fb x 0 16) (e0_20 : fb y 0 20 ≠ fb x 0 20) (e0_24 : fb y 0 24 ≠ fb x 0 24) (e12_12 : fb y 12 12 = fb x 12 12) (e4_8 : fb y 4 8 ≠ fb x 4 8) (e4_20 : fb y 4 20 ≠ fb x 4 20) (s20 : sg (fb y 0 20) 524288 ≠ sg (fb x 0 20) 524288) (s24 : sg (fb y 0 24) 8388608 ≠ sg (fb x 0 24) 8388608) : ∃ k0, k0 < 9 ∧ ∀ k, k < 9 → (prt I k != prt J k) = decide (k = k0) := by
  unfold DecIs at hI hJ
  rcases hI with hI | hI | hI | hI | hI | hI <;> rcases hJ with hJ | hJ | hJ | hJ | hJ | hJ
  all_goals first | (exfalso; omega) | (refine one_6 ?_ ?_ ?_ ?_ ?_ ?_ ?_ ?_ ?_ <;> omega) | (refine one_7 ?_ ?_ ?_ ?_ ?_ ?_ ?_ ?_ ?_ <;> omega) | (refine one_8 ?_ ?_ ?_ ?_ ?_ ?_ ?_ ?_ ?_ <;> omega)
set_option maxHeartbeats 8000000 in
theorem loc2 {x y : Int} {I J : Ins} (hI : DecIs x I) (hJ : DecIs y J) (hf : I.form = J.form) (u29 : 0 ≤ fb x 29 1 ∧ fb x 29 1 ≤ 1) (v29 : 0 ≤ fb y 29 1 ∧ fb y 29 1 ≤ 1) (e30_2 : fb y 30 2 = fb x 30 2) (e29_1 : fb y 29 1 = fb x 29 1) (e28_1 : fb y 28 1 = fb x 28 1) (e24_4 : fb y 24 4 = fb x 24 4) (e20_4 : fb y 20 4 = fb x 20 4) (e16_4 : fb y 16 4 = fb x 16 4) (e4_12 : fb y 4 12 ≠ fb x 4 12) (e0_4 : fb y 0 4 = fb x 0 4) (e0_16 : fb y 0 16 ≠ fb x 0 16) (e0_20 : fb y 0 20 ≠ fb x 0 20) (e0_24 : fb y 0 24 ≠ fb x 0 24) (e12_12 : fb y 12 12 ≠ fb x 12 12) (e4_8 : fb y 4 8 = fb x 4 8) (e4_20 : fb y 4 20 ≠ fb x 4 20) (s20 : sg (fb y 0 20) 524288 ≠ sg (fb x 0 20) 524288) (s24 : sg (fb y 0 24) 8388608 ≠ sg (fb x 0 24) 8388608) : ∃ k0, k0 < 9 ∧ ∀ k, k < 9 → (prt I k != prt J k) = decide (k = k0) := by
  unfold DecIs at hI hJ
  rcases hI with hI | hI | hI | hI | hI | hI <;> rcases hJ with hJ | hJ | hJ | hJ | hJ | hJ
  all_goals first | (exfalso; omega) | (refine one_6 ?_ ?_ ?_ ?_ ?_ ?_ ?_ ?_ ?_ <;> omega) | (refine one_7 ?_ ?_ ?_ ?_ ?_ ?_ ?_ ?_ ?_ <;> omega)
set_option maxHeartbeats 8000000 in
theorem loc3 {x y : Int} {I J : Ins} (hI : DecIs x I) (hJ : DecIs y J) (hf : I.form = J.form) (u29 : 0 ≤ fb x 29 1 ∧ fb x 29 1 ≤ 1) (v29 : 0 ≤ fb y 29 1 ∧ fb y 29 1 ≤ 1) (e30_2 : fb y 30 2 = fb x 30 2) (e29_1 : fb y 29 1 = fb x 29 1) (e28_1 : fb y 28 1 = fb x 28 1) (e24_4 : fb y 24 4 = fb x 24 4) (e20_4 : fb y 20 4 = fb x 20 4) (e16_4 : fb y 16 4 ≠ fb x 16 4) (e4_12 : fb y 4 12 = fb x 4 12) (e0_4 : fb y 0 4 = fb x 0 4) (e0_16 : fb y 0 16 = fb x 0 16) (e0_20 : fb y 0 20 ≠ fb x 0 20) (e0_24 : fb y 0 24 ≠ fb x 0 24) (e12_12 : fb y 12 12 ≠ fb x 12 12) (e4_8 : fb y 4 8 = fb x 4 8) (e4_20 : fb y 4 20 ≠ fb x 4 20) (s20 : sg (fb y 0 20) 524288 ≠ sg (fb x 0 20) 524288) (s24 : sg (fb y 0 24) 8388608 ≠ sg (fb x 0 24) 8388608) : ∃ k0, k0 < 9 ∧ ∀ k, k < 9 → (prt I k != prt J k) = decide (k = k0) := by
  unfold DecIs at hI hJ
  rcases hI with hI | hI | hI | hI | hI | hI <;> rcases hJ with hJ | hJ | hJ | hJ | hJ | hJ
  all_goals first | (exfalso; omega) | (refine one_5 ?_ ?_ ?_ ?_ ?_ ?_ ?_ ?_ ?_ <;> omega) | (refine one_7 ?_ ?_ ?_ ?_ ?_ ?_ ?_ ?_ ?_ <;> omega)
set_option maxHeartbeats 8000000 in
theorem loc4 {x y : Int} {I J : Ins} (hI : DecIs x I) (hJ : DecIs y J) (hf : I.form = J.form) (u29 : 0 ≤ fb x 29 1 ∧ fb x 29 1 ≤ 1) (v29 : 0 ≤ fb y 29 1 ∧ fb y 29 1 ≤ 1) (e30_2 : fb y 30 2 = fb x 30 2) (e29_1 : fb y 29 1 = fb x 29 1) (e28_1 : fb y 28 1 = fb x 28 1) (e24_4 : fb y 24 4 = fb x 24 4) (e20_4 : fb y 20 4 ≠ fb x 20 4) (e16_4 : fb y 16 4 = fb x 16 4) (e4_12 : fb y 4 12 = fb x 4 12) (e0_4 : fb y 0 4 = fb x 0 4) (e0_16 : fb y 0 16 = fb x 0 16) (e0_20 : fb y 0 20 = fb x 0 20) (e0_24 : fb y 0 24 ≠ fb x 0 24) (e12_12 : fb y 12 12 ≠ fb x 12 12) (e4_8 : fb y 4 8 = fb x 4 8) (e4_20 : fb y 4 20 ≠ fb x 4 20) (s20 : sg (fb y 0 20) 524288 = sg (fb x 0 20) 524288) (s24 : sg (fb y 0 24) 8388608 ≠ sg (fb x 0 24) 8388608) : ∃ k0, k0 < 9 ∧ ∀ k, k < 9 → (prt I k != prt J k) = decide (k = k0) := by
  unfold DecIs at hI hJ
  rcases hI with hI | hI | hI | hI | hI | hI <;> rcases hJ with hJ | hJ | hJ | hJ | hJ | hJ
  all_goals first | (exfalso; omega) | (refine one_3 ?_ ?_ ?_ ?_ ?_ ?_ ?_ ?_ ?_ <;> omega) | (refine one_7 ?_ ?_ ?_ ?_ ?_ ?_ ?_ ?_ ?_ <;> omega)
set_option maxHeartbeats 8000000 in
theorem loc5 {x y : Int} {I J : Ins} (hI : DecIs x I) (hJ : DecIs y J) (hf : I.form = J.form) (u29 : 0 ≤ fb x 29 1 ∧ fb x 29 1 ≤ 1) (v29 : 0 ≤ fb y 29 1 ∧ fb y 29 1 ≤ 1) (e30_2 : fb y 30 2 = fb x 30 2) (e29_1 : fb y 29 1 = fb x 29 1) (e28_1 : fb y 28 1 = fb x 28 1) (e24_4 : fb y 24 4 ≠ fb x 24 4) (e20_4 : fb y 20 4 = fb x 20 4) (e16_4 : fb y 16 4 = fb x 16 4) (e4_12 : fb y 4 12 = fb x 4 12) (e0_4 : fb y 0 4 = fb x 0 4) (e0_16 : fb y 0 16 = fb x 0 16) (e0_20 : fb y 0 20 = fb x 0 20) (e0_24 : fb y 0 24 = fb x 0 24) (e12_12 : fb y 12 12 = fb x 12 12) (e4_8 : fb y 4 8 = fb x 4 8) (e4_20 : fb y 4 20 = fb x 4 20) (s20 : sg (fb y 0 20) 524288 = sg (fb x 0 20) 524288) (s24 : sg (fb y 0 24) 8388608 = sg (fb x 0 24) 8388608) : ∃ k0, k0 < 9 ∧ ∀ k, k < 9 → (prt I k != prt J k) = decide (k = k0) := by
  unfold DecIs at hI hJ
  rcases hI with hI | hI | hI | hI | hI | hI <;> rcases hJ with hJ | hJ | hJ | hJ | hJ | hJ
  all_goals first | (exfalso; omega) | (refine one_2 ?_ ?_ ?_ ?_ ?_ ?_ ?_ ?_ ?_ <;> omega) | (refine one_8 ?_ ?_ ?_ ?_ ?_ ?_ ?_ ?_ ?_ <;> omega)
set_option maxHeartbeats 8000000 in
theorem loc6 {x y : Int} {I J : Ins} (hI : DecIs x I) (hJ : DecIs y J) (hf : I.form = J.form) (u29 : 0 ≤ fb x 29 1 ∧ fb x 29 1 ≤ 1) (v29 : 0 ≤ fb y 29 1 ∧ fb y 29 1 ≤ 1) (e30_2 : fb y 30 2 = fb x 30 2) (e29_1 : fb y 29 1 = fb x 29 1) (e28_1 : fb y 28 1 ≠ fb x 28 1) (e24_4 : fb y 24 4 = fb x 24 4) (e20_4 : fb y 20 4 = fb x 20 4) (e16_4 : fb y 16 4 = fb x 16 4) (e4_12 : fb y 4 12 = fb x 4 12) (e0_4 : fb y 0 4 = fb x 0 4) (e0_16 : fb y 0 16 = fb x 0 16) (e0_20 : fb y 0 20 = fb x 0 20) (e0_24 : fb y 0 24 = fb x 0 24) (e12_12 : fb y 12 12 = fb x 12 12) (e4_8 : fb y 4 8 = fb x 4 8) (e4_20 : fb y 4 20 = fb x 4 20) (s20 : sg (fb y 0 20) 524288 = sg (fb x 0 20) 524288) (s24 : sg (fb y 0 24) 8388608 = sg (fb x 0 24) 8388608) : ∃ k0, k0 < 9 ∧ ∀ k, k < 9 → (prt I k != prt J k) = decide (k = k0) := by
  unfold DecIs at hI hJ
  rcases hI with hI | hI | hI | hI | hI | hI <;> rcases hJ with hJ | hJ | hJ | hJ | hJ | hJ
  all_goals first | (exfalso; omega) | (refine one_1 ?_ ?_ ?_ ?_ ?_ ?_ ?_ ?_ ?_ <;> omega)
set_option maxHeartbeats 8000000 in
theorem loc7 {x y : Int} {I J : Ins} (hI : DecIs x I) (hJ : DecIs y J) (hf : I.form = J.form) (u29 : 0 ≤ fb x 29 1 ∧ fb x 29 1 ≤ 1) (v29 : 0 ≤ fb y 29 1 ∧ fb y 29 1 ≤ 1) (e30_2 : fb y 30 2 = fb x 30 2) (e29_1 : fb y 29 1 ≠ fb x 29 1) (e28_1 : fb y 28 1 = fb x 28 1) (e24_4 : fb y 24 4 = fb x 24 4) (e20_4 : fb y 20 4 = fb x 20 4) (e16_4 : fb y 16 4 = fb x 16 4) (e4_12 : fb y 4 12 = fb x 4 12) (e0_4 : fb y 0 4 = fb x 0 4) (e0_16 : fb y 0 16 = fb x 0 16) (e0_20 : fb y 0 20 = fb x 0 20) (e0_24 : fb y 0 24 = fb x 0 24) (e12_12 : fb y 12 12 = fb x 12 12) (e4_8 : fb y 4 8 = fb x 4 8) (e4_20 : fb y 4 20 = fb x 4 20) (s20 : sg (fb y 0 20) 524288 = sg (fb x 0 20) 524288) (s24 : sg (fb y 0 24) 8388608 = sg (fb x 0 24) 8388608) : ∃ k0, k0 < 9 ∧ ∀ k, k < 9 → (prt I k != prt J k) = decide (k = k0) := by
  unfold DecIs at hI hJ
  rcases hI with hI | hI | hI | hI | hI | hI <;> rcases hJ with hJ | hJ | hJ | hJ | hJ | hJ
  all_goals first | (exfalso; omega) | (refine one_0 ?_ ?_ ?_ ?_ ?_ ?_ ?_ ?_ ?_ <;> omega)
set_option maxHeartbeats 8000000 in
theorem loc8 {x y : Int} {I J : Ins} (hI : DecIs x I) (hJ : DecIs y J) (hf : I.form = J.form) (u29 : 0 ≤ fb x 29 1 ∧ fb x 29 1 ≤ 1) (v29 : 0 ≤ fb y 29 1 ∧ fb y 29 1 ≤ 1) (e30_2 : fb y 30 2 ≠ fb x 30 2) (e29_1 : fb y 29 1 = fb x 29 1) (e28_1 : fb y 28 1 = fb x 28 1) (e24_4 : fb y 24 4 = fb x 24 4) (e20_4 : fb y 20 4 = fb x 20 4) (e16_4 : fb y 16 4 = fb x 16 4) (e4_12 : fb y 4 12 = fb x 4 12) (e0_4 : fb y 0 4 = fb x 0 4) (e0_16 : fb y 0 16 = fb x 0 16) (e0_20 : fb y 0 20 = fb x 0 20) (e0_24 : fb y 0 24 = fb x 0 24) (e12_12 : fb y 12 12 = fb x 12 12) (e4_8 : fb y 4 8 = fb x 4 8) (e4_20 : fb y 4 20 = fb x 4 20) (s20 : sg (fb y 0 20) 524288 = sg (fb x 0 20) 524288) (s24 : sg (fb y 0 24) 8388608 = sg (fb x 0 24) 8388608) : ∃ k0, k0 < 9 ∧ ∀ k, k < 9 → (prt I k != prt J k) = decide (k = k0) := by
  unfold DecIs at hI hJ
  rcases hI with hI | hI | hI | hI | hI | hI <;> rcases hJ with hJ | hJ | hJ | hJ | hJ | hJ
  all_goals first | (exfalso; omega)
/-- one part, and no other, differs -/
theorem parts_one (n b : Nat) (hn : n < 4294967296) (hb : b < 32) (I J : Ins) (hI : dec (n : Int) = (I, false)) (hJ : dec ((n ^^^ 2 ^ b : Nat) : Int) = (J, false)) (hf : I.form = J.form) : ∃ k0, k0 < 9 ∧ ∀ k, k < 9 → (prt I k != prt J k) = decide (k = k0) := by
  have hy : n ^^^ 2 ^ b < 4294967296 := Nat.xor_lt_two_pow (n := 32) hn (Nat.pow_lt_pow_right (by omega) hb)
  have DI := dec_is (n : Int) (by omega) (by omega) I hI
  have DJ := dec_is ((n ^^^ 2 ^ b : Nat) : Int) (by omega) (by omega) J hJ
  have X := fb_xor n b
  have bx20 := fb_bd (n : Int) 0 20
  have by20 := fb_bd ((n ^^^ 2 ^ b : Nat) : Int) 0 20
  have bx24 := fb_bd (n : Int) 0 24
  have by24 := fb_bd ((n ^^^ 2 ^ b : Nat) : Int) 0 24
  have sne20 : b < 20 → sg (fb ((n ^^^ 2 ^ b : Nat) : Int) 0 20) 524288 ≠ sg (fb (n : Int) 0 20) 524288 := fun h e => (X 0 20).1 ⟨by omega, by omega⟩ (sg_inj by20.1 (by have := by20.2; omega) bx20.1 (by have := bx20.2; omega) e)
  have seq20 : 20 ≤ b → sg (fb ((n ^^^ 2 ^ b : Nat) : Int) 0 20) 524288 = sg (fb (n : Int) 0 20) 524288 := fun h => by rw [(X 0 20).2 (by omega)]
  have sne24 : b < 24 → sg (fb ((n ^^^ 2 ^ b : Nat) : Int) 0 24) 8388608 ≠ sg (fb (n : Int) 0 24) 8388608 := fun h e => (X 0 24).1 ⟨by omega, by omega⟩ (sg_inj by24.1 (by have := by24.2; omega) bx24.1 (by have := bx24.2; omega) e)
  have seq24 : 24 ≤ b → sg (fb ((n ^^^ 2 ^ b : Nat) : Int) 0 24) 8388608 = sg (fb (n : Int) 0 24) 8388608 := fun h => by rw [(X 0 24).2 (by omega)]
  have u29 : 0 ≤ fb (n : Int) 29 1 ∧ fb (n : Int) 29 1 ≤ 1 := by have := fb_bd (n : Int) 29 1; exact ⟨this.1, by have := this.2; omega⟩
  have v29 : 0 ≤ fb ((n ^^^ 2 ^ b : Nat) : Int) 29 1 ∧ fb ((n ^^^ 2 ^ b : Nat) : Int) 29 1 ≤ 1 := by have := fb_bd ((n ^^^ 2 ^ b : Nat) : Int) 29 1; exact ⟨this.1, by have := this.2; omega⟩
  have hc : b < 4 ∨ (4 ≤ b ∧ b < 12) ∨ (12 ≤ b ∧ b < 16) ∨ (16 ≤ b ∧ b < 20) ∨ (20 ≤ b ∧ b < 24) ∨ (24 ≤ b ∧ b < 28) ∨ b = 28 ∨ b = 29 ∨ 30 ≤ b := by omega
  rcases hc with h | h | h | h | h | h | h | h | h
  · exact loc0 DI DJ hf u29 v29 ((X 30 2).2 (by omega)) ((X 29 1).2 (by omega)) ((X 28 1).2 (by omega)) ((X 24 4).2 (by omega)) ((X 20 4).2 (by omega)) ((X 16 4).2 (by omega)) ((X 4 12).2 (by omega)) ((X 0 4).1 ⟨by omega, by omega⟩) ((X 0 16).1 ⟨by omega, by omega⟩) ((X 0 20).1 ⟨by omega, by omega⟩) ((X 0 24).1 ⟨by omega, by omega⟩) ((X 12 12).2 (by omega)) ((X 4 8).2 (by omega)) ((X 4 20).2 (by omega)) (sne20 (by omega)) (sne24 (by omega))
  · exact loc1 DI DJ hf u29 v29 ((X 30 2).2 (by omega)) ((X 29 1).2 (by omega)) ((X 28 1).2 (by omega)) ((X 24 4).2 (by omega)) ((X 20 4).2 (by omega)) ((X 16 4).2 (by omega)) ((X 4 12).1 ⟨by omega, by omega⟩) ((X 0 4).2 (by omega)) ((X 0 16).1 ⟨by omega, by omega⟩) ((X 0 20).1 ⟨by omega, by omega⟩) ((X 0 24).1 ⟨by omega, by omega⟩) ((X 12 12).2 (by omega)) ((X 4 8).1 ⟨by omega, by omega⟩) ((X 4 20).1 ⟨by omega, by omega⟩) (sne20 (by omega)) (sne24 (by omega))
  · exact loc2 DI DJ hf u29 v29 ((X 30 2).2 (by omega)) ((X 29 1).2 (by omega)) ((X 28 1).2 (by omega)) ((X 24 4).2 (by omega)) ((X 20 4).2 (by omega)) ((X 16 4).2 (by omega)) ((X 4 12).1 ⟨by omega, by omega⟩) ((X 0 4).2 (by omega)) ((X 0 16).1 ⟨by omega, by omega⟩) ((X 0 20).1 ⟨by omega, by omega⟩) ((X 0 24).1 ⟨by omega, by omega⟩) ((X 12 12).1 ⟨by omega, by omega⟩) ((X 4 8).2 (by omega)) ((X 4 20).1 ⟨by omega, by omega⟩) (sne20 (by omega)) (sne24 (by omega))
  · exact loc3 DI DJ hf u29 v29 ((X 30 2).2 (by omega)) ((X 29 1).2 (by omega)) ((X 28 1).2 (by omega)) ((X 24 4).2 (by omega)) ((X 20 4).2 (by omega)) ((X 16 4).1 ⟨by omega, by omega⟩) ((X 4 12).2 (by omega)) ((X 0 4).2 (by omega)) ((X 0 16).2 (by omega)) ((X 0 20).1 ⟨by omega, by omega⟩) ((X 0 24).1 ⟨by omega, by omega⟩) ((X 12 12).1 ⟨by omega, by omega⟩) ((X 4 8).2 (by omega)) ((X 4 20).1 ⟨by omega, by omega⟩) (sne20 (by omega)) (sne24 (by omega))
  · exact loc4 DI DJ hf u29 v29 ((X 30 2).2 (by omega)) ((X 29 1).2 (by omega)) ((X 28 1).2 (by omega)) ((X 24 4).2 (by omega)) ((X 20 4).1 ⟨by omega, by omega⟩) ((X 16 4).2 (by omega)) ((X 4 12).2 (by omega)) ((X 0 4).2 (by omega)) ((X 0 16).2 (by omega)) ((X 0 20).2 (by omega)) ((X 0 24).1 ⟨by omega, by omega⟩) ((X 12 12).1 ⟨by omega, by omega⟩) ((X 4 8).2 (by omega)) ((X 4 20).1 ⟨by omega, by omega⟩) (seq20 (by omega)) (sne24 (by omega))
  · exact loc5 DI DJ hf u29 v29 ((X 30 2).2 (by omega)) ((X 29 1).2 (by omega)) ((X 28 1).2 (by omega)) ((X 24 4).1 ⟨by omega, by omega⟩) ((X 20 4).2 (by omega)) ((X 16 4).2 (by omega)) ((X 4 12).2 (by omega)) ((X 0 4).2 (by omega)) ((X 0 16).2 (by omega)) ((X 0 20).2 (by omega)) ((X 0 24).2 (by omega)) ((X 12 12).2 (by omega)) ((X 4 8).2 (by omega)) ((X 4 20).2 (by omega)) (seq20 (by omega)) (seq24 (by omega))
  · exact loc6 DI DJ hf u29 v29 ((X 30 2).2 (by omega)) ((X 29 1).2 (by omega)) ((X 28 1).1 ⟨by omega, by omega⟩) ((X 24 4).2 (by omega)) ((X 20 4).2 (by omega)) ((X 16 4).2 (by omega)) ((X 4 12).2 (by omega)) ((X 0 4).2 (by omega)) ((X 0 16).2 (by omega)) ((X 0 20).2 (by omega)) ((X 0 24).2 (by omega)) ((X 12 12).2 (by omega)) ((X 4 8).2 (by omega)) ((X 4 20).2 (by omega)) (seq20 (by omega)) (seq24 (by omega))
  · exact loc7 DI DJ hf u29 v29 ((X 30 2).2 (by omega)) ((X 29 1).1 ⟨by omega, by omega⟩) ((X 28 1).2 (by omega)) ((X 24 4).2 (by omega)) ((X 20 4).2 (by omega)) ((X 16 4).2 (by omega)) ((X 4 12).2 (by omega)) ((X 0 4).2 (by omega)) ((X 0 16).2 (by omega)) ((X 0 20).2 (by omega)) ((X 0 24).2 (by omega)) ((X 12 12).2 (by omega)) ((X 4 8).2 (by omega)) ((X 4 20).2 (by omega)) (seq20 (by omega)) (seq24 (by omega))
  · exact loc8 DI DJ hf u29 v29 ((X 30 2).1 ⟨by omega, by omega⟩) ((X 29 1).2 (by omega)) ((X 28 1).2 (by omega)) ((X 24 4).2 (by omega)) ((X 20 4).2 (by omega)) ((X 16 4).2 (by omega)) ((X 4 12).2 (by omega)) ((X 0 4).2 (by omega)) ((X 0 16).2 (by omega)) ((X 0 20).2 (by omega)) ((X 0 24).2 (by omega)) ((X 12 12).2 (by omega)) ((X 4 8).2 (by omega)) ((X 4 20).2 (by omega)) (seq20 (by omega)) (seq24 (by omega))
end Go.Proofs.YtgjecfchnokcfaaDoor

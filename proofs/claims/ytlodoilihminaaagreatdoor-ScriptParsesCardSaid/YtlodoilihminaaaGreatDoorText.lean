/-
  Plain lemmas on words' texts: decimal and hexadecimal digits. Nothing of the program.
-/
import Derived.Test.YtlodoilihminaaaGreatDoorWordN
import Derived.Lib.ItoaMem
import Derived.Lib.ItoaLen
namespace Go.Proofs.YtlodoilihminaaaGreatDoor
open Go.ChangeShapes Go.WideShapes Go.ChangeAt Go.RowKit
set_option linter.unusedVariables false

def S (l : List UInt8) : ByteArray := ⟨l.toArray⟩
theorem S_size (l : List UInt8) : (S l).size = l.length := by simp [S, ByteArray.size]
theorem S_inj {l m : List UInt8} (h : S l = S m) : l = m := by
  unfold S at h
  have := congrArg ByteArray.data h
  simpa using congrArg Array.toList this
theorem S_list (s : ByteArray) : S s.data.toList = s := by cases s; simp [S]
theorem S_get (l : List UInt8) (i : Nat) (h : i < (S l).size) : (S l)[i] = l[i]'(by rw [S_size] at h; exact h) := rfl

/-! ### decimal -/
def dval (l : List UInt8) : Int := l.foldl (fun n c => 10 * n + ((c.toNat : Int) - 48)) 0
def isDig (c : UInt8) : Prop := 48 ≤ c.toNat ∧ c.toNat ≤ 57
theorem dval_snoc (l : List UInt8) (c : UInt8) : dval (l ++ [c]) = 10 * dval l + ((c.toNat : Int) - 48) := by unfold dval; rw [List.foldl_append]; rfl
theorem dig_nat (u : Nat) (h : u < 10) : (UInt8.ofNat (48 + u)).toNat = 48 + u := by simp; omega
theorem decDigits_dig (u : Nat) : ∀ c ∈ Lib.decDigits u, isDig c := by
  induction u using Nat.strongRecOn with
  | _ u ih =>
    intro c hc
    rw [Lib.decDigits] at hc
    split at hc
    · rename_i h
      rw [List.mem_singleton] at hc
      subst hc
      unfold isDig; rw [dig_nat u h]; omega
    · rename_i h
      rcases List.mem_append.1 hc with g | g
      · exact ih (u / 10) (by omega) c g
      · rw [List.mem_singleton] at g
        subst g
        unfold isDig; rw [dig_nat _ (by omega)]; omega
theorem dval_decDigits (u : Nat) : dval (Lib.decDigits u) = u := by
  induction u using Nat.strongRecOn with
  | _ u ih =>
    rw [Lib.decDigits]
    split
    · rename_i h
      show 10 * (0 : Int) + _ = _
      rw [dig_nat u h]; omega
    · rename_i h
      rw [dval_snoc, ih (u / 10) (by omega), dig_nat _ (by omega)]
      omega
theorem snoc_rec {α : Type} {P : List α → Prop} (h0 : P []) (h1 : ∀ l c, P l → P (l ++ [c])) (l : List α) : P l := by
  rw [← List.reverse_reverse l]
  induction l.reverse with
  | nil => exact h0
  | cons c r ih => rw [List.reverse_cons]; exact h1 _ _ ih
theorem dval_nonneg (l : List UInt8) (h : ∀ c ∈ l, isDig c) : 0 ≤ dval l := by
  induction l using snoc_rec with
  | h0 => exact Int.le_refl _
  | h1 l c ih =>
    have h1 := ih (fun x hx => h x (by simp [hx]))
    have h2 := h c (by simp)
    unfold isDig at h2
    rw [dval_snoc]; omega
theorem dval_take_le (l : List UInt8) (h : ∀ c ∈ l, isDig c) (j : Nat) : 0 ≤ dval (l.take j) ∧ dval (l.take j) ≤ dval l := by
  induction l using snoc_rec with
  | h0 => simp [dval]
  | h1 l c ih =>
    have h1 := ih (fun x hx => h x (by simp [hx]))
    have h2 := h c (by simp)
    have h3 := dval_nonneg l (fun x hx => h x (by simp [hx]))
    unfold isDig at h2
    by_cases hj : j ≤ l.length
    · rw [List.take_append_of_le_length hj, dval_snoc]; omega
    · rw [List.take_of_length_le (by simp; omega), dval_snoc]; omega
theorem dval_take_succ (l : List UInt8) (j : Nat) (h : j < l.length) : dval (l.take (j + 1)) = 10 * dval (l.take j) + ((l[j].toNat : Int) - 48) := by
  rw [List.take_succ_eq_append_getElem h, dval_snoc]
theorem decDigits_pos (u : Nat) : 0 < (Lib.decDigits u).length := by rw [Lib.decDigits_length]; unfold Lib.nDigits; split <;> omega
def itoaB (v : Int) : ByteArray := S (Lib.itoa v)

theorem S_append (a b : List UInt8) : S a ++ S b = S (a ++ b) := by
  apply ByteArray.ext
  simp [S]
theorem S_empty (l : List UInt8) : (S l).toList.isEmpty = l.isEmpty := by
  have : (S l).toList = l := by
    rw [ByteArray.toList_eq]
    simp [S]
  rw [this]
def dg1 (z : Int) : ByteArray := S [UInt8.ofNat z.toNat]
theorem dg1_size (z : Int) : (dg1 z).size ≤ 1 := by unfold dg1; rw [S_size]; simp
theorem dg1_add (m : Nat) (l : List UInt8) : dg1 (48 + (m : Int) % 10) ++ S l = S (UInt8.ofNat (48 + m % 10) :: l) := by
  unfold dg1; rw [S_append, show (48 + (m : Int) % 10).toNat = 48 + m % 10 by omega]; rfl
def emp (v : Value) : Nat := match v with | .string b => (if b.size = 0 then 1 else 0) | _ => 0
theorem emp_nil : emp (.string (S [])) = 1 := rfl
theorem emp_cons (c : UInt8) (l : List UInt8) : emp (.string (S (c :: l))) = 0 := by unfold emp; simp [S_size]
theorem emp_le (v : Value) : emp v ≤ 1 := by unfold emp; split <;> (try split) <;> omega
/-- where the reference's loop stands: what is left, what is written -/
def DecInv (u m : Nat) (l : List UInt8) : Prop := m ≤ u ∧ l.length ≤ 21 ∧ ((l = [] ∧ m = u) ∨ (l ≠ [] ∧ m = 0 ∧ l = Lib.decDigits u) ∨ (l ≠ [] ∧ 0 < m ∧ Lib.decDigits u = Lib.decDigits m ++ l))
theorem decLen (u : Nat) (h : u ≤ 2147483648) : (Lib.decDigits u).length ≤ 21 := by
  have := Lib.itoa_length_le (u : Int) (by omega) (by omega)
  rwa [Lib.itoa_nonneg] at this
theorem DecInv.step {u m : Nat} {l : List UInt8} (h : DecInv u m l) (hu : u ≤ 2147483648) (hm : 0 < m ∨ l = []) : DecInv u (m / 10) (UInt8.ofNat (48 + m % 10) :: l) := by
  obtain ⟨h1, h2, h3⟩ := h
  have hl := decLen u hu
  have hd : Lib.decDigits m = (if m < 10 then [] else Lib.decDigits (m / 10)) ++ [UInt8.ofNat (48 + m % 10)] := by
    rw [Lib.decDigits]
    split
    · rename_i g
      rw [Nat.mod_eq_of_lt g]; rfl
    · rfl
  have hall : Lib.decDigits u = Lib.decDigits m ++ l := by
    rcases h3 with ⟨rfl, rfl⟩ | ⟨a, b, c⟩ | ⟨a, b, c⟩
    · simp
    · rcases hm with hm | hm
      · omega
      · exact absurd hm a
    · exact c
  by_cases g : m < 10
  · rw [if_pos g] at hd
    have e : Lib.decDigits u = UInt8.ofNat (48 + m % 10) :: l := by rw [hall, hd]; rfl
    refine ⟨by omega, by rw [← e]; exact hl, .inr (.inl ⟨by simp, by omega, e.symm⟩)⟩
  · rw [if_neg g] at hd
    have e : Lib.decDigits u = Lib.decDigits (m / 10) ++ UInt8.ofNat (48 + m % 10) :: l := by rw [hall, hd]; simp
    refine ⟨by omega, ?_, .inr (.inr ⟨by simp, by omega, e⟩)⟩
    rw [e, List.length_append] at hl
    omega
theorem DecInv.done {u m : Nat} {l : List UInt8} (h : DecInv u m l) (h0 : ¬ 0 < m) (hl : l ≠ []) : l = Lib.decDigits u := by
  obtain ⟨h1, h2, ⟨a, b⟩ | ⟨a, b, c⟩ | ⟨a, b, c⟩⟩ := h
  · exact absurd a hl
  · exact c
  · omega
/-! ### hexadecimal -/
def hexdig (n : Nat) : UInt8 := if n < 10 then UInt8.ofNat (48 + n) else UInt8.ofNat (87 + n)
/-- the digit's number as the walk has it -/
def hxd (n : Int) : Int := if n < 10 then 48 + n else 87 + n
theorem hxd_bd (n : Int) (h0 : 0 ≤ n) (h1 : n ≤ 15) : 0 ≤ hxd n ∧ hxd n ≤ 255 := by unfold hxd; split <;> omega
theorem hexdig_nat (n : Nat) (h : n ≤ 15) : ((hexdig n).toNat : Int) = hxd n := by
  unfold hexdig hxd
  split
  · rw [if_pos (by omega)]; simp; omega
  · rw [if_neg (by omega)]; simp; omega
theorem hxd_byte (n : Nat) (h : n ≤ 15) : UInt8.ofNat (hxd n).toNat = hexdig n := by
  rw [← hexdig_nat n h]; simp
/-- the last i digits -/
def hexT (a : Nat) : Nat → List UInt8
  | 0 => []
  | i + 1 => hexdig (a / 16 ^ i % 16) :: hexT a i
def hexL (a : Int) : List UInt8 := hexT a.toNat 8
def hexB (a : Int) : ByteArray := S (hexL a)
theorem hexT_length (a i : Nat) : (hexT a i).length = i := by
  induction i with
  | zero => rfl
  | succ i ih => simp [hexT, ih]
theorem and15 (b : Int) (h0 : 0 ≤ b) (h1 : b ≤ 4294967295) : bits BinOp.and IntKind.u32 b 15 = b % 16 := by
  obtain ⟨n, rfl⟩ := Int.eq_ofNat_of_zero_le h0
  rw [show (15 : Int) = ((15 : Nat) : Int) from rfl, u32_and_nat n 15 (by omega) (by omega)]
  rw [show (15 : Nat) = 2 ^ 4 - 1 from rfl, Nat.and_two_pow_sub_one_eq_mod]
  omega
theorem hexT_step (a i : Nat) : hexT a (i + 1) = hexdig (a / 16 ^ i % 16) :: hexT a i := rfl
theorem dg1_lo (x : Nat) (l : List UInt8) (h : x % 16 < 10) : dg1 ((x : Int) % 16 + 48) ++ S l = S (hexdig (x % 16) :: l) := by
  unfold dg1 hexdig; rw [S_append, if_pos h, show ((x : Int) % 16 + 48).toNat = 48 + x % 16 by omega]; rfl
theorem dg1_hi (x : Nat) (l : List UInt8) (h : ¬ x % 16 < 10) : dg1 ((x : Int) % 16 - 10 + 97) ++ S l = S (hexdig (x % 16) :: l) := by
  unfold dg1 hexdig; rw [S_append, if_neg h, show ((x : Int) % 16 - 10 + 97).toNat = 87 + x % 16 by omega]; rfl
end Go.Proofs.YtlodoilihminaaaGreatDoor

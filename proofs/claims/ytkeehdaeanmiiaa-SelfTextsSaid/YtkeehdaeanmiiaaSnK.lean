/-
  The contract of word.OfHex, of eight digits.
-/
import Derived.Test.YtkeehdaeanmiiaaTextB
namespace Go.Proofs.Ytkeehdaeanmiiaa
open Go.ChangeShapes Go.WideShapes Go.ChangeAt Go.RowKit
set_option linter.unusedVariables false
def hdig (c : UInt8) : Nat := if 97 ≤ c.toNat then c.toNat - 87 else (c.toNat + 4294967296 - 48) % 4294967296
def hstep (a : Int) (c : UInt8) : Int := w32 (16 * a + hdig c)
def rhex (l : List UInt8) : Int := l.foldl hstep 0
theorem rhex_succ (l : List UInt8) (j : Nat) (h : j < l.length) : rhex (l.take (j + 1)) = hstep (rhex (l.take j)) l[j] := by
  unfold rhex
  rw [List.take_succ_eq_append_getElem h, List.foldl_append]; rfl
theorem rhex_bd (l : List UInt8) (j : Nat) : 0 ≤ rhex (l.take j) ∧ rhex (l.take j) ≤ 4294967295 := by
  induction j with
  | zero => simp [rhex]
  | succ j ih =>
    by_cases h : j < l.length
    · rw [rhex_succ l j h]; exact w32_bd _
    · rw [List.take_of_length_le (by omega)]; rw [List.take_of_length_le (by omega)] at ih; exact ih
def isHex (c : UInt8) : Prop := (48 ≤ c.toNat ∧ c.toNat ≤ 57) ∨ (97 ≤ c.toNat ∧ c.toNat ≤ 102)
instance (c : UInt8) : Decidable (isHex c) := by unfold isHex; infer_instance
theorem hdig_hex (c : UInt8) (h : isHex c) : hdig c ≤ 15 ∧ hexdig (hdig c) = c := by
  unfold isHex at h
  unfold hdig hexdig
  rcases h with h | h
  · rw [if_neg (by omega), show (c.toNat + 4294967296 - 48) % 4294967296 = c.toNat - 48 by omega, if_pos (by omega)]
    exact ⟨by omega, by apply UInt8.toNat_inj.1; simp; omega⟩
  · rw [if_pos (by omega)]
    refine ⟨by omega, ?_⟩
    rw [if_neg (by omega)]; apply UInt8.toNat_inj.1; simp; omega
theorem hexdig_isHex (n : Nat) (h : n < 16) : isHex (hexdig n) := by
  unfold isHex hexdig
  split
  · left; simp; omega
  · right; simp; omega
theorem hexT_isHex (a i : Nat) : ∀ c ∈ hexT a i, isHex c := by
  induction i with
  | zero => intro c hc; cases hc
  | succ i ih =>
    intro c hc
    rcases List.mem_cons.1 hc with rfl | h
    · exact hexdig_isHex _ (Nat.mod_lt _ (by omega))
    · exact ih c h
theorem hexT_snoc (n d i : Nat) (h : d < 16) : hexT (16 * n + d) (i + 1) = hexT n i ++ [hexdig d] := by
  induction i with
  | zero =>
    show [hexdig ((16 * n + d) / 16 ^ 0 % 16)] = [hexdig d]
    congr 2; simp; omega
  | succ i ih =>
    show hexdig ((16 * n + d) / 16 ^ (i + 1) % 16) :: hexT (16 * n + d) (i + 1) = hexdig (n / 16 ^ i % 16) :: (hexT n i ++ [hexdig d])
    rw [ih, Nat.pow_succ, Nat.mul_comm (16 ^ i), ← Nat.div_div_eq_div_mul, show (16 * n + d) / 16 = n by omega]
def hnat (l : List UInt8) : Nat := l.foldl (fun n c => 16 * n + hdig c) 0
theorem hnat_snoc (l : List UInt8) (c : UInt8) : hnat (l ++ [c]) = 16 * hnat l + hdig c := by unfold hnat; rw [List.foldl_append]; rfl
theorem rhex_snoc (l : List UInt8) (c : UInt8) : rhex (l ++ [c]) = hstep (rhex l) c := by unfold rhex; rw [List.foldl_append]; rfl
theorem hnat_all (l : List UInt8) (h : ∀ c ∈ l, isHex c) : hexT (hnat l) l.length = l ∧ hnat l < 16 ^ l.length ∧ (l.length ≤ 8 → rhex l = hnat l) := by
  induction l using snoc_rec with
  | h0 => exact ⟨rfl, by simp [hnat], fun _ => rfl⟩
  | h1 l c ih =>
    obtain ⟨i1, i2, i3⟩ := ih (fun x hx => h x (by simp [hx]))
    obtain ⟨g1, g2⟩ := hdig_hex c (h c (by simp))
    rw [hnat_snoc, List.length_append]
    refine ⟨?_, ?_, fun hl => ?_⟩
    · show hexT _ (l.length + 1) = _
      rw [hexT_snoc _ _ _ (by omega), i1, g2]
    · show _ < 16 ^ (l.length + 1)
      rw [Nat.pow_succ]; omega
    · have hl : l.length + 1 ≤ 8 := hl
      have hp : (16 : Nat) ^ l.length ≤ 16 ^ 7 := Nat.pow_le_pow_right (by omega) (by omega)
      rw [rhex_snoc, i3 (by omega)]
      unfold hstep w32; omega
theorem or_low (a d : Int) (a0 : 0 ≤ a) (a1 : a ≤ 4294967295) (d0 : 0 ≤ d) (d1 : d ≤ 15) : bits BinOp.or IntKind.u32 (a * 16 % 4294967296) d = (16 * a + d) % 4294967296 := by
  obtain ⟨n, rfl⟩ := Int.eq_ofNat_of_zero_le a0
  obtain ⟨e, rfl⟩ := Int.eq_ofNat_of_zero_le d0
  rw [show (n : Int) * 16 % 4294967296 = ((n * 16 % 4294967296 : Nat) : Int) by simp, u32_or_nat _ _ (Nat.mod_lt _ (by omega)) (by omega)]
  rw [show n * 16 % 4294967296 = 2 ^ 4 * (n % 268435456) by omega, ← Nat.two_pow_add_eq_or_of_lt (show e < 2 ^ 4 by omega)]
  omega
end Go.Proofs.Ytkeehdaeanmiiaa

/-
  Plain lemmas on fingerprints: a step, all steps, the sum of powers. Nothing of the program.
-/
import Derived.Test.YtojifffenfmklaaWordA
namespace Go.Proofs.Ytojifffenfmklaa
open Go.ChangeShapes Go.WideShapes Go.ChangeAt Go.RowKit
set_option linter.unusedVariables false

def step (k z : Int) : Int := w32 (k * 16777619 + z + 1)
def fnv (k : Int) (l : List Int) : Int := l.foldl step k
theorem step_bd (k z : Int) : 0 ≤ step k z ∧ step k z ≤ 4294967295 := w32_bd _
theorem fnv_snoc (k : Int) (zs : List Int) (j : Nat) (h : j < zs.length) : fnv k (zs.take (j + 1)) = step (fnv k (zs.take j)) (nth zs j) := by
  rw [take_nth zs j h]; unfold fnv; rw [List.foldl_append]; rfl
theorem fnv_append (k : Int) (a b : List Int) : fnv k (a ++ b) = fnv (fnv k a) b := by unfold fnv; rw [List.foldl_append]
theorem fnv_bd (k : Int) (k0 : 0 ≤ k) (k1 : k ≤ 4294967295) (zs : List Int) : 0 ≤ fnv k zs ∧ fnv k zs ≤ 4294967295 := by
  induction zs generalizing k with
  | nil => exact ⟨k0, k1⟩
  | cons z l ih => exact ih _ (step_bd k z).1 (step_bd k z).2
theorem emod_mad (a b c M : Int) : (a * (b % M) + c % M) % M = (a * b + c) % M := by
  rw [Int.add_emod, Int.mul_emod, Int.emod_emod_of_dvd _ (Int.dvd_refl M), ← Int.mul_emod, Int.emod_emod_of_dvd _ (Int.dvd_refl M), ← Int.add_emod]
theorem emod_mad' (x p s M : Int) : (x % M * p + s) % M = (x * p + s) % M := by
  rw [Int.add_emod, Int.mul_emod, Int.emod_emod_of_dvd _ (Int.dvd_refl M), ← Int.mul_emod, ← Int.add_emod]
/-- p and s are the list's power and sum -/
def Pow (l : List Int) (p s : Int) : Prop := ∀ k, fnv k l = (k * p + s) % 4294967296 ∨ (l = [] ∧ p = 1 ∧ s = 0)
theorem Pow.nil : Pow [] 1 0 := fun k => .inr ⟨rfl, rfl, rfl⟩
theorem Pow.cons {l : List Int} {p s : Int} (h : Pow l p s) (z : Int) : Pow (z :: l) (p * 16777619 % 4294967296) ((s + (z + 1) * p) % 4294967296) := by
  intro k
  left
  have e : fnv k (z :: l) = fnv (step k z) l := rfl
  rw [e, emod_mad]
  have g : k * (p * 16777619) + (s + (z + 1) * p) = (k * 16777619 + z + 1) * p + s := by
    have a1 : (k * 16777619 + z + 1) * p = k * 16777619 * p + (z + 1) * p := by rw [show k * 16777619 + z + 1 = k * 16777619 + (z + 1) by omega]; exact Int.add_mul ..
    rw [a1, Int.mul_assoc k, Int.mul_comm 16777619 p]; omega
  rw [g]
  rcases h (step k z) with h | ⟨rfl, rfl, rfl⟩
  · rw [h]; unfold step w32; exact emod_mad' _ _ _ _
  · show step k z = _
    unfold step w32; simp
theorem Pow.at {l : List Int} {p s : Int} (h : Pow l p s) (k : Int) (k0 : 0 ≤ k) (k1 : k ≤ 4294967295) : fnv k l = (k * p + s) % 4294967296 := by
  rcases h k with h | ⟨rfl, rfl, rfl⟩
  · exact h
  · show k = _; omega
theorem drop_nth (l : List Int) (j : Nat) (h : j < l.length) : l.drop j = nth l j :: l.drop (j + 1) := by
  rw [List.drop_eq_getElem_cons h, nth_eq l j h]
end Go.Proofs.Ytojifffenfmklaa

/-
  How much of a node there is, told.
-/
import Derived.Test.YtkhbmamgfkpdbaaTreeT
namespace Go.Proofs.Ytkhbmamgfkpdbaa
open Go.ChangeShapes Go.WideShapes Go.ChangeAt Go.RowKit
set_option linter.unusedVariables false
mutual
/-- what is left of a number, by a tree -/
def Tr.big : Tr → Int → Int
  | .mk _ s _ _ ts, n => Tr.bigL ts (n - 1 - ((min s.size 100000 : Nat) : Int) / 16)
def Tr.bigL : List Tr → Int → Int
  | [], n => n
  | t :: ts, n => if n < 0 then n else Tr.bigL ts (t.big n)
end
mutual
theorem big_le : ∀ (t : Tr) (n : Int), t.big n ≤ n - 1
  | .mk _ s _ _ ts, n => by
    unfold Tr.big
    have := bigL_le ts (n - 1 - ((min s.size 100000 : Nat) : Int) / 16)
    omega
theorem bigL_le : ∀ (ts : List Tr) (n : Int), Tr.bigL ts n ≤ n
  | [], n => by unfold Tr.bigL; omega
  | t :: ts, n => by
    unfold Tr.bigL
    split
    · omega
    · have h1 := big_le t n
      have h2 := bigL_le ts (t.big n)
      omega
end
mutual
theorem big_ge : ∀ (t : Tr) (n : Int), 0 ≤ n → -6251 ≤ t.big n
  | .mk _ s _ _ ts, n, h => by
    unfold Tr.big
    exact bigL_ge ts _ (by omega)
theorem bigL_ge : ∀ (ts : List Tr) (n : Int), -6251 ≤ n → -6251 ≤ Tr.bigL ts n
  | [], n, h => by unfold Tr.bigL; omega
  | t :: ts, n, h => by
    unfold Tr.bigL
    split
    · omega
    · exact bigL_ge ts _ (big_ge t n (by omega))
end
mutual
/-- what is counted is no more than was taken -/
theorem count_le : ∀ (t : Tr) (n : Int), 0 ≤ t.big n → (t.count : Int) ≤ n - t.big n
  | .mk _ s _ _ ts, n, h => by
    unfold Tr.big at h ⊢
    unfold Tr.count
    have := countL_le ts _ h
    omega
theorem countL_le : ∀ (ts : List Tr) (n : Int), 0 ≤ Tr.bigL ts n → (Tr.countL ts : Int) ≤ n - Tr.bigL ts n
  | [], n, h => by unfold Tr.bigL Tr.countL; omega
  | t :: ts, n, h => by
    have hn : ¬ n < 0 := fun hn => by unfold Tr.bigL at h; rw [if_pos hn] at h; omega
    unfold Tr.bigL at h ⊢
    rw [if_neg hn] at h ⊢
    unfold Tr.countL
    have h2 := countL_le ts _ h
    have h3 : 0 ≤ t.big n := by
      have := bigL_le ts (t.big n)
      omega
    have h1 := count_le t n h3
    omega
end
end Go.Proofs.Ytkhbmamgfkpdbaa

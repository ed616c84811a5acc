/-
  Flat's rows gone through: the greatest depth, the names.
-/
import Derived.Test.YtkhbmamgfkpdbaaTreeMC
import Derived.Test.YtkhbmamgfkpdbaaTreeQ
namespace Go.Proofs.Ytkhbmamgfkpdbaa
set_option linter.unusedVariables false
def maxD (a : Int) (p : Tr × Int) : Int := max a p.2
mutual
theorem fold_deep : ∀ (t : Tr) (d a : Int), (t.flat d).foldl maxD a = max a (d + t.deep - 1)
  | .mk k s v m ts, d, a => by
    unfold Tr.flat Tr.deep
    rw [List.foldl_cons, foldL_deep ts (d + 1) (maxD a (.mk k s v m ts, d)) (by unfold maxD; show d + 1 - 1 ≤ max a d; omega)]
    unfold maxD
    simp only []
    push_cast
    omega
theorem foldL_deep : ∀ (ts : List Tr) (d a : Int), d - 1 ≤ a → (Tr.flatL ts d).foldl maxD a = max a (d + Tr.deepL ts - 1)
  | [], d, a, h => by unfold Tr.flatL Tr.deepL; simp; omega
  | t :: ts, d, a, h => by
    unfold Tr.flatL Tr.deepL
    rw [List.foldl_append, fold_deep t d a, foldL_deep ts d _ (by omega)]
    push_cast
    omega
end
theorem deep_pos (t : Tr) : 1 ≤ t.deep := by cases t; unfold Tr.deep; omega
theorem fold_deep0 (t : Tr) : (t.flat 0).foldl maxD 0 + 1 = t.deep := by
  rw [fold_deep t 0 0]
  have := deep_pos t
  omega
def Tr.kind : Tr → Int
  | .mk k _ _ _ _ => k
def Tr.name : Tr → ByteArray
  | .mk _ s _ _ _ => s
noncomputable def addN (l : List ByteArray) (p : Tr × Int) : List ByteArray := addName l p.1.kind p.1.name
mutual
theorem fold_names : ∀ (t : Tr) (d : Int) (l : List ByteArray), (t.flat d).foldl addN l = t.names l
  | .mk k s v m ts, d, l => by
    unfold Tr.flat Tr.names
    rw [List.foldl_cons, foldL_names ts (d + 1)]
    rfl
theorem foldL_names : ∀ (ts : List Tr) (d : Int) (l : List ByteArray), (Tr.flatL ts d).foldl addN l = Tr.namesL ts l
  | [], d, l => by unfold Tr.flatL Tr.namesL; rfl
  | t :: ts, d, l => by
    unfold Tr.flatL Tr.namesL
    rw [List.foldl_append, fold_names t d l, foldL_names ts d]
end
theorem fold_take {α β : Type} (f : α → β → α) (a : α) (l : List β) (i : Nat) (h : i < l.length) : (l.take (i + 1)).foldl f a = f ((l.take i).foldl f a) l[i] := by
  rw [List.take_succ_eq_append_getElem h, List.foldl_append]
  rfl
theorem addN_len (l : List ByteArray) (p : Tr × Int) : (addN l p).length ≤ l.length + 1 := addName_len _ _ _
theorem foldN_len : ∀ (ps : List (Tr × Int)) (l : List ByteArray), (ps.foldl addN l).length ≤ l.length + ps.length
  | [], l => by simp
  | p :: ps, l => by
    have h1 := foldN_len ps (addN l p)
    have h2 := addN_len l p
    simp only [List.foldl_cons, List.length_cons]
    omega
end Go.Proofs.Ytkhbmamgfkpdbaa

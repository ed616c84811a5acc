/-
  A text's words as the library cuts them; what an act's line is read as, letter by letter. Nothing of the program.
-/
import Derived.Test.YtlodoilihminaaaGreatDoorScrP
import Derived.Test.YtlodoilihminaaaGreatDoorScrC
import Derived.Lib.IndexAny
import Derived.Lib.SplitLaws
import Derived.Lib.IndexBytes
namespace Go.Proofs.YtlodoilihminaaaGreatDoor
set_option linter.unusedVariables false
set_option linter.unusedSimpArgs false
def k1 (d : UInt8) (l : List UInt8) : List UInt8 := l.takeWhile fun c => c != d
def k2 (d : UInt8) (l : List UInt8) : List UInt8 := (l.dropWhile fun c => c != d).tail
theorem k1_32 : k1 32 = c1 := rfl
theorem k2_32 : k2 32 = c2 := rfl
theorem index_byte_cons (b d : UInt8) (l : List UInt8) : Lib.indexByte (b :: l) d = if b == d then 0 else if Lib.indexByte l d == -1 then -1 else Lib.indexByte l d + 1 := rfl
theorem indexByte_ge (d : UInt8) : ∀ l, -1 ≤ Lib.indexByte l d
  | [] => by simp [Lib.indexByte]
  | b :: l => by
    have := indexByte_ge d l
    rw [index_byte_cons]
    split
    · omega
    · split <;> omega
theorem cut_one (d : UInt8) (l : List UInt8) : Lib.cut l [d] = (k1 d l, k2 d l, decide (d ∈ l)) := by
  unfold Lib.cut
  rw [Lib.index_one]
  induction l with
  | nil => simp [Lib.indexByte, k1, k2]
  | cons b l ih =>
    by_cases hb : b = d
    · subst hb
      rw [index_byte_cons]
      simp [k1, k2]
    · have hg := indexByte_ge d l
      have e0 : Lib.indexByte (b :: l) d = if Lib.indexByte l d == -1 then -1 else Lib.indexByte l d + 1 := by rw [index_byte_cons, if_neg (by simp [hb])]
      have e1 : k1 d (b :: l) = b :: k1 d l := by unfold k1; rw [List.takeWhile_cons_of_pos (by simp [hb])]
      have e2 : k2 d (b :: l) = k2 d l := by unfold k2; rw [List.dropWhile_cons_of_pos (by simp [hb])]
      have e3 : decide (d ∈ b :: l) = decide (d ∈ l) := by simp [Ne.symm hb]
      rw [e0, e1, e2, e3]
      generalize Lib.indexByte l d = x at *
      by_cases hn : x = -1
      · subst hn
        rw [if_neg (by decide)] at ih
        injection ih with i1 i2
        injection i2 with i2 i3
        rw [← i1, ← i2, ← i3]
        rfl
      · have hx : (x == -1) = false := by simpa using hn
        rw [hx, show (if (false = true) then (-1 : Int) else x + 1) = x + 1 from rfl]
        rw [if_pos (by omega)] at ih
        rw [if_pos (by omega)]
        injection ih with i1 i2
        injection i2 with i2 i3
        rw [← i1, ← i2, ← i3]
        obtain ⟨n, rfl⟩ : ∃ n : Nat, x = n := ⟨x.toNat, by omega⟩
        have t1 : ((n : Int) + 1).toNat = n + 1 := by omega
        rw [t1]
        rfl
theorem spl_cut (l : List UInt8) : spl l = if 32 ∈ l then c1 l :: spl (c2 l) else [l] := by
  split
  · next h =>
    have e : l = c1 l ++ 32 :: c2 l := by
      unfold c1 c2
      obtain ⟨a, r, ha, hr⟩ : ∃ a r, l = a ++ 32 :: r ∧ ∀ c ∈ a, c ≠ 32 := by
        induction l with
        | nil => simp at h
        | cons b l ih =>
          by_cases hb : b = 32
          · exact ⟨[], l, by rw [hb]; rfl, by simp⟩
          · obtain ⟨a, r, e, hr⟩ := ih (by simpa [Ne.symm hb] using h)
            exact ⟨b :: a, r, by rw [e]; rfl, by simpa [hb] using hr⟩
      have h1 := c1_app a hr r
      have h2 := c2_app a hr r
      rw [← ha] at h1 h2
      unfold c1 at h1
      unfold c2 at h2
      rw [h1, h2]
      exact ha
    have hn : ∀ c ∈ c1 l, c ≠ 32 := by
      intro c hc
      unfold c1 at hc
      have := List.all_takeWhile (p := fun c : UInt8 => c != 32) (l := l)
      simpa using List.all_eq_true.1 this c hc
    conv => lhs; rw [e]
    exact spl_app _ hn _
  · next h => exact spl_word l fun c hc e => h (e ▸ hc)
theorem splitK_spl : ∀ (k : Nat) (l : List UInt8), Lib.count l [32] = k → Lib.splitK [32] 0 k l = spl l := by
  intro k
  induction k with
  | zero =>
    intro l h
    rw [Lib.count_one, List.count_eq_zero] at h
    rw [spl_cut, if_neg h]
    rfl
  | succ k ih =>
    intro l h
    have hm : 32 ∈ l := by
      rw [Lib.count_one] at h
      exact List.count_pos_iff.1 (by omega)
    have hc := cut_one 32 l
    unfold Lib.cut at hc
    by_cases hi : 0 ≤ Lib.index l [32]
    · rw [if_pos hi] at hc
      injection hc with i1 i2
      injection i2 with i2 i3
      obtain ⟨i, he⟩ : ∃ i : Nat, Lib.index l [32] = i := ⟨(Lib.index l [32]).toNat, by omega⟩
      have hh := Lib.count_hit (by simp) he
      have e : (Lib.index l [32]).toNat = i := by omega
      rw [e] at i1 i2
      unfold Lib.splitK
      rw [if_neg (by rw [he]; simp), e, spl_cut, if_pos hm]
      have hd : l.drop (i + [(32 : UInt8)].length) = c2 l := i2
      rw [hd] at hh ⊢
      rw [ih (c2 l) (by omega)]
      congr 1
    · rw [if_neg hi] at hc
      injection hc with i1 i2
      injection i2 with i2 i3
      simp [hm] at i3
/-- what each letter reads: the act so far, what is left -/
def rdT (x : Ac × List UInt8) (c : UInt8) : Ac × List UInt8 :=
  if c = 110 ∨ c = 109 then ({ x.1 with name := c1 x.2 }, c2 x.2)
  else if c = 98 then ({ x.1 with bytes := ofH (c1 x.2) }, c2 x.2)
  else if c = 116 then ({ x.1 with bytes := x.2.map fun c => (c.toNat : Int) }, x.2)
  else if c = 105 then ({ x.1 with mem := numOf (c1 x.2) }, c2 x.2)
  else if c = 102 then ({ x.1 with fuel := numOf (c1 x.2) }, c2 x.2)
  else if c = 108 then ({ x.1 with names := spl x.2 }, x.2)
  else x
theorem kindOf_cases (l : List UInt8) : kindOf l = 0 ∨ kindOf l = 1 ∨ kindOf l = 2 ∨ kindOf l = 3 ∨ kindOf l = 4 ∨ kindOf l = 5 ∨ kindOf l = 6 ∨ kindOf l = 7 := by
  unfold kindOf
  split <;> omega
theorem pC_fold (s : List UInt8) : ((shW (kindOf (c1 s))).foldl rdT (⟨kindOf (c1 s), [], [], [], 0, 0⟩, c2 s)).1 = pC s := by
  unfold pC
  rcases kindOf_cases (c1 s) with h | h | h | h | h | h | h | h <;> rw [h] <;> rfl
end Go.Proofs.YtlodoilihminaaaGreatDoor

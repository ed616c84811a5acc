/-
  A scanner in memory: the map of signs; a name is put to the names; names' numbers.
-/
import Derived.Test.YtkeehdaeanmiiaaSnB
import Derived.Deep.AppendLies
namespace Go.Proofs.Ytkeehdaeanmiiaa
open Go.ChangeShapes Go.WideShapes Go.ChangeAt Go.RowKit
open Go.ChangeMaps (setBlock)
open Ev (WRow)
set_option linter.unusedVariables false
set_option linter.unusedSimpArgs false
theorem sturned_below {w w' : World} {b : Nat} (h : w.mapTurned w' b) {B : Nat} (hB : B ≤ b) : Below B w w' := by
  obtain ⟨es, clock, es', clock', hb, rfl⟩ := h
  exact ⟨rfl, rfl, rfl, by simp [setBlock], fun k hk => by show (w.heap.setIfInBounds b _)[k]? = w.heap[k]?; rw [Array.getElem?_setIfInBounds_ne (by omega)]⟩
def sgD : DataW Value := ((((((((((((((((((((((.map [] : DataW Value).put (.int .u8 61) (.held (.int .i64 1))).put (.int .u8 35) (.held (.int .i64 2))).put (.int .u8 60) (.held (.int .i64 3))).put (.int .u8 62) (.held (.int .i64 5))).put (.int .u8 43) (.held (.int .i64 7))).put (.int .u8 45) (.held (.int .i64 8))).put (.int .u8 42) (.held (.int .i64 9))).put (.int .u8 47) (.held (.int .i64 10))).put (.int .u8 46) (.held (.int .i64 11))).put (.int .u8 94) (.held (.int .i64 12))).put (.int .u8 38) (.held (.int .i64 13))).put (.int .u8 126) (.held (.int .i64 14))).put (.int .u8 40) (.held (.int .i64 15))).put (.int .u8 41) (.held (.int .i64 16))).put (.int .u8 91) (.held (.int .i64 17))).put (.int .u8 93) (.held (.int .i64 18))).put (.int .u8 123) (.held (.int .i64 19))).put (.int .u8 125) (.held (.int .i64 20))).put (.int .u8 44) (.held (.int .i64 21))).put (.int .u8 59) (.held (.int .i64 22))).put (.int .u8 58) (.held (.int .i64 23)))
theorem has_put8 {D : DataW Value} (hD : Maps.IsMap D) (k c : Int) (y : DataW Value) : Maps.has (D.put (.int .u8 k) y) (.int .u8 c) = (decide (c = k) || Maps.has D (.int .u8 c)) := by
  by_cases h : c = k
  · subst h
    rw [Maps.has_put_same hD (show WideAt.IsKeyLit (.int .u8 c) from True.intro)]; simp
  · rw [Maps.has_put_other (by intro e; injection e with _ e2; exact h e2)]; simp [h]
theorem at_put8 {D : DataW Value} (hD : Maps.IsMap D) (k c : Int) (y z : DataW Value) : (D.put (.int .u8 k) y).atKey (.int .u8 c) z = if c = k then y else D.atKey (.int .u8 c) z := by
  by_cases h : c = k
  · subst h
    rw [Maps.atKey_put_same hD (show WideAt.IsKeyLit (.int .u8 c) from True.intro), if_pos rfl]
  · rw [Maps.atKey_put_other (by intro e; injection e with _ e2; exact h e2), if_neg h]
def mkD : List (Int × Int) → DataW Value → DataW Value
  | [], D => D
  | p :: r, D => mkD r (D.put (.int .u8 p.1) (.held (.int .i64 p.2)))
theorem mk_has (c : Int) : ∀ (l : List (Int × Int)) (D : DataW Value), Maps.IsMap D → Maps.has (mkD l D) (.int .u8 c) = ((lk l c).isSome || Maps.has D (.int .u8 c))
  | [], D, h => by simp [mkD, lk]
  | p :: r, D, h => by
    rw [mkD, mk_has c r _ (h.put _ _), has_put8 h, lk]
    by_cases e : c = p.1
    · simp [e]
    · simp [e]
theorem mk_at (c : Int) (z : DataW Value) : ∀ (l : List (Int × Int)) (D : DataW Value), Maps.IsMap D → (l.map (·.1)).Nodup → (mkD l D).atKey (.int .u8 c) z = match lk l c with | some y => .held (.int .i64 y) | none => D.atKey (.int .u8 c) z
  | [], D, h, hn => rfl
  | p :: r, D, h, hn => by
    rw [List.map_cons, List.nodup_cons] at hn
    rw [mkD, mk_at c z r _ (h.put _ _) hn.2, at_put8 h, lk]
    by_cases e : c = p.1
    · have hnone : lk r c = none := by
        have : ∀ l : List (Int × Int), c ∉ l.map (·.1) → lk l c = none := by
          intro l
          induction l with
          | nil => intro _; rfl
          | cons a t ih =>
            intro hc
            rw [List.map_cons, List.mem_cons, not_or] at hc
            rw [lk, if_neg hc.1, ih hc.2]
        exact this r (by rw [e]; exact hn.1)
      rw [hnone, if_pos e, if_pos e]
    · rw [if_neg e, if_neg e]
theorem sgD_ok : SgOk sgD := by
  have e : sgD = mkD sgP (.map []) := rfl
  intro c h0 h1
  refine ⟨?_, fun y hy z => ?_⟩
  · rw [e, mk_has c _ _ Maps.isMap_empty]
    simp [sgF, Maps.has]
  · rw [e, mk_at c z _ _ Maps.isMap_empty (by decide)]
    unfold sgF at hy
    rw [hy]
section
variable {w : World} {B : Nat} {q : Sp} {s : Sn}
theorem infoS0 : (Try.prog.info? 9).map (fun i => (i.zero, i.size, i.bytes)) = some (some (.string (bs [])), 1, 16) := by kernel_rfl
theorem infoS : ∃ i, Try.prog.info? 9 = some i ∧ i.zero = some (.string (bs [])) ∧ i.size = 1 ∧ i.bytes = 16 := by
  cases hi : Try.prog.info? 9 with
  | none => have h := infoS0; rw [hi] at h; cases h
  | some i =>
    have h := infoS0
    rw [hi] at h
    have h2 := Option.some.inj h
    exact ⟨i, rfl, congrArg (·.1) h2, congrArg (·.2.1) h2, congrArg (·.2.2) h2⟩
theorem sndrewN (w : World) (n : Nat) : Below w.heap.size w (w.drewN n) := ⟨rfl, rfl, rfl, Nat.le_refl _, fun _ _ => rfl⟩
end
end Go.Proofs.Ytkeehdaeanmiiaa

/-
  A scanner in memory: names' numbers.
-/
import Derived.Test.YtkeehdaeanmiiaaSnC
namespace Go.Proofs.Ytkeehdaeanmiiaa
open Go.ChangeShapes Go.WideShapes Go.ChangeAt Go.RowKit
open Ev (WRow)
set_option linter.unusedVariables false
set_option linter.unusedSimpArgs false
def letB (c : Int) : Bool := decide (65 ≤ c ∧ c ≤ 90 ∨ 97 ≤ c ∧ c ≤ 122)
def digB (c : Int) : Bool := decide (48 ≤ c ∧ c ≤ 57)
def okB (c : UInt8) : Bool := letB (c.toNat : Int) || digB (c.toNat : Int)
def nameB (s : ByteArray) : Bool := decide (1 ≤ s.size ∧ s.size ≤ 15) && (letB ((s.data.toList.headD 0).toNat : Int) && s.data.toList.all okB)
theorem all_succ (s : ByteArray) (k : Nat) (h : k < s.size) : (s.data.toList.take (k + 1)).all okB = ((s.data.toList.take k).all okB && okB s[k]) := by
  rw [List.take_succ_eq_append_getElem (by simpa using h), List.all_append]
  simp
  rfl
theorem all_no (s : ByteArray) (k : Nat) (h : k < s.size) (hn : okB s[k] = false) : s.data.toList.all okB = false := by
  refine List.all_eq_false.2 ⟨s[k], ?_, by simp [hn]⟩
  exact List.getElem_mem (l := s.data.toList) (by simpa using h)
theorem head_at (s : ByteArray) (h : 0 < s.size) : s.data.toList.headD 0 = s[0] := by
  have hl : 0 < s.data.toList.length := by simpa using h
  cases hs : s.data.toList with
  | nil => rw [hs] at hl; simp at hl
  | cons c l =>
    have : s.data.toList[0] = c := by simp [hs]
    rw [← this]; rfl
theorem ok_let {c : UInt8} (h : letB (c.toNat : Int) = true) : okB c = true := by unfold okB; rw [h]; rfl
theorem ok_dig {c : UInt8} (h0 : 48 ≤ (c.toNat : Int)) (h1 : (c.toNat : Int) ≤ 57) : okB c = true := by unfold okB digB; rw [decide_eq_true (And.intro h0 h1), Bool.or_true]
theorem ok_no {c : UInt8} (h : letB (c.toNat : Int) = false) (hd : (c.toNat : Int) < 48 ∨ 57 < (c.toNat : Int)) : okB c = false := by unfold okB digB; rw [h, decide_eq_false (by omega)]; rfl
def internF (s : Sn) (l : List UInt8) : Sn := if l ∈ s.nms then s else if 700 ≤ s.nms.length then markF s 62 s.pos else { s with nms := s.nms ++ [l] }
def internN (s : Sn) (l : List UInt8) : Int := if l ∈ s.nms then (s.nms.idxOf l : Nat) else if 700 ≤ s.nms.length then -1 else (s.nms.length : Nat)
section
variable {w : World} {B : Nat} {q : Sp} {s : Sn}
def Interned (w : World) (B : Nat) (q : Sp) (s : Sn) (l : List UInt8) (e : Ending) (w' : World) : Prop := e = .returned (.int .i64 (internN s l)) ∧ ∃ q', SnAt w' B q' (internF s l) ∧ Sf q q' w w'
/-- Intern, of any text -/
def InternedB (w : World) (B : Nat) (q : Sp) (s : Sn) (nm : ByteArray) (e : Ending) (w' : World) : Prop := if nameB nm then Interned w B q s nm.data.toList e w' else (e = .returned (.int .i64 (-1)) ∧ w' = w)
theorem interned_no {nm : ByteArray} (h : nameB nm = false) : InternedB w B q s nm (.returned (.int .i64 (-1))) w := by unfold InternedB; rw [h]; exact ⟨rfl, rfl⟩
end
end Go.Proofs.Ytkeehdaeanmiiaa

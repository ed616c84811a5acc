/-
  A scanner in memory: looks ahead; comments; blanks.
-/
import Derived.Test.YtkeehdaeanmiiaaSnD
import Derived.Test.YtkeehdaeanmiiaaSnP
namespace Go.Proofs.Ytkeehdaeanmiiaa
open Go.ChangeShapes Go.WideShapes Go.ChangeAt Go.RowKit
open Ev (WRow)
set_option linter.unusedVariables false
set_option linter.unusedSimpArgs false
section
variable {w : World} {B : Nat} {q : Sp} {s : Sn}
theorem SnAt.byte (h : SnAt w B q s) {A : Option Addr} {n c : Nat} (hv : q.sv = .slice A n c) (j : Nat) (hj : j < s.src.length) : ∃ b f, A = some ⟨b, f, none⟩ ∧ w.cell? ⟨b, f + j, none⟩ = some (.int .u8 (nth s.src j)) := by
  rcases h.src.2 with ⟨e, e0⟩ | ⟨b, f, c', e, hb, hl, h1, h2, h3, h4⟩
  · omega
  · rw [hv] at e
    injection e with e1 e2 e3
    refine ⟨b, f, e1, h3 j _ ?_⟩
    rw [List.getElem?_map, List.getElem?_eq_getElem hj, nth_eq _ _ hj]; rfl
theorem wrap_i64_nat (n : Nat) (h : n < 9223372036854775808) : IntKind.i64.wrap (n : Int) = (n : Int) := by rw [IntKind.wrap_i64]; omega
theorem SnAt.to (h : SnAt w B q s) (a : Nat) (ha : a ≤ s.src.length) : SnAt (w.setCell ⟨q.p, 1, none⟩ (.int .i64 (a : Int))) B q { s with at_ := a } := h.put 1 [.int .i64 (a : Int)] { s with at_ := a } (by simp) rfl rfl ha rfl
def atW (p : Nat) (W : World) : Nat := match W.cell? ⟨p, 1, none⟩ with | some (.int _ a) => a.toNat | _ => 0
theorem SnAt.atW (h : SnAt w B q s) : atW q.p w = s.at_ := by unfold Proofs.Ytkeehdaeanmiiaa.atW; rw [h.c1]; rfl
/-- how a comment is gone over -/
def Cmt (w : World) (B : Nat) (q : Sp) (s : Sn) (r : Option (List Int)) (e : Ending) (w' : World) : Prop := match r with
  | some r => e = .returned (.bool true) ∧ SnAt w' B q { s with at_ := s.src.length - r.length } ∧ Sf q q w w'
  | none => e = .returned (.bool false) ∧ SnAt w' B q (markF { s with at_ := s.src.length } 5 s.at_) ∧ Sf q q w w'
end
end Go.Proofs.Ytkeehdaeanmiiaa

/-
  A scanner beside what lay there before it was made; symbols of both sources.
-/
import Derived.Test.YthpdgghjaglhnaaGreatDoorSqF
import Derived.Test.YthpdgghjaglhnaaGreatDoorSqJ
namespace Go.Proofs.YthpdgghjaglhnaaGreatDoor
open Go.ChangeShapes Go.WideShapes Go.ChangeAt Go.RowKit
open Ev (WRow)
set_option linter.unusedVariables false
set_option linter.unusedSimpArgs false
structure Js (w5 W : World) (q : Sp) (s : Sn) : Prop where
  b : Below w5.heap.size w5 W
  sn : SnAt W w5.heap.size q s
section
variable {w5 W V : World} {q q' : Sp} {s s' : Sn}
theorem Js.next (h : Js w5 W q s) (hb : Below W.heap.size W V) : Js w5 V q s := ⟨h.b.trans (hb.mono h.b.size), h.sn.next hb⟩
theorem Js.wrote (h : Js w5 W q s) (hs : SnAt V w5.heap.size q' s') (hf : Sf q q' W V) : Js w5 V q' s' := ⟨h.b.trans (hf.below h.sn h.b.size), hs⟩
theorem js_get (h : Js w5 W q s) (hkw : s.kw = 29) (hT : ∀ V, Below w5.heap.size w5 V → Proofs.YthpdgghjaglhnaaGreatDoor.Tab V) {p : Nat} (hp : q.p = p) : Calls Tryz.prog 10 #[.pointer (some ⟨p, 0, none⟩)] W fun e w' => e = .returned (.tuple #[]) ∧ ∃ q', q'.p = p ∧ Js w5 w' q' (getF s) := by
  subst hp
  exact (get_any h.sn h.b.size (by rw [hkw]; exact Int.le_refl _) (fun V hV => hT V (h.b.trans hV))).mono fun e w' ⟨he, q', hs, hf⟩ => ⟨he, q', hf.p, h.wrote hs hf⟩
theorem js_sym (h : Js w5 W q s) {p : Nat} (hp : q.p = p) : Calls Tryz.prog 8 #[.pointer (some ⟨p, 0, none⟩)] W fun e w' => e = .returned (.agg #[.int .i64 s.sym, .int .i64 s.pos, .int .i32 s.val, .int .i64 s.id, .string s.txt]) ∧ Below W.heap.size W w' := by
  subst hp
  exact (symbol_any h.sn).mono fun e w' ⟨he, hb⟩ => ⟨he, hb⟩
theorem js_err (h : Js w5 W q s) {p : Nat} (hp : q.p = p) : Calls Tryz.prog 9 #[.pointer (some ⟨p, 0, none⟩)] W fun e w' => e = .returned (.tuple #[.int .i64 s.code, .int .i64 s.epos]) ∧ Below W.heap.size W w' := by
  subst hp
  exact (snerr_any h.sn).mono fun e w' ⟨he, hb⟩ => ⟨he, hb⟩
theorem js_name (h : Js w5 W q s) (j : Nat) {l : List UInt8} (hj : s.nms[j]? = some l) {p : Nat} (hp : q.p = p) : Calls Tryz.prog 12 #[.pointer (some ⟨p, 0, none⟩), .int .i64 (j : Int)] W fun e w' => e = .returned (.string (bs l)) ∧ W = w' := by
  subst hp
  exact snname_yes h.sn j hj
end
theorem jkeep_stp (u : Sn) {i : Nat} {j : Nat} {x : List UInt8} (h : (stp u i).nms[j]? = some x) : ∀ k, (stp u (i + k)).nms[j]? = some x
  | 0 => h
  | k + 1 => jget_keep (jkeep_stp u h k)
theorem allN_ok {u : Sn} {m : Nat} (h : (stp u (m + 1)).code = 0) : allN u m = m + 1 := by unfold allN; rw [if_pos h]
theorem below_drewN (w : World) (n : Nat) : Below w.heap.size w (w.drewN n) := by
  have h := grow_below w n #[]
  exact h
theorem codes0 {u : Sn} (h : At0 u u 0) {m : Nat} (hs : Scd u m) (hc : (stp u (m + 1)).code = 0) (i : Nat) (hi : i ≤ m) : (stp u (i + 1)).code = 0 := by
  by_cases e : i < m
  · exact (at0_all h (i + 1) (fun j hj => hs.j j (by omega))).c
  · obtain rfl : i = m := by omega
    exact hc
theorem pos_bd {u : Sn} (h : At0 u u 0) {m : Nat} (hs : Scd u m) (hc : (stp u (m + 1)).code = 0) (i : Nat) (hi : i ≤ m) : 0 ≤ (stp u (i + 1)).pos ∧ (stp u (i + 1)).pos ≤ u.src.length := by
  have a := at0_all h i (fun j hj => hs.j j (by omega))
  obtain ⟨p, p1, p2, pb, pp, -⟩ := get_cases a.c (by rw [a.e]; exact a.a) a.k (codes0 h hs hc i hi)
  have e : (stp u (i + 1)).pos = (p : Int) := pp
  rw [a.e] at p2
  rw [e]
  omega
theorem one_own {w5 : World} {b : Nat} {e : TypeId} {v5 : Value} {n : Nat} {a c : List Int} {x : Int} (h : w5.ownsRow b e 1 v5 n (([] ++ valsOf .u8 a) ++ valsOf .u8 [x] ++ valsOf .u8 c)) : w5.ownsRow b e 1 v5 n (valsOf .u8 (a ++ x :: c)) := by
  have : valsOf .u8 (a ++ x :: c) = ([] ++ valsOf .u8 a) ++ valsOf .u8 [x] ++ valsOf .u8 c := by simp [valsOf]
  rw [this]; exact h
end Go.Proofs.YthpdgghjaglhnaaGreatDoor

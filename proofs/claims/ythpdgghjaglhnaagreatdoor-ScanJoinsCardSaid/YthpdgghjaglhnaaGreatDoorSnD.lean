/-
  A scanner in memory: names' numbers.
-/
import Derived.Test.YthpdgghjaglhnaaGreatDoorSnC
namespace Go.Proofs.YthpdgghjaglhnaaGreatDoor
open Go.ChangeShapes Go.WideShapes Go.ChangeAt Go.RowKit
open Ev (WRow)
set_option linter.unusedVariables false
set_option linter.unusedSimpArgs false
def letB (c : Int) : Bool := decide (65 ≤ c ∧ c ≤ 90 ∨ 97 ≤ c ∧ c ≤ 122)
def digB (c : Int) : Bool := decide (48 ≤ c ∧ c ≤ 57)
def okB (c : UInt8) : Bool := letB (c.toNat : Int) || digB (c.toNat : Int)
theorem sletter_any (c : Int) (w : World) : Calls Tryz.prog 29 #[.int .u8 c] w fun e w' => e = .returned (.bool (letB c)) ∧ w = w' := snletter_any c w
theorem sdigit_any (c : Int) (w : World) : Calls Tryz.prog 31 #[.int .u8 c] w fun e w' => e = .returned (.bool (digB c)) ∧ w = w' := sndigit_any c w
def nameB (s : ByteArray) : Bool := decide (1 ≤ s.size ∧ s.size ≤ 15) && (letB ((s.data.toList.headD 0).toNat : Int) && s.data.toList.all okB)
theorem all_succ (s : ByteArray) (k : Nat) (h : k < s.size) : (s.data.toList.take (k + 1)).all okB = ((s.data.toList.take k).all okB && okB s[k]) := by
  rw [List.take_succ_eq_append_getElem (by simpa using h), List.all_append]
  simp
  rfl
theorem all_no (s : ByteArray) (k : Nat) (h : k < s.size) (hn : okB s[k] = false) : s.data.toList.all okB = false := by
  refine List.all_eq_false.2 ⟨s[k], ?_, by simp [hn]⟩
  exact List.getElem_mem (l := s.data.toList) (by simpa using h)
theorem head_at (s : ByteArray) (h : 0 < s.size) : s.data.toList.headD 0 = s[0] := by
  have hl : 0 < s.data.toList.length := by simpa using h
  cases hs : s.data.toList with
  | nil => rw [hs] at hl; simp at hl
  | cons c l =>
    have : s.data.toList[0] = c := by simp [hs]
    rw [← this]; rfl
theorem ok_let {c : UInt8} (h : letB (c.toNat : Int) = true) : okB c = true := by unfold okB; rw [h]; rfl
theorem ok_dig {c : UInt8} (h0 : 48 ≤ (c.toNat : Int)) (h1 : (c.toNat : Int) ≤ 57) : okB c = true := by unfold okB digB; rw [decide_eq_true (And.intro h0 h1), Bool.or_true]
theorem ok_no {c : UInt8} (h : letB (c.toNat : Int) = false) (hd : (c.toNat : Int) < 48 ∨ 57 < (c.toNat : Int)) : okB c = false := by unfold okB digB; rw [h, decide_eq_false (by omega)]; rfl
def internF (s : Sn) (l : List UInt8) : Sn := if l ∈ s.nms then s else if 700 ≤ s.nms.length then markF s 62 s.pos else { s with nms := s.nms ++ [l] }
def internN (s : Sn) (l : List UInt8) : Int := if l ∈ s.nms then (s.nms.idxOf l : Nat) else if 700 ≤ s.nms.length then -1 else (s.nms.length : Nat)
section
variable {w : World} {B : Nat} {q : Sp} {s : Sn}
def Interned (w : World) (B : Nat) (q : Sp) (s : Sn) (l : List UInt8) (e : Ending) (w' : World) : Prop := e = .returned (.int .i64 (internN s l)) ∧ ∃ q', SnAt w' B q' (internF s l) ∧ Sf q q' w w'
set_option maxRecDepth 100000 in
set_option maxHeartbeats 1000000 in
theorem intern_any (h : SnAt w B q s) (hB : B ≤ w.heap.size) (l : List UInt8) (hl : l.length ≤ 15) : Calls Tryz.prog 39 #[.pointer (some ⟨q.p, 0, none⟩), .string (bs l)] w (Interned w B q s l) := by
  obtain ⟨D, d1, d2⟩ := h.ids
  obtain ⟨v, ps, hrun, hv⟩ := d1.look_ok skeyed Tryz.underlying41 (szero w) (zd := .held (.int .i64 0)) (zp := []) rfl (skey (l := l) (by unfold maxLen; omega))
  rw [d2.1] at hrun
  have hv2 : DataW.held v = D.atKey (.string l) (.held (.int .i64 0)) := congrArg Prod.fst (Option.some.inj hv)
  have c10 := h.c10
  have c9 := h.c9
  obtain ⟨A, c, hnv⟩ := names_form h
  rw [hnv] at c9
  clear hnv hv d1
  by_cases hm : l ∈ s.nms
  · rw [d2.2 l hm] at hv2
    obtain rfl : v = .int .i64 ((s.nms.idxOf l : Nat) : Int) := by injection hv2
    rw [decide_eq_true hm] at hrun
    have E1 := Lib.hid (show internN s l = (s.nms.idxOf l : Nat) by unfold internN; rw [if_pos hm])
    have E2 := Lib.hid (show internF s l = s by unfold internF; rw [if_pos hm])
    have HS := Lib.hid h
    clear h d2 hv2 hm
    generalize List.idxOf l s.nms = ix at *
    go_enter Tryz.func39, Tryz.ntmps39
    go_wp2_with fail
    go_ret
    refine ⟨by rw [E1.out]; rfl, q, ?_, Sf.refl _ _⟩
    rw [E2.out]; exact HS.out
  · rw [decide_eq_false hm] at hrun
    clear hv2 d2
    by_cases h7 : 700 ≤ s.nms.length
    · have E1 := Lib.hid (show internN s l = -1 by unfold internN; rw [if_neg hm, if_pos h7])
      have E2 := Lib.hid (show internF s l = markF s 62 s.pos by unfold internF; rw [if_neg hm, if_pos h7])
      have HM := Lib.hid (mark_any h 62)
      clear h hm
      go_enter Tryz.func39, Tryz.ntmps39
      go_wp2_with (go_at_call 38; (with_reducible refine HM.out.mono ?_); rintro e w2 ⟨rfl, ha, hb⟩; have HA := Lib.hid ha; have HB := Lib.hid hb; clear ha hb)
      go_ret
      refine ⟨by rw [E1.out]; rfl, q, ?_, HB.out⟩
      rw [E2.out]; exact HA.out
    · have E1 := Lib.hid (show internN s l = (s.nms.length : Nat) by unfold internN; rw [if_neg hm, if_neg h7])
      have E2 := Lib.hid (show internF s l = { s with nms := s.nms ++ [l] } by unfold internF; rw [if_neg hm, if_neg h7])
      have HM := Lib.hid (add_any h hB l hm hl (by omega))
      clear h hm
      go_enter Tryz.func39, Tryz.ntmps39
      go_wp2_with (go_at_call 15; (with_reducible refine HM.out.mono ?_); rintro e w2 ⟨rfl, q', ha, hb⟩; have HA := Lib.hid ha; have HB := Lib.hid hb; clear ha hb)
      go_ret
      refine ⟨by rw [E1.out]; rfl, q', ?_, HB.out⟩
      rw [E2.out]; exact HA.out
/-- Intern, of any text -/
def InternedB (w : World) (B : Nat) (q : Sp) (s : Sn) (nm : ByteArray) (e : Ending) (w' : World) : Prop := if nameB nm then Interned w B q s nm.data.toList e w' else (e = .returned (.int .i64 (-1)) ∧ w' = w)
theorem interned_no {nm : ByteArray} (h : nameB nm = false) : InternedB w B q s nm (.returned (.int .i64 (-1))) w := by unfold InternedB; rw [h]; exact ⟨rfl, rfl⟩
end
end Go.Proofs.YthpdgghjaglhnaaGreatDoor

/-
  A scanner in memory: blanks.
-/
import Derived.Test.YthpdgghjaglhnaaGreatDoorSnE
namespace Go.Proofs.YthpdgghjaglhnaaGreatDoor
open Go.ChangeShapes Go.WideShapes Go.ChangeAt Go.RowKit
open Ev (WRow)
set_option linter.unusedVariables false
set_option linter.unusedSimpArgs false
/-- how blanks are gone over -/
def Blk (w : World) (B : Nat) (q : Sp) (s : Sn) (r : Bool × List Int) (e : Ending) (w' : World) : Prop := e = .returned (.bool r.1) ∧ SnAt w' B q (if r.1 then { s with at_ := s.src.length - r.2.length } else markF { s with at_ := s.src.length } 5 ((s.src.length - r.2.length : Nat) : Int)) ∧ Sf q q w w'
section
variable {w : World} {B : Nat} {q : Sp} {s : Sn}
set_option maxRecDepth 100000 in
set_option maxHeartbeats 4000000 in
theorem blanks_any (h : SnAt w B q s) : Calls Tryz.prog 26 #[.pointer (some ⟨q.p, 0, none⟩)] w (Blk w B q s (bl (s.src.drop s.at_))) := by
  have l1 := h.l1
  have a1 := h.at1
  have HS := Lib.hid h
  have HB := Lib.hid h.sb
  clear h
  go_enter Tryz.func26, Tryz.ntmps26
  go_wp2_with fail
  go_loopw [2] (fun _ wr => ∃ a : Nat, a ≤ s.src.length ∧ Hid (SnAt wr B q { s with at_ := a }) ∧ Hid (Sf q q w wr) ∧ Hid (bl (s.src.drop a) = bl (s.src.drop s.at_))) (fun _ wr => s.src.length - atW q.p wr)
  case atStart => exact ⟨s.at_, a1, HS, Lib.hid (Sf.refl _ _), Lib.hid rfl⟩
  case round =>
    clear HS
    obtain ⟨a, ha, HS, HF, HC⟩ := hrel
    have K := HS.out.lk
    have c1 : wr.cell? ⟨q.p, 1, none⟩ = some (.int .i64 (a : Int)) := HS.out.c1
    have z1 := HS.out.z 1 (by omega)
    have HM : Hid (atW q.p wr = a) := Lib.hid HS.out.atW
    have KO := K.o
    have KL0 := K.l0n
    have KL1 := K.l1n
    clear K
    by_cases hov : s.src.length ≤ a
    · obtain rfl : a = s.src.length := by omega
      rw [show decide ({ s with at_ := s.src.length : Sn }.src.length ≤ { s with at_ := s.src.length : Sn }.at_) = true by simp] at KO
      replace KO := Lib.hid KO
      have HE := Lib.hid (bl_end s.src s.src.length (Nat.le_refl _))
      clear KL0 KL1 z1 c1
      go_wp2_with (go_at_call 28; (with_reducible refine KO.out.mono ?_); rintro e w' ⟨rfl, n1, rfl⟩)
      go_ret
      rw [← HC.out, HE.out]
      exact ⟨rfl, HS.out.drewN _, HF.out.drewN _⟩
    · have hov2 : decide ({ s with at_ := a : Sn }.src.length ≤ { s with at_ := a : Sn }.at_) = false := by simp; omega
      rw [hov2] at KO
      replace KO := Lib.hid KO
      have BB := Lib.hid (bl_bad s.src a (by omega))
      have BO := Lib.hid fun h1 h2 r => @bl_over s.src a (by omega) h1 h2 r
      have BL := Lib.hid (bl_blank s.src a (by omega))
      have BS := Lib.hid (bl_stop s.src a (by omega))
      have HCM := Lib.hid fun n h1 h2 => comment_any (HS.out.drewN n) h1 h2 (show a < s.src.length by omega)
      have hlr : s.src.length - (s.src.drop a).length = a := by simp; omega
      have KL0 : Hid (∀ k, Calls Tryz.prog 27 #[.pointer (some ⟨q.p, 0, none⟩), .int .i64 0] (wr.drewN k) fun e w' => e = .returned (.int .u8 (nth s.src a)) ∧ ∃ n, w' = wr.drewN n) := Lib.hid KL0
      have KL1 : Hid (∀ k, Calls Tryz.prog 27 #[.pointer (some ⟨q.p, 0, none⟩), .int .i64 1] (wr.drewN k) fun e w' => e = .returned (.int .u8 (nth s.src (a + 1))) ∧ ∃ n, w' = wr.drewN n) := Lib.hid KL1
      have HX0 := Lib.hid (show ∃ x, x = nth s.src a from ⟨_, rfl⟩)
      have HX1 := Lib.hid (show ∃ x, x = nth s.src (a + 1) from ⟨_, rfl⟩)
      obtain ⟨x0, hx0⟩ := HX0.out
      obtain ⟨x1, hx1⟩ := HX1.out
      rw [← hx0] at KL0 BB BO BL BS
      rw [← hx1] at KL1 BB BO BL BS
      have HX0 := Lib.hid hx0
      have HX1 := Lib.hid hx1
      have HLR := Lib.hid hlr
      clear hov2 hx0 hx1 hlr
      by_cases e0 : x0 = 40 ∧ x1 = 42
      · obtain ⟨rfl, rfl⟩ := e0
        cases hc : cm (s.src.drop a) 0 with
        | none =>
          have CF := Lib.hid (BB.out rfl rfl hc)
          have HCM2 : Hid (∀ n, Calls Tryz.prog 37 #[.pointer (some ⟨q.p, 0, none⟩)] (wr.drewN n) fun e w' => e = .returned (.bool false) ∧ SnAt w' B q (markF { s with at_ := s.src.length } 5 a) ∧ Sf q q (wr.drewN n) w') := Lib.hid fun n => (HCM.out n HX0.out.symm HX1.out.symm).mono fun e w' he => by
            have e2 : cm (List.drop ({ s with at_ := a : Sn }.at_) ({ s with at_ := a : Sn }.src)) 0 = none := hc
            rw [e2] at he
            exact he
          clear BB BO BL BS HCM hc c1 z1
          go_wp2_with (first
            | (go_at_call 28; (with_reducible refine KO.out.mono ?_); rintro e w' ⟨rfl, n1, rfl⟩)
            | (go_at_call 27; (with_reducible refine (KL0.out _).mono ?_); rintro e w' ⟨rfl, n1, rfl⟩)
            | (go_at_call 27; (with_reducible refine (KL1.out _).mono ?_); rintro e w' ⟨rfl, n1, rfl⟩)
            | (go_at_call 37; (with_reducible refine (HCM2.out _).mono ?_); rintro e w2 ⟨rfl, hA, hB⟩; have HA := Lib.hid hA; have HBB := Lib.hid ((HF.out.drewN _).trans hB); clear hA hB))
          go_ret
          rw [← HC.out, CF.out]
          refine ⟨rfl, ?_, HBB.out⟩
          show SnAt _ B q (markF { s with at_ := s.src.length } 5 ((s.src.length - (s.src.drop a).length : Nat) : Int))
          rw [HLR.out]; exact HA.out
        | some r =>
          have CF := Lib.hid (BO.out rfl rfl r hc)
          obtain ⟨k, k0, k1, rfl⟩ := cm_suffix _ _ _ _ (Nat.le_refl _) hc
          have hk : a + k ≤ s.src.length := by simp at k1; omega
          have hlk : s.src.length - ((s.src.drop a).drop k).length = a + k := by simp; omega
          have HCM2 : Hid (∀ n, Calls Tryz.prog 37 #[.pointer (some ⟨q.p, 0, none⟩)] (wr.drewN n) fun e w' => e = .returned (.bool true) ∧ SnAt w' B q { s with at_ := a + k } ∧ Sf q q (wr.drewN n) w') := Lib.hid fun n => (HCM.out n HX0.out.symm HX1.out.symm).mono fun e w' he => by
            have e2 : cm (List.drop ({ s with at_ := a : Sn }.at_) ({ s with at_ := a : Sn }.src)) 0 = some ((s.src.drop a).drop k) := hc
            rw [e2] at he
            have he2 : e = .returned (.bool true) ∧ SnAt w' B q { s with at_ := s.src.length - ((s.src.drop a).drop k).length } ∧ Sf q q (wr.drewN n) w' := he
            rw [hlk] at he2
            exact he2
          have CF2 := Lib.hid (show bl (s.src.drop (a + k)) = bl (s.src.drop s.at_) by rw [← HC.out, CF.out, List.drop_drop])
          clear BB BO BL BS HCM hc c1 z1 hlk CF k1
          go_wp2_with (first
            | (go_at_call 28; (with_reducible refine KO.out.mono ?_); rintro e w' ⟨rfl, n1, rfl⟩)
            | (go_at_call 27; (with_reducible refine (KL0.out _).mono ?_); rintro e w' ⟨rfl, n1, rfl⟩)
            | (go_at_call 27; (with_reducible refine (KL1.out _).mono ?_); rintro e w' ⟨rfl, n1, rfl⟩)
            | (go_at_call 37; (with_reducible refine (HCM2.out _).mono ?_); rintro e w2 ⟨rfl, hA, hB⟩; have HA := Lib.hid hA; have HBB := Lib.hid ((HF.out.drewN _).trans hB); clear hA hB))
          exact ⟨⟨a + k, hk, HA, HBB, CF2⟩, by rw [HM.out, HA.out.atW]; show s.src.length - (a + k) < s.src.length - a; omega⟩
      by_cases e3 : x0 ≤ 32
      · have CF := Lib.hid (BL.out e0 e3)
        have e40 : (x0 == 40) = false := by simp; omega
        clear BB BO BL BS HCM e0
        go_wp2_with (first
          | (go_at_call 28; (with_reducible refine KO.out.mono ?_); rintro e w' ⟨rfl, n1, rfl⟩)
          | (go_at_call 27; (with_reducible refine (KL0.out _).mono ?_); rintro e w' ⟨rfl, n1, rfl⟩))
        have T := SnAt.to (HS.out.drewN n1) (a + 1) (show a + 1 ≤ s.src.length by omega)
        have T2 : atW q.p _ = a + 1 := T.atW
        exact ⟨⟨a + 1, by omega, Lib.hid T, Lib.hid ((HF.out.drewN n1).setCell 1 _), Lib.hid (by rw [← HC.out, CF.out])⟩, by rw [HM.out]; exact Nat.lt_of_le_of_lt (Nat.le_of_eq (congrArg (s.src.length - ·) T2)) (by omega)⟩
      · have CF := Lib.hid (BS.out e0 e3)
        have CF2 := Lib.hid (show Blk w B q s (true, s.src.drop a) = Blk w B q s (bl (s.src.drop s.at_)) by rw [← HC.out, CF.out])
        have T := Lib.hid fun n => (show SnAt (wr.drewN n) B q { s with at_ := s.src.length - (s.src.drop a).length } by rw [HLR.out]; exact HS.out.drewN n)
        by_cases e40 : x0 = 40
        · subst e40
          have e42 : (x1 == 42) = false := by simpa using fun e => e0 ⟨rfl, e⟩
          clear BB BO BL BS HCM e0
          go_wp2_with (first
            | (go_at_call 28; (with_reducible refine KO.out.mono ?_); rintro e w' ⟨rfl, n1, rfl⟩)
            | (go_at_call 27; (with_reducible refine (KL0.out _).mono ?_); rintro e w' ⟨rfl, n1, rfl⟩)
            | (go_at_call 27; (with_reducible refine (KL1.out _).mono ?_); rintro e w' ⟨rfl, n1, rfl⟩))
          go_ret
          rw [← CF2.out]
          exact ⟨rfl, T.out _, HF.out.drewN _⟩
        · have e40b : (x0 == 40) = false := by simpa using e40
          clear BB BO BL BS HCM e0 e40
          go_wp2_with (first
            | (go_at_call 28; (with_reducible refine KO.out.mono ?_); rintro e w' ⟨rfl, n1, rfl⟩)
            | (go_at_call 27; (with_reducible refine (KL0.out _).mono ?_); rintro e w' ⟨rfl, n1, rfl⟩))
          go_ret
          rw [← CF2.out]
          exact ⟨rfl, T.out _, HF.out.drewN _⟩
end
end Go.Proofs.YthpdgghjaglhnaaGreatDoor

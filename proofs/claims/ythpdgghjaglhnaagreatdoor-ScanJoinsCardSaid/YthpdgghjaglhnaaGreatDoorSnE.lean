/-
  A scanner in memory: looks ahead; comments; blanks.
-/
import Derived.Test.YthpdgghjaglhnaaGreatDoorSnD
import Derived.Test.YthpdgghjaglhnaaGreatDoorSnP
namespace Go.Proofs.YthpdgghjaglhnaaGreatDoor
open Go.ChangeShapes Go.WideShapes Go.ChangeAt Go.RowKit
open Ev (WRow)
set_option linter.unusedVariables false
set_option linter.unusedSimpArgs false
section
variable {w : World} {B : Nat} {q : Sp} {s : Sn}
theorem SnAt.byte (h : SnAt w B q s) {A : Option Addr} {n c : Nat} (hv : q.sv = .slice A n c) (j : Nat) (hj : j < s.src.length) : ∃ b f, A = some ⟨b, f, none⟩ ∧ w.cell? ⟨b, f + j, none⟩ = some (.int .u8 (nth s.src j)) := by
  rcases h.src.2 with ⟨e, e0⟩ | ⟨b, f, c', e, hb, hl, h1, h2, h3, h4⟩
  · omega
  · rw [hv] at e
    injection e with e1 e2 e3
    refine ⟨b, f, e1, h3 j _ ?_⟩
    rw [List.getElem?_map, List.getElem?_eq_getElem hj, nth_eq _ _ hj]; rfl
theorem wrap_i64_nat (n : Nat) (h : n < 9223372036854775808) : IntKind.i64.wrap (n : Int) = (n : Int) := by rw [IntKind.wrap_i64]; omega
set_option maxHeartbeats 1000000 in
theorem look_any (h : SnAt w B q s) (on : Nat) (ho : on ≤ 10) : Calls Tryz.prog 27 #[.pointer (some ⟨q.p, 0, none⟩), .int .i64 (on : Int)] w fun e w' => e = .returned (.int .u8 (nth s.src (s.at_ + on))) ∧ ∃ n, w' = w.drewN n := by
  have c0 := h.c0
  have c1 := h.c1
  have a1 := h.at1
  have l1 := h.l1
  obtain ⟨A, c, hv⟩ := source_form h
  rw [hv] at c0
  have HW : IntKind.i64.wrap ((s.at_ : Int) + (on : Int)) = ((s.at_ + on : Nat) : Int) := by rw [← Int.natCast_add, wrap_i64_nat _ (by omega)]
  by_cases hlt : s.at_ + on < s.src.length
  · obtain ⟨b, f, rfl, hc⟩ := h.byte hv _ hlt
    have hd1 : decide (((s.at_ + on : Nat) : Int) < (s.src.length : Int)) = true := by simp; omega
    clear h hv a1 l1
    generalize s.at_ + on = k at *
    go_enter Tryz.func27, Tryz.ntmps27
    go_wp2_with fail
    go_quiet (fail)
    go_wp2_with fail
    go_quiet (fail)
    go_wp2_with fail
    go_ret
    exact ⟨rfl, _, World.drewN_drewN ..⟩
  · have hd1 : decide (((s.at_ + on : Nat) : Int) < (s.src.length : Int)) = false := by simp; omega
    have hz := nth_ge s.src (s.at_ + on) (by omega)
    rw [hz]
    clear h hv a1 l1 hz
    generalize s.at_ + on = k at *
    go_enter Tryz.func27, Tryz.ntmps27
    go_wp2_with fail
    go_quiet (fail)
    go_wp2_with fail
    go_ret
    exact ⟨rfl, _, rfl⟩
theorem over_any (h : SnAt w B q s) : Calls Tryz.prog 28 #[.pointer (some ⟨q.p, 0, none⟩)] w fun e w' => e = .returned (.bool (decide (s.src.length ≤ s.at_))) ∧ ∃ n, w' = w.drewN n := by
  have c0 := h.c0
  have c1 := h.c1
  obtain ⟨A, c, hv⟩ := source_form h
  rw [hv] at c0
  clear h hv
  go_enter Tryz.func28, Tryz.ntmps28
  go_wp2_with fail
  go_quiet (fail)
  go_wp2_with fail
  go_ret
  exact ⟨ret_bool (by simp), _, rfl⟩
theorem look0 (h : SnAt w B q s) : Calls Tryz.prog 27 #[.pointer (some ⟨q.p, 0, none⟩), .int .i64 0] w fun e w' => e = .returned (.int .u8 (nth s.src s.at_)) ∧ ∃ n, w' = w.drewN n := look_any h 0 (by omega)
theorem look1 (h : SnAt w B q s) : Calls Tryz.prog 27 #[.pointer (some ⟨q.p, 0, none⟩), .int .i64 1] w fun e w' => e = .returned (.int .u8 (nth s.src (s.at_ + 1))) ∧ ∃ n, w' = w.drewN n := look_any h 1 (by omega)
theorem SnAt.to (h : SnAt w B q s) (a : Nat) (ha : a ≤ s.src.length) : SnAt (w.setCell ⟨q.p, 1, none⟩ (.int .i64 (a : Int))) B q { s with at_ := a } := h.put 1 [.int .i64 (a : Int)] { s with at_ := a } (by simp) rfl rfl ha rfl
def atW (p : Nat) (W : World) : Nat := match W.cell? ⟨p, 1, none⟩ with | some (.int _ a) => a.toNat | _ => 0
theorem SnAt.atW (h : SnAt w B q s) : atW q.p w = s.at_ := by unfold Proofs.YthpdgghjaglhnaaGreatDoor.atW; rw [h.c1]; rfl
/-- what looks ahead, from a world on -/
structure Lk (w : World) (q : Sp) (s : Sn) : Prop where
  o : Calls Tryz.prog 28 #[.pointer (some ⟨q.p, 0, none⟩)] w fun e w' => e = .returned (.bool (decide (s.src.length ≤ s.at_))) ∧ ∃ n, w' = w.drewN n
  l0 : Calls Tryz.prog 27 #[.pointer (some ⟨q.p, 0, none⟩), .int .i64 0] w fun e w' => e = .returned (.int .u8 (nth s.src s.at_)) ∧ ∃ n, w' = w.drewN n
  on : ∀ k, Calls Tryz.prog 28 #[.pointer (some ⟨q.p, 0, none⟩)] (w.drewN k) fun e w' => e = .returned (.bool (decide (s.src.length ≤ s.at_))) ∧ ∃ n, w' = w.drewN n
  l0n : ∀ k, Calls Tryz.prog 27 #[.pointer (some ⟨q.p, 0, none⟩), .int .i64 0] (w.drewN k) fun e w' => e = .returned (.int .u8 (nth s.src s.at_)) ∧ ∃ n, w' = w.drewN n
  l1n : ∀ k, Calls Tryz.prog 27 #[.pointer (some ⟨q.p, 0, none⟩), .int .i64 1] (w.drewN k) fun e w' => e = .returned (.int .u8 (nth s.src (s.at_ + 1))) ∧ ∃ n, w' = w.drewN n
theorem SnAt.lk (h : SnAt w B q s) : Lk w q s := by
  refine ⟨over_any h, look0 h, fun k => (over_any (h.drewN k)).mono ?_, fun k => (look0 (h.drewN k)).mono ?_, fun k => (look1 (h.drewN k)).mono ?_⟩ <;> (rintro e w' ⟨rfl, n, rfl⟩; exact ⟨rfl, _, World.drewN_drewN ..⟩)
/-- how a comment is gone over -/
def Cmt (w : World) (B : Nat) (q : Sp) (s : Sn) (r : Option (List Int)) (e : Ending) (w' : World) : Prop := match r with
  | some r => e = .returned (.bool true) ∧ SnAt w' B q { s with at_ := s.src.length - r.length } ∧ Sf q q w w'
  | none => e = .returned (.bool false) ∧ SnAt w' B q (markF { s with at_ := s.src.length } 5 s.at_) ∧ Sf q q w w'
set_option maxRecDepth 100000 in
set_option maxHeartbeats 4000000 in
theorem comment_any (h : SnAt w B q s) (h40 : nth s.src s.at_ = 40) (h42 : nth s.src (s.at_ + 1) = 42) (hlt : s.at_ < s.src.length) : Calls Tryz.prog 37 #[.pointer (some ⟨q.p, 0, none⟩)] w (Cmt w B q s (cm (s.src.drop s.at_) 0)) := by
  have c1 := h.c1
  have l1 := h.l1
  have a1 := h.at1
  have HS := Lib.hid h
  have H40 := Lib.hid h40
  have H42 := Lib.hid h42
  clear h h40 h42
  go_enter Tryz.func37, Tryz.ntmps37
  go_wp2_with fail
  go_loopw [4] (fun dv wr => ∃ a d : Nat, dv = .int .i64 (d : Int) ∧ a ≤ s.src.length ∧ d ≤ a ∧ Hid (SnAt wr B q { s with at_ := a }) ∧ Hid (Sf q q w wr) ∧ Hid (cm (s.src.drop a) d = cm (s.src.drop s.at_) 0) ∧ Hid (d = 0 → a = s.at_)) (fun _ wr => s.src.length - atW q.p wr)
  case atStart => exact ⟨s.at_, 0, rfl, a1, Nat.zero_le _, HS, Lib.hid (Sf.refl _ _), Lib.hid rfl, Lib.hid fun _ => rfl⟩
  case round =>
    clear c1 HS
    obtain ⟨a, d, rfl, ha, hda, HS, HF, HC, H0⟩ := hrel
    have K := HS.out.lk
    have c1 : wr.cell? ⟨q.p, 1, none⟩ = some (.int .i64 (a : Int)) := HS.out.c1
    have z1 := HS.out.z 1 (by omega)
    have HM : Hid (atW q.p wr = a) := Lib.hid HS.out.atW
    have KO := K.o
    have KL0 := K.l0n
    have KL1 := K.l1n
    clear K
    by_cases hov : s.src.length ≤ a
    · have HK := Lib.hid fun n => markat_any (HS.out.drewN n) 5 (s.at_ : Int)
      obtain rfl : a = s.src.length := by omega
      rw [show decide ({ s with at_ := s.src.length : Sn }.src.length ≤ { s with at_ := s.src.length : Sn }.at_) = true by simp] at KO
      replace KO := Lib.hid KO
      have HE := Lib.hid (cm_end s.src s.src.length d (Nat.le_refl _))
      clear KL0 KL1 z1 c1
      go_wp2_with (first
        | (go_at_call 28; (with_reducible refine KO.out.mono ?_); rintro e w' ⟨rfl, n1, rfl⟩)
        | (go_at_call 16; (with_reducible refine (HK.out _).mono ?_); rintro e w2 ⟨rfl, ha, hb⟩; have HA := Lib.hid ha; have HB := Lib.hid ((HF.out.drewN _).trans hb); clear ha hb))
      go_ret
      rw [← HC.out, HE.out]
      exact ⟨rfl, HA.out, HB.out⟩
    · have hov2 : decide ({ s with at_ := a : Sn }.src.length ≤ { s with at_ := a : Sn }.at_) = false := by simp; omega
      rw [hov2] at KO
      replace KO := Lib.hid KO
      have CO := Lib.hid (cm_open s.src a d (by omega))
      have CC := Lib.hid (cm_close s.src a d (by omega))
      have CS := Lib.hid (cm_step s.src a d (by omega))
      have Z1 := Lib.hid (nth_ge s.src (a + 1))
      have KL0 : Hid (∀ k, Calls Tryz.prog 27 #[.pointer (some ⟨q.p, 0, none⟩), .int .i64 0] (wr.drewN k) fun e w' => e = .returned (.int .u8 (nth s.src a)) ∧ ∃ n, w' = wr.drewN n) := Lib.hid KL0
      have KL1 : Hid (∀ k, Calls Tryz.prog 27 #[.pointer (some ⟨q.p, 0, none⟩), .int .i64 1] (wr.drewN k) fun e w' => e = .returned (.int .u8 (nth s.src (a + 1))) ∧ ∃ n, w' = wr.drewN n) := Lib.hid KL1
      have H00 : Hid (d = 0 → nth s.src a = 40 ∧ nth s.src (a + 1) = 42) := Lib.hid fun e => by rw [H0.out e]; exact ⟨H40.out, H42.out⟩
      clear hov2 H40 H42 H0
      generalize nth s.src a = x0 at *
      generalize nth s.src (a + 1) = x1 at *
      by_cases e0 : x0 = 40 ∧ x1 = 42
      · obtain ⟨rfl, rfl⟩ := e0
        have CF := Lib.hid (CO.out rfl rfl)
        have ha2 : a + 2 ≤ s.src.length := by
          have := Z1.out
          by_cases h : s.src.length ≤ a + 1
          · have := this h; omega
          · omega
        clear CO CC CS H00 Z1
        go_wp2_with (first
          | (go_at_call 28; (with_reducible refine KO.out.mono ?_); rintro e w' ⟨rfl, n1, rfl⟩)
          | (go_at_call 27; (with_reducible refine (KL0.out _).mono ?_); rintro e w' ⟨rfl, n1, rfl⟩)
          | (go_at_call 27; (with_reducible refine (KL1.out _).mono ?_); rintro e w' ⟨rfl, n1, rfl⟩))
        have T := SnAt.to (HS.out.drewN n1) (a + 2) (show a + 2 ≤ s.src.length by omega)
        have T2 : atW q.p _ = a + 2 := T.atW
        exact ⟨⟨a + 2, d + 1, by simp, by omega, by omega, Lib.hid T, Lib.hid ((HF.out.drewN n1).setCell 1 _), Lib.hid (by rw [← HC.out, CF.out]), Lib.hid (by omega)⟩, by rw [HM.out]; exact Nat.lt_of_le_of_lt (Nat.le_of_eq (congrArg (s.src.length - ·) T2)) (by omega)⟩
      by_cases e2 : x0 = 42 ∧ x1 = 41
      · obtain ⟨rfl, rfl⟩ := e2
        have CF := Lib.hid (CC.out rfl rfl)
        have ha2 : a + 2 ≤ s.src.length := by
          have := Z1.out
          by_cases h : s.src.length ≤ a + 1
          · have := this h; omega
          · omega
        have hd0 : d ≠ 0 := fun e => by have := (H00.out e).1; omega
        clear CO CC CS H00 Z1 e0
        by_cases h1 : d = 1
        · subst h1
          have CF2 := Lib.hid (show cm (s.src.drop a) 1 = some (s.src.drop (a + 2)) by rw [CF.out, if_pos rfl])
          clear CF hd0
          go_wp2_with (first
          | (go_at_call 28; (with_reducible refine KO.out.mono ?_); rintro e w' ⟨rfl, n1, rfl⟩)
          | (go_at_call 27; (with_reducible refine (KL0.out _).mono ?_); rintro e w' ⟨rfl, n1, rfl⟩)
          | (go_at_call 27; (with_reducible refine (KL1.out _).mono ?_); rintro e w' ⟨rfl, n1, rfl⟩))
          go_ret
          rw [← HC.out, CF2.out]
          have e5 : s.src.length - (s.src.drop (a + 2)).length = a + 2 := by simp; omega
          show _ ∧ SnAt _ B q { s with at_ := s.src.length - (s.src.drop (a + 2)).length } ∧ _
          rw [e5]
          exact ⟨rfl, SnAt.to (HS.out.drewN _) (a + 2) ha2, (HF.out.drewN _).setCell 1 _⟩
        · obtain ⟨d, rfl⟩ : ∃ k, d = k + 1 := ⟨d - 1, by omega⟩
          have hdn : (d : Int) ≠ 0 := by omega
          have hdn2 : (((d + 1 : Nat) : Int) - 1 == 0) = false := by simp; omega
          replace CF := Lib.hid (show cm (s.src.drop a) (d + 1) = cm (s.src.drop (a + 2)) d by rw [CF.out, if_neg h1]; rfl)
          go_wp2_with (first
          | (go_at_call 28; (with_reducible refine KO.out.mono ?_); rintro e w' ⟨rfl, n1, rfl⟩)
          | (go_at_call 27; (with_reducible refine (KL0.out _).mono ?_); rintro e w' ⟨rfl, n1, rfl⟩)
          | (go_at_call 27; (with_reducible refine (KL1.out _).mono ?_); rintro e w' ⟨rfl, n1, rfl⟩))
          have T := SnAt.to (HS.out.drewN n1) (a + 2) (show a + 2 ≤ s.src.length by omega)
          have T2 : atW q.p _ = a + 2 := T.atW
          exact ⟨⟨a + 2, d, by simp, by omega, by omega, Lib.hid T, Lib.hid ((HF.out.drewN n1).setCell 1 _), Lib.hid (by rw [← HC.out, CF.out]), Lib.hid (by omega)⟩, by rw [HM.out]; exact Nat.lt_of_le_of_lt (Nat.le_of_eq (congrArg (s.src.length - ·) T2)) (by omega)⟩
      have CF := Lib.hid (CS.out e0 e2)
      have hd0 : d ≠ 0 := fun e => e0 (H00.out e)
      clear CO CC CS H00 Z1
      by_cases e40 : x0 = 40
      · subst e40
        have e42 : (x1 == 42) = false := by simpa using fun e => e0 ⟨rfl, e⟩
        clear e0 e2
        go_wp2_with (first
          | (go_at_call 28; (with_reducible refine KO.out.mono ?_); rintro e w' ⟨rfl, n1, rfl⟩)
          | (go_at_call 27; (with_reducible refine (KL0.out _).mono ?_); rintro e w' ⟨rfl, n1, rfl⟩)
          | (go_at_call 27; (with_reducible refine (KL1.out _).mono ?_); rintro e w' ⟨rfl, n1, rfl⟩))
        have T := SnAt.to (HS.out.drewN n1) (a + 1) (show a + 1 ≤ s.src.length by omega)
        have T2 : atW q.p _ = a + 1 := T.atW
        exact ⟨⟨a + 1, d, by simp, by omega, by omega, Lib.hid T, Lib.hid ((HF.out.drewN n1).setCell 1 _), Lib.hid (by rw [← HC.out, CF.out]), Lib.hid (by omega)⟩, by rw [HM.out]; exact Nat.lt_of_le_of_lt (Nat.le_of_eq (congrArg (s.src.length - ·) T2)) (by omega)⟩
      have e40b : (x0 == 40) = false := by simpa using e40
      clear e0 e40
      by_cases e42 : x0 = 42
      · subst e42
        have e41 : (x1 == 41) = false := by simpa using fun e => e2 ⟨rfl, e⟩
        clear e2 e40b
        go_wp2_with (first
          | (go_at_call 28; (with_reducible refine KO.out.mono ?_); rintro e w' ⟨rfl, n1, rfl⟩)
          | (go_at_call 27; (with_reducible refine (KL0.out _).mono ?_); rintro e w' ⟨rfl, n1, rfl⟩)
          | (go_at_call 27; (with_reducible refine (KL1.out _).mono ?_); rintro e w' ⟨rfl, n1, rfl⟩))
        have T := SnAt.to (HS.out.drewN n1) (a + 1) (show a + 1 ≤ s.src.length by omega)
        have T2 : atW q.p _ = a + 1 := T.atW
        exact ⟨⟨a + 1, d, by simp, by omega, by omega, Lib.hid T, Lib.hid ((HF.out.drewN n1).setCell 1 _), Lib.hid (by rw [← HC.out, CF.out]), Lib.hid (by omega)⟩, by rw [HM.out]; exact Nat.lt_of_le_of_lt (Nat.le_of_eq (congrArg (s.src.length - ·) T2)) (by omega)⟩
      have e42b : (x0 == 42) = false := by simpa using e42
      clear e2 e42
      go_wp2_with (first
          | (go_at_call 28; (with_reducible refine KO.out.mono ?_); rintro e w' ⟨rfl, n1, rfl⟩)
          | (go_at_call 27; (with_reducible refine (KL0.out _).mono ?_); rintro e w' ⟨rfl, n1, rfl⟩)
          | (go_at_call 27; (with_reducible refine (KL1.out _).mono ?_); rintro e w' ⟨rfl, n1, rfl⟩))
      have T := SnAt.to (HS.out.drewN n1) (a + 1) (show a + 1 ≤ s.src.length by omega)
      have T2 : atW q.p _ = a + 1 := T.atW
      exact ⟨⟨a + 1, d, by simp, by omega, by omega, Lib.hid T, Lib.hid ((HF.out.drewN n1).setCell 1 _), Lib.hid (by rw [← HC.out, CF.out]), Lib.hid (by omega)⟩, by rw [HM.out]; exact Nat.lt_of_le_of_lt (Nat.le_of_eq (congrArg (s.src.length - ·) T2)) (by omega)⟩
end
end Go.Proofs.YthpdgghjaglhnaaGreatDoor

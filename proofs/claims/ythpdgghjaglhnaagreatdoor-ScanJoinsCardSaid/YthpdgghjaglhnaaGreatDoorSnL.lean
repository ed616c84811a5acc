/-
  A scanner in memory: the next symbol.
-/
import Derived.Test.YthpdgghjaglhnaaGreatDoorSnH
import Derived.Test.YthpdgghjaglhnaaGreatDoorSnI
import Derived.Test.YthpdgghjaglhnaaGreatDoorSnJ
import Derived.Test.YthpdgghjaglhnaaGreatDoorSnN
namespace Go.Proofs.YthpdgghjaglhnaaGreatDoor
open Go.ChangeShapes Go.WideShapes Go.ChangeAt Go.RowKit
open Ev (WRow)
set_option linter.unusedVariables false
set_option linter.unusedSimpArgs false
/-- a symbol that begins where the scanner stands -/
def tokF (s : Sn) : Sn :=
  if s.src.length ≤ s.at_ then s
  else if letB (nth s.src s.at_) then nameF s
  else if digB (nth s.src s.at_) then numF s
  else if nth s.src s.at_ = 34 then textF s
  else signF s
/-- a symbol's begin -/
def begF (s : Sn) (p : Nat) : Sn := { s with at_ := p, sym := 0, pos := p, val := 0, id := 0, txt := bs [] }
/-- the next symbol -/
def getF (s : Sn) : Sn :=
  if s.code ≠ 0 then s
  else if (bl (s.src.drop s.at_)).1 then tokF (begF s (s.src.length - (bl (s.src.drop s.at_)).2.length))
  else markF { s with at_ := s.src.length } 5 ((s.src.length - (bl (s.src.drop s.at_)).2.length : Nat) : Int)
section
variable {w : World} {B : Nat} {q : Sp} {s : Sn}
set_option maxRecDepth 100000 in
set_option maxHeartbeats 4000000 in
theorem get_any (h : SnAt w B q s) (hB : B ≤ w.heap.size) (hk29 : s.kw ≤ 29) (hT : ∀ W, Below B w W → Tab W) : Calls Tryz.prog 10 #[.pointer (some ⟨q.p, 0, none⟩)] w (Done w B q (getF s)) := by
  have HI := Lib.hid (snis_any h)
  have c7 := h.c7
  by_cases hc : s.code = 0
  rotate_left
  · have HNF : Hid (getF s = s) := Lib.hid (by unfold getF; rw [if_pos hc])
    have HS := Lib.hid h
    have hc2 : (s.code != 0) = true := by simpa using hc
    clear h hc
    go_enter Tryz.func10, Tryz.ntmps10
    go_wp2_with (go_at_call 25; (with_reducible refine HI.out.mono ?_); rintro e w' ⟨rfl, rfl⟩)
    refine bodyPost_ret (results_none rfl _ _ _) rfl ?_
    rw [HNF.out]
    exact ⟨rfl, q, HS.out, Sf.refl _ _⟩
  · have HB := Lib.hid (blanks_any h)
    have a1 := h.at1
    unfold Blk at HB
    have HNF : Hid (getF s = if (bl (s.src.drop s.at_)).1 then tokF (begF s (s.src.length - (bl (s.src.drop s.at_)).2.length)) else markF { s with at_ := s.src.length } 5 ((s.src.length - (bl (s.src.drop s.at_)).2.length : Nat) : Int)) := Lib.hid (by unfold getF; rw [if_neg (by simpa using hc)])
    have hc2 : (s.code != 0) = false := by simpa using hc
    obtain ⟨b, hb⟩ : ∃ b, b = (bl (s.src.drop s.at_)).1 := ⟨_, rfl⟩
    obtain ⟨p, hp⟩ : ∃ p, p = s.src.length - (bl (s.src.drop s.at_)).2.length := ⟨_, rfl⟩
    have hpl : p ≤ s.src.length := by omega
    rw [← hb, ← hp] at HB HNF
    clear hb hp hc
    cases b with
    | false =>
      have HB : Hid (Calls Tryz.prog 26 #[.pointer (some ⟨q.p, 0, none⟩)] w fun e w' => e = .returned (.bool false) ∧ SnAt w' B q (markF { s with at_ := s.src.length } 5 (p : Int)) ∧ Sf q q w w') := HB
      have HNF : Hid (getF s = markF { s with at_ := s.src.length } 5 (p : Int)) := HNF
      clear h
      go_enter Tryz.func10, Tryz.ntmps10
      go_wp2_with (first
        | (go_at_call 25; (with_reducible refine HI.out.mono ?_); rintro e w' ⟨rfl, rfl⟩)
        | (go_at_call 26; (with_reducible refine HB.out.mono ?_); rintro e w2 ⟨rfl, hA, hF⟩; have HA := Lib.hid hA; have HF := Lib.hid hF; clear hA hF))
      refine bodyPost_ret (results_none rfl _ _ _) rfl ?_
      rw [HNF.out]
      exact ⟨rfl, q, HA.out, HF.out⟩
    | true =>
      have HB : Hid (Calls Tryz.prog 26 #[.pointer (some ⟨q.p, 0, none⟩)] w fun e w' => e = .returned (.bool true) ∧ SnAt w' B q { s with at_ := p } ∧ Sf q q w w') := HB
      have HNF : Hid (getF s = tokF (begF s p)) := HNF
      have HTB := Lib.hid hT
      have HB0 := Lib.hid h
      clear h hT
      go_enter Tryz.func10, Tryz.ntmps10
      go_upto_region 1 with (first
        | (go_at_call 25; (with_reducible refine HI.out.mono ?_); rintro e w' ⟨rfl, rfl⟩)
        | (go_at_call 26; (with_reducible refine HB.out.mono ?_); rintro e w2 ⟨rfl, hA, hF⟩; have HA := Lib.hid hA; have HF := Lib.hid hF; clear hA hF))
      have c1 : w2.cell? ⟨q.p, 1, none⟩ = some (.int .i64 (p : Int)) := HA.out.c1
      have c2 : w2.cell? ⟨q.p, 2, none⟩ = some (.int .i64 s.sym) := HA.out.c2
      have c3 : w2.cell? ⟨q.p, 3, none⟩ = some (.int .i64 s.pos) := HA.out.c3
      have c4 : w2.cell? ⟨q.p, 4, none⟩ = some (.int .i32 s.val) := HA.out.c4
      have c5 : w2.cell? ⟨q.p, 5, none⟩ = some (.int .i64 s.id) := HA.out.c5
      have c6 : w2.cell? ⟨q.p, 6, none⟩ = some (.string s.txt) := HA.out.c6
      have z2 := HA.out.z 2 (by omega)
      have z3 := HA.out.z 3 (by omega)
      have z4 := HA.out.z 4 (by omega)
      have z5 := HA.out.z 5 (by omega)
      have z6 := HA.out.z 6 (by omega)
      go_upto_region 2 with (fail)
      generalize hW : (((((w2.setCell ⟨q.p, 2, none⟩ (.int .i64 0)).setCell ⟨q.p, 3, none⟩ (.int .i64 (p : Int))).setCell ⟨q.p, 4, none⟩ (.int .i32 0)).setCell ⟨q.p, 5, none⟩ (.int .i64 0)).setCell ⟨q.p, 6, none⟩ (.string { data := #[] })) = W
      have T : SnAt W B q (begF s p) := by
        rw [← hW]
        exact HA.out.put 2 [.int .i64 0, .int .i64 (p : Int), .int .i32 0, .int .i64 0, .string (bs [])] (begF s p) (by simp) rfl rfl hpl rfl
      have F : Sf q q w W := by
        rw [← hW]
        exact Sf.setCells [.int .i64 0, .int .i64 (p : Int), .int .i32 0, .int .i64 0, .string (bs [])] 2 _ HF.out
      have HTN := Lib.hid fun n V (hV : Below B (W.drewN n) V) => HTB.out V (((F.drewN n).below HB0.out hB).trans hV)
      have hBW : B ≤ W.heap.size := Nat.le_trans hB F.size
      clear hW c1 c2 c3 c4 c5 c6 z2 z3 z4 z5 z6 HA HF
      have z2 := T.z 2 (by omega)
      have c2 : W.cell? ⟨q.p, 2, none⟩ = some (.int .i64 0) := T.c2
      have K := T.lk
      have HTT := Lib.hid T
      have HF := Lib.hid F
      obtain ⟨x0, hx0⟩ : ∃ x, x = nth s.src p := ⟨_, rfl⟩
      have KL0 : Hid (Calls Tryz.prog 27 #[.pointer (some ⟨q.p, 0, none⟩), .int .i64 0] W fun e w' => e = .returned (.int .u8 x0) ∧ ∃ n, w' = W.drewN n) := Lib.hid (by rw [hx0]; exact K.l0)
      have KO : Hid (∀ k, Calls Tryz.prog 28 #[.pointer (some ⟨q.p, 0, none⟩)] (W.drewN k) fun e w' => e = .returned (.bool (decide (s.src.length ≤ p))) ∧ ∃ n, w' = W.drewN n) := Lib.hid K.on
      have HTK : Hid (tokF (begF s p) = if s.src.length ≤ p then begF s p else if letB x0 then nameF (begF s p) else if digB x0 then numF (begF s p) else if x0 = 34 then textF (begF s p) else signF (begF s p)) := Lib.hid (by rw [hx0]; rfl)
      clear K T F
      by_cases hov : s.src.length ≤ p
      · rw [if_pos hov] at HTK
        rw [decide_eq_true hov] at KO
        clear hx0
        go_wp2_with (first
          | (go_at_call 27; (with_reducible refine KL0.out.mono ?_); rintro e w' ⟨rfl, n1, rfl⟩)
          | (go_at_call 28; (with_reducible refine (KO.out _).mono ?_); rintro e w' ⟨rfl, n1, rfl⟩))
        go_end0
        rw [HNF.out, HTK.out]
        exact ⟨rfl, q, (HTT.out.drewN _).put 2 [.int .i64 0] (begF s p) (by simp) rfl rfl hpl rfl, (HF.out.drewN _).setCell 2 _⟩
      rw [if_neg hov] at HTK
      rw [decide_eq_false hov] at KO
      have hpl2 : p < s.src.length := by omega
      have HNM := Lib.hid fun n => name_any (HTT.out.drewN n) hBW hk29
      have HNU := Lib.hid fun n => number_any (HTT.out.drewN n) hBW (HTN.out n)
      have HTX := Lib.hid fun n => text_any (HTT.out.drewN n) hpl2
      have HSG : Hid (∀ n, Calls Tryz.prog 34 #[.pointer (some ⟨q.p, 0, none⟩), .int .u8 x0] (W.drewN n) fun e w' => e = .returned (.tuple #[]) ∧ SnAt w' B q (signF (begF s p)) ∧ Sf q q (W.drewN n) w') := Lib.hid fun n => by rw [hx0]; exact sign_any (HTT.out.drewN n) hpl2
      clear hx0 hov
      cases hl : letB x0 with
      | true =>
        rw [hl, if_pos rfl] at HTK
        go_wp2_with (first
          | (go_at_call 27; (with_reducible refine KL0.out.mono ?_); rintro e w' ⟨rfl, n1, rfl⟩)
          | (go_at_call 28; (with_reducible refine (KO.out _).mono ?_); rintro e w' ⟨rfl, n1, rfl⟩)
          | (go_at_call 29; (with_reducible refine (sletter_any _ _).mono ?_); rintro e w' ⟨rfl, rfl⟩; rw [hl])
          | (go_at_call 30; (with_reducible refine (HNM.out _).mono ?_); rintro e w3 ⟨rfl, q3, hA, hF⟩; have HA := Lib.hid hA; have HF3 := Lib.hid ((HF.out.drewN _).trans hF); clear hA hF))
        go_end0
        rw [HNF.out, HTK.out]
        exact ⟨rfl, q3, HA.out, HF3.out⟩
      | false =>
        rw [hl, if_neg (by simp)] at HTK
        cases hd : digB x0 with
        | true =>
          rw [hd, if_pos rfl] at HTK
          go_wp2_with (first
            | (go_at_call 27; (with_reducible refine KL0.out.mono ?_); rintro e w' ⟨rfl, n1, rfl⟩)
            | (go_at_call 28; (with_reducible refine (KO.out _).mono ?_); rintro e w' ⟨rfl, n1, rfl⟩)
            | (go_at_call 29; (with_reducible refine (sletter_any _ _).mono ?_); rintro e w' ⟨rfl, rfl⟩; rw [hl])
            | (go_at_call 31; (with_reducible refine (sdigit_any _ _).mono ?_); rintro e w' ⟨rfl, rfl⟩; rw [hd])
            | (go_at_call 32; (with_reducible refine (HNU.out _).mono ?_); rintro e w3 ⟨rfl, hA, hF⟩; have HA := Lib.hid hA; have HF3 := Lib.hid ((HF.out.drewN _).trans hF); clear hA hF))
          go_end0
          rw [HNF.out, HTK.out]
          exact ⟨rfl, q, HA.out, HF3.out⟩
        | false =>
          rw [hd, if_neg (by simp)] at HTK
          by_cases h34 : x0 = 34
          · subst h34
            rw [if_pos rfl] at HTK
            go_wp2_with (first
              | (go_at_call 27; (with_reducible refine KL0.out.mono ?_); rintro e w' ⟨rfl, n1, rfl⟩)
              | (go_at_call 28; (with_reducible refine (KO.out _).mono ?_); rintro e w' ⟨rfl, n1, rfl⟩)
              | (go_at_call 29; (with_reducible refine (sletter_any _ _).mono ?_); rintro e w' ⟨rfl, rfl⟩; rw [hl])
              | (go_at_call 31; (with_reducible refine (sdigit_any _ _).mono ?_); rintro e w' ⟨rfl, rfl⟩; rw [hd])
              | (go_at_call 33; (with_reducible refine (HTX.out _).mono ?_); rintro e w3 ⟨rfl, hA, hF⟩; have HA := Lib.hid hA; have HF3 := Lib.hid ((HF.out.drewN _).trans hF); clear hA hF))
            go_end0
            rw [HNF.out, HTK.out]
            exact ⟨rfl, q, HA.out, HF3.out⟩
          · rw [if_neg h34] at HTK
            have h34b : (x0 == 34) = false := by simpa using h34
            clear h34
            go_wp2_with (first
              | (go_at_call 27; (with_reducible refine KL0.out.mono ?_); rintro e w' ⟨rfl, n1, rfl⟩)
              | (go_at_call 28; (with_reducible refine (KO.out _).mono ?_); rintro e w' ⟨rfl, n1, rfl⟩)
              | (go_at_call 29; (with_reducible refine (sletter_any _ _).mono ?_); rintro e w' ⟨rfl, rfl⟩; rw [hl])
              | (go_at_call 31; (with_reducible refine (sdigit_any _ _).mono ?_); rintro e w' ⟨rfl, rfl⟩; rw [hd])
              | (go_at_call 34; (with_reducible refine (HSG.out _).mono ?_); rintro e w3 ⟨rfl, hA, hF⟩; have HA := Lib.hid hA; have HF3 := Lib.hid ((HF.out.drewN _).trans hF); clear hA hF))
            go_end0
            rw [HNF.out, HTK.out]
            exact ⟨rfl, q, HA.out, HF3.out⟩
end
end Go.Proofs.YthpdgghjaglhnaaGreatDoor

/-
  A scanner in memory: a sign is read.
-/
import Derived.Test.YthpdgghjaglhnaaGreatDoorSnE
namespace Go.Proofs.YthpdgghjaglhnaaGreatDoor
open Go.ChangeShapes Go.WideShapes Go.ChangeAt Go.RowKit
open Ev (WRow)
set_option linter.unusedVariables false
set_option linter.unusedSimpArgs false
/-- a sign that begins where the scanner stands -/
def signF (s : Sn) : Sn :=
  match sgF (nth s.src s.at_) with
  | none => markF s 1 s.pos
  | some y =>
    if nth s.src (s.at_ + 1) = 61 ∧ (y = 3 ∨ y = 5) then { s with sym := y + 1, at_ := s.at_ + 2 }
    else if nth s.src (s.at_ + 1) = 61 ∧ y = 23 then { s with sym := 24, at_ := s.at_ + 2 }
    else { s with sym := y, at_ := s.at_ + 1 }
section
variable {w : World} {B : Nat} {q : Sp} {s : Sn}
theorem lk_mem : ∀ (l : List (Int × Int)) (c y : Int), lk l c = some y → (c, y) ∈ l
  | [], c, y, h => by cases h
  | p :: r, c, y, h => by
    rw [lk] at h
    split at h
    · rename_i e
      subst e
      obtain rfl := Option.some.inj h
      exact List.mem_cons_self
    · exact List.mem_cons_of_mem _ (lk_mem r c y h)
theorem sgF_bd {c y : Int} (h : sgF c = some y) : 1 ≤ y ∧ y ≤ 23 := by
  have h2 := lk_mem _ _ _ h
  have : ∀ p ∈ sgP, 1 ≤ p.2 ∧ p.2 ≤ 23 := by decide
  exact this _ h2
set_option maxRecDepth 100000 in
set_option maxHeartbeats 4000000 in
theorem sign_any (h : SnAt w B q s) (hat : s.at_ < s.src.length) : Calls Tryz.prog 34 #[.pointer (some ⟨q.p, 0, none⟩), .int .u8 (nth s.src s.at_)] w fun e w' => e = .returned (.tuple #[]) ∧ SnAt w' B q (signF s) ∧ Sf q q w w' := by
  have hx := h.sb _ (List.getElem_mem hat)
  rw [← nth_eq _ _ hat] at hx
  obtain ⟨D, d1, d2⟩ := h.sgn
  obtain ⟨x0, hx0⟩ : ∃ x, x = nth s.src s.at_ := ⟨_, rfl⟩
  rw [← hx0] at hx ⊢
  have hwf : (Lit.int .u8 x0).wf = true := by simp [Lit.wf, IntKind.min, IntKind.max, IntKind.signed, IntKind.bits]; omega
  obtain ⟨v, ps, hrun, hv⟩ := d1.look_ok skeyed8 Tryz.underlying42 (szero w) (zd := .held (.int .i64 0)) (zp := []) rfl (skey8 x0 hwf)
  obtain ⟨e1, e2⟩ := d2 x0 hx.1 hx.2
  rw [e1] at hrun
  have hv2 : DataW.held v = D.atKey (.int .u8 x0) (.held (.int .i64 0)) := congrArg Prod.fst (Option.some.inj hv)
  have c12 := h.c12
  have c1 := h.c1
  have z1 := h.z 1 (by omega)
  have c2 := h.c2
  have z2 := h.z 2 (by omega)
  have l1 := h.l1
  have HS := Lib.hid h
  cases hs : sgF x0 with
  | none =>
    have HNF : Hid (signF s = markF s 1 s.pos) := Lib.hid (by unfold signF; rw [← hx0, hs])
    rw [hs] at hrun
    have hrun : (Instr.lookup 42 (.map (some q.gb)) (.int .u8 x0) true).run Tryz.prog w = .ok (.tuple #[v, .bool false]) w := hrun
    have HM := Lib.hid (mark_any h 1)
    clear h d1 d2 e1 e2 hv hv2 hwf hx0 hx
    go_enter Tryz.func34, Tryz.ntmps34
    go_wp2_with (go_at_call 38; (with_reducible refine HM.out.mono ?_); rintro e w2 ⟨rfl, hA, hB⟩; have HA := Lib.hid hA; have HB := Lib.hid hB; clear hA hB)
    refine bodyPost_ret (results_none rfl _ _ _) rfl ?_
    rw [HNF.out]
    exact ⟨rfl, HA.out, HB.out⟩
  | some y =>
    rw [e2 y hs] at hv2
    obtain rfl : v = .int .i64 y := by injection hv2
    obtain ⟨y1, y2⟩ := sgF_bd hs
    rw [hs] at hrun
    have hrun : (Instr.lookup 42 (.map (some q.gb)) (.int .u8 x0) true).run Tryz.prog w = .ok (.tuple #[.int .i64 y, .bool true]) w := hrun
    have HT := Lib.hid (h.to (s.at_ + 1) (by omega))
    have K := Lib.hid HT.out.lk
    have KL0 : Hid (Calls Tryz.prog 27 #[.pointer (some ⟨q.p, 0, none⟩), .int .i64 0] (w.setCell ⟨q.p, 1, none⟩ (.int .i64 ((s.at_ : Int) + 1))) fun e w' => e = .returned (.int .u8 (nth s.src (s.at_ + 1))) ∧ ∃ n, w' = (w.setCell ⟨q.p, 1, none⟩ (.int .i64 ((s.at_ : Int) + 1))).drewN n) := Lib.hid K.out.l0
    have HF1 := Lib.hid ((Sf.refl q w).setCell 1 (.int .i64 ((s.at_ : Int) + 1)))
    have HT1 : Hid (SnAt (w.setCell ⟨q.p, 1, none⟩ (.int .i64 ((s.at_ : Int) + 1))) B q { s with at_ := s.at_ + 1 }) := Lib.hid HT.out
    have HNF : Hid (signF s = if nth s.src (s.at_ + 1) = 61 ∧ (y = 3 ∨ y = 5) then { s with sym := y + 1, at_ := s.at_ + 2 } else if nth s.src (s.at_ + 1) = 61 ∧ y = 23 then { s with sym := 24, at_ := s.at_ + 2 } else { s with sym := y, at_ := s.at_ + 1 }) := Lib.hid (by unfold signF; rw [← hx0, hs])
    have Z1 := Lib.hid (nth_ge s.src (s.at_ + 1))
    generalize hx1 : nth s.src (s.at_ + 1) = x1 at *
    have h2 : x1 = 61 → s.at_ + 2 ≤ s.src.length := fun e => by
      by_cases h : s.src.length ≤ s.at_ + 1
      · have := Z1.out h; omega
      · omega
    clear h d1 d2 e1 e2 hv hv2 hwf hx0 hx HT K hx1 Z1
    have HLT := Lib.hid hat
    have h1 : s.at_ + 1 ≤ 65535 := by omega
    clear hat l1
    by_cases h61 : x1 = 61
    · subst h61
      have H2 := Lib.hid (h2 rfl)
      clear h2
      by_cases y3 : y = 3
      · subst y3
        rw [if_pos (by decide)] at HNF
        go_enter Tryz.func34, Tryz.ntmps34
        go_wp2_with (go_at_call 27; (with_reducible refine KL0.out.mono ?_); rintro e w' ⟨rfl, n1, rfl⟩)
        go_end0
        rw [HNF.out]
        exact ⟨rfl, ((HT1.out.drewN _).to (s.at_ + 2) H2.out).put 2 [.int .i64 (4)] { s with sym := 4, at_ := s.at_ + 2 } (by simp) rfl rfl (by exact H2.out) rfl, ((HF1.out.drewN _).setCell 1 _).setCell 2 _⟩
      by_cases y5 : y = 5
      · subst y5
        rw [if_pos (by decide)] at HNF
        go_enter Tryz.func34, Tryz.ntmps34
        go_wp2_with (go_at_call 27; (with_reducible refine KL0.out.mono ?_); rintro e w' ⟨rfl, n1, rfl⟩)
        go_end0
        rw [HNF.out]
        exact ⟨rfl, ((HT1.out.drewN _).to (s.at_ + 2) H2.out).put 2 [.int .i64 (6)] { s with sym := 6, at_ := s.at_ + 2 } (by simp) rfl rfl (by exact H2.out) rfl, ((HF1.out.drewN _).setCell 1 _).setCell 2 _⟩
      rw [if_neg (by omega)] at HNF
      by_cases y23 : y = 23
      · subst y23
        rw [if_pos (by decide)] at HNF
        go_enter Tryz.func34, Tryz.ntmps34
        go_wp2_with (go_at_call 27; (with_reducible refine KL0.out.mono ?_); rintro e w' ⟨rfl, n1, rfl⟩)
        go_end0
        rw [HNF.out]
        exact ⟨rfl, ((HT1.out.drewN _).to (s.at_ + 2) H2.out).put 2 [.int .i64 (24)] { s with sym := 24, at_ := s.at_ + 2 } (by simp) rfl rfl (by exact H2.out) rfl, ((HF1.out.drewN _).setCell 1 _).setCell 2 _⟩
      rw [if_neg (by omega)] at HNF
      have b3 : (y == 3) = false := by simpa using y3
      have b5 : (y == 5) = false := by simpa using y5
      have b23 : (y == 23) = false := by simpa using y23
      clear y3 y5 y23
      go_enter Tryz.func34, Tryz.ntmps34
      go_wp2_with (go_at_call 27; (with_reducible refine KL0.out.mono ?_); rintro e w' ⟨rfl, n1, rfl⟩)
      go_end0
      rw [HNF.out]
      exact ⟨rfl, (HT1.out.drewN _).put 2 [.int .i64 y] { s with sym := y, at_ := s.at_ + 1 } (by simp) rfl rfl HT1.out.at1 rfl, (HF1.out.drewN _).setCell 2 _⟩
    · have b61 : (x1 == 61) = false := by simpa using h61
      rw [if_neg (by omega), if_neg (by omega)] at HNF
      clear h61 h2
      go_enter Tryz.func34, Tryz.ntmps34
      go_wp2_with (go_at_call 27; (with_reducible refine KL0.out.mono ?_); rintro e w' ⟨rfl, n1, rfl⟩)
      go_end0
      rw [HNF.out]
      exact ⟨rfl, (HT1.out.drewN _).put 2 [.int .i64 y] { s with sym := y, at_ := s.at_ + 1 } (by simp) rfl rfl HT1.out.at1 rfl, (HF1.out.drewN _).setCell 2 _⟩
end
end Go.Proofs.YthpdgghjaglhnaaGreatDoor

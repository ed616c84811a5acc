/-
  A scanner in memory: a name is read.
-/
import Derived.Test.YthpdgghjaglhnaaGreatDoorSnG
namespace Go.Proofs.YthpdgghjaglhnaaGreatDoor
open Go.ChangeShapes Go.WideShapes Go.ChangeAt Go.RowKit
open Ev (WRow)
set_option linter.unusedVariables false
set_option linter.unusedSimpArgs false
theorem markF_kw (s : Sn) (c p : Int) : (markF s c p).kw = s.kw := by unfold markF; split <;> rfl
theorem internF_kw (s : Sn) (l : List UInt8) : (internF s l).kw = s.kw := by
  unfold internF
  repeat' split
  all_goals first | rfl | exact markF_kw ..
theorem internF_at (s : Sn) (l : List UInt8) : (internF s l).at_ = s.at_ := by
  unfold internF
  repeat' split
  all_goals first | rfl | exact markF_at ..
theorem internF_src (s : Sn) (l : List UInt8) : (internF s l).src = s.src := by
  unfold internF
  repeat' split
  all_goals first | rfl | exact markF_src ..
theorem ldB_0 : ldB 0 = false := by decide
def Done (w : World) (B : Nat) (q : Sp) (s' : Sn) (e : Ending) (w' : World) : Prop := e = .returned (.tuple #[]) ∧ ∃ q', SnAt w' B q' s' ∧ Sf q q' w w'
section
variable {w : World} {B : Nat} {q : Sp} {s : Sn}
set_option maxRecDepth 100000 in
set_option maxHeartbeats 4000000 in
theorem name_any (h : SnAt w B q s) (hB : B ≤ w.heap.size) (hk29 : s.kw ≤ 29) : Calls Tryz.prog 30 #[.pointer (some ⟨q.p, 0, none⟩)] w (Done w B q (nameF s)) := by
  have c1 := h.c1
  have l1 := h.l1
  have a1 := h.at1
  obtain ⟨k, hk⟩ : ∃ k, k = tw ldB (s.src.drop s.at_) := ⟨_, rfl⟩
  have hkl : s.at_ + k ≤ s.src.length := by have := tw_le ldB (s.src.drop s.at_); simp at this; omega
  have HT := Lib.hid fun j (hj : j ≤ k) => (hk ▸ tw_drop ldB ldB_0 s.src s.at_ j (hk ▸ hj) : ldB (nth s.src (s.at_ + j)) = decide (j < k))
  have HNF : Hid (nameF s = if 15 < k then markF { s with at_ := s.at_ + k } 3 s.pos else if internN { s with at_ := s.at_ + k } (chars ((s.src.drop s.at_).take k)) < 0 then internF { s with at_ := s.at_ + k } (chars ((s.src.drop s.at_).take k))
    else if internN { s with at_ := s.at_ + k } (chars ((s.src.drop s.at_).take k)) < s.kw then { internF { s with at_ := s.at_ + k } (chars ((s.src.drop s.at_).take k)) with sym := 30 + internN { s with at_ := s.at_ + k } (chars ((s.src.drop s.at_).take k)) }
    else { internF { s with at_ := s.at_ + k } (chars ((s.src.drop s.at_).take k)) with sym := 25, id := internN { s with at_ := s.at_ + k } (chars ((s.src.drop s.at_).take k)) }) := Lib.hid (by rw [hk]; rfl)
  have HS := Lib.hid h
  clear h hk
  go_enter Tryz.func30, Tryz.ntmps30
  go_wp2_with fail
  go_loopw [8] (fun _ wr => ∃ j : Nat, j ≤ k ∧ Hid (SnAt wr B q { s with at_ := s.at_ + j }) ∧ Hid (Sf q q w wr)) (fun _ wr => s.src.length - atW q.p wr)
  case atStart => exact ⟨0, Nat.zero_le _, HS, Lib.hid (Sf.refl _ _)⟩
  case round =>
    clear HS c1
    obtain ⟨j, hj, HS, HF⟩ := hrel
    have K := HS.out.lk
    have c1 : wr.cell? ⟨q.p, 1, none⟩ = some (.int .i64 ((s.at_ + j : Nat) : Int)) := HS.out.c1
    have z1 := HS.out.z 1 (by omega)
    have HM : Hid (atW q.p wr = s.at_ + j) := Lib.hid HS.out.atW
    have KL0 : Hid (Calls Tryz.prog 27 #[.pointer (some ⟨q.p, 0, none⟩), .int .i64 0] wr fun e w' => e = .returned (.int .u8 (nth s.src (s.at_ + j))) ∧ ∃ n, w' = wr.drewN n) := Lib.hid K.l0
    have KL0n : Hid (∀ k, Calls Tryz.prog 27 #[.pointer (some ⟨q.p, 0, none⟩), .int .i64 0] (wr.drewN k) fun e w' => e = .returned (.int .u8 (nth s.src (s.at_ + j))) ∧ ∃ n, w' = wr.drewN n) := Lib.hid K.l0n
    have HTJ := Lib.hid (HT.out j hj)
    clear K
    obtain ⟨x0, hx0⟩ : ∃ x, x = nth s.src (s.at_ + j) := ⟨_, rfl⟩
    rw [← hx0] at KL0 KL0n HTJ
    clear hx0
    have step : j < k → ∀ n : Nat, ∀ W, W = (wr.drewN n).setCell ⟨q.p, 1, none⟩ (.int .i64 ((s.at_ + j : Nat) : Int)) → True := fun _ _ _ _ => trivial
    clear step
    cases hl : letB x0 with
    | true =>
      have hjk : j < k := by have := HTJ.out; unfold ldB at this; rw [hl] at this; simpa using this.symm
      have T := Lib.hid fun n => SnAt.to (HS.out.drewN n) (s.at_ + (j + 1)) (show s.at_ + (j + 1) ≤ s.src.length by omega)
      have T2 := Lib.hid fun n => (T.out n).atW
      go_wp2_with (first
        | (go_at_call 27; (with_reducible refine KL0.out.mono ?_); rintro e w' ⟨rfl, n1, rfl⟩)
        | (go_at_call 29; (with_reducible refine (sletter_any _ _).mono ?_); rintro e w' ⟨rfl, rfl⟩; rw [hl]))
      exact ⟨⟨j + 1, by omega, Lib.hid (T.out n1), Lib.hid ((HF.out.drewN n1).setCell 1 _)⟩, by rw [HM.out]; exact Nat.lt_of_le_of_lt (Nat.le_of_eq (congrArg (s.src.length - ·) (T2.out n1))) (by show s.src.length - (s.at_ + (j + 1)) < _; omega)⟩
    | false =>
      cases hd : digB x0 with
      | true =>
        have hjk : j < k := by have := HTJ.out; unfold ldB at this; rw [hl, hd] at this; simpa using this.symm
        have T := Lib.hid fun n => SnAt.to (HS.out.drewN n) (s.at_ + (j + 1)) (show s.at_ + (j + 1) ≤ s.src.length by omega)
        have T2 := Lib.hid fun n => (T.out n).atW
        go_wp2_with (first
          | (go_at_call 27; (with_reducible refine KL0.out.mono ?_); rintro e w' ⟨rfl, n1, rfl⟩)
          | (go_at_call 27; (with_reducible refine (KL0n.out _).mono ?_); rintro e w' ⟨rfl, n1, rfl⟩)
          | (go_at_call 29; (with_reducible refine (sletter_any _ _).mono ?_); rintro e w' ⟨rfl, rfl⟩; rw [hl])
          | (go_at_call 31; (with_reducible refine (sdigit_any _ _).mono ?_); rintro e w' ⟨rfl, rfl⟩; rw [hd]))
        exact ⟨⟨j + 1, by omega, Lib.hid (T.out n1), Lib.hid ((HF.out.drewN n1).setCell 1 _)⟩, by rw [HM.out]; exact Nat.lt_of_le_of_lt (Nat.le_of_eq (congrArg (s.src.length - ·) (T2.out n1))) (by show s.src.length - (s.at_ + (j + 1)) < _; omega)⟩
      | false =>
        obtain rfl : j = k := by have := HTJ.out; unfold ldB at this; rw [hl, hd] at this; have := this.symm; simp at this; omega
        have c0 : wr.cell? ⟨q.p, 0, none⟩ = some q.sv := HS.out.c0
        obtain ⟨A, c, hv⟩ := source_form HS.out
        obtain ⟨A2, hsub, hconv, -⟩ := HS.out.piece hv s.at_ (s.at_ + j) (by omega) hkl
        rw [hv] at c0
        have hsub : ∀ W, (Instr.slice 22 (.slice A s.src.length c) (some (.int .i64 (s.at_ : Int))) (some (.int .i64 ((s.at_ + j : Nat) : Int))) none).run Tryz.prog W = .ok (.slice A2 j (c - s.at_)) W := fun W => by have := hsub W; rwa [show s.at_ + j - s.at_ = j by omega] at this
        have hconv : ∀ n, (convert 22 9 (.slice A2 j (c - s.at_))).run Tryz.prog (wr.drewN n) = .ok (.string (bs (chars ((s.src.drop s.at_).take j)))) (wr.drewN n) := fun n => by have := hconv (wr.drewN n) (sndrewN _ _); rwa [show s.at_ + j - s.at_ = j by omega] at this
        have HMK := Lib.hid fun n => mark_any (HS.out.drewN n) 3
        have hBw : B ≤ wr.heap.size := Nat.le_trans hB HF.out.size
        have HIN := Lib.hid fun n => intern_any (HS.out.drewN n) hBw (chars ((s.src.drop s.at_).take j))
        have hlen : (chars ((s.src.drop s.at_).take j)).length = j := by unfold chars; simp; omega
        have hge : ((s.at_ + j : Nat) : Int) - (s.at_ : Int) = (j : Int) := by omega
        have HGE : Hid (IntKind.i64.wrap (((s.at_ + j : Nat) : Int) - (s.at_ : Int)) = (j : Int)) := Lib.hid (by rw [hge, wrap_i64_nat _ (by omega)])
        have HLE : s.at_ ≤ s.at_ + j := by omega
        have HLE2 : s.at_ + j ≤ 65535 := by omega
        clear hge
        by_cases h15 : 15 < j
        · rw [if_pos h15] at HNF
          have h15b : 15 + s.at_ < s.at_ + j := by omega
          clear hsub hconv HIN HT z1 HM HTJ hkl hj h15 hlen HGE
          have HA1 := Lib.hid hl
          go_wp2_with (first
            | (go_at_call 27; (with_reducible refine KL0.out.mono ?_); rintro e w' ⟨rfl, n1, rfl⟩)
            | (go_at_call 27; (with_reducible refine (KL0n.out _).mono ?_); rintro e w' ⟨rfl, n1, rfl⟩)
            | (go_at_call 29; (with_reducible refine (sletter_any _ _).mono ?_); rintro e w' ⟨rfl, rfl⟩; rw [hl])
            | (go_at_call 31; (with_reducible refine (sdigit_any _ _).mono ?_); rintro e w' ⟨rfl, rfl⟩; rw [hd])
            | (go_at_call 38; (with_reducible refine (HMK.out _).mono ?_); rintro e w2 ⟨rfl, hA, hB⟩; have HA := Lib.hid hA; have HB := Lib.hid ((HF.out.drewN _).trans hB); clear hA hB))
          go_end0
          rw [HNF.out]
          exact ⟨rfl, q, HA.out, HB.out⟩
        · rw [if_neg h15] at HNF
          rw [hlen] at HIN
          have h15b : s.at_ + j ≤ 15 + s.at_ := by omega
          have hsub : ∀ W, (Instr.slice 22 (.slice A s.src.length c) (some (.int .i64 (s.at_ : Int))) (some (.int .i64 ((s.at_ : Int) + (j : Int)))) none).run Tryz.prog W = .ok (.slice A2 j (c - s.at_)) W := fun W => by have := hsub W; rwa [Int.natCast_add] at this
          replace HIN := Lib.hid fun n => HIN.out n (by omega)
          clear HT z1 HM HTJ hkl hj h15 hlen HMK
          generalize hlt : chars ((s.src.drop s.at_).take j) = lt at *
          clear hlt
          have HKW := Lib.hid (internF_kw { s with at_ := s.at_ + j } lt)
          unfold Interned at HIN
          generalize internN { s with at_ := s.at_ + j } lt = idv at *
          generalize internF { s with at_ := s.at_ + j } lt = s2 at *
          go_upto_region 5 with (first
            | (go_at_call 27; (with_reducible refine KL0.out.mono ?_); rintro e w' ⟨rfl, n1, rfl⟩)
            | (go_at_call 27; (with_reducible refine (KL0n.out _).mono ?_); rintro e w' ⟨rfl, n1, rfl⟩)
            | (go_at_call 29; (with_reducible refine (sletter_any _ _).mono ?_); rintro e w' ⟨rfl, rfl⟩; rw [hl])
            | (go_at_call 31; (with_reducible refine (sdigit_any _ _).mono ?_); rintro e w' ⟨rfl, rfl⟩; rw [hd]))
          go_region_with (go_at_call 39; (with_reducible refine (HIN.out _).mono ?_); rintro e w2 ⟨rfl, q2, hA, hB⟩; have HA := Lib.hid hA; have HB := Lib.hid ((HF.out.drewN _).trans hB); clear hA hB)
          all_goals
            obtain ⟨p2, sv2, nv2, ib2, gb2⟩ := q2
            obtain rfl : p2 = q.p := HB.out.p
            have c11 : w2.cell? ⟨q.p, 11, none⟩ = some (.int .i64 s.kw) := by rw [← show s2.kw = s.kw from HKW.out]; exact HA.out.c11
            have c2 : w2.cell? ⟨q.p, 2, none⟩ = some (.int .i64 s2.sym) := HA.out.c2
            have c5 : w2.cell? ⟨q.p, 5, none⟩ = some (.int .i64 s2.id) := HA.out.c5
            have z2 : w2.frozen? ⟨q.p, 2, none⟩ = false := HA.out.z 2 (by omega)
            have z5 : w2.frozen? ⟨q.p, 5, none⟩ = false := HA.out.z 5 (by omega)
            clear hsub hconv c0 c1 HIN KL0 KL0n
            by_cases hid0 : idv < 0
            · rw [if_pos hid0] at HNF
              go_wp2_with fail
              go_end0
              rw [HNF.out]
              exact ⟨rfl, _, HA.out, HB.out⟩
            · rw [if_neg hid0] at HNF
              have hid1 : 0 ≤ idv := by omega
              clear hid0
              by_cases hkw : idv < s.kw
              · rw [if_pos hkw] at HNF
                go_wp2_with fail
                go_end0
                rw [HNF.out]
                exact ⟨rfl, _, HA.out.put 2 [.int .i64 (30 + idv)] { s2 with sym := 30 + idv } (by simp) rfl rfl HA.out.at1 rfl, HB.out.setCell 2 _⟩
              · rw [if_neg hkw] at HNF
                have hkw1 : s.kw ≤ idv := by omega
                clear hkw
                go_wp2_with fail
                go_end0
                rw [HNF.out]
                exact ⟨rfl, _, (HA.out.put 2 [.int .i64 25] { s2 with sym := 25 } (by simp) rfl rfl HA.out.at1 rfl).put 5 [.int .i64 idv] { s2 with sym := 25, id := idv } (by simp) rfl rfl HA.out.at1 rfl, (HB.out.setCell 2 _).setCell 5 _⟩
end
end Go.Proofs.YthpdgghjaglhnaaGreatDoor

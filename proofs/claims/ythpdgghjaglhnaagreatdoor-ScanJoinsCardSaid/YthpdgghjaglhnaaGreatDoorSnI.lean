/-
  A scanner in memory: a text is read.
-/
import Derived.Test.YthpdgghjaglhnaaGreatDoorSnG
namespace Go.Proofs.YthpdgghjaglhnaaGreatDoor
open Go.ChangeShapes Go.WideShapes Go.ChangeAt Go.RowKit
open Ev (WRow)
set_option linter.unusedVariables false
set_option linter.unusedSimpArgs false
def txB (c : Int) : Bool := decide (32 ≤ c) && (decide (c ≤ 126) && decide (c ≠ 34))
theorem txB_0 : txB 0 = false := by decide
/-- a text that begins where the scanner stands -/
def textF (s : Sn) : Sn :=
  let f := s.at_ + 1
  let k := tw txB (s.src.drop f)
  let s1 : Sn := { s with at_ := f + k }
  if nth s.src (f + k) ≠ 34 ∨ 63 < k then markF s1 4 s1.pos
  else { s1 with sym := 28, txt := bs (chars ((s.src.drop f).take k)), val := if k = 1 then nth s.src f else s.val, at_ := f + k + 1 }
section
variable {w : World} {B : Nat} {q : Sp} {s : Sn}
theorem chars_get (zs : List Int) (h : ∀ z ∈ zs, 0 ≤ z ∧ z < 256) (i : Nat) (hi : i < (bs (chars zs)).size) : ((bs (chars zs))[i].toNat : Int) = nth zs i := by
  have hl : (bs (chars zs)).size = zs.length := by unfold bs chars; simp [ByteArray.size]
  rw [hl] at hi
  have e : (bs (chars zs))[i] = (chars zs)[i]'(by unfold chars; simpa using hi) := rfl
  rw [e, nth_eq _ _ hi]
  unfold chars
  rw [List.getElem_map]
  obtain ⟨h0, h1⟩ := h _ (List.getElem_mem hi)
  simp
  omega
set_option maxRecDepth 100000 in
set_option maxHeartbeats 4000000 in
theorem text_any (h : SnAt w B q s) (hat : s.at_ < s.src.length) : Calls Tryz.prog 33 #[.pointer (some ⟨q.p, 0, none⟩)] w fun e w' => e = .returned (.tuple #[]) ∧ SnAt w' B q (textF s) ∧ Sf q q w w' := by
  have c1 := h.c1
  have z1 := h.z 1 (by omega)
  have l1 := h.l1
  have HSB := Lib.hid h.sb
  obtain ⟨f, hf⟩ : ∃ f, f = s.at_ + 1 := ⟨_, rfl⟩
  obtain ⟨k, hk⟩ : ∃ k, k = tw txB (s.src.drop f) := ⟨_, rfl⟩
  have hkl : f + k ≤ s.src.length := by have := tw_le txB (s.src.drop f); simp at this; omega
  have HT := Lib.hid fun j (hj : j ≤ k) => (hk ▸ tw_drop txB txB_0 s.src f j (hk ▸ hj) : txB (nth s.src (f + j)) = decide (j < k))
  have HNF : Hid (textF s = if nth s.src (f + k) ≠ 34 ∨ 63 < k then markF { s with at_ := f + k } 4 s.pos else { s with sym := 28, txt := bs (chars ((s.src.drop f).take k)), val := if k = 1 then nth s.src f else s.val, at_ := f + k + 1 }) := Lib.hid (by rw [hk, hf]; rfl)
  have HT0 := Lib.hid (SnAt.to h (f + 0) (by omega))
  have HF0 := Lib.hid ((Sf.refl q w).setCell 1 (.int .i64 ((f + 0 : Nat) : Int)))
  have hfe : (s.at_ : Int) + 1 = ((f + 0 : Nat) : Int) := by omega
  have HFE := Lib.hid hfe
  have hf1 : f ≤ s.at_ + 1 := by omega
  have hf2 : s.at_ + 1 ≤ f := by omega
  have HFH := Lib.hid hf
  clear h hk hfe hf
  go_enter Tryz.func33, Tryz.ntmps33
  go_wp2_with fail
  go_loopw [15] (fun _ wr => ∃ j : Nat, j ≤ k ∧ Hid (SnAt wr B q { s with at_ := f + j }) ∧ Hid (Sf q q w wr)) (fun _ wr => s.src.length - atW q.p wr)
  case atStart => exact ⟨0, Nat.zero_le _, by rw [HFE.out]; exact HT0, by rw [HFE.out]; exact HF0⟩
  case round =>
    clear c1 z1 HT0 HF0
    obtain ⟨j, hj, HS, HF⟩ := hrel
    have K := HS.out.lk
    have c1 : wr.cell? ⟨q.p, 1, none⟩ = some (.int .i64 ((f + j : Nat) : Int)) := HS.out.c1
    have z1 := HS.out.z 1 (by omega)
    have HM : Hid (atW q.p wr = f + j) := Lib.hid HS.out.atW
    have KL0 : Hid (Calls Tryz.prog 27 #[.pointer (some ⟨q.p, 0, none⟩), .int .i64 0] wr fun e w' => e = .returned (.int .u8 (nth s.src (f + j))) ∧ ∃ n, w' = wr.drewN n) := Lib.hid K.l0
    have KL0n : Hid (∀ k, Calls Tryz.prog 27 #[.pointer (some ⟨q.p, 0, none⟩), .int .i64 0] (wr.drewN k) fun e w' => e = .returned (.int .u8 (nth s.src (f + j))) ∧ ∃ n, w' = wr.drewN n) := Lib.hid K.l0n
    have HTJ := Lib.hid (HT.out j hj)
    clear K
    obtain ⟨x0, hx0⟩ : ∃ x, x = nth s.src (f + j) := ⟨_, rfl⟩
    have HX0 := Lib.hid hx0
    rw [← hx0] at KL0 KL0n HTJ
    clear hx0
    by_cases hjk : j < k
    · have htx : txB x0 = true := by rw [HTJ.out]; simpa using hjk
      unfold txB at htx
      simp only [Bool.and_eq_true, decide_eq_true_eq] at htx
      obtain ⟨g0, g1, g2⟩ := htx
      have g3 : (x0 != 34) = true := by simpa using g2
      have T := Lib.hid fun n => SnAt.to (HS.out.drewN n) (f + (j + 1)) (show f + (j + 1) ≤ s.src.length by omega)
      have T2 := Lib.hid fun n => (T.out n).atW
      clear g2
      go_wp2_with (first
        | (go_at_call 27; (with_reducible refine KL0.out.mono ?_); rintro e w' ⟨rfl, n1, rfl⟩)
        | (go_at_call 27; (with_reducible refine (KL0n.out _).mono ?_); rintro e w' ⟨rfl, n1, rfl⟩))
      exact ⟨⟨j + 1, by omega, Lib.hid (T.out n1), Lib.hid ((HF.out.drewN n1).setCell 1 _)⟩, by rw [HM.out]; exact Nat.lt_of_le_of_lt (Nat.le_of_eq (congrArg (s.src.length - ·) (T2.out n1))) (by show s.src.length - (f + (j + 1)) < _; omega)⟩
    · obtain rfl : j = k := by omega
      have htx : txB x0 = false := by rw [HTJ.out]; simp
      rw [← HX0.out] at HNF
      have HMK := Lib.hid fun n => mark_any (HS.out.drewN n) 4
      have hnot : x0 < 32 ∨ 126 < x0 ∨ x0 = 34 := by
        unfold txB at htx
        by_cases g0 : 32 ≤ x0
        · by_cases g1 : x0 ≤ 126
          · by_cases g2 : x0 = 34
            · exact .inr (.inr g2)
            · simp [g0, g1, g2] at htx
          · exact .inr (.inl (by omega))
        · exact .inl (by omega)
      have hj65 : f + j ≤ 65535 := by omega
      by_cases hq : x0 = 34
      · subst hq
        by_cases h63 : 63 < j
        · rw [if_pos (.inr h63)] at HNF
          have hdec : decide ((63 : Int) < (f : Int) + (j : Int) - ((s.at_ : Int) + 1)) = true := by simp; omega
          clear HT HTJ hkl hj h63 HX0 hnot htx hjk
          go_wp2_with (first
          | (go_at_call 27; (with_reducible refine KL0.out.mono ?_); rintro e w' ⟨rfl, n1, rfl⟩)
          | (go_at_call 27; (with_reducible refine (KL0n.out _).mono ?_); rintro e w' ⟨rfl, n1, rfl⟩)
          | (go_at_call 38; (with_reducible refine (HMK.out _).mono ?_); rintro e w2 ⟨rfl, hA, hB⟩; have HA := Lib.hid hA; have HB := Lib.hid ((HF.out.drewN _).trans hB); clear hA hB))
          refine bodyPost_ret (results_none rfl _ _ _) rfl ?_
          rw [HNF.out]
          exact ⟨rfl, HA.out, HB.out⟩
        · rw [if_neg (by omega)] at HNF
          have hdec : decide ((63 : Int) < (f : Int) + (j : Int) - ((s.at_ : Int) + 1)) = false := by simp; omega
          clear HMK HT
          go_upto_region 6 with (first
          | (go_at_call 27; (with_reducible refine KL0.out.mono ?_); rintro e w' ⟨rfl, n1, rfl⟩)
          | (go_at_call 27; (with_reducible refine (KL0n.out _).mono ?_); rintro e w' ⟨rfl, n1, rfl⟩))
          have c0 : wr.cell? ⟨q.p, 0, none⟩ = some q.sv := HS.out.c0
          obtain ⟨A, c, hv⟩ := source_form HS.out
          obtain ⟨A2, hsub, hconv, -⟩ := HS.out.piece hv f (f + j) (by omega) hkl
          rw [hv] at c0
          have hsub : ∀ W, (Instr.slice 22 (.slice A s.src.length c) (some (.int .i64 ((s.at_ : Int) + 1))) (some (.int .i64 ((f : Int) + (j : Int)))) none).run Tryz.prog W = .ok (.slice A2 j (c - f)) W := fun W => by have := hsub W; rw [show f + j - f = j by omega, Int.natCast_add] at this; rwa [show (f : Int) = (s.at_ : Int) + 1 by omega] at this ⊢
          have hconv : ∀ n, (convert 22 9 (.slice A2 j (c - f))).run Tryz.prog (wr.drewN n) = .ok (.string (bs (chars ((s.src.drop f).take j)))) (wr.drewN n) := fun n => by have := hconv (wr.drewN n) ⟨rfl, rfl, rfl, Nat.le_refl _, fun _ _ => rfl⟩; rwa [show f + j - f = j by omega] at this
          have c2 : wr.cell? ⟨q.p, 2, none⟩ = some (.int .i64 s.sym) := HS.out.c2
          have c4 : wr.cell? ⟨q.p, 4, none⟩ = some (.int .i32 s.val) := HS.out.c4
          have c6 : wr.cell? ⟨q.p, 6, none⟩ = some (.string s.txt) := HS.out.c6
          have z2 := HS.out.z 2 (by omega)
          have z4 := HS.out.z 4 (by omega)
          have z6 := HS.out.z 6 (by omega)
          have hfl : f + j < s.src.length := by
            have := HX0.out
            by_cases h : s.src.length ≤ f + j
            · rw [nth_ge _ _ h] at this; omega
            · omega
          have HFL := Lib.hid hfl
          obtain ⟨tx, htx2⟩ : ∃ tx, tx = bs (chars ((s.src.drop f).take j)) := ⟨_, rfl⟩
          have hts : tx.size = j := by rw [htx2]; unfold bs chars; simp [ByteArray.size]; omega
          have hcg := Lib.hid fun i hi => chars_get ((s.src.drop f).take j) (fun z hz => HSB.out z (List.mem_of_mem_drop (List.mem_of_mem_take hz))) i hi
          rw [← htx2] at hconv hcg HNF
          have HP2 := Lib.hid fun n => (HS.out.drewN n).put 2 [.int .i64 28] { s with at_ := f + j, sym := 28 } (by simp) rfl rfl (by exact hkl) rfl
          have HP6 := Lib.hid fun n => (HP2.out n).put 6 [.string tx] { s with at_ := f + j, sym := 28, txt := tx } (by simp) rfl rfl (by exact hkl) rfl
          have HF6 := Lib.hid fun n => ((HF.out.drewN n).setCell 2 (.int .i64 28)).setCell 6 (.string tx)
          have HKL := Lib.hid hkl
          by_cases hj1 : j = 1
          · have hlt : f + j < s.src.length ∨ s.src.length ≤ f + j := by omega
            have hn0 : nth s.src f = nth ((s.src.drop f).take j) 0 := by rw [nth_take _ _ _ (by omega), nth_drop]; rfl
            have hb0 : (0 : Int) ≤ nth s.src f ∧ nth s.src f < 256 := nth_mem (fun z => 0 ≤ z ∧ z < 256) s.src HSB.out (by omega) f
            have h0s : 0 < tx.size := by omega
            have hv0 : (tx[0].toNat : Int) = nth s.src f := by rw [hcg.out 0 h0s, hn0]
            have hs1 : ((tx.size : Int) == 1) = true := by rw [hts]; simp; omega
            have HV0 := Lib.hid hv0
            rw [if_pos hj1] at HNF
            rw [← hv0] at HNF hb0
            obtain ⟨b0, b1⟩ := hb0
            clear hts hcg htx2 htx hj1 hnot HTJ HX0 h63 hjk hj hkl hfl hn0 hlt hv0
            go_region_with (fail)
            all_goals
              go_wp2_with fail
              go_end0
              rw [HNF.out]
              exact ⟨rfl, ((HP6.out _).put 4 [.int .i32 (tx[0].toNat : Int)] { s with at_ := f + j, sym := 28, txt := tx, val := (tx[0].toNat : Int) } (by simp) rfl rfl (by exact HKL.out) rfl).to (f + j + 1) (by exact HFL.out), ((HF6.out _).setCell 4 _).setCell 1 _⟩
          · rw [if_neg hj1] at HNF
            have hs1 : ((tx.size : Int) == 1) = false := by rw [hts]; simp; omega
            clear hts hcg htx2 htx hj1 hnot HTJ HX0 h63 hjk hj hkl hfl
            go_region_with (fail)
            all_goals
              go_wp2_with fail
              go_end0
              rw [HNF.out]
              exact ⟨rfl, (HP6.out _).to (f + j + 1) (by exact HFL.out), (HF6.out _).setCell 1 _⟩
      · rw [if_pos (.inl hq)] at HNF
        have hq2 : (x0 != 34) = true := by simpa using hq
        have hnot : x0 < 32 ∨ (126 < x0 ∧ 32 ≤ x0) := by omega
        clear HT HTJ hkl hj HX0 htx hjk hq
        rcases hnot with g | ⟨g, g2⟩
        all_goals
          go_wp2_with (first
          | (go_at_call 27; (with_reducible refine KL0.out.mono ?_); rintro e w' ⟨rfl, n1, rfl⟩)
          | (go_at_call 27; (with_reducible refine (KL0n.out _).mono ?_); rintro e w' ⟨rfl, n1, rfl⟩)
          | (go_at_call 38; (with_reducible refine (HMK.out _).mono ?_); rintro e w2 ⟨rfl, hA, hB⟩; have HA := Lib.hid hA; have HB := Lib.hid ((HF.out.drewN _).trans hB); clear hA hB))
        all_goals first
          | (refine bodyPost_ret (results_none rfl _ _ _) rfl ?_; rw [HNF.out]; exact ⟨rfl, HA.out, HB.out⟩)
          | trace_state
end
end Go.Proofs.YthpdgghjaglhnaaGreatDoor

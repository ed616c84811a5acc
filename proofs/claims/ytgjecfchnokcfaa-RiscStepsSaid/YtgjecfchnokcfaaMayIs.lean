/-
  What an instruction that may be, by the document, is.
-/
import Derived.Test.YtgjecfchnokcfaaRefMayS
namespace Go.Proofs.Ytgjecfchnokcfaa
open Go.ChangeShapes Go.WideShapes Go.ChangeAt Go.RowKit
set_option linter.unusedVariables false
set_option linter.unusedSimpArgs false
set_option maxHeartbeats 4000000 in
theorem may_is (I : Ins) (h : mayE I = true) : MayIs I := by
  unfold mayE at h
  split at h
  · rename_i hf
    simp only [mayT0, Ev.SpT.sb, mayS0_0, mayS0_1, mayS0_2, mayS0_3, mayL0] at h
    simp [Ev.SB.den, Ev.SI.den, insVal, Ev.Val.of, Ev.cmpI] at h
    obtain ⟨⟨⟨⟨⟨hv, hm⟩, ho⟩, hk⟩, hn⟩, ⟨⟨⟨⟨⟨⟨⟨a0, a1⟩, b0, b1⟩, c0, c1⟩, o0, o1⟩, m0, m1⟩, k0, k1⟩, n0, n1⟩, h3, h4⟩ := h
    have hM : mayOpB 0 I.u false I.b I.c I.op = true := by
      unfold mayOpB
      by_cases h0 : I.op = 0
      · rw [if_pos h0]; simp only [h0] at h4; cases hu : I.u <;> cases hv2 : I.v <;> simp [hu, hv2] at h4 ⊢ <;> omega
      · rw [if_neg h0]; cases hu : I.u <;> simp [hu] at h3 ⊢ <;> omega
    exact { f0 := by omega, f1 := by omega, a0 := a0, a1 := a1, b0 := b0, b1 := b1, c0 := c0, c1 := c1, o0 := o0, o1 := o1, m0 := m0, m1 := m1, k0 := k0, k1 := k1, n0 := n0, n1 := n1, r := fun e => ⟨hv, hm, ho, hk, hn, hM⟩, i := fun e => by omega, l := fun e => by omega, j := fun e => by omega, t := fun e => by omega, s := fun e => by omega }
  · split at h
    · rename_i hf
      simp only [mayT1, Ev.SpT.sb, mayS1_0, mayS1_1, mayS1_2, mayS1_3, mayL1] at h
      simp [Ev.SB.den, Ev.SI.den, insVal, Ev.Val.of, Ev.cmpI] at h
      obtain ⟨⟨⟨⟨hc, ho⟩, hk⟩, hn⟩, ⟨⟨⟨⟨⟨⟨⟨a0, a1⟩, b0, b1⟩, c0, c1⟩, o0, o1⟩, m0, m1⟩, k0, k1⟩, n0, n1⟩, h3, h4⟩ := h
      have hM : mayOpB 1 I.u I.v I.b 0 I.op = true := by
        unfold mayOpB
        by_cases h0 : I.op = 0
        · rw [if_pos h0]; simp only [h0] at h4; cases hu : I.u <;> cases hv2 : I.v <;> simp [hu, hv2] at h4 ⊢ <;> omega
        · rw [if_neg h0]; cases hu : I.u <;> simp [hu] at h3 ⊢ <;> omega
      exact { f0 := by omega, f1 := by omega, a0 := a0, a1 := a1, b0 := b0, b1 := b1, c0 := c0, c1 := c1, o0 := o0, o1 := o1, m0 := m0, m1 := m1, k0 := k0, k1 := k1, n0 := n0, n1 := n1, r := fun e => by omega, i := fun e => ⟨hc, ho, hk, hn, hM⟩, l := fun e => by omega, j := fun e => by omega, t := fun e => by omega, s := fun e => by omega }
    · split at h
      · rename_i hf
        simp only [mayT2, Ev.SpT.sb, mayS2_0, mayS2_1, mayS2_2, mayL2] at h
        simp [Ev.SB.den, Ev.SI.den, insVal, Ev.Val.of, Ev.cmpI] at h
        obtain ⟨⟨⟨⟨⟨⟨hu, hc⟩, hop⟩, hm⟩, hk⟩, hn⟩, ⟨⟨⟨⟨⟨⟨⟨a0, a1⟩, b0, b1⟩, c0, c1⟩, o0, o1⟩, m0, m1⟩, k0, k1⟩, n0, n1⟩, h3⟩ := h
        exact { f0 := by omega, f1 := by omega, a0 := a0, a1 := a1, b0 := b0, b1 := b1, c0 := c0, c1 := c1, o0 := o0, o1 := o1, m0 := m0, m1 := m1, k0 := k0, k1 := k1, n0 := n0, n1 := n1, r := fun e => by omega, i := fun e => by omega, l := fun e => ⟨hu, hc, hop, hm, hk, hn, by omega, by omega⟩, j := fun e => by omega, t := fun e => by omega, s := fun e => by omega }
      · split at h
        · rename_i hf
          simp only [mayT3, Ev.SpT.sb, mayS3_0, mayS3_1, mayS3_2, mayL3] at h
          simp [Ev.SB.den, Ev.SI.den, insVal, Ev.Val.of, Ev.cmpI] at h
          obtain ⟨⟨⟨⟨⟨⟨hu, hc⟩, hop⟩, hm⟩, hk⟩, hn⟩, ⟨⟨⟨⟨⟨⟨⟨a0, a1⟩, b0, b1⟩, c0, c1⟩, o0, o1⟩, m0, m1⟩, k0, k1⟩, n0, n1⟩, h3⟩ := h
          exact { f0 := by omega, f1 := by omega, a0 := a0, a1 := a1, b0 := b0, b1 := b1, c0 := c0, c1 := c1, o0 := o0, o1 := o1, m0 := m0, m1 := m1, k0 := k0, k1 := k1, n0 := n0, n1 := n1, r := fun e => by omega, i := fun e => by omega, l := fun e => ⟨hu, hc, hop, hm, hk, hn, by omega, by omega⟩, j := fun e => by omega, t := fun e => by omega, s := fun e => by omega }
        · split at h
          · rename_i hf
            simp only [mayT4, Ev.SpT.sb, mayS4_0, mayS4_1, mayS4_2, mayL4] at h
            simp [Ev.SB.den, Ev.SI.den, insVal, Ev.Val.of, Ev.cmpI] at h
            obtain ⟨⟨⟨⟨⟨⟨⟨hu, ha⟩, hb⟩, hc⟩, hop⟩, hm⟩, hn⟩, ⟨⟨⟨⟨⟨⟨⟨a0, a1⟩, b0, b1⟩, c0, c1⟩, o0, o1⟩, m0, m1⟩, k0, k1⟩, n0, n1⟩, h3⟩ := h
            exact { f0 := by omega, f1 := by omega, a0 := a0, a1 := a1, b0 := b0, b1 := b1, c0 := c0, c1 := c1, o0 := o0, o1 := o1, m0 := m0, m1 := m1, k0 := k0, k1 := k1, n0 := n0, n1 := n1, r := fun e => by omega, i := fun e => by omega, l := fun e => by omega, j := fun e => ⟨hu, ha, hb, hc, hop, hm, hn, by omega, by omega⟩, t := fun e => by omega, s := fun e => by omega }
          · split at h
            · rename_i hf
              simp only [mayT5, Ev.SpT.sb, mayS5_0, mayS5_1, mayS5_2, mayL5] at h
              simp [Ev.SB.den, Ev.SI.den, insVal, Ev.Val.of, Ev.cmpI] at h
              obtain ⟨⟨⟨⟨⟨⟨⟨hu, ha⟩, hb⟩, hop⟩, hm⟩, ho⟩, hn⟩, ⟨⟨⟨⟨⟨⟨⟨a0, a1⟩, b0, b1⟩, c0, c1⟩, o0, o1⟩, m0, m1⟩, k0, k1⟩, n0, n1⟩, h3⟩ := h
              exact { f0 := by omega, f1 := by omega, a0 := a0, a1 := a1, b0 := b0, b1 := b1, c0 := c0, c1 := c1, o0 := o0, o1 := o1, m0 := m0, m1 := m1, k0 := k0, k1 := k1, n0 := n0, n1 := n1, r := fun e => by omega, i := fun e => by omega, l := fun e => by omega, j := fun e => by omega, t := fun e => ⟨hu, ha, hb, hop, hm, ho, hn, fun e => h3.elim (fun h => by rw [h] at e; exact absurd e.1 (by simp)) fun h => h e.2⟩, s := fun e => by omega }
            · split at h
              · rename_i hf
                simp only [mayT6, Ev.SpT.sb, mayS6_0, mayS6_1, mayL6] at h
                simp [Ev.SB.den, Ev.SI.den, insVal, Ev.Val.of, Ev.cmpI] at h
                obtain ⟨⟨⟨⟨⟨⟨⟨⟨hu, hv⟩, ha⟩, hb⟩, hc⟩, hop⟩, hm⟩, ho⟩, ⟨⟨⟨⟨⟨⟨⟨a0, a1⟩, b0, b1⟩, c0, c1⟩, o0, o1⟩, m0, m1⟩, k0, k1⟩, n0, n1⟩⟩ := h
                exact { f0 := by omega, f1 := by omega, a0 := a0, a1 := a1, b0 := b0, b1 := b1, c0 := c0, c1 := c1, o0 := o0, o1 := o1, m0 := m0, m1 := m1, k0 := k0, k1 := k1, n0 := n0, n1 := n1, r := fun e => by omega, i := fun e => by omega, l := fun e => by omega, j := fun e => by omega, t := fun e => by omega, s := fun e => ⟨hu, hv, ha, hb, hc, hop, hm, ho⟩ }
              · cases h
end Go.Proofs.Ytgjecfchnokcfaa

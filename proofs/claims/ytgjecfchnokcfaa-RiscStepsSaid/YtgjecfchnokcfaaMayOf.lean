/-
  What an instruction must be to be one, by the document: the way back.
-/
import Derived.Test.YtgjecfchnokcfaaMayIs
namespace Go.Proofs.Ytgjecfchnokcfaa
open Go.ChangeShapes Go.WideShapes Go.ChangeAt Go.RowKit
set_option linter.unusedVariables false
set_option linter.unusedSimpArgs false
set_option maxHeartbeats 4000000 in
theorem may_of (I : Ins) (m : MayIs I) : mayE I = true := by
  obtain ⟨f0, f1, a0, a1, b0, b1, c0, c1, o0, o1, m0, m1, k0, k1, n0, n1, r, i, l, j, t, s⟩ := m
  unfold mayE
  by_cases h0 : I.form = 0
  · rw [if_pos h0]
    obtain ⟨hv, hm, ho, hk, hn, hM⟩ := r h0
    simp only [mayT0, Ev.SpT.sb, mayS0_0, mayS0_1, mayS0_2, mayS0_3, mayL0]
    simp [Ev.SB.den, Ev.SI.den, insVal, Ev.Val.of, Ev.cmpI, a0, a1, b0, b1, c0, c1, o0, o1, m0, m1, k0, k1, n0, n1, hv, hm, ho, hk, hn]
    unfold mayOpB at hM
    by_cases hz : I.op = 0
    · rw [if_pos hz] at hM; cases hu : I.u <;> cases hv2 : I.v <;> simp [hu, hv2, hz] at hM ⊢ <;> omega
    · rw [if_neg hz] at hM; cases hu : I.u <;> simp [hu, hz] at hM ⊢ <;> omega
  rw [if_neg h0]
  by_cases h1 : I.form = 1
  · rw [if_pos h1]
    obtain ⟨hc, ho, hk, hn, hM⟩ := i h1
    simp only [mayT1, Ev.SpT.sb, mayS1_0, mayS1_1, mayS1_2, mayS1_3, mayL1]
    simp [Ev.SB.den, Ev.SI.den, insVal, Ev.Val.of, Ev.cmpI, a0, a1, b0, b1, c0, c1, o0, o1, m0, m1, k0, k1, n0, n1, hc, ho, hk, hn]
    unfold mayOpB at hM
    by_cases hz : I.op = 0
    · rw [if_pos hz] at hM; cases hu : I.u <;> cases hv2 : I.v <;> simp [hu, hv2, hz] at hM ⊢ <;> omega
    · rw [if_neg hz] at hM; cases hu : I.u <;> simp [hu, hz] at hM ⊢ <;> omega
  rw [if_neg h1]
  by_cases h2 : I.form = 2
  · rw [if_pos h2]
    obtain ⟨hu, hc, hop, hm, hk, hn, l0, l1⟩ := l (.inl h2)
    simp only [mayT2, Ev.SpT.sb, mayS2_0, mayS2_1, mayS2_2, mayL2]
    simp [Ev.SB.den, Ev.SI.den, insVal, Ev.Val.of, Ev.cmpI, a0, a1, b0, b1, c0, c1, o0, o1, m0, m1, k0, k1, n0, n1, hu, hc, hop, hm, hk, hn, l0, l1]
  rw [if_neg h2]
  by_cases h3 : I.form = 3
  · rw [if_pos h3]
    obtain ⟨hu, hc, hop, hm, hk, hn, l0, l1⟩ := l (.inr h3)
    simp only [mayT3, Ev.SpT.sb, mayS3_0, mayS3_1, mayS3_2, mayL3]
    simp [Ev.SB.den, Ev.SI.den, insVal, Ev.Val.of, Ev.cmpI, a0, a1, b0, b1, c0, c1, o0, o1, m0, m1, k0, k1, n0, n1, hu, hc, hop, hm, hk, hn, l0, l1]
  rw [if_neg h3]
  by_cases h4 : I.form = 4
  · rw [if_pos h4]
    obtain ⟨hu, ha, hb, hc, hop, hm, hn, l0, l1⟩ := j h4
    simp only [mayT4, Ev.SpT.sb, mayS4_0, mayS4_1, mayS4_2, mayL4]
    simp [Ev.SB.den, Ev.SI.den, insVal, Ev.Val.of, Ev.cmpI, a0, a1, b0, b1, c0, c1, o0, o1, m0, m1, k0, k1, n0, n1, hu, ha, hb, hc, hop, hm, hn, l0, l1]
  rw [if_neg h4]
  by_cases h5 : I.form = 5
  · rw [if_pos h5]
    obtain ⟨hu, ha, hb, hop, hm, ho, hn, hx⟩ := t h5
    simp only [mayT5, Ev.SpT.sb, mayS5_0, mayS5_1, mayS5_2, mayL5]
    simp [Ev.SB.den, Ev.SI.den, insVal, Ev.Val.of, Ev.cmpI, a0, a1, b0, b1, c0, c1, o0, o1, m0, m1, k0, k1, n0, n1, hu, ha, hb, hop, hm, ho, hn]
    cases hv : I.v
    · simp
    · simp; exact fun e => hx ⟨hv, e⟩
  rw [if_neg h5]
  by_cases h6 : I.form = 6
  · rw [if_pos h6]
    obtain ⟨hu, hv, ha, hb, hc, hop, hm, ho⟩ := s h6
    simp only [mayT6, Ev.SpT.sb, mayS6_0, mayS6_1, mayL6]
    simp [Ev.SB.den, Ev.SI.den, insVal, Ev.Val.of, Ev.cmpI, a0, a1, b0, b1, c0, c1, o0, o1, m0, m1, k0, k1, n0, n1, hu, hv, ha, hb, hc, hop, hm, ho]
  rw [if_neg h6]
  omega
end Go.Proofs.Ytgjecfchnokcfaa

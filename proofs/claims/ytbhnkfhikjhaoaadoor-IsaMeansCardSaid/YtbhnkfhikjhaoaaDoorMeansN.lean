/-
  Instructions that may be, and their words: plain numbers. Nothing of the program but what Of's contract says.
-/
import Derived.Test.YtbhnkfhikjhaoaaDoorOfD
namespace Go.Proofs.YtbhnkfhikjhaoaaDoor
open Go.ChangeShapes Go.WideShapes Go.ChangeAt Go.RowKit
set_option linter.unusedVariables false
theorem rr_2_1 (x : Int) : rst (rst x 2) 1 = rst x 3 := by unfold rst; omega
theorem rr_3_1 (x : Int) : rst (rst x 3) 1 = rst x 4 := by unfold rst; omega
theorem rr_4_4 (x : Int) : rst (rst x 4) 4 = rst x 8 := by unfold rst; omega
theorem rr_8_4 (x : Int) : rst (rst x 8) 4 = rst x 12 := by unfold rst; omega
theorem rr_12_4 (x : Int) : rst (rst x 12) 4 = rst x 16 := by unfold rst; omega
theorem rr_16_12 (x : Int) : rst (rst x 16) 12 = rst x 28 := by unfold rst; omega
theorem rr_8_20 (x : Int) : rst (rst x 8) 20 = rst x 28 := by unfold rst; omega
theorem rr_8_12 (x : Int) : rst (rst x 8) 12 = rst x 20 := by unfold rst; omega
theorem tr_2_1 (x : Int) : tk (rst x 2) 1 = x / 536870912 % 2 := by unfold tk rst; omega
theorem tr_3_1 (x : Int) : tk (rst x 3) 1 = x / 268435456 % 2 := by unfold tk rst; omega
theorem tr_4_4 (x : Int) : tk (rst x 4) 4 = x / 16777216 % 16 := by unfold tk rst; omega
theorem tr_8_4 (x : Int) : tk (rst x 8) 4 = x / 1048576 % 16 := by unfold tk rst; omega
theorem tr_12_4 (x : Int) : tk (rst x 12) 4 = x / 65536 % 16 := by unfold tk rst; omega
theorem tr_16_12 (x : Int) : tk (rst x 16) 12 = x / 16 % 4096 := by unfold tk rst; omega
theorem tr_28_4 (x : Int) : tk (rst x 28) 4 = x / 1 % 16 := by unfold tk rst; omega
theorem tr_16_16 (x : Int) : tk (rst x 16) 16 = x / 1 % 65536 := by unfold tk rst; omega
theorem tr_8_20 (x : Int) : tk (rst x 8) 20 = x / 16 % 1048576 := by unfold tk rst; omega
theorem tr_8_12 (x : Int) : tk (rst x 8) 12 = x / 4096 % 4096 := by unfold tk rst; omega
theorem tr_20_8 (x : Int) : tk (rst x 20) 8 = x / 16 % 256 := by unfold tk rst; omega
theorem tr_0 (x : Int) : tk x 2 = x / 1073741824 := by unfold tk; omega
def sg (n s : Int) : Int := if s ≤ n then n - 2 * s else n
theorem off20 (x : Int) : wrap32 (rst x 12) / 4096 = sg (x % 1048576) 524288 := by unfold rst wrap32 sg; split <;> omega
theorem off24 (x : Int) : wrap32 (rst x 8) / 256 = sg (x % 16777216) 8388608 := by unfold rst wrap32 sg; split <;> omega
/-- a word's fields -/
theorem dec_fields (x : Int) : dec x =
    if x / 1073741824 = 0 then (⟨0, x / 536870912 % 2 == 1, false, x / 16777216 % 16, x / 1048576 % 16, x % 16, x / 65536 % 16, 0, 0, 0, 0⟩, (x / 16 % 4096 != 0 || x / 268435456 % 2 == 1 || !mayOpB 0 (x / 536870912 % 2 == 1) false (x / 1048576 % 16) (x % 16) (x / 65536 % 16)))
    else if x / 1073741824 = 1 then (⟨1, x / 536870912 % 2 == 1, x / 268435456 % 2 == 1, x / 16777216 % 16, x / 1048576 % 16, 0, x / 65536 % 16, x % 65536, 0, 0, 0⟩, !mayOpB 1 (x / 536870912 % 2 == 1) (x / 268435456 % 2 == 1) (x / 1048576 % 16) 0 (x / 65536 % 16))
    else if x / 1073741824 = 2 then (⟨2 + x / 536870912 % 2, false, x / 268435456 % 2 == 1, x / 16777216 % 16, x / 1048576 % 16, 0, 0, 0, sg (x % 1048576) 524288, 0, 0⟩, false)
    else if x / 536870912 % 2 = 1 then (⟨4, false, x / 268435456 % 2 == 1, 0, 0, 0, 0, 0, sg (x % 16777216) 8388608, x / 16777216 % 16, 0⟩, false)
    else if x / 268435456 % 2 = 1 ∧ x % 16 = 12 then (⟨6, false, false, 0, 0, 0, 0, 0, 0, x / 16777216 % 16, x / 16 % 256⟩, x / 4096 % 4096 != 0)
    else (⟨5, false, x / 268435456 % 2 == 1, 0, 0, x % 16, 0, 0, 0, x / 16777216 % 16, 0⟩, x / 16 % 1048576 != 0) := by
  have e1 : x / 1 = x := by omega
  simp only [dec, of0, odd0, of1, odd1, of2, of4, of5, odd5, of6, odd6, rr_2_1, rr_3_1, rr_4_4, rr_8_4, rr_12_4, rr_16_12, rr_8_20, rr_8_12, tr_2_1, tr_3_1, tr_4_4, tr_8_4, tr_12_4, tr_16_12, tr_28_4, tr_16_16, tr_8_20, tr_8_12, tr_20_8, tr_0, off20, off24, e1]


def insCells (i : Ins) : Array Value := #[.int .i64 i.form, .bool i.u, .bool i.v, .int .i64 i.a, .int .i64 i.b, .int .i64 i.c, .int .i64 i.op, .int .i64 i.im, .int .i64 i.off, .int .i64 i.cond, .int .i64 i.n]
/-- what an instruction that may be is -/
structure MayIs (I : Ins) : Prop where
  f0 : 0 ≤ I.form
  f1 : I.form ≤ 6
  a0 : 0 ≤ I.a
  a1 : I.a ≤ 15
  b0 : 0 ≤ I.b
  b1 : I.b ≤ 15
  c0 : 0 ≤ I.c
  c1 : I.c ≤ 15
  o0 : 0 ≤ I.op
  o1 : I.op ≤ 11
  m0 : 0 ≤ I.im
  m1 : I.im ≤ 65535
  k0 : 0 ≤ I.cond
  k1 : I.cond ≤ 15
  n0 : 0 ≤ I.n
  n1 : I.n ≤ 255
  r : I.form = 0 → I.v = false ∧ I.im = 0 ∧ I.off = 0 ∧ I.cond = 0 ∧ I.n = 0 ∧ mayOpB 0 I.u false I.b I.c I.op = true
  i : I.form = 1 → I.c = 0 ∧ I.off = 0 ∧ I.cond = 0 ∧ I.n = 0 ∧ mayOpB 1 I.u I.v I.b 0 I.op = true
  l : I.form = 2 ∨ I.form = 3 → I.u = false ∧ I.c = 0 ∧ I.op = 0 ∧ I.im = 0 ∧ I.cond = 0 ∧ I.n = 0 ∧ -524288 ≤ I.off ∧ I.off ≤ 524287
  j : I.form = 4 → I.u = false ∧ I.a = 0 ∧ I.b = 0 ∧ I.c = 0 ∧ I.op = 0 ∧ I.im = 0 ∧ I.n = 0 ∧ -8388608 ≤ I.off ∧ I.off ≤ 8388607
  t : I.form = 5 → I.u = false ∧ I.a = 0 ∧ I.b = 0 ∧ I.op = 0 ∧ I.im = 0 ∧ I.off = 0 ∧ I.n = 0 ∧ ¬ (I.v = true ∧ I.c = 12)
  s : I.form = 6 → I.u = false ∧ I.v = false ∧ I.a = 0 ∧ I.b = 0 ∧ I.c = 0 ∧ I.op = 0 ∧ I.im = 0 ∧ I.off = 0
/-- its word -/
def wdI (I : Ins) : Int :=
  if I.form ≤ 1 then I.form * 1073741824 + bit I.u * 536870912 + bit I.v * 268435456 + I.a * 16777216 + I.b * 1048576 + I.op * 65536 + (I.im + I.c)
  else if I.form ≤ 3 then 2147483648 + (I.form - 2) * 536870912 + bit I.v * 268435456 + I.a * 16777216 + I.b * 1048576 + I.off % 1048576
  else if I.form = 4 then 3758096384 + bit I.v * 268435456 + I.cond * 16777216 + I.off % 16777216
  else if I.form = 5 then 3221225472 + bit I.v * 268435456 + I.cond * 16777216 + I.c
  else 3489660928 + I.cond * 16777216 + I.n * 16 + 12
theorem bit_eq (v : Bool) : (bit v == 1) = v := by cases v <;> rfl
theorem wdI_bd (I : Ins) (h : MayIs I) : 0 ≤ wdI I ∧ wdI I ≤ 4294967295 := by
  obtain ⟨f0, f1, a0, a1, b0, b1, c0, c1, o0, o1, m0, m1, k0, k1, n0, n1, hr, hi, hl, hj, ht, hs⟩ := h
  have hu := bit_bd I.u
  have hv := bit_bd I.v
  unfold wdI
  by_cases h0 : I.form = 0
  · have := hr h0; rw [if_pos (by omega)]; omega
  by_cases h1 : I.form = 1
  · have := hi h1; rw [if_pos (by omega)]; omega
  rw [if_neg (by omega)]
  split
  · omega
  · split
    · omega
    · split <;> omega
theorem ins_eta (I : Ins) {f : Int} {u v : Bool} {a b c op im off cond n : Int} (h0 : I.form = f) (h1 : I.u = u) (h2 : I.v = v) (h3 : I.a = a) (h4 : I.b = b) (h5 : I.c = c) (h6 : I.op = op) (h7 : I.im = im) (h8 : I.off = off) (h9 : I.cond = cond) (h10 : I.n = n) : (⟨f, u, v, a, b, c, op, im, off, cond, n⟩ : Ins) = I := by
  subst h0 h1 h2 h3 h4 h5 h6 h7 h8 h9 h10; rfl
theorem dec_wdI (I : Ins) (h : MayIs I) : dec (wdI I) = (I, false) := by
  obtain ⟨f0, f1, a0, a1, b0, b1, c0, c1, o0, o1, m0, m1, k0, k1, n0, n1, hr, hi, hl, hj, ht, hs⟩ := h
  have bu := bit_bd I.u
  have bv := bit_bd I.v
  have eu := bit_eq I.u
  have ev := bit_eq I.v
  obtain ⟨x, hx⟩ : ∃ x, wdI I = x := ⟨_, rfl⟩
  rw [hx, dec_fields]
  unfold wdI at hx
  by_cases h0 : I.form = 0
  · obtain ⟨g1, g2, g3, g4, g5, g6⟩ := hr h0
    rw [if_pos (by omega)] at hx
    rw [g1, show bit false = 0 from rfl] at hx
    rw [if_pos (by omega)]
    rw [show x / 268435456 % 2 = 0 by omega, show x / 536870912 % 2 = bit I.u by omega, show x / 16777216 % 16 = I.a by omega, show x / 1048576 % 16 = I.b by omega, show x % 16 = I.c by omega, show x / 65536 % 16 = I.op by omega, show x / 16 % 4096 = 0 by omega, eu, g6]
    rw [ins_eta I h0 rfl g1 rfl rfl rfl rfl g2 g3 g4 g5]
    rfl
  by_cases h1 : I.form = 1
  · obtain ⟨g1, g2, g3, g4, g5⟩ := hi h1
    rw [if_pos (by omega)] at hx
    rw [if_neg (by omega), if_pos (by omega)]
    rw [show x / 268435456 % 2 = bit I.v by omega, show x / 536870912 % 2 = bit I.u by omega, show x / 16777216 % 16 = I.a by omega, show x / 1048576 % 16 = I.b by omega, show x % 65536 = I.im by omega, show x / 65536 % 16 = I.op by omega, eu, ev, g5]
    rw [ins_eta I h1 rfl rfl rfl rfl g1 rfl rfl g2 g3 g4]
    rfl
  rw [if_neg (by omega)] at hx
  by_cases h2 : I.form = 2 ∨ I.form = 3
  · obtain ⟨g1, g2, g3, g4, g5, g6, g7, g8⟩ := hl h2
    rw [if_pos (by omega)] at hx
    rw [if_neg (by omega), if_neg (by omega), if_pos (by omega)]
    rw [show x / 268435456 % 2 = bit I.v by omega, show 2 + x / 536870912 % 2 = I.form by omega, show x / 16777216 % 16 = I.a by omega, show x / 1048576 % 16 = I.b by omega, show sg (x % 1048576) 524288 = I.off by unfold sg; split <;> omega, ev]
    rw [ins_eta I rfl g1 rfl rfl rfl g2 g3 g4 rfl g5 g6]
  rw [if_neg (by omega)] at hx
  by_cases h4 : I.form = 4
  · obtain ⟨g1, g2, g3, g4, g5, g6, g7, g8, g9⟩ := hj h4
    rw [if_pos h4] at hx
    rw [if_neg (by omega), if_neg (by omega), if_neg (by omega), if_pos (by omega)]
    rw [show x / 268435456 % 2 = bit I.v by omega, show x / 16777216 % 16 = I.cond by omega, show sg (x % 16777216) 8388608 = I.off by unfold sg; split <;> omega, ev]
    rw [ins_eta I h4 g1 rfl g2 g3 g4 g5 g6 rfl rfl g7]
  rw [if_neg h4] at hx
  by_cases h5 : I.form = 5
  · obtain ⟨g1, g2, g3, g4, g5, g6, g7, g8⟩ := ht h5
    rw [if_pos h5] at hx
    have hn : ¬ (bit I.v = 1 ∧ I.c = 12) := fun ⟨h1, h2⟩ => g8 ⟨by rw [← ev, h1]; rfl, h2⟩
    rw [if_neg (by omega), if_neg (by omega), if_neg (by omega), if_neg (by omega), if_neg (by omega)]
    rw [show x / 268435456 % 2 = bit I.v by omega, show x / 16777216 % 16 = I.cond by omega, show x % 16 = I.c by omega, show x / 16 % 1048576 = 0 by omega, ev]
    rw [ins_eta I h5 g1 rfl g2 g3 rfl g4 g5 g6 rfl g7]
    rfl
  have h6 : I.form = 6 := by omega
  obtain ⟨g1, g2, g3, g4, g5, g6, g7, g8⟩ := hs h6
  rw [if_neg h5] at hx
  rw [if_neg (by omega), if_neg (by omega), if_neg (by omega), if_neg (by omega), if_pos (by omega)]
  rw [show x / 16777216 % 16 = I.cond by omega, show x / 16 % 256 = I.n by omega, show x / 4096 % 4096 = 0 by omega]
  rw [ins_eta I h6 g1 g2 g3 g4 g5 g6 g7 g8 rfl rfl]
  rfl
theorem op_le {form : Int} {u v : Bool} {b c op : Int} (h : mayOpB form u v b c op = true) : op ≤ 11 := by
  unfold mayOpB at h
  split at h
  · omega
  · simp at h; omega
/-- what a word is read as may be, and has that word -/
theorem dec_may (x : Int) (x0 : 0 ≤ x) (x1 : x ≤ 4294967295) (h : (dec x).2 = false) : MayIs (dec x).1 ∧ wdI (dec x).1 = x := by
  have hb : ∀ y : Int, bit (y % 2 == 1) = y % 2 := fun y => by
    have : y % 2 = 0 ∨ y % 2 = 1 := by omega
    rcases this with e | e <;> rw [e] <;> rfl
  have s20 : ∀ y : Int, -524288 ≤ sg (y % 1048576) 524288 ∧ sg (y % 1048576) 524288 ≤ 524287 ∧ sg (y % 1048576) 524288 % 1048576 = y % 1048576 := fun y => by unfold sg; split <;> omega
  have s24 : ∀ y : Int, -8388608 ≤ sg (y % 16777216) 8388608 ∧ sg (y % 16777216) 8388608 ≤ 8388607 ∧ sg (y % 16777216) 8388608 % 16777216 = y % 16777216 := fun y => by unfold sg; split <;> omega
  rw [dec_fields] at h ⊢
  split at h
  · rename_i h0
    rw [if_pos h0]
    simp only [Bool.or_eq_false_iff, bne_eq_false_iff_eq, Bool.not_eq_false'] at h
    obtain ⟨⟨g1, g2⟩, g3⟩ := h
    have g2' : ¬ x / 268435456 % 2 = 1 := by simpa using g2
    have ho := op_le g3
    refine ⟨?_, ?_⟩
    · constructor <;> dsimp only <;> first | omega | exact fun _ => ⟨rfl, rfl, rfl, rfl, rfl, g3⟩ | (intro e; exact absurd e (by omega))
    · simp only [wdI, hb, show bit false = 0 from rfl]
      rw [if_pos (by omega)]
      omega
  · rename_i h0
    rw [if_neg h0]
    split at h
    · rename_i h1
      rw [if_pos h1]
      simp only [Bool.not_eq_false'] at h
      have ho := op_le h
      refine ⟨?_, ?_⟩
      · constructor <;> dsimp only <;> first | omega | exact fun _ => ⟨rfl, rfl, rfl, rfl, h⟩ | (intro e; exact absurd e (by omega))
      · simp only [wdI, hb]
        rw [if_pos (by omega)]
        omega
    · rename_i h1
      rw [if_neg h1]
      split at h
      · rename_i h2
        rw [if_pos h2]
        have := s20 x
        refine ⟨?_, ?_⟩
        · constructor <;> dsimp only <;> first | omega | (intro e; exact absurd e (by omega)) | exact fun _ => ⟨rfl, rfl, rfl, rfl, rfl, rfl, (s20 x).1, (s20 x).2.1⟩
        · simp only [wdI, hb]
          rw [if_neg (by omega), if_pos (by omega)]
          omega
      · rename_i h2
        rw [if_neg h2]
        split at h
        · rename_i h3
          rw [if_pos h3]
          have := s24 x
          refine ⟨?_, ?_⟩
          · constructor <;> dsimp only <;> first | omega | (intro e; exact absurd e (by omega)) | exact fun _ => ⟨rfl, rfl, rfl, rfl, rfl, rfl, rfl, (s24 x).1, (s24 x).2.1⟩
          · simp only [wdI, hb]
            rw [if_neg (by omega), if_neg (by omega), if_pos trivial]
            omega
        · rename_i h3
          rw [if_neg h3]
          split at h
          · rename_i h4
            rw [if_pos h4]
            have g : x / 4096 % 4096 = 0 := by simpa using h
            refine ⟨?_, ?_⟩
            · constructor <;> dsimp only <;> first | omega | (intro e; exact absurd e (by omega)) | exact fun _ => ⟨rfl, rfl, rfl, rfl, rfl, rfl, rfl, rfl⟩
            · simp only [wdI]
              rw [if_neg (by omega), if_neg (by omega), if_neg (by omega), if_neg (by omega)]
              omega
          · rename_i h4
            rw [if_neg h4]
            have g : x / 16 % 1048576 = 0 := by simpa using h
            refine ⟨?_, ?_⟩
            · have g9 : ¬ ((x / 268435456 % 2 == 1) = true ∧ x % 16 = 12) := fun ⟨e1, e2⟩ => h4 ⟨by simpa using e1, e2⟩
              constructor <;> dsimp only <;> first | omega | (intro e; exact absurd e (by omega)) | exact fun _ => ⟨rfl, rfl, rfl, rfl, rfl, rfl, rfl, g9⟩
            · simp only [wdI, hb]
              rw [if_neg (by omega), if_neg (by omega), if_neg (by omega), if_pos trivial]
              omega
end Go.Proofs.YtbhnkfhikjhaoaaDoor

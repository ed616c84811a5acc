/-
  A word that the document makes of an instruction is read as that instruction: plain numbers.
-/
import Derived.Test.YtlgdlaohfkgkfaaGreatRiscE
import Derived.Test.YtlgdlaohfkgkfaaGreatIsaR
namespace Go.Proofs.YtlgdlaohfkgkfaaGreat
open Go.ChangeShapes Go.WideShapes Go.ChangeAt Go.RowKit
set_option linter.unusedVariables false


theorem rr_2_1 (x : Int) : rst (rst x 2) 1 = rst x 3 := by unfold rst; omega
theorem rr_3_1 (x : Int) : rst (rst x 3) 1 = rst x 4 := by unfold rst; omega
theorem rr_4_4 (x : Int) : rst (rst x 4) 4 = rst x 8 := by unfold rst; omega
theorem rr_8_4 (x : Int) : rst (rst x 8) 4 = rst x 12 := by unfold rst; omega
theorem rr_12_4 (x : Int) : rst (rst x 12) 4 = rst x 16 := by unfold rst; omega
theorem rr_16_12 (x : Int) : rst (rst x 16) 12 = rst x 28 := by unfold rst; omega
theorem rr_8_20 (x : Int) : rst (rst x 8) 20 = rst x 28 := by unfold rst; omega
theorem rr_8_12 (x : Int) : rst (rst x 8) 12 = rst x 20 := by unfold rst; omega
theorem tr_2_1 (x : Int) : tk (rst x 2) 1 = x / 536870912 % 2 := by unfold tk rst; omega
theorem tr_3_1 (x : Int) : tk (rst x 3) 1 = x / 268435456 % 2 := by unfold tk rst; omega
theorem tr_4_4 (x : Int) : tk (rst x 4) 4 = x / 16777216 % 16 := by unfold tk rst; omega
theorem tr_8_4 (x : Int) : tk (rst x 8) 4 = x / 1048576 % 16 := by unfold tk rst; omega
theorem tr_12_4 (x : Int) : tk (rst x 12) 4 = x / 65536 % 16 := by unfold tk rst; omega
theorem tr_16_12 (x : Int) : tk (rst x 16) 12 = x / 16 % 4096 := by unfold tk rst; omega
theorem tr_28_4 (x : Int) : tk (rst x 28) 4 = x / 1 % 16 := by unfold tk rst; omega
theorem tr_16_16 (x : Int) : tk (rst x 16) 16 = x / 1 % 65536 := by unfold tk rst; omega
theorem tr_8_20 (x : Int) : tk (rst x 8) 20 = x / 16 % 1048576 := by unfold tk rst; omega
theorem tr_8_12 (x : Int) : tk (rst x 8) 12 = x / 4096 % 4096 := by unfold tk rst; omega
theorem tr_20_8 (x : Int) : tk (rst x 20) 8 = x / 16 % 256 := by unfold tk rst; omega
theorem tr_0 (x : Int) : tk x 2 = x / 1073741824 := by unfold tk; omega
def sg (n s : Int) : Int := if s ≤ n then n - 2 * s else n
theorem off20 (x : Int) : wrap32 (rst x 12) / 4096 = sg (x % 1048576) 524288 := by unfold rst wrap32 sg; split <;> omega
theorem off24 (x : Int) : wrap32 (rst x 8) / 256 = sg (x % 16777216) 8388608 := by unfold rst wrap32 sg; split <;> omega
/-- a word's fields -/
theorem dec_fields (x : Int) : dec x =
    if x / 1073741824 = 0 then (⟨0, x / 536870912 % 2 == 1, false, x / 16777216 % 16, x / 1048576 % 16, x % 16, x / 65536 % 16, 0, 0, 0, 0⟩, (x / 16 % 4096 != 0 || x / 268435456 % 2 == 1 || !mayOpB 0 (x / 536870912 % 2 == 1) false (x / 1048576 % 16) (x % 16) (x / 65536 % 16)))
    else if x / 1073741824 = 1 then (⟨1, x / 536870912 % 2 == 1, x / 268435456 % 2 == 1, x / 16777216 % 16, x / 1048576 % 16, 0, x / 65536 % 16, x % 65536, 0, 0, 0⟩, !mayOpB 1 (x / 536870912 % 2 == 1) (x / 268435456 % 2 == 1) (x / 1048576 % 16) 0 (x / 65536 % 16))
    else if x / 1073741824 = 2 then (⟨2 + x / 536870912 % 2, false, x / 268435456 % 2 == 1, x / 16777216 % 16, x / 1048576 % 16, 0, 0, 0, sg (x % 1048576) 524288, 0, 0⟩, false)
    else if x / 536870912 % 2 = 1 then (⟨4, false, x / 268435456 % 2 == 1, 0, 0, 0, 0, 0, sg (x % 16777216) 8388608, x / 16777216 % 16, 0⟩, false)
    else if x / 268435456 % 2 = 1 ∧ x % 16 = 12 then (⟨6, false, false, 0, 0, 0, 0, 0, 0, x / 16777216 % 16, x / 16 % 256⟩, x / 4096 % 4096 != 0)
    else (⟨5, false, x / 268435456 % 2 == 1, 0, 0, x % 16, 0, 0, 0, x / 16777216 % 16, 0⟩, x / 16 % 1048576 != 0) := by
  have e1 : x / 1 = x := by omega
  simp only [dec, of0, odd0, of1, odd1, of2, of4, of5, odd5, of6, odd6, rr_2_1, rr_3_1, rr_4_4, rr_8_4, rr_12_4, rr_16_12, rr_8_20, rr_8_12, tr_2_1, tr_3_1, tr_4_4, tr_8_4, tr_12_4, tr_16_12, tr_28_4, tr_16_16, tr_8_20, tr_8_12, tr_20_8, tr_0, off20, off24, e1]

theorem wd4_eq (v : Bool) (k off : Int) (k0 : 0 ≤ k) (k1 : k ≤ 15) : wd4 v k off = 3758096384 + bit v * 268435456 + k * 16777216 + off % 16777216 := by
  have := bit_bd v
  unfold wd4 fd w32
  omega
theorem wd5_eq (v : Bool) (k c : Int) (k0 : 0 ≤ k) (k1 : k ≤ 15) (c0 : 0 ≤ c) (c1 : c ≤ 15) : wd5 v k c = 3221225472 + bit v * 268435456 + k * 16777216 + c := by
  have := bit_bd v
  unfold wd5 fd w32
  omega
theorem wd6_eq (k n : Int) (k0 : 0 ≤ k) (k1 : k ≤ 15) (n0 : 0 ≤ n) (n1 : n ≤ 255) : wd6 k n = 3489660928 + k * 16777216 + n * 16 + 12 := by
  unfold wd6 fd w32
  omega
theorem wd23_eq (f : Int) (v : Bool) (a b off : Int) (f0 : 0 ≤ f) (f1 : f ≤ 1) (a0 : 0 ≤ a) (a1 : a ≤ 15) (b0 : 0 ≤ b) (b1 : b ≤ 15) : wd23 f v a b off = 2147483648 + f * 536870912 + bit v * 268435456 + a * 16777216 + b * 1048576 + off % 1048576 := by
  have := bit_bd v
  unfold wd23 fd w32
  omega
theorem wd01_eq (f : Int) (u v : Bool) (a b op k : Int) (f0 : 0 ≤ f) (f1 : f ≤ 1) (a0 : 0 ≤ a) (a1 : a ≤ 15) (b0 : 0 ≤ b) (b1 : b ≤ 15) (o0 : 0 ≤ op) (o1 : op ≤ 15) (k0 : 0 ≤ k) (k1 : k ≤ 65535) :
    wd01 f u v a b op k = f * 1073741824 + bit u * 536870912 + bit v * 268435456 + a * 16777216 + b * 1048576 + op * 65536 + k := by
  have := bit_bd v
  have := bit_bd u
  unfold wd01 fd w32
  omega
theorem bit_eq (v : Bool) : (bit v == 1) = v := by cases v <;> rfl
theorem dec_wd4 (v : Bool) (k off : Int) (k0 : 0 ≤ k) (k1 : k ≤ 15) (h0 : -8388608 ≤ off) (h1 : off ≤ 8388607) : dec (wd4 v k off) = (⟨4, false, v, 0, 0, 0, 0, 0, off, k, 0⟩, false) := by
  have hb := bit_bd v
  have e := wd4_eq v k off k0 k1
  have hv := bit_eq v
  generalize wd4 v k off = x at e
  rw [dec_fields, if_neg (by omega), if_neg (by omega), if_neg (by omega), if_pos (by omega)]
  rw [show x / 268435456 % 2 = bit v by omega, show x / 16777216 % 16 = k by omega, show sg (x % 16777216) 8388608 = off by unfold sg; split <;> omega, hv]
theorem dec_wd5 (v : Bool) (k c : Int) (k0 : 0 ≤ k) (k1 : k ≤ 15) (c0 : 0 ≤ c) (c1 : c ≤ 15) (h : ¬ (v = true ∧ c = 12)) : dec (wd5 v k c) = (⟨5, false, v, 0, 0, c, 0, 0, 0, k, 0⟩, false) := by
  have hb := bit_bd v
  have e := wd5_eq v k c k0 k1 c0 c1
  have hv := bit_eq v
  have hn : ¬ (bit v = 1 ∧ c = 12) := fun ⟨h1, h2⟩ => h ⟨by rw [← hv, h1]; rfl, h2⟩
  generalize wd5 v k c = x at e
  rw [dec_fields, if_neg (by omega), if_neg (by omega), if_neg (by omega), if_neg (by omega), if_neg (by omega)]
  rw [show x / 268435456 % 2 = bit v by omega, show x / 16777216 % 16 = k by omega, show x % 16 = c by omega, show x / 16 % 1048576 = 0 by omega, hv]
  rfl
theorem dec_wd6 (k n : Int) (k0 : 0 ≤ k) (k1 : k ≤ 15) (n0 : 0 ≤ n) (n1 : n ≤ 255) : dec (wd6 k n) = (⟨6, false, false, 0, 0, 0, 0, 0, 0, k, n⟩, false) := by
  have e := wd6_eq k n k0 k1 n0 n1
  generalize wd6 k n = x at e
  rw [dec_fields, if_neg (by omega), if_neg (by omega), if_neg (by omega), if_neg (by omega), if_pos (by omega)]
  rw [show x / 16777216 % 16 = k by omega, show x / 16 % 256 = n by omega, show x / 4096 % 4096 = 0 by omega]
  rfl
theorem dec_wd23 (f : Int) (v : Bool) (a b off : Int) (f0 : 0 ≤ f) (f1 : f ≤ 1) (a0 : 0 ≤ a) (a1 : a ≤ 15) (b0 : 0 ≤ b) (b1 : b ≤ 15) (h0 : -524288 ≤ off) (h1 : off ≤ 524287) : dec (wd23 f v a b off) = (⟨2 + f, false, v, a, b, 0, 0, 0, off, 0, 0⟩, false) := by
  have hb := bit_bd v
  have e := wd23_eq f v a b off f0 f1 a0 a1 b0 b1
  have hv := bit_eq v
  generalize wd23 f v a b off = x at e
  rw [dec_fields, if_neg (by omega), if_neg (by omega), if_pos (by omega)]
  rw [show x / 268435456 % 2 = bit v by omega, show x / 536870912 % 2 = f by omega, show x / 16777216 % 16 = a by omega, show x / 1048576 % 16 = b by omega, show sg (x % 1048576) 524288 = off by unfold sg; split <;> omega, hv]
theorem dec_wd0 (u : Bool) (a b op c : Int) (a0 : 0 ≤ a) (a1 : a ≤ 15) (b0 : 0 ≤ b) (b1 : b ≤ 15) (o0 : 0 ≤ op) (o1 : op ≤ 15) (c0 : 0 ≤ c) (c1 : c ≤ 15) (h : mayOpB 0 u false b c op = true) : dec (wd01 0 u false a b op c) = (⟨0, u, false, a, b, c, op, 0, 0, 0, 0⟩, false) := by
  have hb := bit_bd u
  have e := wd01_eq 0 u false a b op c (by omega) (by omega) a0 a1 b0 b1 o0 o1 c0 (by omega)
  have hv := bit_eq u
  rw [show bit false = 0 from rfl] at e
  generalize wd01 0 u false a b op c = x at e
  rw [dec_fields, if_pos (by omega)]
  rw [show x / 268435456 % 2 = 0 by omega, show x / 536870912 % 2 = bit u by omega, show x / 16777216 % 16 = a by omega, show x / 1048576 % 16 = b by omega, show x % 16 = c by omega, show x / 65536 % 16 = op by omega, show x / 16 % 4096 = 0 by omega, hv, h]
  rfl
theorem dec_wd1 (u v : Bool) (a b op im : Int) (a0 : 0 ≤ a) (a1 : a ≤ 15) (b0 : 0 ≤ b) (b1 : b ≤ 15) (o0 : 0 ≤ op) (o1 : op ≤ 15) (m0 : 0 ≤ im) (m1 : im ≤ 65535) (h : mayOpB 1 u v b 0 op = true) : dec (wd01 1 u v a b op im) = (⟨1, u, v, a, b, 0, op, im, 0, 0, 0⟩, false) := by
  have hb := bit_bd u
  have hb2 := bit_bd v
  have e := wd01_eq 1 u v a b op im (by omega) (by omega) a0 a1 b0 b1 o0 o1 m0 m1
  have hv := bit_eq u
  have hv2 := bit_eq v
  generalize wd01 1 u v a b op im = x at e
  rw [dec_fields, if_neg (by omega), if_pos (by omega)]
  rw [show x / 268435456 % 2 = bit v by omega, show x / 536870912 % 2 = bit u by omega, show x / 16777216 % 16 = a by omega, show x / 1048576 % 16 = b by omega, show x % 65536 = im by omega, show x / 65536 % 16 = op by omega, hv, hv2, h]
  rfl
theorem wd_bd (x : Int) : 0 ≤ w32 x ∧ w32 x ≤ 4294967295 := w32_bd x

end Go.Proofs.YtlgdlaohfkgkfaaGreat

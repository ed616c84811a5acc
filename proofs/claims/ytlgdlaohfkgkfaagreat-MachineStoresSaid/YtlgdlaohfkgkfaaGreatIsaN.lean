/-
  Instructions: plain numbers. Nothing of the program.
-/
import Derived.Test.YtlgdlaohfkgkfaaGreatWordN
namespace Go.Proofs.YtlgdlaohfkgkfaaGreat
open Go.ChangeShapes Go.WideShapes Go.ChangeAt Go.RowKit
set_option linter.unusedVariables false

/-- the topmost bits of r; what is left of r behind them, to the left (closed to simp) -/
def tk (r : Int) (b : Nat) : Int := r / 2 ^ (32 - b)
def rst (r : Int) (b : Nat) : Int := r * 2 ^ b % 4294967296
theorem rst_bd (r : Int) (b : Nat) : 0 ≤ rst r b ∧ rst r b ≤ 4294967295 := by unfold rst; omega
theorem tk_bd (r : Int) (b : Nat) (hb : b ≤ 32) (h0 : 0 ≤ r) (h1 : r ≤ 4294967295) : 0 ≤ tk r b ∧ tk r b < 2 ^ b := by
  unfold tk
  have hp : (0 : Int) < 2 ^ (32 - b) := Int.pow_pos (by omega)
  refine ⟨Int.ediv_nonneg h0 (by omega), Int.ediv_lt_of_lt_mul hp ?_⟩
  rw [← Int.pow_add, show b + (32 - b) = 32 by omega]
  show r < 4294967296
  omega

theorem and15 (b : Int) (h0 : 0 ≤ b) (h1 : b ≤ 4294967295) : bits BinOp.and IntKind.u32 b 15 = b % 16 := by
  obtain ⟨n, rfl⟩ := Int.eq_ofNat_of_zero_le h0
  rw [show (15 : Int) = ((15 : Nat) : Int) from rfl, u32_and_nat n 15 (by omega) (by omega)]
  rw [show (15 : Nat) = 2 ^ 4 - 1 from rfl, Nat.and_two_pow_sub_one_eq_mod]
  omega
theorem and255 (b : Int) (h0 : 0 ≤ b) (h1 : b ≤ 4294967295) : bits BinOp.and IntKind.u32 b 255 = b % 256 := by
  obtain ⟨n, rfl⟩ := Int.eq_ofNat_of_zero_le h0
  rw [show (255 : Int) = ((255 : Nat) : Int) from rfl, u32_and_nat n 255 (by omega) (by omega)]
  rw [show (255 : Nat) = 2 ^ 8 - 1 from rfl, Nat.and_two_pow_sub_one_eq_mod]
  omega
/-- an instruction -/
structure Ins where
  form : Int
  u : Bool
  v : Bool
  a : Int
  b : Int
  c : Int
  op : Int
  im : Int
  off : Int
  cond : Int
  n : Int
def insV (i : Ins) : Value := .agg #[.int .i64 i.form, .bool i.u, .bool i.v, .int .i64 i.a, .int .i64 i.b, .int .i64 i.c, .int .i64 i.op, .int .i64 i.im, .int .i64 i.off, .int .i64 i.cond, .int .i64 i.n]
def ins0 : Ins := ⟨0, false, false, 0, 0, 0, 0, 0, 0, 0, 0⟩

/-- may it be, with what the forms 0 and 1 share? -/
def mayOpB (form : Int) (u v : Bool) (b c op : Int) : Bool :=
  if op = 0 then !(u && ((decide (form = 1) && v) || (decide (form = 0) && decide (1 < c)))) && decide (b = 0)
  else decide (op = 8 ∨ op = 9 ∨ op = 10) || (!u && decide (0 < op) && decide (op ≤ 11))

/-- what a word is read as, cut from the left as the code cuts it; and whether it is odd -/
def of0 (x : Int) : Ins := ⟨0, tk (rst x 2) 1 == 1, false, tk (rst (rst (rst x 2) 1) 1) 4, tk (rst (rst (rst (rst x 2) 1) 1) 4) 4, tk (rst (rst (rst (rst (rst (rst (rst x 2) 1) 1) 4) 4) 4) 12) 4, tk (rst (rst (rst (rst (rst x 2) 1) 1) 4) 4) 4, 0, 0, 0, 0⟩
def odd0 (x : Int) : Bool := tk (rst (rst (rst (rst (rst (rst x 2) 1) 1) 4) 4) 4) 12 != 0 || tk (rst (rst x 2) 1) 1 == 1 || !mayOpB 0 (of0 x).u false (of0 x).b (of0 x).c (of0 x).op
def of1 (x : Int) : Ins := ⟨1, tk (rst x 2) 1 == 1, tk (rst (rst x 2) 1) 1 == 1, tk (rst (rst (rst x 2) 1) 1) 4, tk (rst (rst (rst (rst x 2) 1) 1) 4) 4, 0, tk (rst (rst (rst (rst (rst x 2) 1) 1) 4) 4) 4, tk (rst (rst (rst (rst (rst (rst x 2) 1) 1) 4) 4) 4) 16, 0, 0, 0⟩
def odd1 (x : Int) : Bool := !mayOpB 1 (of1 x).u (of1 x).v (of1 x).b 0 (of1 x).op
def of2 (x : Int) : Ins := ⟨2 + tk (rst x 2) 1, false, tk (rst (rst x 2) 1) 1 == 1, tk (rst (rst (rst x 2) 1) 1) 4, tk (rst (rst (rst (rst x 2) 1) 1) 4) 4, 0, 0, 0, wrap32 (rst (rst (rst (rst (rst x 2) 1) 1) 4) 4) / 4096, 0, 0⟩
def of4 (x : Int) : Ins := ⟨4, false, tk (rst (rst x 2) 1) 1 == 1, 0, 0, 0, 0, 0, wrap32 (rst (rst (rst (rst x 2) 1) 1) 4) / 256, tk (rst (rst (rst x 2) 1) 1) 4, 0⟩
def of5 (x : Int) : Ins := ⟨5, false, tk (rst (rst x 2) 1) 1 == 1, 0, 0, tk (rst (rst (rst (rst (rst x 2) 1) 1) 4) 20) 4, 0, 0, 0, tk (rst (rst (rst x 2) 1) 1) 4, 0⟩
def odd5 (x : Int) : Bool := tk (rst (rst (rst (rst x 2) 1) 1) 4) 20 != 0
def of6 (x : Int) : Ins := ⟨6, false, false, 0, 0, 0, 0, 0, 0, tk (rst (rst (rst x 2) 1) 1) 4, tk (rst (rst (rst (rst (rst x 2) 1) 1) 4) 12) 8⟩
def odd6 (x : Int) : Bool := tk (rst (rst (rst (rst x 2) 1) 1) 4) 12 != 0
end Go.Proofs.YtlgdlaohfkgkfaaGreat

/-
  The contract of Value of package isa.
-/
import Derived.Test.YtlgdlaohfkgkfaaGreatIsaA
namespace Go.Proofs.YtlgdlaohfkgkfaaGreat
open Go.ChangeShapes Go.WideShapes Go.ChangeAt Go.RowKit
set_option linter.unusedVariables false

theorem and65535 (b : Int) (h0 : 0 ≤ b) (h1 : b ≤ 65535) : bits BinOp.and IntKind.u32 b 65535 = b := by
  obtain ⟨n, rfl⟩ := Int.eq_ofNat_of_zero_le h0
  rw [show (65535 : Int) = ((65535 : Nat) : Int) from rfl, u32_and_nat n 65535 (by omega) (by omega)]
  rw [show (65535 : Nat) = 2 ^ 16 - 1 from rfl, Nat.and_two_pow_sub_one_eq_mod]
  omega
theorem orHigh (b : Int) (h0 : 0 ≤ b) (h1 : b ≤ 65535) : bits BinOp.or IntKind.u32 b 4294901760 = b + 4294901760 := by
  obtain ⟨n, rfl⟩ := Int.eq_ofNat_of_zero_le h0
  rw [show (4294901760 : Int) = ((4294901760 : Nat) : Int) from rfl, u32_or_nat n 4294901760 (by omega) (by omega)]
  have h2 : n < 2 ^ 16 := by omega
  have := Nat.shiftLeft_add_eq_or_of_lt h2 65535
  have e : (65535 : Nat) <<< 16 = 4294901760 := by decide
  rw [e] at this
  rw [Nat.or_comm, ← this]
  omega
/-- what Im extends to -/
def valI (u v : Bool) (op im : Int) : Int := if u = true ∧ op = 0 then im * 65536 else if v then im + 4294901760 else im
theorem valI_bd (u v : Bool) (op im : Int) (h0 : 0 ≤ im) (h1 : im ≤ 65535) : 0 ≤ valI u v op im ∧ valI u v op im ≤ 4294967295 := by unfold valI; split <;> (try split) <;> omega
set_option maxHeartbeats 4000000 in
theorem value_any (u v : Bool) (a b c op im off cond n : Int) (h0 : 0 ≤ im) (h1 : im ≤ 65535) (w : World) :
    Calls Tryz.prog 93 #[.agg #[.int .i64 1, .bool u, .bool v, .int .i64 a, .int .i64 b, .int .i64 c, .int .i64 op, .int .i64 im, .int .i64 off, .int .i64 cond, .int .i64 n]] w fun e w' => e = .returned (.int .u32 (valI u v op im)) ∧ w.alloc (.cells #[.int .i64 1, .bool u, .bool v, .int .i64 a, .int .i64 b, .int .i64 c, .int .i64 op, .int .i64 im, .int .i64 off, .int .i64 cond, .int .i64 n] 64) = w' := by
  have hA := and65535 im h0 h1
  have hO := orHigh im h0 h1
  by_cases ho : op = 0 <;> cases u <;> cases v
  all_goals first
    | subst ho
    | have ho' : (op == 0) = false := by simp [ho]
  all_goals
    go_enter Tryz.func93, Tryz.ntmps93
    go_wp2
    go_ret
    refine ⟨ret_int ?_, rfl⟩
    unfold valI
    first
      | (rw [if_pos ⟨rfl, rfl⟩]; done)
      | (rw [if_neg (fun h => absurd h.1 (by decide))]; done)
      | (rw [if_neg (fun h => absurd h.1 (by decide))]; rfl)
      | (rw [if_neg (fun h => absurd h.2 (by assumption))]; done)
      | (rw [if_neg (fun h => absurd h.2 (by assumption))]; rfl)
theorem value_f (f : Int) (hf : f = 1) (u v : Bool) (a b c op im off cond n : Int) (h0 : 0 ≤ im) (h1 : im ≤ 65535) (w : World) :
    Calls Tryz.prog 93 #[.agg #[.int .i64 f, .bool u, .bool v, .int .i64 a, .int .i64 b, .int .i64 c, .int .i64 op, .int .i64 im, .int .i64 off, .int .i64 cond, .int .i64 n]] w fun e w' => e = .returned (.int .u32 (valI u v op im)) ∧ Below w.heap.size w w' := by
  subst hf
  exact (value_any u v a b c op im off cond n h0 h1 w).mono fun e w' h => ⟨h.1, by rw [← h.2]; exact below1 _ _⟩
end Go.Proofs.YtlgdlaohfkgkfaaGreat

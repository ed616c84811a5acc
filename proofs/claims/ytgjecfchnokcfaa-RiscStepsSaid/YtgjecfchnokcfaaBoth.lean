/-
  Bit by bit: the document's 'both' (layer 4's reference) is the machine's own operation.
-/
import Derived.Test.YtgjecfchnokcfaaWordN
import Derived.Deep.Cut
namespace Go.Proofs.Ytgjecfchnokcfaa
open Go.ChangeShapes Go.WideShapes Go.ChangeAt Go.RowKit
set_option linter.unusedVariables false
set_option linter.unusedSimpArgs false
/-- one bit of two -/
def bitF (how : Nat) (p q : Bool) : Bool := if how = 0 then p && q else if how = 1 then p && !q else if how = 2 then p || q else p != q
/-- what has come together behind k rounds -/
def grown (how A B : Nat) : Nat → Nat
  | 0 => 0
  | k + 1 => grown how A B k + (if bitF how (decide (A / 2 ^ k % 2 = 1)) (decide (B / 2 ^ k % 2 = 1)) then 2 ^ k else 0)
theorem grown_lt (how A B : Nat) : ∀ k, grown how A B k < 2 ^ k
  | 0 => by simp [grown]
  | k + 1 => by
    have := grown_lt how A B k
    rw [grown, Nat.pow_succ]
    split <;> omega
structure Rnd (how A B k : Nat) (P Q W T : Int) : Prop where
  p : P = ((A / 2 ^ k : Nat) : Int)
  q : Q = ((B / 2 ^ k : Nat) : Int)
  w : W = (grown how A B k : Nat)
  t : T = ((2 ^ k % 4294967296 : Nat) : Int)
theorem Rnd.next {how A B k : Nat} {P Q W T : Int} (h : Rnd how A B k P Q W T) (hk : k < 32) (x y : Bool) (hx : x = decide (P % 2 = 1)) (hy : y = decide (Q % 2 = 1)) :
    Rnd how A B (k + 1) (P / 2) (Q / 2) (if bitF how x y then W + T else W) (T * 2 % 4294967296) := by
  have hp : 2 ^ k < 4294967296 := Nat.pow_lt_pow_right (n := 32) (by omega) hk
  have ht : T = ((2 ^ k : Nat) : Int) := by rw [h.t, Nat.mod_eq_of_lt hp]
  refine ⟨?_, ?_, ?_, ?_⟩
  · rw [h.p, Nat.pow_succ, ← Nat.div_div_eq_div_mul]; omega
  · rw [h.q, Nat.pow_succ, ← Nat.div_div_eq_div_mul]; omega
  · rw [grown]
    have e1 : decide (P % 2 = 1) = decide (A / 2 ^ k % 2 = 1) := by rw [h.p]; congr 1; apply propext; omega
    have e2 : decide (Q % 2 = 1) = decide (B / 2 ^ k % 2 = 1) := by rw [h.q]; congr 1; apply propext; omega
    rw [hx, hy, e1, e2, h.w, ht]
    split
    · omega
    · omega
  · rw [ht, Nat.pow_succ]
    omega
theorem Rnd.bd {how A B k : Nat} {P Q W T : Int} (h : Rnd how A B k P Q W T) (hA : A < 4294967296) (hB : B < 4294967296) (hk : k < 32) : 0 ≤ P ∧ P ≤ 4294967295 ∧ 0 ≤ Q ∧ Q ≤ 4294967295 ∧ 0 ≤ W ∧ 0 ≤ T ∧ W + T ≤ 4294967295 := by
  have hp : 2 ^ (k + 1) ≤ 4294967296 := Nat.pow_le_pow_right (n := 2) (by omega) (show k + 1 ≤ 32 by omega)
  have hp2 : 2 ^ k < 4294967296 := Nat.pow_lt_pow_right (n := 32) (by omega) hk
  have g := grown_lt how A B k
  have d1 : A / 2 ^ k ≤ A := Nat.div_le_self _ _
  have d2 : B / 2 ^ k ≤ B := Nat.div_le_self _ _
  have ht : T = ((2 ^ k : Nat) : Int) := by rw [h.t, Nat.mod_eq_of_lt hp2]
  rw [Nat.pow_succ] at hp
  rw [h.p, h.q, h.w, ht]
  generalize A / 2 ^ k = X at *
  generalize B / 2 ^ k = Y at *
  generalize grown how A B k = G at *
  generalize 2 ^ k = Z at *
  clear h ht
  omega
theorem grown_op (how A B : Nat) (f : Nat → Nat → Nat) (hf : ∀ k, (f A B).testBit k = bitF how (A.testBit k) (B.testBit k)) : ∀ k, grown how A B k = f A B % 2 ^ k
  | 0 => by simp [grown, Nat.mod_one]
  | k + 1 => by
    have e := hf k
    rw [Nat.testBit_eq_decide_div_mod_eq, Nat.testBit_eq_decide_div_mod_eq, Nat.testBit_eq_decide_div_mod_eq] at e
    rw [grown, grown_op how A B f hf k, Nat.pow_succ, Nat.mod_mul, ← e]
    have m : f A B / 2 ^ k % 2 < 2 := Nat.mod_lt _ (by omega)
    generalize f A B / 2 ^ k % 2 = b at *
    have hb : b = 0 ∨ b = 1 := by omega
    rcases hb with rfl | rfl <;> simp
set_option maxHeartbeats 4000000 in
theorem both_grown (how A B : Nat) (hh : how < 4) (hA : A < 4294967296) (hB : B < 4294967296) (w : World) : Calls Try.prog 58 #[.int .u32 (A : Int), .int .u32 (B : Int), .int .i64 (how : Int)] w fun e w' => e = .returned (.int .u32 (grown how A B 32 : Nat)) ∧ w = w' := by
  have hcase : how = 0 ∨ how = 1 ∨ how = 2 ∨ how = 3 := by omega
  rcases hcase with rfl | rfl | rfl | rfl
  · go_enter Try.func58, Try.ntmps58
    go_wp2
    go_loop [0, 1, 7, 8, 9, 10, 11] (fun a b v t i x y => ∃ (k : Nat) (P Q W T : Int), k ≤ 32 ∧ i = .int .i64 k ∧ a = .int .u32 P ∧ b = .int .u32 Q ∧ v = .int .u32 W ∧ t = .int .u32 T ∧ Hid (Rnd 0 A B k P Q W T)) (fun _ _ _ _ i _ _ => 32 - (intOf i).toNat)
    case atStart => exact ⟨0, A, B, 0, 1, by omega, rfl, rfl, rfl, rfl, rfl, Lib.hid ⟨by simp, by simp, rfl, rfl⟩⟩
    case round =>
      obtain ⟨k, P, Q, W, T, hk, rfl, rfl, rfl, rfl, rfl, hR⟩ := hrel
      by_cases hlt : k < 32
      · obtain ⟨p0, p1, q0, q1, v0, t0, vt⟩ := hR.out.bd hA hB hlt
        have hp : P % 2 = 0 ∨ P % 2 = 1 := by omega
        have hq : Q % 2 = 0 ∨ Q % 2 = 1 := by omega
        rcases hp with hp | hp <;> rcases hq with hq | hq
        all_goals
          have HN := Lib.hid (hR.out.next hlt _ _ rfl rfl)
          rw [hp, hq] at HN
          go_wp2
          go_round
          case rel => exact ⟨k + 1, _, _, _, _, by omega, rfl, rfl, rfl, rfl, rfl, HN⟩
          case measure => simp [intOf]; omega
      · have : k = 32 := by omega
        subst this
        go_wp2
        go_ret
        exact ⟨ret_int hR.out.w, rfl⟩
  · go_enter Try.func58, Try.ntmps58
    go_wp2
    go_loop [0, 1, 7, 8, 9, 10, 11] (fun a b v t i x y => ∃ (k : Nat) (P Q W T : Int), k ≤ 32 ∧ i = .int .i64 k ∧ a = .int .u32 P ∧ b = .int .u32 Q ∧ v = .int .u32 W ∧ t = .int .u32 T ∧ Hid (Rnd 1 A B k P Q W T)) (fun _ _ _ _ i _ _ => 32 - (intOf i).toNat)
    case atStart => exact ⟨0, A, B, 0, 1, by omega, rfl, rfl, rfl, rfl, rfl, Lib.hid ⟨by simp, by simp, rfl, rfl⟩⟩
    case round =>
      obtain ⟨k, P, Q, W, T, hk, rfl, rfl, rfl, rfl, rfl, hR⟩ := hrel
      by_cases hlt : k < 32
      · obtain ⟨p0, p1, q0, q1, v0, t0, vt⟩ := hR.out.bd hA hB hlt
        have hp : P % 2 = 0 ∨ P % 2 = 1 := by omega
        have hq : Q % 2 = 0 ∨ Q % 2 = 1 := by omega
        rcases hp with hp | hp <;> rcases hq with hq | hq
        all_goals
          have HN := Lib.hid (hR.out.next hlt _ _ rfl rfl)
          rw [hp, hq] at HN
          go_wp2
          go_round
          case rel => exact ⟨k + 1, _, _, _, _, by omega, rfl, rfl, rfl, rfl, rfl, HN⟩
          case measure => simp [intOf]; omega
      · have : k = 32 := by omega
        subst this
        go_wp2
        go_ret
        exact ⟨ret_int hR.out.w, rfl⟩
  · go_enter Try.func58, Try.ntmps58
    go_wp2
    go_loop [0, 1, 7, 8, 9, 10, 11] (fun a b v t i x y => ∃ (k : Nat) (P Q W T : Int), k ≤ 32 ∧ i = .int .i64 k ∧ a = .int .u32 P ∧ b = .int .u32 Q ∧ v = .int .u32 W ∧ t = .int .u32 T ∧ Hid (Rnd 2 A B k P Q W T)) (fun _ _ _ _ i _ _ => 32 - (intOf i).toNat)
    case atStart => exact ⟨0, A, B, 0, 1, by omega, rfl, rfl, rfl, rfl, rfl, Lib.hid ⟨by simp, by simp, rfl, rfl⟩⟩
    case round =>
      obtain ⟨k, P, Q, W, T, hk, rfl, rfl, rfl, rfl, rfl, hR⟩ := hrel
      by_cases hlt : k < 32
      · obtain ⟨p0, p1, q0, q1, v0, t0, vt⟩ := hR.out.bd hA hB hlt
        have hp : P % 2 = 0 ∨ P % 2 = 1 := by omega
        have hq : Q % 2 = 0 ∨ Q % 2 = 1 := by omega
        rcases hp with hp | hp <;> rcases hq with hq | hq
        all_goals
          have HN := Lib.hid (hR.out.next hlt _ _ rfl rfl)
          rw [hp, hq] at HN
          go_wp2
          go_round
          case rel => exact ⟨k + 1, _, _, _, _, by omega, rfl, rfl, rfl, rfl, rfl, HN⟩
          case measure => simp [intOf]; omega
      · have : k = 32 := by omega
        subst this
        go_wp2
        go_ret
        exact ⟨ret_int hR.out.w, rfl⟩
  · go_enter Try.func58, Try.ntmps58
    go_wp2
    go_loop [0, 1, 7, 8, 9, 10, 11] (fun a b v t i x y => ∃ (k : Nat) (P Q W T : Int), k ≤ 32 ∧ i = .int .i64 k ∧ a = .int .u32 P ∧ b = .int .u32 Q ∧ v = .int .u32 W ∧ t = .int .u32 T ∧ Hid (Rnd 3 A B k P Q W T)) (fun _ _ _ _ i _ _ => 32 - (intOf i).toNat)
    case atStart => exact ⟨0, A, B, 0, 1, by omega, rfl, rfl, rfl, rfl, rfl, Lib.hid ⟨by simp, by simp, rfl, rfl⟩⟩
    case round =>
      obtain ⟨k, P, Q, W, T, hk, rfl, rfl, rfl, rfl, rfl, hR⟩ := hrel
      by_cases hlt : k < 32
      · obtain ⟨p0, p1, q0, q1, v0, t0, vt⟩ := hR.out.bd hA hB hlt
        have hp : P % 2 = 0 ∨ P % 2 = 1 := by omega
        have hq : Q % 2 = 0 ∨ Q % 2 = 1 := by omega
        rcases hp with hp | hp <;> rcases hq with hq | hq
        all_goals
          have HN := Lib.hid (hR.out.next hlt _ _ rfl rfl)
          rw [hp, hq] at HN
          go_wp2
          go_round
          case rel => exact ⟨k + 1, _, _, _, _, by omega, rfl, rfl, rfl, rfl, rfl, HN⟩
          case measure => simp [intOf]; omega
      · have : k = 32 := by omega
        subst this
        go_wp2
        go_ret
        exact ⟨ret_int hR.out.w, rfl⟩
end Go.Proofs.Ytgjecfchnokcfaa

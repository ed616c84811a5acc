/-
  A machine in memory: its words are looked at, and set.
-/
import Derived.Test.YtlgdlaohfkgkfaaGreatMacA
import Derived.Deep.QuietTactic
import Derived.BigQuiet
namespace Go.Proofs.YtlgdlaohfkgkfaaGreat
open Go.ChangeShapes Go.WideShapes Go.ChangeAt Go.RowKit
set_option linter.unusedVariables false
set_option linter.unusedSimpArgs false
theorem mor_upN (a b k s : Nat) (ha : a < 2 ^ k) (hs : s = 2 ^ k) (hb : b * s < 4294967296) (hk : a < 4294967296) : bits BinOp.or IntKind.u32 (a : Int) ((b : Int) * (s : Int)) = (a : Int) + (b : Int) * (s : Int) := by
  rw [show (b : Int) * (s : Int) = ((b * s : Nat) : Int) by simp, u32_or_nat _ _ hk hb, Nat.or_comm, hs, Nat.mul_comm, ← Nat.two_pow_add_eq_or_of_lt ha]
  simp; omega
theorem mor_upI (a b : Int) (k : Nat) (s : Int) (a0 : 0 ≤ a) (ha : a < 2 ^ k) (hs : s = 2 ^ k) (b0 : 0 ≤ b) (hb : b * s < 4294967296) (hk : a < 4294967296) : bits BinOp.or IntKind.u32 a (b * s) = a + b * s := by
  obtain ⟨n, rfl⟩ := Int.eq_ofNat_of_zero_le a0
  obtain ⟨m, rfl⟩ := Int.eq_ofNat_of_zero_le b0
  have e : s = ((2 ^ k : Nat) : Int) := by rw [hs, pow_toNat]
  rw [e] at hb ⊢
  exact mor_upN n m k (2 ^ k) (by rw [pow_toNat] at ha; omega) rfl (by rw [← Int.natCast_mul] at hb; omega) (by omega)
theorem or4 (a b c d : Int) (ha : 0 ≤ a ∧ a < 256) (hb : 0 ≤ b ∧ b < 256) (hc : 0 ≤ c ∧ c < 256) (hd : 0 ≤ d ∧ d < 256) :
    bits BinOp.or IntKind.u32 (bits BinOp.or IntKind.u32 (bits BinOp.or IntKind.u32 a (b * 256)) (c * 65536)) (d * 16777216) = a + 256 * b + 65536 * c + 16777216 * d := by
  rw [mor_upI a b 8 256 ha.1 (by omega) (by decide) hb.1 (by omega) (by omega), mor_upI _ c 16 65536 (by omega) (by omega) (by decide) hc.1 (by omega) (by omega), mor_upI _ d 24 16777216 (by omega) (by omega) (by decide) hd.1 (by omega) (by omega)]
  omega
section
variable {w : World} {B : Nat} {p : Mp} {m : Mc}
theorem cell_any (h : MAt w B p m) (q : Nat) (hq : q + 4 ≤ m.n) : Calls Tryz.prog 56 #[.pointer (some ⟨p.b, 0, none⟩), .int .u32 (q : Int)] w fun e w' => e = .returned (.slice (some ⟨p.g, q, none⟩) 4 4) ∧ w' = w := by
  have c22 := h.mem
  have h1 := h.n1
  go_enter Tryz.func56, Tryz.ntmps56
  go_wp2
  go_ret
  have e : q + 4 - q = 4 := by omega
  show Ending.returned (Value.slice (some ⟨p.g, q, none⟩) (q + 4 - q) (q + 4 - q)) = _ ∧ _
  rw [e]
  exact ⟨rfl, rfl⟩
theorem get_any (h : MAt w B p m) (q : Nat) (hq : q + 4 ≤ m.n) : Calls Tryz.prog 28 #[.pointer (some ⟨p.b, 0, none⟩), .int .u32 (q : Int)] w fun e w' => e = .returned (.int .u32 (wdF m.f q)) ∧ Below w.heap.size w w' := by
  have HC := Lib.hid (cell_any h q hq)
  have d0 := h.fm q (by omega)
  have d1 := h.fm (q + 1) (by omega)
  have d2 := h.fm (q + 2) (by omega)
  have d3 := h.fm (q + 3) (by omega)
  have b0 := h.bd q
  have b1 := h.bd (q + 1)
  have b2 := h.bd (q + 2)
  have b3 := h.bd (q + 3)
  have H4 := Lib.hid (or4 _ _ _ _ b0 b1 b2 b3)
  unfold wdF
  generalize m.f q = a at *
  generalize m.f (q + 1) = b at *
  generalize m.f (q + 2) = c at *
  generalize m.f (q + 3) = d at *
  go_enter Tryz.func28, Tryz.ntmps28
  go_wp2_with (go_at_call 56; (with_reducible refine HC.out.mono ?_); rintro e w' ⟨rfl, rfl⟩)
  go_quiet (fail)
  go_wp2_with fail
  go_ret
  show Ending.returned (Value.int .u32 (bits BinOp.or IntKind.u32 (bits BinOp.or IntKind.u32 (bits BinOp.or IntKind.u32 a (b * 256)) (c * 65536)) (d * 16777216))) = _ ∧ _
  rw [H4.out]
  exact ⟨rfl, ⟨rfl, rfl, rfl, Nat.le_refl _, fun _ _ => rfl⟩⟩
/-- four bytes are set -/
def set4 (f : Nat → Int) (q : Nat) (x : Int) : Nat → Int := upd (upd (upd (upd f q (x % 256)) (q + 1) (x / 256 % 256)) (q + 2) (x / 65536 % 256)) (q + 3) (x / 16777216)
theorem set_any (h : MAt w B p m) (q : Nat) (hq : q + 4 ≤ m.n) (x : Int) (hx : 0 ≤ x ∧ x < 4294967296) : Calls Tryz.prog 29 #[.pointer (some ⟨p.b, 0, none⟩), .int .u32 (q : Int), .int .u32 x] w fun e w' => e = .returned (.tuple #[]) ∧ MAt w' B p { m with f := set4 m.f q x } ∧ Chg p w w' := by
  have HC := Lib.hid (cell_any h q hq)
  have d0 := h.fm q (by omega)
  have d1 := h.fm (q + 1) (by omega)
  have d2 := h.fm (q + 2) (by omega)
  have d3 := h.fm (q + 3) (by omega)
  have z0 := h.ft q (by omega)
  have z1 := h.ft (q + 1) (by omega)
  have z2 := h.ft (q + 2) (by omega)
  have z3 := h.ft (q + 3) (by omega)
  have x0 := hx.1
  have x1 := hx.2
  have HF := Lib.hid ((((h.setByte q (by omega) (x % 256) (by omega)).setByte (q + 1) (by show q + 1 < m.n; omega) (x / 256 % 256) (by omega)).setByte (q + 2) (by show q + 2 < m.n; omega) (x / 65536 % 256) (by omega)).setByte (q + 3) (by show q + 3 < m.n; omega) (x / 16777216) (by omega))
  have HG := Lib.hid (((((Chg.refl p w).setCell (o := q) (.int .u8 (x % 256)) (.inr rfl)).setCell (o := q + 1) (.int .u8 (x / 256 % 256)) (.inr rfl)).setCell (o := q + 2) (.int .u8 (x / 65536 % 256)) (.inr rfl)).setCell (o := q + 3) (.int .u8 (x / 16777216)) (.inr rfl))
  go_enter Tryz.func29, Tryz.ntmps29
  go_wp2_with (go_at_call 56; (with_reducible refine HC.out.mono ?_); rintro e w' ⟨rfl, rfl⟩)
  go_end0
  exact ⟨rfl, HF.out, HG.out⟩
theorem word_any (h : MAt w B p m) (q : Nat) (hq : q < m.n) (h4 : q % 4 = 0) (hn4 : m.n % 4 = 0) : Calls Tryz.prog 11 #[.pointer (some ⟨p.b, 0, none⟩), .int .u32 (q : Int)] w fun e w' => e = .returned (.tuple #[.int .u32 (wdF m.f q), .int .i64 0]) ∧ Below w.heap.size w w' := by
  have h1 := h.n1
  have HL := look_any h q (by omega) false
  have e : mayB m.n q false = true := by unfold mayB; simp [hq, h4]
  rw [e, if_pos rfl] at HL
  have HG := Lib.hid (get_any h q (by omega))
  have HL := Lib.hid HL
  go_enter Tryz.func11, Tryz.ntmps11
  go_wp2_with (first | (go_at_call 27; (with_reducible refine HL.out.mono ?_); rintro e w' ⟨rfl, rfl⟩) | (go_at_call 28; (with_reducible refine HG.out.mono ?_); rintro e w1 ⟨rfl, hb⟩))
  go_ret2
  exact ⟨rfl, hb⟩
theorem setword_any (h : MAt w B p m) (q : Nat) (hq : q < m.n) (h4 : q % 4 = 0) (hn4 : m.n % 4 = 0) (x : Int) (hx : 0 ≤ x ∧ x < 4294967296) : Calls Tryz.prog 13 #[.pointer (some ⟨p.b, 0, none⟩), .int .u32 (q : Int), .int .u32 x] w fun e w' => e = .returned (.int .i64 0) ∧ MAt w' B p { m with f := set4 m.f q x } ∧ Chg p w w' := by
  have h1 := h.n1
  have HL := look_any h q (by omega) false
  have e : mayB m.n q false = true := by unfold mayB; simp [hq, h4]
  rw [e, if_pos rfl] at HL
  have HG := Lib.hid (set_any h q (by omega) x hx)
  have HL := Lib.hid HL
  go_enter Tryz.func13, Tryz.ntmps13
  go_wp2_with (first | (go_at_call 27; (with_reducible refine HL.out.mono ?_); rintro e w' ⟨rfl, rfl⟩) | (go_at_call 29; (with_reducible refine HG.out.mono ?_); rintro e w1 ⟨rfl, hb⟩))
  go_ret
  exact ⟨rfl, hb⟩
theorem halted_any (h : MAt w B p m) (k c : Int) : Calls Tryz.prog 67 #[.pointer (some ⟨p.b, 0, none⟩), .int .i64 k, .int .u32 c] w fun e w' => e = .returned (.tuple #[]) ∧ MAt w' B p { m with kind := k, code := c } ∧ Chg p w w' := by
  have k24 := h.kd
  have k25 := h.cd
  have z24 := (h.bt 24 (by omega)).2
  have z25 := (h.bt 25 (by omega)).2
  simp only [Nat.zero_add] at z24 z25
  go_enter Tryz.func67, Tryz.ntmps67
  go_wp2
  go_end0
  exact ⟨rfl, h.put 24 [.int .i64 k, .int .u32 c] { m with kind := k, code := c } (by simp) rfl rfl rfl, Chg.setCells p.b (.inl rfl) [.int .i64 k, .int .u32 c] 24 w (Chg.refl p w)⟩
end
end Go.Proofs.YtlgdlaohfkgkfaaGreat

/-
  The word of an instruction that may be, by the code (layer 3's isa.Word): reckoned by the kernel; it is wdI.
-/
import Derived.Test.YtbhnkfhikjhaoaaDoorIMay
namespace Go.Proofs.YtbhnkfhikjhaoaaDoor
open Go.ChangeShapes Go.WideShapes Go.ChangeAt Go.RowKit
set_option linter.unusedVariables false
set_option linter.unusedSimpArgs false
noncomputable section
theorem put_gen (X n : Int) (b : Nat) (hb : b ≤ 32) (h0 : 0 ≤ X) (h1 : X ≤ 4294967295) (hm : X % 2 ^ b = 0) : Ev.binI .or .u32 X (Ev.binI .and .u32 (IntKind.u32.wrap n) (2 ^ b - 1)) = X + n % 2 ^ b := by
  have hp : (2 : Nat) ^ b ≤ 4294967296 := by have := Nat.pow_le_pow_right (show 0 < 2 by omega) hb; simpa using this
  have hq : (1 : Nat) ≤ 2 ^ b := Nat.one_le_two_pow
  have hpi : ((2 ^ b : Nat) : Int) = (2 : Int) ^ b := by simp
  obtain ⟨x, rfl⟩ := Int.eq_ofNat_of_zero_le h0
  obtain ⟨m, hm2⟩ := Int.eq_ofNat_of_zero_le (show 0 ≤ n % 4294967296 by omega)
  have hw : IntKind.u32.wrap n = (m : Int) := by rw [IntKind.wrap_u32, hm2]
  have hd : n % 2 ^ b = ((m % 2 ^ b : Nat) : Int) := by
    have e : n % 2 ^ b = (n % 4294967296) % 2 ^ b := by
      rw [Int.emod_emod_of_dvd]
      refine ⟨2 ^ (32 - b), ?_⟩
      rw [← Int.pow_add, show b + (32 - b) = 32 by omega]
      rfl
    rw [e, hm2]
    simp
  show bits .or .u32 x (bits .and .u32 (IntKind.u32.wrap n) (2 ^ b - 1)) = _
  rw [hw, show ((2 : Int) ^ b - 1) = ((2 ^ b - 1 : Nat) : Int) by rw [← hpi]; omega, u32_and_nat m (2 ^ b - 1) (by omega) (by omega), Nat.and_two_pow_sub_one_eq_mod, hd]
  have hlt : m % 2 ^ b < 2 ^ b := Nat.mod_lt _ (by omega)
  rw [u32_or_nat x (m % 2 ^ b) (by omega) (by omega)]
  have hx : x % 2 ^ b = 0 := by rw [← hpi] at hm; omega
  have e := Nat.two_pow_add_eq_or_of_lt hlt (x / 2 ^ b)
  have e2 : 2 ^ b * (x / 2 ^ b) = x := Nat.mul_div_cancel' (Nat.dvd_of_mod_eq_zero hx)
  rw [e2] at e
  rw [← e]
  simp
theorem put_1 (X n : Int) (h0 : 0 ≤ X) (h1 : X ≤ 4294967295) (hm : X % 2 = 0) : Ev.binI .or .u32 X (Ev.binI .and .u32 (IntKind.u32.wrap n) 1) = X + n % 2 := put_gen X n 1 (by omega) h0 h1 hm
theorem shl_1 (X : Int) : Ev.binI .shl .u32 X 1 = X * 2 % 4294967296 := by simp only [Ev.binI, IntKind.wrap_u32]; rfl
theorem put_4 (X n : Int) (h0 : 0 ≤ X) (h1 : X ≤ 4294967295) (hm : X % 16 = 0) : Ev.binI .or .u32 X (Ev.binI .and .u32 (IntKind.u32.wrap n) 15) = X + n % 16 := put_gen X n 4 (by omega) h0 h1 hm
theorem shl_4 (X : Int) : Ev.binI .shl .u32 X 4 = X * 16 % 4294967296 := by simp only [Ev.binI, IntKind.wrap_u32]; rfl
theorem put_16 (X n : Int) (h0 : 0 ≤ X) (h1 : X ≤ 4294967295) (hm : X % 65536 = 0) : Ev.binI .or .u32 X (Ev.binI .and .u32 (IntKind.u32.wrap n) 65535) = X + n % 65536 := put_gen X n 16 (by omega) h0 h1 hm
theorem shl_16 (X : Int) : Ev.binI .shl .u32 X 16 = X * 65536 % 4294967296 := by simp only [Ev.binI, IntKind.wrap_u32]; rfl
theorem put_20 (X n : Int) (h0 : 0 ≤ X) (h1 : X ≤ 4294967295) (hm : X % 1048576 = 0) : Ev.binI .or .u32 X (Ev.binI .and .u32 (IntKind.u32.wrap n) 1048575) = X + n % 1048576 := put_gen X n 20 (by omega) h0 h1 hm
theorem shl_20 (X : Int) : Ev.binI .shl .u32 X 20 = X * 1048576 % 4294967296 := by simp only [Ev.binI, IntKind.wrap_u32]; rfl
theorem put_24 (X n : Int) (h0 : 0 ≤ X) (h1 : X ≤ 4294967295) (hm : X % 16777216 = 0) : Ev.binI .or .u32 X (Ev.binI .and .u32 (IntKind.u32.wrap n) 16777215) = X + n % 16777216 := put_gen X n 24 (by omega) h0 h1 hm
theorem shl_24 (X : Int) : Ev.binI .shl .u32 X 24 = X * 16777216 % 4294967296 := by simp only [Ev.binI, IntKind.wrap_u32]; rfl
theorem or_none (x : Int) (h0 : 0 ≤ x) (h1 : x ≤ 65535) : Ev.binI .or .i64 x 0 = x ∧ Ev.binI .or .i64 0 x = x := by
  have z1 : ∀ a : BitVec 64, a ||| BitVec.ofInt 64 0 = a := fun a => by simp
  have z2 : ∀ a : BitVec 64, BitVec.ofInt 64 0 ||| a = a := fun a => by simp
  have hw : IntKind.i64.wrap ((BitVec.ofInt 64 x).toNat : Int) = x := by
    rw [BitVec.toNat_ofInt]
    simp [IntKind.wrap, IntKind.bits, IntKind.signed]
    omega
  constructor
  · show IntKind.i64.wrap ((BitVec.ofInt 64 x ||| BitVec.ofInt 64 0).toNat : Int) = x
    rw [z1, hw]
  · show IntKind.i64.wrap ((BitVec.ofInt 64 0 ||| BitVec.ofInt 64 x).toNat : Int) = x
    rw [z2, hw]
theorem or_sys (n : Int) (h0 : 0 ≤ n) (h1 : n ≤ 255) : Ev.binI .or .i64 (Ev.binI .shl .i64 n 4) 12 = n * 16 + 12 := by
  obtain ⟨k, rfl⟩ := Int.eq_ofNat_of_zero_le h0
  have key : ∀ k : Fin 256, Ev.binI .or .i64 (Ev.binI .shl .i64 ((k.val : Nat) : Int) 4) 12 = (k.val : Int) * 16 + 12 := by decide +kernel
  exact key ⟨k, by omega⟩
theorem at61 (I : Ins) : (insV0 I).i 61 = bit I.u := rfl
theorem at62 (I : Ins) : (insV0 I).i 62 = bit I.v := rfl
theorem at3 (I : Ins) : (insV0 I).i 3 = I.a := rfl
theorem at4 (I : Ins) : (insV0 I).i 4 = I.b := rfl
theorem at5 (I : Ins) : (insV0 I).i 5 = I.c := rfl
theorem at6 (I : Ins) : (insV0 I).i 6 = I.op := rfl
theorem at7 (I : Ins) : (insV0 I).i 7 = I.im := rfl
theorem at8 (I : Ins) : (insV0 I).i 8 = I.off := rfl
theorem at9 (I : Ins) : (insV0 I).i 9 = I.cond := rfl
theorem at10 (I : Ins) : (insV0 I).i 10 = I.n := rfl
def woE (f : Ev.SI) : List Ev.Ent := [⟨8, [insAV f], .bool (.lit true)⟩, ⟨14, [.bool (.atom 0)], .int .i64 (.atom 61)⟩, ⟨14, [.bool (.atom 1)], .int .i64 (.atom 62)⟩]
theorem bit_any (u : Bool) (w : World) : Calls Tryd.prog 14 #[.bool u] w fun e w' => e = .returned (.int .i64 (bit u)) ∧ Below w.heap.size w w' := by
  cases u
  all_goals
    go_enter Tryd.func14, Tryd.ntmps14
    go_wp2
    go_ret
    exact ⟨rfl, Below.refl _ _⟩
theorem woE_ok (I : Ins) (m : MayIs I) (f : Ev.SI) (hf : I.form = f.den (insV0 I)) {l : List (Ev.SB × Bool)} : ∀ e ∈ woE f, Ev.EntOk Tryd.prog ⟨l, fun σ => σ = insV0 I, Ev.noG⟩ e :=
  Ev.ents_cons (Ev.EntOk.of rfl [.agg (insCells I)] (insAV_rel I f hf) (v := .bool true) (fun _ => rfl) fun W => may_yes I m.wf m W)
    (Ev.ents_cons (Ev.EntOk.of rfl [.bool I.u] ⟨rfl, trivial⟩ (v := .int .i64 (bit I.u)) (fun _ => rfl) fun W => bit_any I.u W)
      (Ev.ents_cons (Ev.EntOk.of rfl [.bool I.v] ⟨rfl, trivial⟩ (v := .int .i64 (bit I.v)) (fun _ => rfl) fun W => bit_any I.v W) Ev.ents_nil))
def wdS0 : Ev.SI := .bin .or .u32 (.bin .shl .u32 (.bin .or .u32 (.bin .shl .u32 (.bin .or .u32 (.bin .shl .u32 (.bin .or .u32 (.bin .shl .u32 (.bin .or .u32 (.bin .shl .u32 (.bin .or .u32 (.lit 0) (.bin .and .u32 (.wrap .u32 (.atom 61)) (.lit 1))) (.lit 1)) (.bin .and .u32 (.wrap .u32 (.atom 62)) (.lit 1))) (.lit 4)) (.bin .and .u32 (.wrap .u32 (.atom 3)) (.lit 15))) (.lit 4)) (.bin .and .u32 (.wrap .u32 (.atom 4)) (.lit 15))) (.lit 4)) (.bin .and .u32 (.wrap .u32 (.atom 6)) (.lit 15))) (.lit 16)) (.bin .and .u32 (.wrap .u32 (.bin .or .i64 (.atom 7) (.atom 5))) (.lit 65535))
theorem runW0 (φ : Ev.Val → Prop) : Ev.outV ((Ev.evO Tryd.prog ⟨[], φ, Ev.noG⟩ (Ev.orcL (woE (.lit 0))) 1000 30 (.fn 7) [insAV (.lit 0)]).go .e 0) = some (.tuple [.int .u32 wdS0, .int .i64 (.lit 0)]) := by kernel_rfl
set_option maxHeartbeats 1000000 in
theorem wdS0_den (I : Ins) (m : MayIs I) (hf : I.form = 0) : wdS0.den (insV0 I) = wdI I := by
  obtain ⟨f0, f1, a0, a1, b0, b1, c0, c1, o0, o1, m0, m1, k0, k1, n0, n1, hr, hi, hl, hj, ht, hs⟩ := m
  have hu := bit_bd I.u
  have hv := bit_bd I.v
  simp only [wdS0, Ev.SI.den, at61, at62, at3, at4, at5, at6, at7, at8, at9, at10]
  obtain ⟨g1, g2, g3, g4, g5, g6⟩ := hr hf
  rw [g2, (or_none I.c c0 (by omega)).2]
  obtain ⟨y0, hy0, ey0⟩ : ∃ y, Ev.binI .or .u32 0 (Ev.binI .and .u32 (IntKind.u32.wrap (bit I.u)) 1) = y ∧ y = 0 + (bit I.u) % 2 := ⟨_, rfl, put_1 _ _ (by omega) (by omega) (by omega)⟩
  rw [hy0]
  obtain ⟨z1, hz1, ez1⟩ : ∃ z, Ev.binI .shl .u32 y0 1 = z ∧ z = y0 * 2 % 4294967296 := ⟨_, rfl, shl_1 _⟩
  rw [hz1]
  obtain ⟨y1, hy1, ey1⟩ : ∃ y, Ev.binI .or .u32 z1 (Ev.binI .and .u32 (IntKind.u32.wrap (bit I.v)) 1) = y ∧ y = z1 + (bit I.v) % 2 := ⟨_, rfl, put_1 _ _ (by omega) (by omega) (by omega)⟩
  rw [hy1]
  obtain ⟨z2, hz2, ez2⟩ : ∃ z, Ev.binI .shl .u32 y1 4 = z ∧ z = y1 * 16 % 4294967296 := ⟨_, rfl, shl_4 _⟩
  rw [hz2]
  obtain ⟨y2, hy2, ey2⟩ : ∃ y, Ev.binI .or .u32 z2 (Ev.binI .and .u32 (IntKind.u32.wrap I.a) 15) = y ∧ y = z2 + I.a % 16 := ⟨_, rfl, put_4 _ _ (by omega) (by omega) (by omega)⟩
  rw [hy2]
  obtain ⟨z3, hz3, ez3⟩ : ∃ z, Ev.binI .shl .u32 y2 4 = z ∧ z = y2 * 16 % 4294967296 := ⟨_, rfl, shl_4 _⟩
  rw [hz3]
  obtain ⟨y3, hy3, ey3⟩ : ∃ y, Ev.binI .or .u32 z3 (Ev.binI .and .u32 (IntKind.u32.wrap I.b) 15) = y ∧ y = z3 + I.b % 16 := ⟨_, rfl, put_4 _ _ (by omega) (by omega) (by omega)⟩
  rw [hy3]
  obtain ⟨z4, hz4, ez4⟩ : ∃ z, Ev.binI .shl .u32 y3 4 = z ∧ z = y3 * 16 % 4294967296 := ⟨_, rfl, shl_4 _⟩
  rw [hz4]
  obtain ⟨y4, hy4, ey4⟩ : ∃ y, Ev.binI .or .u32 z4 (Ev.binI .and .u32 (IntKind.u32.wrap I.op) 15) = y ∧ y = z4 + I.op % 16 := ⟨_, rfl, put_4 _ _ (by omega) (by omega) (by omega)⟩
  rw [hy4]
  obtain ⟨z5, hz5, ez5⟩ : ∃ z, Ev.binI .shl .u32 y4 16 = z ∧ z = y4 * 65536 % 4294967296 := ⟨_, rfl, shl_16 _⟩
  rw [hz5]
  obtain ⟨y5, hy5, ey5⟩ : ∃ y, Ev.binI .or .u32 z5 (Ev.binI .and .u32 (IntKind.u32.wrap I.c) 65535) = y ∧ y = z5 + I.c % 65536 := ⟨_, rfl, put_16 _ _ (by omega) (by omega) (by omega)⟩
  rw [hy5]
  unfold wdI
  rw [if_pos (by omega)]
  rw [g1] at *
  rw [show bit false = 0 from rfl] at *
  omega
theorem word_0 (I : Ins) (m : MayIs I) (hf : I.form = 0) (w : World) : Calls Tryd.prog 7 #[.agg (insCells I)] w fun e w' => e = .returned (.tuple #[.int .u32 (wdI I), .int .i64 0]) ∧ Below w.heap.size w w' := by
  refine (Ev.calls_of (A := ⟨[], fun σ => σ = insV0 I, Ev.noG⟩) (Ev.orcL_ok _ (woE_ok I m (.lit 0) hf)) 1000 30 (runW0 _) (insV0 I) ⟨fun p hp => (by cases hp), rfl, Ev.noG_ok _⟩ [.agg (insCells I)] w ⟨trivial, Nat.zero_le _⟩ (insAV_rel I (.lit 0) hf)).mono fun e w' ⟨x, μ, he, hx, hb⟩ => ⟨?_, hb⟩
  obtain ⟨xs, rfl, hxs⟩ := hx
  match xs, hxs with
  | [x1, x2], ⟨h1, h2, _⟩ =>
    simp only [Ev.rel, wdS0_den I m hf] at h1 h2
    rw [he, h1, h2]
    rfl
def wdS1 : Ev.SI := .bin .or .u32 (.bin .shl .u32 (.bin .or .u32 (.bin .shl .u32 (.bin .or .u32 (.bin .shl .u32 (.bin .or .u32 (.bin .shl .u32 (.bin .or .u32 (.bin .shl .u32 (.bin .or .u32 (.lit 2) (.bin .and .u32 (.wrap .u32 (.atom 61)) (.lit 1))) (.lit 1)) (.bin .and .u32 (.wrap .u32 (.atom 62)) (.lit 1))) (.lit 4)) (.bin .and .u32 (.wrap .u32 (.atom 3)) (.lit 15))) (.lit 4)) (.bin .and .u32 (.wrap .u32 (.atom 4)) (.lit 15))) (.lit 4)) (.bin .and .u32 (.wrap .u32 (.atom 6)) (.lit 15))) (.lit 16)) (.bin .and .u32 (.wrap .u32 (.bin .or .i64 (.atom 7) (.atom 5))) (.lit 65535))
theorem runW1 (φ : Ev.Val → Prop) : Ev.outV ((Ev.evO Tryd.prog ⟨[], φ, Ev.noG⟩ (Ev.orcL (woE (.lit 1))) 1000 30 (.fn 7) [insAV (.lit 1)]).go .e 0) = some (.tuple [.int .u32 wdS1, .int .i64 (.lit 0)]) := by kernel_rfl
set_option maxHeartbeats 1000000 in
theorem wdS1_den (I : Ins) (m : MayIs I) (hf : I.form = 1) : wdS1.den (insV0 I) = wdI I := by
  obtain ⟨f0, f1, a0, a1, b0, b1, c0, c1, o0, o1, m0, m1, k0, k1, n0, n1, hr, hi, hl, hj, ht, hs⟩ := m
  have hu := bit_bd I.u
  have hv := bit_bd I.v
  simp only [wdS1, Ev.SI.den, at61, at62, at3, at4, at5, at6, at7, at8, at9, at10]
  obtain ⟨g1, g2, g3, g4, g6⟩ := hi hf
  rw [g1, (or_none I.im m0 m1).1]
  obtain ⟨y0, hy0, ey0⟩ : ∃ y, Ev.binI .or .u32 2 (Ev.binI .and .u32 (IntKind.u32.wrap (bit I.u)) 1) = y ∧ y = 2 + (bit I.u) % 2 := ⟨_, rfl, put_1 _ _ (by omega) (by omega) (by omega)⟩
  rw [hy0]
  obtain ⟨z1, hz1, ez1⟩ : ∃ z, Ev.binI .shl .u32 y0 1 = z ∧ z = y0 * 2 % 4294967296 := ⟨_, rfl, shl_1 _⟩
  rw [hz1]
  obtain ⟨y1, hy1, ey1⟩ : ∃ y, Ev.binI .or .u32 z1 (Ev.binI .and .u32 (IntKind.u32.wrap (bit I.v)) 1) = y ∧ y = z1 + (bit I.v) % 2 := ⟨_, rfl, put_1 _ _ (by omega) (by omega) (by omega)⟩
  rw [hy1]
  obtain ⟨z2, hz2, ez2⟩ : ∃ z, Ev.binI .shl .u32 y1 4 = z ∧ z = y1 * 16 % 4294967296 := ⟨_, rfl, shl_4 _⟩
  rw [hz2]
  obtain ⟨y2, hy2, ey2⟩ : ∃ y, Ev.binI .or .u32 z2 (Ev.binI .and .u32 (IntKind.u32.wrap I.a) 15) = y ∧ y = z2 + I.a % 16 := ⟨_, rfl, put_4 _ _ (by omega) (by omega) (by omega)⟩
  rw [hy2]
  obtain ⟨z3, hz3, ez3⟩ : ∃ z, Ev.binI .shl .u32 y2 4 = z ∧ z = y2 * 16 % 4294967296 := ⟨_, rfl, shl_4 _⟩
  rw [hz3]
  obtain ⟨y3, hy3, ey3⟩ : ∃ y, Ev.binI .or .u32 z3 (Ev.binI .and .u32 (IntKind.u32.wrap I.b) 15) = y ∧ y = z3 + I.b % 16 := ⟨_, rfl, put_4 _ _ (by omega) (by omega) (by omega)⟩
  rw [hy3]
  obtain ⟨z4, hz4, ez4⟩ : ∃ z, Ev.binI .shl .u32 y3 4 = z ∧ z = y3 * 16 % 4294967296 := ⟨_, rfl, shl_4 _⟩
  rw [hz4]
  obtain ⟨y4, hy4, ey4⟩ : ∃ y, Ev.binI .or .u32 z4 (Ev.binI .and .u32 (IntKind.u32.wrap I.op) 15) = y ∧ y = z4 + I.op % 16 := ⟨_, rfl, put_4 _ _ (by omega) (by omega) (by omega)⟩
  rw [hy4]
  obtain ⟨z5, hz5, ez5⟩ : ∃ z, Ev.binI .shl .u32 y4 16 = z ∧ z = y4 * 65536 % 4294967296 := ⟨_, rfl, shl_16 _⟩
  rw [hz5]
  obtain ⟨y5, hy5, ey5⟩ : ∃ y, Ev.binI .or .u32 z5 (Ev.binI .and .u32 (IntKind.u32.wrap I.im) 65535) = y ∧ y = z5 + I.im % 65536 := ⟨_, rfl, put_16 _ _ (by omega) (by omega) (by omega)⟩
  rw [hy5]
  unfold wdI
  rw [if_pos (by omega)]
  omega
theorem word_1 (I : Ins) (m : MayIs I) (hf : I.form = 1) (w : World) : Calls Tryd.prog 7 #[.agg (insCells I)] w fun e w' => e = .returned (.tuple #[.int .u32 (wdI I), .int .i64 0]) ∧ Below w.heap.size w w' := by
  refine (Ev.calls_of (A := ⟨[], fun σ => σ = insV0 I, Ev.noG⟩) (Ev.orcL_ok _ (woE_ok I m (.lit 1) hf)) 1000 30 (runW1 _) (insV0 I) ⟨fun p hp => (by cases hp), rfl, Ev.noG_ok _⟩ [.agg (insCells I)] w ⟨trivial, Nat.zero_le _⟩ (insAV_rel I (.lit 1) hf)).mono fun e w' ⟨x, μ, he, hx, hb⟩ => ⟨?_, hb⟩
  obtain ⟨xs, rfl, hxs⟩ := hx
  match xs, hxs with
  | [x1, x2], ⟨h1, h2, _⟩ =>
    simp only [Ev.rel, wdS1_den I m hf] at h1 h2
    rw [he, h1, h2]
    rfl
def wdS2 : Ev.SI := .bin .or .u32 (.bin .shl .u32 (.bin .or .u32 (.bin .shl .u32 (.bin .or .u32 (.bin .shl .u32 (.bin .or .u32 (.lit 8) (.bin .and .u32 (.wrap .u32 (.atom 62)) (.lit 1))) (.lit 4)) (.bin .and .u32 (.wrap .u32 (.atom 3)) (.lit 15))) (.lit 4)) (.bin .and .u32 (.wrap .u32 (.atom 4)) (.lit 15))) (.lit 20)) (.bin .and .u32 (.wrap .u32 (.atom 8)) (.lit 1048575))
theorem runW2 (φ : Ev.Val → Prop) : Ev.outV ((Ev.evO Tryd.prog ⟨[], φ, Ev.noG⟩ (Ev.orcL (woE (.lit 2))) 1000 30 (.fn 7) [insAV (.lit 2)]).go .e 0) = some (.tuple [.int .u32 wdS2, .int .i64 (.lit 0)]) := by kernel_rfl
set_option maxHeartbeats 1000000 in
theorem wdS2_den (I : Ins) (m : MayIs I) (hf : I.form = 2) : wdS2.den (insV0 I) = wdI I := by
  obtain ⟨f0, f1, a0, a1, b0, b1, c0, c1, o0, o1, m0, m1, k0, k1, n0, n1, hr, hi, hl, hj, ht, hs⟩ := m
  have hu := bit_bd I.u
  have hv := bit_bd I.v
  simp only [wdS2, Ev.SI.den, at61, at62, at3, at4, at5, at6, at7, at8, at9, at10]
  obtain ⟨g1, g2, g3, g4, g5, g6, g7, g8⟩ := hl (by omega)
  obtain ⟨y0, hy0, ey0⟩ : ∃ y, Ev.binI .or .u32 8 (Ev.binI .and .u32 (IntKind.u32.wrap (bit I.v)) 1) = y ∧ y = 8 + (bit I.v) % 2 := ⟨_, rfl, put_1 _ _ (by omega) (by omega) (by omega)⟩
  rw [hy0]
  obtain ⟨z1, hz1, ez1⟩ : ∃ z, Ev.binI .shl .u32 y0 4 = z ∧ z = y0 * 16 % 4294967296 := ⟨_, rfl, shl_4 _⟩
  rw [hz1]
  obtain ⟨y1, hy1, ey1⟩ : ∃ y, Ev.binI .or .u32 z1 (Ev.binI .and .u32 (IntKind.u32.wrap I.a) 15) = y ∧ y = z1 + I.a % 16 := ⟨_, rfl, put_4 _ _ (by omega) (by omega) (by omega)⟩
  rw [hy1]
  obtain ⟨z2, hz2, ez2⟩ : ∃ z, Ev.binI .shl .u32 y1 4 = z ∧ z = y1 * 16 % 4294967296 := ⟨_, rfl, shl_4 _⟩
  rw [hz2]
  obtain ⟨y2, hy2, ey2⟩ : ∃ y, Ev.binI .or .u32 z2 (Ev.binI .and .u32 (IntKind.u32.wrap I.b) 15) = y ∧ y = z2 + I.b % 16 := ⟨_, rfl, put_4 _ _ (by omega) (by omega) (by omega)⟩
  rw [hy2]
  obtain ⟨z3, hz3, ez3⟩ : ∃ z, Ev.binI .shl .u32 y2 20 = z ∧ z = y2 * 1048576 % 4294967296 := ⟨_, rfl, shl_20 _⟩
  rw [hz3]
  obtain ⟨y3, hy3, ey3⟩ : ∃ y, Ev.binI .or .u32 z3 (Ev.binI .and .u32 (IntKind.u32.wrap I.off) 1048575) = y ∧ y = z3 + I.off % 1048576 := ⟨_, rfl, put_20 _ _ (by omega) (by omega) (by omega)⟩
  rw [hy3]
  unfold wdI
  rw [if_neg (by omega), if_pos (by omega)]
  omega
theorem word_2 (I : Ins) (m : MayIs I) (hf : I.form = 2) (w : World) : Calls Tryd.prog 7 #[.agg (insCells I)] w fun e w' => e = .returned (.tuple #[.int .u32 (wdI I), .int .i64 0]) ∧ Below w.heap.size w w' := by
  refine (Ev.calls_of (A := ⟨[], fun σ => σ = insV0 I, Ev.noG⟩) (Ev.orcL_ok _ (woE_ok I m (.lit 2) hf)) 1000 30 (runW2 _) (insV0 I) ⟨fun p hp => (by cases hp), rfl, Ev.noG_ok _⟩ [.agg (insCells I)] w ⟨trivial, Nat.zero_le _⟩ (insAV_rel I (.lit 2) hf)).mono fun e w' ⟨x, μ, he, hx, hb⟩ => ⟨?_, hb⟩
  obtain ⟨xs, rfl, hxs⟩ := hx
  match xs, hxs with
  | [x1, x2], ⟨h1, h2, _⟩ =>
    simp only [Ev.rel, wdS2_den I m hf] at h1 h2
    rw [he, h1, h2]
    rfl
def wdS3 : Ev.SI := .bin .or .u32 (.bin .shl .u32 (.bin .or .u32 (.bin .shl .u32 (.bin .or .u32 (.bin .shl .u32 (.bin .or .u32 (.lit 10) (.bin .and .u32 (.wrap .u32 (.atom 62)) (.lit 1))) (.lit 4)) (.bin .and .u32 (.wrap .u32 (.atom 3)) (.lit 15))) (.lit 4)) (.bin .and .u32 (.wrap .u32 (.atom 4)) (.lit 15))) (.lit 20)) (.bin .and .u32 (.wrap .u32 (.atom 8)) (.lit 1048575))
theorem runW3 (φ : Ev.Val → Prop) : Ev.outV ((Ev.evO Tryd.prog ⟨[], φ, Ev.noG⟩ (Ev.orcL (woE (.lit 3))) 1000 30 (.fn 7) [insAV (.lit 3)]).go .e 0) = some (.tuple [.int .u32 wdS3, .int .i64 (.lit 0)]) := by kernel_rfl
set_option maxHeartbeats 1000000 in
theorem wdS3_den (I : Ins) (m : MayIs I) (hf : I.form = 3) : wdS3.den (insV0 I) = wdI I := by
  obtain ⟨f0, f1, a0, a1, b0, b1, c0, c1, o0, o1, m0, m1, k0, k1, n0, n1, hr, hi, hl, hj, ht, hs⟩ := m
  have hu := bit_bd I.u
  have hv := bit_bd I.v
  simp only [wdS3, Ev.SI.den, at61, at62, at3, at4, at5, at6, at7, at8, at9, at10]
  obtain ⟨g1, g2, g3, g4, g5, g6, g7, g8⟩ := hl (by omega)
  obtain ⟨y0, hy0, ey0⟩ : ∃ y, Ev.binI .or .u32 10 (Ev.binI .and .u32 (IntKind.u32.wrap (bit I.v)) 1) = y ∧ y = 10 + (bit I.v) % 2 := ⟨_, rfl, put_1 _ _ (by omega) (by omega) (by omega)⟩
  rw [hy0]
  obtain ⟨z1, hz1, ez1⟩ : ∃ z, Ev.binI .shl .u32 y0 4 = z ∧ z = y0 * 16 % 4294967296 := ⟨_, rfl, shl_4 _⟩
  rw [hz1]
  obtain ⟨y1, hy1, ey1⟩ : ∃ y, Ev.binI .or .u32 z1 (Ev.binI .and .u32 (IntKind.u32.wrap I.a) 15) = y ∧ y = z1 + I.a % 16 := ⟨_, rfl, put_4 _ _ (by omega) (by omega) (by omega)⟩
  rw [hy1]
  obtain ⟨z2, hz2, ez2⟩ : ∃ z, Ev.binI .shl .u32 y1 4 = z ∧ z = y1 * 16 % 4294967296 := ⟨_, rfl, shl_4 _⟩
  rw [hz2]
  obtain ⟨y2, hy2, ey2⟩ : ∃ y, Ev.binI .or .u32 z2 (Ev.binI .and .u32 (IntKind.u32.wrap I.b) 15) = y ∧ y = z2 + I.b % 16 := ⟨_, rfl, put_4 _ _ (by omega) (by omega) (by omega)⟩
  rw [hy2]
  obtain ⟨z3, hz3, ez3⟩ : ∃ z, Ev.binI .shl .u32 y2 20 = z ∧ z = y2 * 1048576 % 4294967296 := ⟨_, rfl, shl_20 _⟩
  rw [hz3]
  obtain ⟨y3, hy3, ey3⟩ : ∃ y, Ev.binI .or .u32 z3 (Ev.binI .and .u32 (IntKind.u32.wrap I.off) 1048575) = y ∧ y = z3 + I.off % 1048576 := ⟨_, rfl, put_20 _ _ (by omega) (by omega) (by omega)⟩
  rw [hy3]
  unfold wdI
  rw [if_neg (by omega), if_pos (by omega)]
  omega
theorem word_3 (I : Ins) (m : MayIs I) (hf : I.form = 3) (w : World) : Calls Tryd.prog 7 #[.agg (insCells I)] w fun e w' => e = .returned (.tuple #[.int .u32 (wdI I), .int .i64 0]) ∧ Below w.heap.size w w' := by
  refine (Ev.calls_of (A := ⟨[], fun σ => σ = insV0 I, Ev.noG⟩) (Ev.orcL_ok _ (woE_ok I m (.lit 3) hf)) 1000 30 (runW3 _) (insV0 I) ⟨fun p hp => (by cases hp), rfl, Ev.noG_ok _⟩ [.agg (insCells I)] w ⟨trivial, Nat.zero_le _⟩ (insAV_rel I (.lit 3) hf)).mono fun e w' ⟨x, μ, he, hx, hb⟩ => ⟨?_, hb⟩
  obtain ⟨xs, rfl, hxs⟩ := hx
  match xs, hxs with
  | [x1, x2], ⟨h1, h2, _⟩ =>
    simp only [Ev.rel, wdS3_den I m hf] at h1 h2
    rw [he, h1, h2]
    rfl
def wdS4 : Ev.SI := .bin .or .u32 (.bin .shl .u32 (.bin .or .u32 (.bin .shl .u32 (.bin .or .u32 (.lit 14) (.bin .and .u32 (.wrap .u32 (.atom 62)) (.lit 1))) (.lit 4)) (.bin .and .u32 (.wrap .u32 (.atom 9)) (.lit 15))) (.lit 24)) (.bin .and .u32 (.wrap .u32 (.atom 8)) (.lit 16777215))
theorem runW4 (φ : Ev.Val → Prop) : Ev.outV ((Ev.evO Tryd.prog ⟨[], φ, Ev.noG⟩ (Ev.orcL (woE (.lit 4))) 1000 30 (.fn 7) [insAV (.lit 4)]).go .e 0) = some (.tuple [.int .u32 wdS4, .int .i64 (.lit 0)]) := by kernel_rfl
set_option maxHeartbeats 1000000 in
theorem wdS4_den (I : Ins) (m : MayIs I) (hf : I.form = 4) : wdS4.den (insV0 I) = wdI I := by
  obtain ⟨f0, f1, a0, a1, b0, b1, c0, c1, o0, o1, m0, m1, k0, k1, n0, n1, hr, hi, hl, hj, ht, hs⟩ := m
  have hu := bit_bd I.u
  have hv := bit_bd I.v
  simp only [wdS4, Ev.SI.den, at61, at62, at3, at4, at5, at6, at7, at8, at9, at10]
  obtain ⟨g1, g2, g3, g4, g5, g6, g7, g8, g9⟩ := hj hf
  obtain ⟨y0, hy0, ey0⟩ : ∃ y, Ev.binI .or .u32 14 (Ev.binI .and .u32 (IntKind.u32.wrap (bit I.v)) 1) = y ∧ y = 14 + (bit I.v) % 2 := ⟨_, rfl, put_1 _ _ (by omega) (by omega) (by omega)⟩
  rw [hy0]
  obtain ⟨z1, hz1, ez1⟩ : ∃ z, Ev.binI .shl .u32 y0 4 = z ∧ z = y0 * 16 % 4294967296 := ⟨_, rfl, shl_4 _⟩
  rw [hz1]
  obtain ⟨y1, hy1, ey1⟩ : ∃ y, Ev.binI .or .u32 z1 (Ev.binI .and .u32 (IntKind.u32.wrap I.cond) 15) = y ∧ y = z1 + I.cond % 16 := ⟨_, rfl, put_4 _ _ (by omega) (by omega) (by omega)⟩
  rw [hy1]
  obtain ⟨z2, hz2, ez2⟩ : ∃ z, Ev.binI .shl .u32 y1 24 = z ∧ z = y1 * 16777216 % 4294967296 := ⟨_, rfl, shl_24 _⟩
  rw [hz2]
  obtain ⟨y2, hy2, ey2⟩ : ∃ y, Ev.binI .or .u32 z2 (Ev.binI .and .u32 (IntKind.u32.wrap I.off) 16777215) = y ∧ y = z2 + I.off % 16777216 := ⟨_, rfl, put_24 _ _ (by omega) (by omega) (by omega)⟩
  rw [hy2]
  unfold wdI
  rw [if_neg (by omega), if_neg (by omega), if_pos hf]
  omega
theorem word_4 (I : Ins) (m : MayIs I) (hf : I.form = 4) (w : World) : Calls Tryd.prog 7 #[.agg (insCells I)] w fun e w' => e = .returned (.tuple #[.int .u32 (wdI I), .int .i64 0]) ∧ Below w.heap.size w w' := by
  refine (Ev.calls_of (A := ⟨[], fun σ => σ = insV0 I, Ev.noG⟩) (Ev.orcL_ok _ (woE_ok I m (.lit 4) hf)) 1000 30 (runW4 _) (insV0 I) ⟨fun p hp => (by cases hp), rfl, Ev.noG_ok _⟩ [.agg (insCells I)] w ⟨trivial, Nat.zero_le _⟩ (insAV_rel I (.lit 4) hf)).mono fun e w' ⟨x, μ, he, hx, hb⟩ => ⟨?_, hb⟩
  obtain ⟨xs, rfl, hxs⟩ := hx
  match xs, hxs with
  | [x1, x2], ⟨h1, h2, _⟩ =>
    simp only [Ev.rel, wdS4_den I m hf] at h1 h2
    rw [he, h1, h2]
    rfl
def wdS5 : Ev.SI := .bin .or .u32 (.bin .shl .u32 (.bin .or .u32 (.bin .shl .u32 (.bin .or .u32 (.lit 12) (.bin .and .u32 (.wrap .u32 (.atom 62)) (.lit 1))) (.lit 4)) (.bin .and .u32 (.wrap .u32 (.atom 9)) (.lit 15))) (.lit 24)) (.bin .and .u32 (.wrap .u32 (.atom 5)) (.lit 16777215))
theorem runW5 (φ : Ev.Val → Prop) : Ev.outV ((Ev.evO Tryd.prog ⟨[], φ, Ev.noG⟩ (Ev.orcL (woE (.lit 5))) 1000 30 (.fn 7) [insAV (.lit 5)]).go .e 0) = some (.tuple [.int .u32 wdS5, .int .i64 (.lit 0)]) := by kernel_rfl
set_option maxHeartbeats 1000000 in
theorem wdS5_den (I : Ins) (m : MayIs I) (hf : I.form = 5) : wdS5.den (insV0 I) = wdI I := by
  obtain ⟨f0, f1, a0, a1, b0, b1, c0, c1, o0, o1, m0, m1, k0, k1, n0, n1, hr, hi, hl, hj, ht, hs⟩ := m
  have hu := bit_bd I.u
  have hv := bit_bd I.v
  simp only [wdS5, Ev.SI.den, at61, at62, at3, at4, at5, at6, at7, at8, at9, at10]
  obtain ⟨g1, g2, g3, g4, g5, g6, g7, g8⟩ := ht hf
  obtain ⟨y0, hy0, ey0⟩ : ∃ y, Ev.binI .or .u32 12 (Ev.binI .and .u32 (IntKind.u32.wrap (bit I.v)) 1) = y ∧ y = 12 + (bit I.v) % 2 := ⟨_, rfl, put_1 _ _ (by omega) (by omega) (by omega)⟩
  rw [hy0]
  obtain ⟨z1, hz1, ez1⟩ : ∃ z, Ev.binI .shl .u32 y0 4 = z ∧ z = y0 * 16 % 4294967296 := ⟨_, rfl, shl_4 _⟩
  rw [hz1]
  obtain ⟨y1, hy1, ey1⟩ : ∃ y, Ev.binI .or .u32 z1 (Ev.binI .and .u32 (IntKind.u32.wrap I.cond) 15) = y ∧ y = z1 + I.cond % 16 := ⟨_, rfl, put_4 _ _ (by omega) (by omega) (by omega)⟩
  rw [hy1]
  obtain ⟨z2, hz2, ez2⟩ : ∃ z, Ev.binI .shl .u32 y1 24 = z ∧ z = y1 * 16777216 % 4294967296 := ⟨_, rfl, shl_24 _⟩
  rw [hz2]
  obtain ⟨y2, hy2, ey2⟩ : ∃ y, Ev.binI .or .u32 z2 (Ev.binI .and .u32 (IntKind.u32.wrap I.c) 16777215) = y ∧ y = z2 + I.c % 16777216 := ⟨_, rfl, put_24 _ _ (by omega) (by omega) (by omega)⟩
  rw [hy2]
  unfold wdI
  rw [if_neg (by omega), if_neg (by omega), if_neg (by omega), if_pos hf]
  omega
theorem word_5 (I : Ins) (m : MayIs I) (hf : I.form = 5) (w : World) : Calls Tryd.prog 7 #[.agg (insCells I)] w fun e w' => e = .returned (.tuple #[.int .u32 (wdI I), .int .i64 0]) ∧ Below w.heap.size w w' := by
  refine (Ev.calls_of (A := ⟨[], fun σ => σ = insV0 I, Ev.noG⟩) (Ev.orcL_ok _ (woE_ok I m (.lit 5) hf)) 1000 30 (runW5 _) (insV0 I) ⟨fun p hp => (by cases hp), rfl, Ev.noG_ok _⟩ [.agg (insCells I)] w ⟨trivial, Nat.zero_le _⟩ (insAV_rel I (.lit 5) hf)).mono fun e w' ⟨x, μ, he, hx, hb⟩ => ⟨?_, hb⟩
  obtain ⟨xs, rfl, hxs⟩ := hx
  match xs, hxs with
  | [x1, x2], ⟨h1, h2, _⟩ =>
    simp only [Ev.rel, wdS5_den I m hf] at h1 h2
    rw [he, h1, h2]
    rfl
def wdS6 : Ev.SI := .bin .or .u32 (.bin .shl .u32 (.bin .or .u32 (.lit 208) (.bin .and .u32 (.wrap .u32 (.atom 9)) (.lit 15))) (.lit 24)) (.bin .and .u32 (.wrap .u32 (.bin .or .i64 (.bin .shl .i64 (.atom 10) (.lit 4)) (.lit 12))) (.lit 16777215))
theorem runW6 (φ : Ev.Val → Prop) : Ev.outV ((Ev.evO Tryd.prog ⟨[], φ, Ev.noG⟩ (Ev.orcL (woE (.lit 6))) 1000 30 (.fn 7) [insAV (.lit 6)]).go .e 0) = some (.tuple [.int .u32 wdS6, .int .i64 (.lit 0)]) := by kernel_rfl
set_option maxHeartbeats 1000000 in
theorem wdS6_den (I : Ins) (m : MayIs I) (hf : I.form = 6) : wdS6.den (insV0 I) = wdI I := by
  obtain ⟨f0, f1, a0, a1, b0, b1, c0, c1, o0, o1, m0, m1, k0, k1, n0, n1, hr, hi, hl, hj, ht, hs⟩ := m
  have hu := bit_bd I.u
  have hv := bit_bd I.v
  simp only [wdS6, Ev.SI.den, at61, at62, at3, at4, at5, at6, at7, at8, at9, at10]
  obtain ⟨g1, g2, g3, g4, g5, g6, g7, g8⟩ := hs hf
  rw [or_sys I.n n0 n1]
  obtain ⟨y0, hy0, ey0⟩ : ∃ y, Ev.binI .or .u32 208 (Ev.binI .and .u32 (IntKind.u32.wrap I.cond) 15) = y ∧ y = 208 + I.cond % 16 := ⟨_, rfl, put_4 _ _ (by omega) (by omega) (by omega)⟩
  rw [hy0]
  obtain ⟨z1, hz1, ez1⟩ : ∃ z, Ev.binI .shl .u32 y0 24 = z ∧ z = y0 * 16777216 % 4294967296 := ⟨_, rfl, shl_24 _⟩
  rw [hz1]
  obtain ⟨y1, hy1, ey1⟩ : ∃ y, Ev.binI .or .u32 z1 (Ev.binI .and .u32 (IntKind.u32.wrap (I.n * 16 + 12)) 16777215) = y ∧ y = z1 + (I.n * 16 + 12) % 16777216 := ⟨_, rfl, put_24 _ _ (by omega) (by omega) (by omega)⟩
  rw [hy1]
  unfold wdI
  rw [if_neg (by omega), if_neg (by omega), if_neg (by omega), if_neg (by omega)]
  omega
theorem word_6 (I : Ins) (m : MayIs I) (hf : I.form = 6) (w : World) : Calls Tryd.prog 7 #[.agg (insCells I)] w fun e w' => e = .returned (.tuple #[.int .u32 (wdI I), .int .i64 0]) ∧ Below w.heap.size w w' := by
  refine (Ev.calls_of (A := ⟨[], fun σ => σ = insV0 I, Ev.noG⟩) (Ev.orcL_ok _ (woE_ok I m (.lit 6) hf)) 1000 30 (runW6 _) (insV0 I) ⟨fun p hp => (by cases hp), rfl, Ev.noG_ok _⟩ [.agg (insCells I)] w ⟨trivial, Nat.zero_le _⟩ (insAV_rel I (.lit 6) hf)).mono fun e w' ⟨x, μ, he, hx, hb⟩ => ⟨?_, hb⟩
  obtain ⟨xs, rfl, hxs⟩ := hx
  match xs, hxs with
  | [x1, x2], ⟨h1, h2, _⟩ =>
    simp only [Ev.rel, wdS6_den I m hf] at h1 h2
    rw [he, h1, h2]
    rfl
theorem word_any (I : Ins) (m : MayIs I) (w : World) : Calls Tryd.prog 7 #[.agg (insCells I)] w fun e w' => e = .returned (.tuple #[.int .u32 (wdI I), .int .i64 0]) ∧ Below w.heap.size w w' := by
  have h0 := m.f0
  have h6 := m.f1
  rcases (by omega : I.form = 0 ∨ I.form = 1 ∨ I.form = 2 ∨ I.form = 3 ∨ I.form = 4 ∨ I.form = 5 ∨ I.form = 6) with h | h | h | h | h | h | h
  · exact word_0 I m h w
  · exact word_1 I m h w
  · exact word_2 I m h w
  · exact word_3 I m h w
  · exact word_4 I m h w
  · exact word_5 I m h w
  · exact word_6 I m h w
end
end Go.Proofs.YtbhnkfhikjhaoaaDoor

/-
  A machine in memory: NEW.
-/
import Derived.Test.YtlgdlaohfkgkfaaGreatMacC
import Derived.Laws.BitsAllLaws
import Derived.Deep.RegionLaw
namespace Go.Proofs.YtlgdlaohfkgkfaaGreat
open Go.ChangeShapes Go.WideShapes Go.ChangeAt Go.RowKit
set_option linter.unusedVariables false
set_option linter.unusedSimpArgs false
theorem mdrewN (w : World) (n : Nat) : Below w.heap.size w (w.drewN n) := ⟨rfl, rfl, rfl, Nat.le_refl _, fun _ _ => rfl⟩
theorem and_up (a : Nat) (ha : a < 2 ^ 64) : a &&& 18446744073709551612 = a / 4 * 4 := by
  apply Nat.eq_of_testBit_eq
  intro i
  rw [show (18446744073709551612 : Nat) = (2 ^ 62 - 1) * 2 ^ 2 by decide, show a / 4 * 4 = a / 2 ^ 2 * 2 ^ 2 from rfl, Nat.testBit_and, Nat.testBit_mul_two_pow, Nat.testBit_mul_two_pow, Nat.testBit_two_pow_sub_one, Nat.testBit_div_two_pow]
  by_cases h : 2 ≤ i
  · by_cases h2 : i < 64
    · simp [h, show i - 2 < 62 by omega, show 2 + (i - 2) = i by omega]
    · have := Nat.testBit_lt_two_pow (x := a) (i := i) (Nat.lt_of_lt_of_le ha (Nat.pow_le_pow_right (by decide) (by omega)))
      simp [h, this, show 2 + (i - 2) = i by omega]
  · simp [h]
theorem up_bits (a : Nat) (ha : a < 4294967296) : bits BinOp.andNot IntKind.u64 ((a : Int) + 3) 3 = (((a + 3) / 4 * 4 : Nat) : Int) := by
  rw [show (a : Int) + 3 = ((a + 3 : Nat) : Int) by simp, show (3 : Int) = ((3 : Nat) : Int) from rfl, u64_andNot_nat _ _ (by omega) (by omega)]
  rw [show (18446744073709551615 - 3 : Nat) = 18446744073709551612 from rfl, and_up _ (by omega)]
def zerF (f : Nat → Int) (o k : Nat) (i : Nat) : Int := if o ≤ i ∧ i < o + k then 0 else f i
theorem zerF_step (f : Nat → Int) (o k : Nat) : zerF (upd f o 0) (o + 1) k = zerF f o (k + 1) := by
  funext i
  unfold zerF upd
  by_cases h : i = o
  · subst h
    rw [if_neg (by omega), if_pos rfl, if_pos (by omega)]
  · rw [if_neg h]
    by_cases h2 : o + 1 ≤ i ∧ i < o + 1 + k
    · rw [if_pos h2, if_pos (by omega)]
    · rw [if_neg h2, if_neg (by omega)]
theorem MAt.zero {B : Nat} {p : Mp} : ∀ (k o : Nat) (W : World) (m : Mc), MAt W B p m → o + k ≤ m.n → MAt (W.setCells p.g o (List.replicate k (.int .u8 0))) B p { m with f := zerF m.f o k }
  | 0, o, W, m, h, _ => by
    have e : zerF m.f o 0 = m.f := by funext i; unfold zerF; rw [if_neg (by omega)]
    rw [e]; exact h
  | k + 1, o, W, m, h, hk => by
    rw [List.replicate_succ, World.setCells]
    have h1 := h.setByte o (by omega) 0 (by omega)
    have h2 := MAt.zero k (o + 1) _ _ h1 (by show o + 1 + k ≤ m.n; omega)
    have e := zerF_step m.f o k
    rw [← e]
    exact h2
section
variable {w : World} {B : Nat} {p : Mp} {m : Mc}
theorem clear_run (h : MAt w B p m) (H E : Nat) (hle : H ≤ E) (hE : E ≤ m.n) : (Builtin.clear_ #[54] 0 #[.slice (if E = H then some ⟨p.g, 0, none⟩ else some ⟨p.g, H, none⟩) (E - H) (E - H)]).run Tryz.prog w = .ok (.tuple #[]) (w.setCells p.g H (List.replicate (E - H) (.int .u8 0))) := by
  have hz : ∀ w : World, (zeroValue 5).run Tryz.prog w = .ok (.int .u8 0) w := fun w => by
    obtain ⟨i, e1, e2⟩ := Option.map_eq_some_iff.1 (show (Tryz.prog.info? 5).map (·.zero) = some (some (.int .u8 0)) by kernel_rfl)
    simp [zeroValue, typeInfo, e1, e2]
  by_cases he : E = H
  · subst he
    rw [if_pos rfl, Nat.sub_self]
    simp [Builtin.clear_, run_underlying Tryz.underlying54, hz, World.setCells]
  · rw [if_neg he]
    exact Lib.run_clear_slice w 54 5 0 (.int .u8 0) Tryz.underlying54 hz rfl rfl p.g H (E - H) (E - H) (by omega) (fun j hj => by rw [h.fm _ (by omega)]; rfl) (fun j hj => h.ft _ (by omega))
set_option maxHeartbeats 4000000 in
theorem allot_no (h : MAt w B p m) (H a : Nat) (hH : m.heap = (H : Int)) (hHn : H ≤ m.n) (ha : m.cpu.r 0 = (a : Int)) (ha2 : a < 4294967296) (ht : m.cpu.r 14 = (m.n : Int)) (hno : m.n < H + (a + 3) / 4 * 4) :
    Calls Tryz.prog 43 #[.pointer (some ⟨p.b, 0, none⟩)] w fun e w' => e = .returned (.tuple #[]) ∧ MAt w' B p { m with kind := 4, code := 0 } ∧ Chg p w w' := by
  have hn := h.n1
  have k23 := h.hp
  have k0 := h.rg 0 (by omega)
  have k14 := h.rg 14 (by omega)
  have k22 := h.mem
  rw [hH] at k23
  rw [ha] at k0
  rw [ht] at k14
  have HU := Lib.hid (up_bits a ha2)
  have HA : Hid (∀ V, Below w.heap.size w V → Calls Tryz.prog 67 #[.pointer (some ⟨p.b, 0, none⟩), .int .i64 4, .int .u32 0] V fun e w' => e = .returned (.tuple #[]) ∧ MAt w' B p { m with kind := 4, code := 0 } ∧ Chg p V w') := Lib.hid fun V hV => halted_any (h.next hV) 4 0
  have hE : IntKind.u64.wrap ((H : Int) + bits BinOp.andNot IntKind.u64 ((a : Int) + 3) 3) = ((H + (a + 3) / 4 * 4 : Nat) : Int) := by
    rw [up_bits a ha2, show ((H : Int) + ((a + 3) / 4 * 4 : Nat)) = ((H + (a + 3) / 4 * 4 : Nat) : Int) by simp, IntKind.wrap_u64]
    omega
  have HE := Lib.hid hE
  clear hE
  generalize H + (a + 3) / 4 * 4 = E at *
  go_enter Tryz.func43, Tryz.ntmps43
  go_wp2_with fail
  go_quiet (fail)
  rw [HE.out]
  go_wp2_with (go_at_call 67; (with_reducible refine (HA.out _ (mdrewN _ _)).mono ?_); rintro e w1 ⟨rfl, hm, hc⟩)
  all_goals ((try simp only [Exit.inBlock, Exit.then]); refine bodyPost_ret (results_none rfl _ _ _) rfl ?_)
  all_goals exact ⟨rfl, hm, (Chg.refl p w).drewN _ |>.trans hc⟩
set_option maxHeartbeats 4000000 in
theorem allot_yes (h : MAt w B p m) (H a : Nat) (hH : m.heap = (H : Int)) (hHn : H ≤ m.n) (ha : m.cpu.r 0 = (a : Int)) (ha2 : a < 4294967296) (ht : m.cpu.r 14 = (m.n : Int)) (hyes : H + (a + 3) / 4 * 4 ≤ m.n) :
    Calls Tryz.prog 43 #[.pointer (some ⟨p.b, 0, none⟩)] w fun e w' => e = .returned (.tuple #[]) ∧ MAt w' B p { m with f := zerF m.f H ((a + 3) / 4 * 4), cpu := ansC' m.cpu H, heap := ((H + (a + 3) / 4 * 4 : Nat) : Int) } ∧ Chg p w w' := by
  have hn := h.n1
  have k23 := h.hp
  have k0 := h.rg 0 (by omega)
  have k14 := h.rg 14 (by omega)
  have k22 := h.mem
  rw [hH] at k23
  rw [ha] at k0
  rw [ht] at k14
  have hE : IntKind.u64.wrap ((H : Int) + bits BinOp.andNot IntKind.u64 ((a : Int) + 3) 3) = ((H + (a + 3) / 4 * 4 : Nat) : Int) := by
    rw [up_bits a ha2, show ((H : Int) + ((a + 3) / 4 * 4 : Nat)) = ((H + (a + 3) / 4 * 4 : Nat) : Int) by simp, IntKind.wrap_u64]
    omega
  have HE := Lib.hid hE
  clear hE
  generalize hk : (a + 3) / 4 * 4 = k at *
  have HK := Lib.hid hk
  clear hk
  generalize hee : H + k = E at *
  have HEE := Lib.hid hee
  have hle : H ≤ E := by omega
  clear hee
  go_enter Tryz.func43, Tryz.ntmps43
  go_wp2_with fail
  go_quiet (fail)
  rw [HE.out]
  have hm1 := (h.next (mdrewN w nq))
  have hg1 := (Chg.refl p w).drewN nq
  have HM1 := Lib.hid hm1
  generalize w.drewN nq = W1 at *
  have k23b := hm1.hp
  have k22b := hm1.mem
  rw [hH] at k23b
  have k14b := hm1.rg 14 (by omega)
  rw [ht] at k14b
  clear k23 k0 k14 k22
  go_wp2_with fail
  have hcl := clear_run hm1.drew H E hle (by omega)
  have ek : E - H = k := by have := HEE.out; omega
  have HEK := Lib.hid ek
  clear ek
  go_region_law fail
  all_goals
    have HM2 : Hid (MAt (W1.drew.setCells p.g H (List.replicate (E - H) (.int .u8 0))) B p { m with f := zerF m.f H k }) := Lib.hid (by
      have := MAt.zero (E - H) H _ m hm1.drew (by omega)
      rw [HEK.out] at this ⊢
      exact this)
    have HG2 := Lib.hid (Chg.setCells p.g (.inr rfl) (List.replicate (E - H) (.int .u8 0)) H _ hg1.drew)
    clear hcl k23b k22b k14b hm1 HM1 hg1
    generalize W1.drew.setCells p.g H (List.replicate (E - H) (.int .u8 0)) = W2 at *
    have k23c : W2.cell? ⟨p.b, 23, none⟩ = some (.int .u32 (H : Int)) := by rw [← hH]; exact HM2.out.hp
    have HA := Lib.hid (answer_any HM2.out (H : Int))
    go_wp2_with (go_at_call 72; (with_reducible refine HA.out.mono ?_); rintro e w3 ⟨rfl, hm3, hc3⟩; have HM3 := Lib.hid hm3; have HG3 := Lib.hid (HG2.out.trans hc3); clear hc3 k23c; have k23d := hm3.hp; have z23 := hm3.fz 23 (by omega); clear hm3)
    all_goals go_end0
    all_goals first
      | exact ⟨rfl, HM3.out.put 23 [.int .u32 (E : Int)] { m with f := zerF m.f H k, cpu := ansC' m.cpu H, heap := (E : Int) } (by simp) rfl rfl rfl, HG3.out.setCell _ (.inl rfl)⟩
      | exact ⟨rfl, HM3.out.put 23 [.int .u32 (H : Int)] { m with f := zerF m.f H k, cpu := ansC' m.cpu H, heap := (H : Int) } (by simp) rfl rfl rfl, HG3.out.setCell _ (.inl rfl)⟩
end
end Go.Proofs.YtlgdlaohfkgkfaaGreat

/-
  KeySteps: for every word, any two at most 3000 bytes: byte by byte key.Step is as the chapter says, key.On is all of them, and key.Same tells whether the fingerprints are one.
-/
import Derived.Test.YtojifffenfmklaaKeyB
import Derived.Deep.DeepHandedRow
import Derived.StillTactics
import Derived.StillTailTactics
import Derived.Deep.QuietTactic
import Derived.BigQuiet
import Derived.Deep.RegionHeld3
import Derived.WalkSpells
namespace Go.Proofs.Ytojifffenfmklaa.keySteps
open Go.ChangeShapes Go.WideShapes Go.ChangeAt Go.RowKit
set_option linter.unusedVariables false

theorem walk (a0 : Int) (a1 : Option Addr) (len1 cap1 : Nat) (z1 : List Int) (a2 : Option Addr) (len2 cap2 : Nat) (z2 : List Int) (w : World)
    (w0 : (Lit.int .u32 a0).wf = true) (w1 : IsRow .u8 w a1 len1 cap1 z1) (w2 : IsRow .u8 w a2 len2 cap2 z2) :
    Calls Try.prog 4 #[.int .u32 a0, .slice a1 len1 cap1, .slice a2 len2 cap2] w fun e w' => e = .returned (.bool true) ∧ Below w.heap.size w w' := by
  obtain ⟨x0, x1⟩ := bd_u32 w0
  have W1 := Lib.hid w1
  have W2 := Lib.hid w2
  clear w0 w1 w2
  go_enter Try.func4, Try.ntmps4
  go_wp2_with (go_at_call 10; refine (known6_any _).mono ?_; rintro e w' ⟨rfl, b1⟩)
  rotate_left
  · go_loopw [7, 8] (fun n i wr => ∃ j : Nat, j ≤ len1 ∧ i = .int .i64 j ∧ n = .int .u32 (fnv a0 (z1.take j)) ∧ Below w.heap.size w wr) (fun _ i _ => len1 - (intOf i).toNat)
    case atStart => exact ⟨0, Nat.zero_le _, rfl, by simp [fnv], Below.refl _ _⟩
    case round =>
      obtain ⟨j, hj, rfl, rfl, hb⟩ := hrel
      have hkb := fnv_bd a0 x0 x1 (z1.take j)
      by_cases hlt : j < len1
      · obtain ⟨x, rfl, hx, hcell⟩ := W1.out.2.2.2.2.2 (by omega)
        have hc : wr.cell? (x.add j) = some (.int .u8 (nth z1 j)) := by
          rw [hb.cell (by rw [block_add]; exact hx)]; exact hcell j hlt
        have hz := W1.out.bytes j
        have HS : Hid (fnv a0 (z1.take (j + 1)) = step (fnv a0 (z1.take j)) (nth z1 j)) := Lib.hid (fnv_snoc a0 z1 j (by rw [W1.out.1]; exact hlt))
        clear hcell
        generalize nth z1 j = z at *
        generalize fnv a0 (z1.take j) = f at *
        have hstep := step_bd f z
        have i0 : (0 : Int) ≤ (j : Int) := by omega
        have i1 : (j : Int) < (len1 : Int) := by omega
        go_wp2_with fail
        have hbd := hb.drew
        have hbs := hb.size
        go_region_held3 (fun w' => Below w.heap.size w w' ∧ w'.cell? (x.add j) = some (.int .u8 z)) (first | go_keep | (refine ⟨hbd.trans (bs.mono (by simp; omega)), ?_⟩; rw [bs.cell (by rw [block_add]; simp; omega)]; simpa using hc)) ((go_at_call 14; refine (step_any _ _ (by omega) (by omega) (by omega) (by omega) _).mono ?_; rintro e w' ⟨rfl, bs⟩))
        rename_i hHeld
        obtain ⟨hb2, hc2⟩ := hHeld
        have E : (step f z != IntKind.u32.wrap (IntKind.u32.wrap (IntKind.u32.wrap (16777619 * f) + IntKind.u32.wrap z) + 1)) = false := by
          simp only [bne_eq_false_iff_eq, IntKind.wrap_u32, step, w32]; omega
        rw [E]
        go_wp2_with (go_at_call 14; refine (step_any _ _ (by omega) (by omega) (by omega) (by omega) _).mono ?_; rintro e w2 ⟨rfl, bs2⟩)
        go_roundw
        case rel => exact ⟨j + 1, by omega, by go_num, by rw [HS.out], hb2.trans (bs2.mono hb2.size)⟩
        case measure => simp [intOf]; omega
      · have H1 := Lib.hid (W1.out.2.2.2.2.below hb)
        have H2 := Lib.hid (W2.out.2.2.2.2)
        have hjn : j = len1 := by omega
        have HZ : Hid (fnv a0 (z1.take j) = fnv a0 z1) := Lib.hid (by rw [List.take_of_length_le (by rw [W1.out.1]; omega)])
        rw [HZ.out]
        clear hjn HZ
        go_wp2_with fail
        refine (on_any a0 a1 len1 cap1 z1 x0 x1 wr (H1.out.more hb.size) W1.out.bytes (by unfold maxLen; omega)).mono ?_
        rintro e w2 ⟨rfl, b2⟩
        have B2 := hb.trans (b2.mono hb.size)
        have S1 := Lib.hid (W1.out.2.2.2.2.below B2)
        have S2 := Lib.hid (W2.out.2.2.2.2.below B2)
        clear b2 hb H1 H2
        generalize fnv a0 z1 = f at *
        go_wp2_with fail
        refine (same_any a1 len1 cap1 z1 a2 len2 cap2 z2 w2 (S1.out.more B2.size) (S2.out.more B2.size) W1.out.bytes W2.out.bytes (by unfold maxLen; omega) (by unfold maxLen; omega)).mono ?_
        rintro e w3 ⟨rfl, b3⟩
        have B3 := B2.trans (b3.mono B2.size)
        have T1 := Lib.hid (W1.out.2.2.2.2.below B3)
        have T2 := Lib.hid (W2.out.2.2.2.2.below B3)
        clear b3 B2 S1 S2
        generalize hF1 : fnv 2166136261 z1 = F1 at *
        generalize hF2 : fnv 2166136261 z2 = F2 at *
        have HF1 := Lib.hid hF1
        have HF2 := Lib.hid hF2
        clear hF1 hF2
        go_wp2_with fail
        refine (rkey_any a1 len1 cap1 z1 w3 (T1.out.more B3.size) W1.out.bytes (by unfold maxLen; omega)).mono ?_
        rintro e w4 ⟨rfl, rfl⟩
        rw [HF1.out]
        go_wp2_with fail
        refine (rkey_any a2 len2 cap2 z2 w3 (T2.out.more B3.size) W2.out.bytes (by unfold maxLen; omega)).mono ?_
        rintro e w4 ⟨rfl, rfl⟩
        rw [HF2.out]
        go_wp2_with (go_at_call 10; refine (known6_any _).mono ?_; rintro e w' ⟨rfl, b1⟩)
        go_ret
        exact ⟨rfl, B3.trans (b1.mono B3.size)⟩
  all_goals (go_ret; exact ⟨rfl, b1⟩)
theorem own : ownKnob Try.prog.godebug = none := by kernel_rfl
theorem laidOut : laidOutB Try.prog = true := by kernel_rfl
theorem contract (H : Type) (enc : TypeId × Value → H) (W : World) (base : Nat) (args : Array Value) (ds gs : List (DataW H)) (before : List MemPlace)
    (hval : ∀ (j : Nat) t v, Try.f4.params[j]? = some t → args[j]? = some v → Value.okWide Try.prog W .any base t v)
    (hW : DataW.Whole enc Try.prog Try.f4.params.toList Rows.keyStepsSpec.vars false W args.toList ds gs before) :
    Calls Try.prog 4 args W fun e W' => ∃ v, e = .returned v ∧ Rows.keyStepsSpec.post enc Try.prog Try.f4 false true false false W args v W' := by
  have hW' := hW
  obtain ⟨p, q, hA0, hV, rfl, hfz, hnd⟩ := hW
  have hA : DataW.TrodAll enc Try.prog W 0 (fun _ => true) true Try.f4.params.toList args.toList ds p := hA0
  rw [Try.params4] at hA hval
  obtain ⟨v0, vs0, d0, ds0, p0, q0, hargs, rfl, rfl, h0, r0⟩ := trodAll_cons hA
  obtain ⟨v1, vs1, d1, ds1, p1, q1, rfl, rfl, rfl, h1, r1⟩ := trodAll_cons r0
  obtain ⟨v2, vs2, d2, ds2, p2, q2, rfl, rfl, rfl, h2, r2⟩ := trodAll_cons r1
  obtain ⟨rfl, rfl, rfl⟩ := trodAll_nil r2
  obtain rfl : args = #[v0, v1, v2] := by cases args; simp_all
  obtain ⟨rfl, rfl⟩ := trodVars_none hV
  obtain ⟨a0, rfl, rfl, rfl, w0⟩ := open_int Try.underlying27 (hval 0 27 v0 rfl rfl) h0
  obtain ⟨a1, len1, cap1, rfl⟩ := okWide_slice Try.underlying25 (hval 1 25 v1 rfl rfl)
  have k1 := h1
  have lt1 : ∀ x ∈ p1, x.block < W.heap.size := by obtain ⟨m, hm⟩ := k1; exact DataW.trod_lt m _ _ _ hm
  obtain ⟨z1, w1⟩ := isRow_of Try.underlying25 Try.underlying5 (by kernel_rfl) h1
  obtain ⟨a2, len2, cap2, rfl⟩ := okWide_slice Try.underlying25 (hval 2 25 v2 rfl rfl)
  have k2 := h2
  have lt2 : ∀ x ∈ p2, x.block < W.heap.size := by obtain ⟨m, hm⟩ := k2; exact DataW.trod_lt m _ _ _ hm
  obtain ⟨z2, w2⟩ := isRow_of Try.underlying25 Try.underlying5 (by kernel_rfl) h2
  clear hA0
  refine (walk a0 a1 len1 cap1 z1 a2 len2 cap2 z2 W w0 w1 w2).mono fun e W' ⟨he, bel⟩ => ?_
  subst he
  exact ⟨_, rfl, _, _, _, [], _, [], hW', trodAll_mk1 (shut_bool Try.underlying4 _), (trodAll_cons_mk (shut_int Try.underlying27 w0) (trodAll_cons_mk (Below.trod laidOut (by kernel_rfl) (of_decide_eq_true (by kernel_rfl)) k1 bel lt1) (trodAll_cons_mk (Below.trod laidOut (by kernel_rfl) (of_decide_eq_true (by kernel_rfl)) k2 bel lt2) trodAll_mk0))), rfl, bel.frame _, fun h => by cases h⟩
set_option maxRecDepth 100000 in
theorem lifted (os : Os) (started : os.Started) (H : Type) (enc : TypeId × Value → H) :
    ReturnsInHanded {} Try.checked os 4 .any (Rows.keyStepsSpec.pre6 enc Try.prog Try.f4 Rows.keyStepsRow.domain false) (Rows.keyStepsSpec.post enc Try.prog Try.f4 false true false false) := by
  refine returnsInHanded_of_change (C := Try.checked) own started (by kernel_rfl) Try.func4
    (ChangeSpec.witness6 (enc := enc) (C := Try.checked) false ⟨#[], #[.int .u32 0, .slice none 0 0, .slice none 0 0], []⟩ 8 (by kernel_rfl) (by kernel_rfl) (by kernel_rfl) (by kernel_rfl)) ?_
  intro W base args ds gs before hval hW hcnd _
  exact contract H enc W base args ds gs before hval hW
theorem said : Rows.KeyStepsSaid :=
  OpenClaim.holds_of_wide 4 Try.f4 rfl rfl rfl rfl rfl rfl rfl ⟨rfl, rfl, rfl, rfl, rfl⟩ rfl rfl rfl rfl rfl (by kernel_rfl) Try.func4 (by kernel_rfl)
    (of_decide_eq_true (by kernel_rfl)) (by unfold Func.isWrapper; first | (rw [if_pos (by decide +kernel)]; kernel_rfl) | (rw [if_neg (by decide +kernel)]; exact ⟨rfl, rfl⟩))
    (fun os started H enc _ => lifted os started H enc)
theorem proved : Rows.KeyStepsSaid := said
end Go.Proofs.Ytojifffenfmklaa.keySteps

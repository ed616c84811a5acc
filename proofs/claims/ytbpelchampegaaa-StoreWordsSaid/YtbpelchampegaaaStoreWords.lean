/-
  StoreWords: for any at most 3000 bytes, any place, any word: a word is written and read as its four bytes are, the lowest first, wherever a rider stands. No condition.
-/
import Derived.Test.YtbpelchampegaaaStoreM
import Derived.Deep.Cut
namespace Go.Proofs.Ytbpelchampegaaa.storeWords
open Go.ChangeShapes Go.WideShapes Go.ChangeAt Go.RowKit
set_option linter.unusedVariables false
set_option maxHeartbeats 4000000 in
set_option maxRecDepth 4000 in
theorem walk (a0 : Option Addr) (len0 cap0 : Nat) (z0 : List Int) (a1 a2 : Int) (w : World) (w0 : IsRow .u8 w a0 len0 cap0 z0) (w1 : (Lit.int .u32 a1).wf = true) (w2 : (Lit.int .u32 a2).wf = true) :
    Calls Try.prog 5 #[.slice a0 len0 cap0, .int .u32 a1, .int .u32 a2] w fun e w' => e = .returned (.bool true) ∧ Below w.heap.size w w' := by
  have hz : ∀ z ∈ z0, 0 ≤ z ∧ z ≤ 255 := fun z h => bd_u8 (w0.2.2.2.1 z h)
  have W0 := Lib.hid w0
  have HZ := Lib.hid hz
  have hl0 : len0 ≤ maxLen := Nat.le_trans w0.2.1 w0.2.2.1
  have KN := Lib.hid known2_any
  have b1 := bd_u32 w1
  have b2 := bd_u32 w2
  clear w0 hz w1 w2
  by_cases h3 : 3000 < len0
  · unfold maxLen at hl0
    go_enter Try.func5, Try.ntmps5
    go_wp2_with (go_at_call 6; refine (KN.out _).mono ?_; rintro e w' ⟨rfl, hb⟩)
    go_ret
    exact ⟨rfl, hb⟩
  · have NW := Lib.hid (new_any 8000 (by omega) w)
    have hlz : z0.length = len0 := W0.out.1
    obtain ⟨S, hS⟩ : ∃ S, seekN a1 z0.length = S := ⟨_, rfl⟩
    have hSl : S ≤ len0 := by rw [← hS]; unfold seekN; split <;> omega
    have hS2 : (S : Int) ≤ 3000 := by omega
    have HB0 : Hid (Below w.heap.size w w) := Lib.hid (Below.refl _ _)
    go_enter Try.func5, Try.ntmps5
    go_wp2_with (first
      | (go_at_call 9; refine (num2_any _ _).mono ?_; rintro e w' ⟨rfl, rfl⟩)
      | (go_at_call 8; refine NW.out.mono ?_; rintro e w3 ⟨p, rfl, ⟨mb, g, hs⟩, hb⟩; have HS1 : Hid (Sto w3 w.heap.size p 8000 0 [] [] []) := Lib.hid (sto_new hs hb.size); have HB1 := Lib.hid hb; clear hs hb HB0 NW)
      | (go_at_call 10; refine (Sto.put HS1.out rfl (nm := ⟨#[97]⟩) (by decide) (may_a _) (by simp) (by simp) ((W0.out.2.2.2.2.below HB1.out).more HB1.out.size) HZ.out (by omega)).mono ?_; rintro e w4 ⟨rfl, hs, hb⟩; have HS2 : Hid (Sto w4 w.heap.size p 8000 (0 + len0) [z0] [] [⟨#[97]⟩]) := Lib.hid hs; have HB2 := Lib.hid (HB1.out.trans hb); clear hs hb HS1 HB1)
      | (go_at_call 10; refine (Sto.put HS2.out rfl (nm := ⟨#[98]⟩) (by decide) (may_b _) (by simp) (by simp) ((W0.out.2.2.2.2.below HB2.out).more HB2.out.size) HZ.out (by omega)).mono ?_; rintro e w5 ⟨rfl, hs, hb⟩; have HS3 : Hid (Sto w5 w.heap.size p 8000 (0 + len0 + len0) [z0, z0] [] [⟨#[97]⟩, ⟨#[98]⟩]) := Lib.hid hs; have HB3 := Lib.hid (HB2.out.trans hb); clear hs hb HS2 HB2)
      | (go_at_call 11; refine (Sto.old HS3.out (k := 0) (nm := ⟨#[97]⟩) (by rfl) (by decide) (by simp)).mono ?_; rintro e w6 ⟨he, hs, hb⟩; obtain rfl : e = .returned (.int .i64 1) := he; have HS4 : Hid (Sto w6 w.heap.size p 8000 (0 + len0 + len0) [z0, z0] [(0, 0)] [⟨#[97]⟩, ⟨#[98]⟩]) := Lib.hid hs; have HB4 := Lib.hid (HB3.out.trans hb); clear hs hb HS3 HB3)
      | (go_at_call 11; refine (Sto.old HS4.out (k := 1) (nm := ⟨#[98]⟩) (by rfl) (by decide) (by simp)).mono ?_; rintro e w7 ⟨he, hs, hb⟩; obtain rfl : e = .returned (.int .i64 2) := he; have HS5 : Hid (Sto w7 w.heap.size p 8000 (0 + len0 + len0) [z0, z0] [(0, 0), (1, 0)] [⟨#[97]⟩, ⟨#[98]⟩]) := Lib.hid hs; have HB5 := Lib.hid (HB4.out.trans hb); clear hs hb HS4 HB4)
      | (go_at_call 21; refine (Sto.seek HS5.out (i := 0) (k := 0) (a := 0) (by rfl) (by rfl) (xs := z0) (by rfl) a1 b1.1 (by omega)).mono ?_; rintro e w8 ⟨rfl, hs, hb⟩; rw [hS] at hs; have HS6 : Hid (Sto w8 w.heap.size p 8000 (0 + len0 + len0) [z0, z0] [(0, S), (1, 0)] [⟨#[97]⟩, ⟨#[98]⟩]) := Lib.hid hs; have HB6 := Lib.hid (HB5.out.trans hb); clear hs hb HS5 HB5)
      | (go_at_call 21; refine (Sto.seek HS6.out (i := 1) (k := 1) (a := 0) (by rfl) (by rfl) (xs := z0) (by rfl) a1 b1.1 (by omega)).mono ?_; rintro e w9 ⟨rfl, hs, hb⟩; rw [hS] at hs; have HS7 : Hid (Sto w9 w.heap.size p 8000 (0 + len0 + len0) [z0, z0] [(0, S), (1, S)] [⟨#[97]⟩, ⟨#[98]⟩]) := Lib.hid hs; have HB7 := Lib.hid (HB6.out.trans hb); clear hs hb HS6 HB6)
      | (go_at_call 23; refine (Sto.at_ HS7.out (i := 0) (k := 0) (a := S) (by rfl) (by rfl)).mono ?_; rintro e w' ⟨rfl, rfl⟩)
      | (go_at_call 14; refine (Sto.wword HS7.out (i := 0) (k := 0) (a := S) (by rfl) (by rfl) (xs := z0) (by rfl) (by omega) a2 b2.1 b2.2 (by omega) (by omega)).mono ?_; rintro e w10 ⟨rfl, hs, hb⟩; have HS8 : Hid (Sto w10 w.heap.size p 8000 (0 + len0 + len0 + (S + 4 - z0.length)) [wroteW z0 S a2, z0] [(0, S + 4), (1, S)] [⟨#[97]⟩, ⟨#[98]⟩]) := Lib.hid hs; have HB8 := Lib.hid (HB7.out.trans hb); clear hs hb HS7 HB7))
    clear hS
    go_loopw [12] (fun x wr => ∃ (j : Nat), j ≤ 4 ∧ x = .int .i64 j ∧ Hid (Sto wr w.heap.size p 8000 (0 + len0 + len0 + (S + 4 - z0.length) + (S + j - z0.length)) [wroteW z0 S a2, wroteP z0 S a2 j] [(0, S + 4), (1, S + j)] [⟨#[97]⟩, ⟨#[98]⟩] ∧ Below w.heap.size w wr)) (fun x _ => 4 - (intOf x).toNat)
    case atStart => exact ⟨0, by omega, rfl, Lib.hid ⟨by rw [show 0 + len0 + len0 + (S + 4 - z0.length) + (S + 0 - z0.length) = 0 + len0 + len0 + (S + 4 - z0.length) by omega]; exact HS8.out, HB8.out⟩⟩
    case round =>
      obtain ⟨j, hj, rfl, HJ⟩ := hrel
      clear HS8 HB8
      by_cases hlt : j < 4
      · have hwl := wroteP_len z0 S a2 (by omega) j
        have HC := fun z (z0' : 0 ≤ z) (z1 : z ≤ 255) => Sto.write HJ.out.1 (f := 2) (i := 1) (k := 1) (a := S + j) (by rfl) (by rfl) (xs := wroteP z0 S a2 j) (by rfl) (by omega) z z0' z1 (by omega) (by omega)
        have HC := Lib.hid HC
        rcases (by omega : j = 0 ∨ j = 1 ∨ j = 2 ∨ j = 3) with rfl | rfl | rfl | rfl
        all_goals
          go_wp2_with (first | (go_at_call 9; refine (num2_any _ _).mono ?_; rintro e w' ⟨rfl, rfl⟩) | (go_at_call 13; refine (HC.out _ (by omega) (by omega)).mono ?_; rintro e w2 ⟨rfl, hs, hb⟩; have HN := Lib.hid (And.intro hs (HJ.out.2.trans hb)); clear hs hb))
        · exact ⟨⟨0 + 1, by omega, by rfl, Lib.hid ⟨wroteP_next HN.out.1 rfl (by omega) (by simp), HN.out.2⟩⟩, by simp [intOf]⟩
        · exact ⟨⟨1 + 1, by omega, by rfl, Lib.hid ⟨wroteP_next HN.out.1 rfl (by omega) (by simp), HN.out.2⟩⟩, by simp [intOf]⟩
        · exact ⟨⟨2 + 1, by omega, by rfl, Lib.hid ⟨wroteP_next HN.out.1 rfl (by omega) (by simp), HN.out.2⟩⟩, by simp [intOf]⟩
        · exact ⟨⟨3 + 1, by omega, by rfl, Lib.hid ⟨wroteP_next HN.out.1 rfl (by omega) (by simp; omega), HN.out.2⟩⟩, by simp [intOf]⟩
      · obtain rfl : j = 4 := by omega
        have he := wroteP_four z0 S a2
        have HX : Hid (Sto wr w.heap.size p 8000 (0 + len0 + len0 + (S + 4 - z0.length) + (S + 4 - z0.length)) [wroteW z0 S a2, wroteW z0 S a2] [(0, S + 4), (1, S + 4)] [⟨#[97]⟩, ⟨#[98]⟩]) := Lib.hid (by rw [he] at HJ; exact HJ.out.1)
        have HB := Lib.hid HJ.out.2
        clear HJ he
        have hle : S ≤ z0.length := by omega
        have hXl := wroteW_len z0 S a2 hle
        have hX4 := leb_wroteW z0 S a2 hle b2.1 b2.2
        have hX0 : nth (wroteW z0 S a2) (S + 0) = a2 % 256 := by rw [nth_wroteW z0 S a2 hle]; simp
        have hX1 : nth (wroteW z0 S a2) (S + 1) = a2 / 256 % 256 := by rw [nth_wroteW z0 S a2 hle]; simp
        have hX2 : nth (wroteW z0 S a2) (S + 2) = a2 / 65536 % 256 := by rw [nth_wroteW z0 S a2 hle]; simp
        have hX3 : nth (wroteW z0 S a2) (S + 3) = a2 / 16777216 % 256 := by rw [nth_wroteW z0 S a2 hle]; simp
        obtain ⟨q0, e0⟩ : ∃ q, a2 % 256 = q := ⟨_, rfl⟩
        obtain ⟨q1, e1⟩ : ∃ q, a2 / 256 % 256 = q := ⟨_, rfl⟩
        obtain ⟨q2, e2⟩ : ∃ q, a2 / 65536 % 256 = q := ⟨_, rfl⟩
        obtain ⟨q3, e3⟩ : ∃ q, a2 / 16777216 % 256 = q := ⟨_, rfl⟩
        rw [e0] at hX0
        rw [e1] at hX1
        rw [e2] at hX2
        rw [e3] at hX3
        have hq : 0 ≤ q0 ∧ q0 ≤ 255 ∧ 0 ≤ q1 ∧ q1 ≤ 255 ∧ 0 ≤ q2 ∧ q2 ≤ 255 ∧ 0 ≤ q3 ∧ q3 ≤ 255 := by omega
        have HSUM : Hid (a2 = q0 + q1 * 256 + q2 * 65536 + q3 * 16777216) := Lib.hid (by omega)
        clear e0 e1 e2 e3
        obtain ⟨q00, q01, q10, q11, q20, q21, q30, q31⟩ := hq
        have HXS := Lib.hid (And.intro hX4 (And.intro hX0 (And.intro hX1 (And.intro hX2 hX3))))
        clear hX4 hX0 hX1 hX2 hX3
        generalize wroteW z0 S a2 = X at *
        have hXu : X.length ≤ 3004 := by omega
        have hXS : S + 4 ≤ X.length := by omega
        generalize 0 + len0 + len0 + (S + 4 - z0.length) + (S + 4 - z0.length) = U at *
        have hsk : seekN (S : Int) X.length = S := by unfold seekN; rw [if_pos (by omega)]; omega
        have HSK := Lib.hid hsk
        clear hsk hXl
        go_upto_region 25 with (first
          | (go_at_call 9; refine (num2_any _ _).mono ?_; rintro e w' ⟨rfl, rfl⟩)
          | (go_at_call 15; refine (Sto.get HX.out (k := 0) (nm := ⟨#[97]⟩) (by rfl) (by decide) (may_a _) (xs := X) (by rfl)).mono ?_; rintro e w2 ⟨v, rfl, ho, hb⟩; obtain ⟨A1, c1, rfl, -, hr⟩ := rd_own ho; have HX1 := Lib.hid (HX.out.below hb); have HR1 := Lib.hid hr; have HB1 := Lib.hid (HB.out.trans (hb.mono HB.out.size)); clear hr hb ho HX HB)
          | (go_at_call 15; refine (Sto.get HX1.out (k := 1) (nm := ⟨#[98]⟩) (by rfl) (by decide) (may_b _) (xs := X) (by rfl)).mono ?_; rintro e w3 ⟨v, rfl, ho, hb⟩; obtain ⟨A2, c2, rfl, -, hr⟩ := rd_own ho; have HX2 := Lib.hid (HX1.out.below hb); have cv2 := conv_rd hr c2; have cv1 := conv_rd (HR1.out.below hb) c1; have HB2 := Lib.hid (HB1.out.trans (hb.mono HB1.out.size)); clear hr hb ho HX1 HR1 HB1)
          | (go_at_call 23; refine (Sto.at_ HX2.out (i := 0) (k := 0) (a := S + 4) (by rfl) (by rfl)).mono ?_; rintro e w' ⟨rfl, rfl⟩)
          | (go_at_call 23; refine (Sto.at_ HX2.out (i := 1) (k := 1) (a := S + 4) (by rfl) (by rfl)).mono ?_; rintro e w' ⟨rfl, rfl⟩)
          | (go_at_call 21; refine (Sto.seek HX2.out (i := 0) (k := 0) (a := S + 4) (by rfl) (by rfl) (xs := X) (by rfl) (S : Int) (by omega) (by omega)).mono ?_; rintro e w4 ⟨rfl, hs, hb⟩; rw [HSK.out] at hs; have HX3 : Hid (Sto w4 w.heap.size p 8000 U [X, X] [(0, S), (1, S + 4)] [⟨#[97]⟩, ⟨#[98]⟩]) := Lib.hid hs; have HB3 := Lib.hid (HB2.out.trans hb); clear hs hb HX2 HB2 cv1 cv2)
          | (go_at_call 21; refine (Sto.seek HX3.out (i := 1) (k := 1) (a := S + 4) (by rfl) (by rfl) (xs := X) (by rfl) (S : Int) (by omega) (by omega)).mono ?_; rintro e w4 ⟨rfl, hs, hb⟩; rw [HSK.out] at hs; have HX4 : Hid (Sto w4 w.heap.size p 8000 U [X, X] [(0, S), (1, S)] [⟨#[97]⟩, ⟨#[98]⟩]) := Lib.hid hs; have HB4 := Lib.hid (HB3.out.trans hb); clear hs hb HX3 HB3)
          | (go_at_call 22; refine (Sto.rdword HX4.out (i := 0) (k := 0) (a := S) (by rfl) (by rfl) (xs := X) (by rfl) (by omega)).mono ?_; rintro e w4 ⟨he, hs, hb⟩; rw [HXS.out.1] at he; subst he; have HY0 : Hid (Sto w4 w.heap.size p 8000 U [X, X] [(0, S + 4), (1, S + 0)] [⟨#[97]⟩, ⟨#[98]⟩]) := Lib.hid hs; have HC0 := Lib.hid (HB4.out.trans hb); clear hs hb HX4 HB4)
          | (go_at_call 20; refine (Sto.read HY0.out (i := 1) (k := 1) (a := S + 0) (by rfl) (by rfl) (xs := X) (by rfl) (by omega)).mono ?_; rintro e w4 ⟨he, hs, hb⟩; rw [HXS.out.2.1] at he; subst he; have HY1 : Hid (Sto w4 w.heap.size p 8000 U [X, X] [(0, S + 4), (1, S + 1)] [⟨#[97]⟩, ⟨#[98]⟩]) := Lib.hid hs; have HC1 := Lib.hid (HC0.out.trans hb); clear hs hb HY0 HC0)
          | (go_at_call 20; refine (Sto.read HY1.out (i := 1) (k := 1) (a := S + 1) (by rfl) (by rfl) (xs := X) (by rfl) (by omega)).mono ?_; rintro e w4 ⟨he, hs, hb⟩; rw [HXS.out.2.2.1] at he; subst he; have HY2 : Hid (Sto w4 w.heap.size p 8000 U [X, X] [(0, S + 4), (1, S + 2)] [⟨#[97]⟩, ⟨#[98]⟩]) := Lib.hid hs; have HC2 := Lib.hid (HC1.out.trans hb); clear hs hb HY1 HC1)
          | (go_at_call 20; refine (Sto.read HY2.out (i := 1) (k := 1) (a := S + 2) (by rfl) (by rfl) (xs := X) (by rfl) (by omega)).mono ?_; rintro e w4 ⟨he, hs, hb⟩; rw [HXS.out.2.2.2.1] at he; subst he; have HY3 : Hid (Sto w4 w.heap.size p 8000 U [X, X] [(0, S + 4), (1, S + 3)] [⟨#[97]⟩, ⟨#[98]⟩]) := Lib.hid hs; have HC3 := Lib.hid (HC2.out.trans hb); clear hs hb HY2 HC2)
          | (go_at_call 20; refine (Sto.read HY3.out (i := 1) (k := 1) (a := S + 3) (by rfl) (by rfl) (xs := X) (by rfl) (by omega)).mono ?_; rintro e w4 ⟨he, hs, hb⟩; rw [HXS.out.2.2.2.2] at he; subst he; have HY4 : Hid (Sto w4 w.heap.size p 8000 U [X, X] [(0, S + 4), (1, S + 4)] [⟨#[97]⟩, ⟨#[98]⟩]) := Lib.hid hs; have HC4 := Lib.hid (HC3.out.trans hb); clear hs hb HY3 HC3))
        rw [show q0 + q1 * 256 + q2 * 65536 + q3 * 16777216 = a2 from HSUM.out.symm]
        go_wp2_with (first
          | (go_at_call 23; refine (Sto.at_ HY4.out (i := 0) (k := 0) (a := S + 4) (by rfl) (by rfl)).mono ?_; rintro e w' ⟨rfl, rfl⟩)
          | (go_at_call 23; refine (Sto.at_ HY4.out (i := 1) (k := 1) (a := S + 4) (by rfl) (by rfl)).mono ?_; rintro e w' ⟨rfl, rfl⟩)
          | (go_at_call 6; refine (KN.out _).mono ?_; rintro e w5 ⟨rfl, hb5⟩))
        go_ret
        exact ⟨rfl, HC4.out.trans (hb5.mono HC4.out.size)⟩
theorem own : ownKnob Try.prog.godebug = none := by kernel_rfl
theorem laidOut : laidOutB Try.prog = true := by kernel_rfl
set_option maxRecDepth 1000000 in
theorem contract (H : Type) (enc : TypeId × Value → H) (W : World) (base : Nat) (args : Array Value) (ds gs : List (DataW H)) (before : List MemPlace)
    (hval : ∀ (j : Nat) t v, Try.f5.params[j]? = some t → args[j]? = some v → Value.okWide Try.prog W .any base t v)
    (hW : DataW.Whole enc Try.prog Try.f5.params.toList Rows.storeWordsSpec.vars false W args.toList ds gs before) :
    Calls Try.prog 5 args W fun e W' => ∃ v, e = .returned v ∧ Rows.storeWordsSpec.post enc Try.prog Try.f5 false true false false W args v W' := by
  have hW' := hW
  obtain ⟨p, q, hA0, hV, rfl, hfz, hnd⟩ := hW
  have hA : DataW.TrodAll enc Try.prog W 0 (fun _ => true) true Try.f5.params.toList args.toList ds p := hA0
  rw [Try.params5] at hA hval
  obtain ⟨v0, vs0, d0, ds0, p0, q0, hargs, rfl, rfl, h0, r0⟩ := trodAll_cons hA
  obtain ⟨v1, vs1, d1, ds1, p1, q1, rfl, rfl, rfl, h1, r1⟩ := trodAll_cons r0
  obtain ⟨v2, vs2, d2, ds2, p2, q2, rfl, rfl, rfl, h2, r2⟩ := trodAll_cons r1
  obtain ⟨rfl, rfl, rfl⟩ := trodAll_nil r2
  obtain rfl : args = #[v0, v1, v2] := by cases args; simp_all
  obtain ⟨rfl, rfl⟩ := trodVars_none hV
  obtain ⟨a0, len0, cap0, rfl⟩ := okWide_slice Try.underlying22 (hval 0 22 v0 rfl rfl)
  have k0 := h0
  have lt0 : ∀ x ∈ p0, x.block < W.heap.size := by obtain ⟨m, hm⟩ := k0; exact DataW.trod_lt m _ _ _ hm
  obtain ⟨z0, w0⟩ := isRow_of Try.underlying22 Try.underlying5 (by kernel_rfl) h0
  obtain ⟨a1, rfl, rfl, rfl, w1⟩ := open_int Try.underlying35 (hval 1 35 v1 rfl rfl) h1
  obtain ⟨a2, rfl, rfl, rfl, w2⟩ := open_int Try.underlying35 (hval 2 35 v2 rfl rfl) h2
  clear hA0
  refine (walk a0 len0 cap0 z0 a1 a2 W w0 w1 w2).mono fun e W' ⟨he, bel⟩ => ?_
  subst he
  exact ⟨_, rfl, _, _, _, [], _, [], hW', trodAll_mk1 (shut_bool Try.underlying4 _), (trodAll_cons_mk (Below.trod laidOut (by kernel_rfl) (of_decide_eq_true (by kernel_rfl)) k0 bel lt0) (trodAll_cons_mk (shut_int Try.underlying35 w1) (trodAll_cons_mk (shut_int Try.underlying35 w2) trodAll_mk0))), rfl, bel.frame _, fun h => by cases h⟩
set_option maxRecDepth 100000 in
theorem lifted (os : Os) (started : os.Started) (H : Type) (enc : TypeId × Value → H) :
    ReturnsInHanded {} Try.checked os 5 .any (Rows.storeWordsSpec.pre6 enc Try.prog Try.f5 Rows.storeWordsRow.domain false) (Rows.storeWordsSpec.post enc Try.prog Try.f5 false true false false) := by
  refine returnsInHanded_of_change (C := Try.checked) own started (by kernel_rfl) Try.func5
    (ChangeSpec.witness6 (enc := enc) (C := Try.checked) false ⟨#[], #[.slice none 0 0, .int .u32 0, .int .u32 0], []⟩ 8 (by kernel_rfl) (by kernel_rfl) (by kernel_rfl) (by kernel_rfl)) ?_
  intro W base args ds gs before hval hW hcnd _
  exact contract H enc W base args ds gs before hval hW
theorem said : Rows.StoreWordsSaid :=
  OpenClaim.holds_of_wide 5 Try.f5 rfl rfl rfl rfl rfl rfl rfl ⟨rfl, rfl, rfl, rfl, rfl⟩ rfl rfl rfl rfl rfl (by kernel_rfl) Try.func5 (by kernel_rfl)
    (of_decide_eq_true (by kernel_rfl)) (by unfold Func.isWrapper; first | (rw [if_pos (by decide +kernel)]; kernel_rfl) | (rw [if_neg (by decide +kernel)]; exact ⟨rfl, rfl⟩))
    (fun os started H enc _ => lifted os started H enc)
theorem proved : Rows.StoreWordsSaid := said
end Go.Proofs.Ytbpelchampegaaa.storeWords

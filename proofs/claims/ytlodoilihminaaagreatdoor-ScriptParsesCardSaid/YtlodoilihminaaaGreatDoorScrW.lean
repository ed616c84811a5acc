/-
  The statement's own functions: num, known, once.
-/
import Derived.Test.YtlodoilihminaaaGreatDoorScrV
import Derived.Test.YtlodoilihminaaaGreatDoorInvR
import Derived.Lib.SlBytesConst
namespace Go.Proofs.YtlodoilihminaaaGreatDoor
open Go.ChangeShapes Go.WideShapes Go.ChangeAt Go.RowKit
set_option linter.unusedVariables false
set_option linter.unusedSimpArgs false
attribute [local go_sem] Oper.semAt_some
/-- the tables that lie -/
structure Tb (w : World) : Prop where
  t : Tab w
  s : SpT w
  m : MxT w
  e : ErrT w
theorem Tb.below {w w' : World} (h : Tb w) (hb : Below w.heap.size w w') : Tb w' := ⟨h.t.below hb, h.s.below hb, h.m.below hb, h.e.below hb⟩
theorem num_any (n : Int) (w : World) : Calls Tryz.prog 11 #[.int .i64 n] w fun e w' => e = .returned (.int .i64 n) ∧ w' = w := by
  go_enter Tryz.func11, Tryz.ntmps11
  go_wp2
  go_ret
  exact ⟨rfl, rfl⟩
theorem fn_nilN (W : World) (f : Fn) (b c : Array Value) : (binOp .eql 62 (.func f b c) .nilFunc).run Tryz.prog W = .ok (.bool false) W := by
  have h : ∀ d : Nat, (Op.equalIn (d + 1) 62 (.func f b c) .nilFunc).run Tryz.prog W = .ok false W := fun d => by
    simp [Op.equalIn, run_underlying Tryz.underlying62]
  simp only [binOp]
  simp [Op.equal, Op.maxDepth, h 9999]
/-- once's variables -/
structure OnI (V : World) (m : Int) (i : Nat) (A : World) : Prop where
  bel : Below V.heap.size V A
  b0 : A.heap[V.heap.size]? = some (.cells #[.int .i64 m] 3 (0, 0))
  b1 : ∃ b, A.heap[V.heap.size + 1]? = some (.cells #[.bool b] 4 (0, 0))
  b2 : A.heap[V.heap.size + 2]? = some (.cells #[.int .i64 i] 3 (0, 0))
theorem OnI.below {V A B : World} {m : Int} {i : Nat} (h : OnI V m i A) (hb : Below (V.heap.size + 3) A B) : OnI V m i B :=
  ⟨h.bel.trans (hb.mono (by omega)), by rw [hb.block _ (by omega)]; exact h.b0, by rw [hb.block _ (by omega)]; exact h.b1, by rw [hb.block _ (by omega)]; exact h.b2⟩
theorem OnI.next {V A : World} {m : Int} {i : Nat} (h : OnI V m i A) : OnI V m (i + 1) (A.setCell ⟨V.heap.size + 2, 0, none⟩ (.int .i64 ((i : Int) + 1))) := by
  refine ⟨h.bel.setCell (by show V.heap.size ≤ V.heap.size + 2; omega) _, ?_, ?_, (heap_setCell_same A _ 0 _ h.b2).trans rfl⟩
  · rw [setCell_kept _ _ _ _ _ (by omega)]; exact h.b0
  · rw [setCell_kept _ _ _ _ _ (by omega)]; exact h.b1
theorem OnI.res {V A : World} {m : Int} {i : Nat} (h : OnI V m i A) (b : Bool) : Below V.heap.size V (A.setCell ⟨V.heap.size + 1, 0, none⟩ (.bool b)) ∧ (A.setCell ⟨V.heap.size + 1, 0, none⟩ (.bool b)).heap[V.heap.size + 1]? = some (.cells #[.bool b] 4 (0, 0)) := by
  obtain ⟨q, hq⟩ := h.b1
  exact ⟨h.bel.setCell (by show V.heap.size ≤ V.heap.size + 1; omega) _, (heap_setCell_same A _ 0 _ hq).trans rfl⟩
theorem calls_inRound {P : Program} {l n : Nat} {f : FuncId} {args : Array Value} {w : World} {R : Ending → World → Prop} (h : Calls P f args w R) : CallsIn (Fence.wide.inRound l) n P f args w R := callsIn_wide.2 h
theorem Stay.setCell {C : Nat} {A B : World} (h : Stay C A B) (p : Addr) (u : Value) (hp : p.block < C) : Stay C A (B.setCell p u) :=
  ⟨by simpa [World.setCell] using h.1, fun b hb hl => (Below.heap_setCell _ _ _ _ (by omega)).trans (h.2 b hb hl)⟩
/-! ### known -/
def aK : Ac := ⟨2, [97], [120, 32, 58, 61, 32, 49], [], 0, 0⟩
theorem aK_at (W : World) (g : Nat) (h : W.heap[g]? = some (.cells #[.int .u8 120, .int .u8 32, .int .u8 58, .int .u8 61, .int .u8 32, .int .u8 49] 5 (6, 7))) : ActAt W aK (some ⟨g, 0, none⟩) 6 6 none 0 0 := by
  refine ⟨by decide, ⟨rfl, fun _ => ⟨_, rfl, (Array.getElem?_eq_some_iff.1 h).1, fun i hi => ?_⟩⟩, by decide, by decide, Nat.le_refl _, ⟨rfl, by simp [aK], fun h => absurd h (by omega)⟩, Nat.zero_le _, by decide, by decide⟩
  have e : (⟨g, 0, none⟩ : Addr).add i = ⟨g, i, none⟩ := by unfold Addr.add; split <;> simp_all
  rw [e, World.cell?, h]
  match i, hi with
  | 0, _ => rfl
  | 1, _ => rfl
  | 2, _ => rfl
  | 3, _ => rfl
  | 4, _ => rfl
  | 5, _ => rfl
theorem endA : endW 1 4294967295 false ++ ⟨#[32]⟩ ++ S (Lib.itoa 9) = ⟨#[104, 97, 108, 116, 32, 45, 49, 32, 57]⟩ := by decide +kernel
theorem endB : endW 0 0 true ++ ⟨#[32]⟩ ++ S (Lib.itoa 3) = ⟨#[102, 117, 101, 108, 32, 51]⟩ := by decide +kernel
set_option maxHeartbeats 4000000 in
set_option maxRecDepth 100000 in
theorem known_any (w : World) (hT : Tb w) :
    Calls Tryz.prog 7 #[] w fun e w' => e = .returned (.bool true) ∧ Below w.heap.size w w' := by
  have HT := Lib.hid hT
  have HK1 : Hid (∀ (V : World) (g : Nat), V.heap[g]? = some (.cells #[.int .u8 120, .int .u8 32, .int .u8 58, .int .u8 61, .int .u8 32, .int .u8 49] 5 (6, 7)) → Below w.heap.size w V → Calls Tryz.prog 20 #[.agg #[.int .i64 2, .string ⟨#[97]⟩, .slice (some ⟨g, 0, none⟩) 6 6, .slice none 0 0, .int .i64 0, .int .i64 0]] V fun e w' => e = .returned (.tuple #[.string ⟨#[97, 100, 100, 32, 97, 32, 120, 32, 58, 61, 32, 49]⟩, .int .i64 0]) ∧ Below V.heap.size V w') := Lib.hid fun V g h hb => by
    have h1 := acttext_yes V aK _ _ _ _ _ _ (aK_at V g h) (by decide) (by decide) (HT.out.below hb).t (HT.out.below hb).s
    have h2 : aK.txt = [97, 100, 100, 32, 97, 32, 120, 32, 58, 61, 32, 49] := by decide
    rw [h2] at h1
    exact h1
  have HK2 : Hid (∀ (V : World), Below w.heap.size w V → Calls Tryz.prog 8 #[.string ⟨#[112, 117, 116, 32, 97]⟩] V fun e w' => ∃ bA bn bc nA nn nc, e = .returned (.tuple #[.agg #[.int .i64 0, .string ⟨#[]⟩, .slice bA bn bc, .slice nA nn nc, .int .i64 0, .int .i64 0], .int .i64 4]) ∧ Below V.heap.size V w') := Lib.hid fun V hb => by
    have h1 := actOf_any V [112, 117, 116, 32, 97] (by decide) (HT.out.below hb).t (HT.out.below hb).s (HT.out.below hb).m (HT.out.below hb).e
    have h2 : readB [112, 117, 116, 32, 97] = false := by decide +kernel
    have h3 : rdA [112, 117, 116, 32, 97] = ⟨0, [], [], [], 0, 0⟩ := by unfold rdA; rw [h2]; rfl
    rw [h2, h3] at h1
    refine h1.mono ?_
    rintro e w' ⟨bA, bn, bc, nA, nn, nc, rfl, -, -, -, h5⟩
    exact ⟨bA, bn, bc, nA, nn, nc, rfl, h5⟩
  have HK3 : Hid (∀ (V : World), Below w.heap.size w V → Calls Tryz.prog 8 #[.string ⟨#[111, 119, 110]⟩] V fun e w' => ∃ bA bn bc nA nn nc, e = .returned (.tuple #[.agg #[.int .i64 7, .string ⟨#[]⟩, .slice bA bn bc, .slice nA nn nc, .int .i64 0, .int .i64 0], .int .i64 0]) ∧ Below V.heap.size V w') := Lib.hid fun V hb => by
    have h1 := actOf_any V [111, 119, 110] (by decide) (HT.out.below hb).t (HT.out.below hb).s (HT.out.below hb).m (HT.out.below hb).e
    have h2 : readB [111, 119, 110] = true := by decide +kernel
    have h3 : rdA [111, 119, 110] = ⟨7, [], [], [], 0, 0⟩ := by unfold rdA; rw [h2, if_pos rfl]; rfl
    rw [h2, h3] at h1
    refine h1.mono ?_
    rintro e w' ⟨bA, bn, bc, nA, nn, nc, rfl, -, -, -, h5⟩
    exact ⟨bA, bn, bc, nA, nn, nc, rfl, h5⟩
  have HE1 : Hid (∀ (V : World), Below w.heap.size w V → Calls Tryz.prog 21 #[.agg #[.int .i64 1, .int .u32 4294967295, .int .i64 9, .bool false]] V fun e w' => e = .returned (.string ⟨#[104, 97, 108, 116, 32, 45, 49, 32, 57]⟩) ∧ Below V.heap.size V w') := Lib.hid fun V hb => by
    have h1 := endText_any V 1 4294967295 9 false (by omega) (by omega) (HT.out.below hb).t
    rw [endA] at h1
    exact h1
  have HE2 : Hid (∀ (V : World), Below w.heap.size w V → Calls Tryz.prog 21 #[.agg #[.int .i64 0, .int .u32 0, .int .i64 3, .bool true]] V fun e w' => e = .returned (.string ⟨#[102, 117, 101, 108, 32, 51]⟩) ∧ Below V.heap.size V w') := Lib.hid fun V hb => by
    have h1 := endText_any V 0 0 3 true (by omega) (by omega) (HT.out.below hb).t
    rw [endB] at h1
    exact h1
  have hq0 := heap_alloc_new w (.cells #[.int .u8 120, .int .u8 32, .int .u8 58, .int .u8 61, .int .u8 32, .int .u8 49] 5 (6, 7))
  have hb0 := sbelow1 w (.cells #[.int .u8 120, .int .u8 32, .int .u8 58, .int .u8 61, .int .u8 32, .int .u8 49] 5 (6, 7))
  have kc := Lib.run_convert_bytes_const (P := Tryz.prog) w 24 5 #[.int .u8 120, .int .u8 32, .int .u8 58, .int .u8 61, .int .u8 32, .int .u8 49] 6 6 Tryz.underlying24 Tryz.underlying5
  have HQ := Lib.hid hq0
  have HB0 := Lib.hid hb0
  clear hq0 hb0
  go_enter Tryz.func7, Tryz.ntmps7
  go_upto_region 2 with (go_at_call 20; (with_reducible refine (HK1.out _ _ HQ.out HB0.out).mono ?_); rintro e w2 ⟨rfl, hb⟩; have HB2 := Lib.hid (HB0.out.trans (hb.mono HB0.out.size)); clear hb)
  go_upto_region 3 with (go_at_call 8; (with_reducible refine (HK2.out _ HB2.out).mono ?_); rintro e w3 ⟨bA, bn, bc, nA, nn, nc, rfl, hb⟩; have HB3 := Lib.hid (HB2.out.trans (hb.mono HB2.out.size)); clear hb)
  have HB4 := Lib.hid (HB3.out.alloc HB3.out.size (.cells #[.int .i64 0, .string ⟨#[]⟩, .slice bA bn bc, .slice nA nn nc, .int .i64 0, .int .i64 0] 27))
  generalize w3.alloc (.cells #[.int .i64 0, .string ⟨#[]⟩, .slice bA bn bc, .slice nA nn nc, .int .i64 0, .int .i64 0] 27) = w4 at HB4 ⊢
  go_upto_region 4 with (go_at_call 8; (with_reducible refine (HK3.out _ HB4.out).mono ?_); rintro e w5 ⟨bA2, bn2, bc2, nA2, nn2, nc2, rfl, hb⟩; have HB5 := Lib.hid (HB4.out.trans (hb.mono HB4.out.size)); clear hb)
  have HQ6 := Lib.hid (heap_alloc_new w5 (.cells #[.int .i64 7, .string ⟨#[]⟩, .slice bA2 bn2 bc2, .slice nA2 nn2 nc2, .int .i64 0, .int .i64 0] 27))
  have HB6 := Lib.hid (HB5.out.alloc HB5.out.size (.cells #[.int .i64 7, .string ⟨#[]⟩, .slice bA2 bn2 bc2, .slice nA2 nn2 nc2, .int .i64 0, .int .i64 0] 27))
  generalize w5.alloc (.cells #[.int .i64 7, .string ⟨#[]⟩, .slice bA2 bn2 bc2, .slice nA2 nn2 nc2, .int .i64 0, .int .i64 0] 27) = w6 at HQ6 HB6 ⊢
  go_wp2_with (first
    | (go_at_call 21; (with_reducible refine (HE1.out _ HB6.out).mono ?_); rintro e w7 ⟨rfl, hb⟩; have HB7 := Lib.hid (HB6.out.trans (hb.mono HB6.out.size)); have k5 : w7.cell? ⟨w5.heap.size, 0, none⟩ = some (.int .i64 7) := (by rw [World.cell?, (hb.block _ (Array.getElem?_eq_some_iff.1 HQ6.out).1).trans HQ6.out]; rfl); clear hb)
    | (go_at_call 11; (with_reducible refine (num_any _ _).mono ?_); rintro e w' ⟨rfl, rfl⟩)
    | (go_at_call 21; (with_reducible refine (HE2.out _ HB7.out).mono ?_); rintro e w8 ⟨rfl, hb⟩; have HB8 := Lib.hid (HB7.out.trans (hb.mono HB7.out.size)); clear hb))
  go_ret
  exact ⟨rfl, HB8.out⟩
end Go.Proofs.YtlodoilihminaaaGreatDoor

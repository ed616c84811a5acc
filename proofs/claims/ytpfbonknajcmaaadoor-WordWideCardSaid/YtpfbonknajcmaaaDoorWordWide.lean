/-
  WordWide: for every two numbers of 64 bits: Add, Sub and Mul of their words, the low ones first with the carry handed on, are the sum, the difference and the low words' product of 64 bits. No condition.
-/
import Derived.Test.YtpfbonknajcmaaaDoorWordK
import Derived.Test.YtpfbonknajcmaaaDoorCards
import Derived.Test.YtpfbonknajcmaaaDoorTie
import Derived.Deep.DeepHandedRow
import Derived.Lib.LaidTab
import Derived.Stop.LaidErr
namespace Go.Proofs.YtpfbonknajcmaaaDoor.wordWide
open Go.ChangeShapes Go.WideShapes Go.ChangeAt Go.RowKit
open Go.ChangeMaps (open_string shut_string)
set_option linter.unusedVariables false

theorem walk (a0 : Int) (a1 : Int) (w : World) (w0 : (Lit.int .u64 a0).wf = true) (w1 : (Lit.int .u64 a1).wf = true) (hT : Tab w) :
    Calls Tryd.prog 8 #[.int .u64 a0, .int .u64 a1] w fun e w' => e = .returned (.bool true) ∧ Below w.heap.size w w' := by
  have HT := Lib.hid hT
  clear hT
  obtain ⟨x0, x1⟩ := bd_u64 w0
  obtain ⟨y0, y1⟩ := bd_u64 w1
  clear w0 w1
  have C1 := add_any (a0 % 4294967296) (a1 % 4294967296) false (by omega) (by omega) (by omega) (by omega) w
  generalize hl : w32 (a0 % 4294967296 + a1 % 4294967296 + bit false) = l at C1
  generalize hc : decide (4294967296 ≤ a0 % 4294967296 + a1 % 4294967296 + bit false) = c at C1
  generalize out32 _ = o1 at C1
  have C2 := add_any (a0 / 4294967296) (a1 / 4294967296) c (by omega) (by omega) (by omega) (by omega) w
  generalize hh : w32 (a0 / 4294967296 + a1 / 4294967296 + bit c) = h at C2
  generalize decide (4294967296 ≤ a0 / 4294967296 + a1 / 4294967296 + bit c) = c' at C2
  generalize out32 _ = o2 at C2
  have C3 := sub_any (a0 % 4294967296) (a1 % 4294967296) false (by omega) (by omega) (by omega) (by omega) w
  generalize hm : w32 (a0 % 4294967296 - a1 % 4294967296 - bit false) = m at C3
  generalize hd : decide (a0 % 4294967296 - a1 % 4294967296 - bit false < 0) = d at C3
  generalize out32 _ = o3 at C3
  have C4 := sub_any (a0 / 4294967296) (a1 / 4294967296) d (by omega) (by omega) (by omega) (by omega) w
  generalize hg : w32 (a0 / 4294967296 - a1 / 4294967296 - bit d) = g at C4
  generalize decide (a0 / 4294967296 - a1 / 4294967296 - bit d < 0) = d' at C4
  generalize out32 _ = o4 at C4
  have hpr0 : 0 ≤ (a0 % 4294967296) * (a1 % 4294967296) := Int.mul_nonneg (by omega) (by omega)
  have hpr1 : (a0 % 4294967296) * (a1 % 4294967296) ≤ 4294967295 * 4294967295 := Int.mul_le_mul (by omega) (by omega) (by omega) (by omega)
  have C5 := mul_no (a0 % 4294967296) (a1 % 4294967296) (by omega) (by omega) (by omega) (by omega) w
  generalize hp : w32 ((a0 % 4294967296) * (a1 % 4294967296)) = p at C5
  generalize hq : (a0 % 4294967296) * (a1 % 4294967296) / 4294967296 = q at C5
  have hcv : bit c = if 4294967296 ≤ a0 % 4294967296 + a1 % 4294967296 then 1 else 0 := by rw [← hc]; by_cases z : 4294967296 ≤ a0 % 4294967296 + a1 % 4294967296 <;> simp [bit, z]
  have hdv : bit d = if a0 % 4294967296 - a1 % 4294967296 < 0 then 1 else 0 := by rw [← hd]; by_cases z : a0 % 4294967296 - a1 % 4294967296 < 0 <;> simp [bit, z]
  have bl : 0 ≤ l ∧ l ≤ 4294967295 := by rw [← hl]; exact w32_bd _
  have bh : 0 ≤ h ∧ h ≤ 4294967295 := by rw [← hh]; exact w32_bd _
  have bm : 0 ≤ m ∧ m ≤ 4294967295 := by rw [← hm]; exact w32_bd _
  have bg : 0 ≤ g ∧ g ≤ 4294967295 := by rw [← hg]; exact w32_bd _
  have bp : 0 ≤ p ∧ p ≤ 4294967295 := by rw [← hp]; exact w32_bd _
  have bq : 0 ≤ q ∧ q ≤ 4294967295 := by omega
  have e1 : h * 4294967296 + l = IntKind.u64.wrap (a0 + a1) := by
    rw [IntKind.wrap_u64, ← hh, ← hl, hcv]; unfold w32; rw [show bit false = 0 from rfl]; split <;> omega
  have e2 : g * 4294967296 + m = IntKind.u64.wrap (a0 - a1) := by
    rw [IntKind.wrap_u64, ← hg, ← hm, hdv]; unfold w32; rw [show bit false = 0 from rfl]; split <;> omega
  have e3 : q * 4294967296 + p = (a0 % 4294967296) * (a1 % 4294967296) := by
    rw [← hq, ← hp]; unfold w32; generalize (a0 % 4294967296) * (a1 % 4294967296) = P; omega
  have E1 := Lib.hid e1
  have E2 := Lib.hid e2
  have E3 := Lib.hid e3
  have D1 := Lib.hid C1
  have D2 := Lib.hid C2
  have D3 := Lib.hid C3
  have D4 := Lib.hid C4
  have D5 := Lib.hid C5
  clear C1 C2 C3 C4 C5 hl hc hh hm hd hg hp hq hcv hdv e1 e2 e3
  go_enter Tryd.func8, Tryd.ntmps8
  go_wp2_with fail
  refine D1.out.mono ?_; rintro e w' ⟨rfl, rfl⟩
  go_wp2_with fail
  refine D2.out.mono ?_; rintro e w' ⟨rfl, rfl⟩
  go_wp2_with fail
  refine D3.out.mono ?_; rintro e w' ⟨rfl, rfl⟩
  go_wp2_with fail
  refine D4.out.mono ?_; rintro e w' ⟨rfl, rfl⟩
  go_wp2_with fail
  refine D5.out.mono ?_; rintro e w' ⟨rfl, rfl⟩
  go_wp2_with (first | (go_at_call 21; refine (known_any _ (by first | exact HT.out | exact HT.out.below (below_drewN (Below.refl _ _) _) | exact HT.out.below (below_drewN (below_drewN (Below.refl _ _) _) _) | exact HT.out.below (by assumption))).mono ?_; rintro e w' ⟨rfl, hb⟩))
  all_goals go_ret
  all_goals first
    | exact ⟨rfl, hb⟩
    | (exfalso; have E1 := E1.out; have E2 := E2.out; have E3 := E3.out; simp only [IntKind.wrap_u64] at *; omega)

theorem own : ownKnob Tryd.prog.godebug = none := by kernel_rfl
theorem laidOut : laidOutB Tryd.prog = true := by kernel_rfl
theorem gTab0 : Tryd.prog.globalNamed "math/bits.deBruijn32tab" = some 1 := by kernel_rfl
theorem gTab1 : Tryd.prog.globalNamed "math/bits.deBruijn64tab" = some 2 := by kernel_rfl
theorem gTab2 : Tryd.prog.globalNamed "internal/strconv.uint64pow10" = some 0 := by kernel_rfl
theorem tables {W : World} (h0 : laidMetH Tryd.prog Rows.wordWideRow.laid W) : Tab W := by
  have h : laidMet Tryd.prog Rows.wordWideRow.laid W := h0
  exact Lib.tabIs_of_head (rest := _) gTab2 (by kernel_rfl) Tryd.underlying70 Tryd.underlying52 (by kernel_rfl) (by kernel_rfl) (laidMet.tail (laidMet.tail h))
def lay (l : Array Value) : Obj → Obj
  | .cells _ t frozen => .cells l t frozen
  | o => o
noncomputable def laidWorld (os : Os) : World := { World.holding Tryd.prog os ⟨#[], #[], []⟩ with heap := ((((World.holding Tryd.prog os ⟨#[], #[], []⟩).heap.modify 1 (lay #[.int .u8 0, .int .u8 1, .int .u8 28, .int .u8 2, .int .u8 29, .int .u8 14, .int .u8 24, .int .u8 3, .int .u8 30, .int .u8 22, .int .u8 20, .int .u8 15, .int .u8 25, .int .u8 17, .int .u8 4, .int .u8 8, .int .u8 31, .int .u8 27, .int .u8 13, .int .u8 23, .int .u8 21, .int .u8 19, .int .u8 16, .int .u8 7, .int .u8 26, .int .u8 12, .int .u8 18, .int .u8 6, .int .u8 11, .int .u8 5, .int .u8 10, .int .u8 9])).modify 2 (lay #[.int .u8 0, .int .u8 1, .int .u8 56, .int .u8 2, .int .u8 57, .int .u8 49, .int .u8 28, .int .u8 3, .int .u8 61, .int .u8 58, .int .u8 42, .int .u8 50, .int .u8 38, .int .u8 29, .int .u8 17, .int .u8 4, .int .u8 62, .int .u8 47, .int .u8 59, .int .u8 36, .int .u8 45, .int .u8 43, .int .u8 51, .int .u8 22, .int .u8 53, .int .u8 39, .int .u8 33, .int .u8 30, .int .u8 24, .int .u8 18, .int .u8 12, .int .u8 5, .int .u8 63, .int .u8 55, .int .u8 48, .int .u8 27, .int .u8 60, .int .u8 41, .int .u8 37, .int .u8 16, .int .u8 46, .int .u8 35, .int .u8 44, .int .u8 21, .int .u8 52, .int .u8 32, .int .u8 23, .int .u8 11, .int .u8 54, .int .u8 26, .int .u8 40, .int .u8 15, .int .u8 34, .int .u8 20, .int .u8 31, .int .u8 10, .int .u8 25, .int .u8 14, .int .u8 19, .int .u8 9, .int .u8 13, .int .u8 8, .int .u8 7, .int .u8 6])).modify 0 (lay #[.int .u64 1, .int .u64 10, .int .u64 100, .int .u64 1000, .int .u64 10000, .int .u64 100000, .int .u64 1000000, .int .u64 10000000, .int .u64 100000000, .int .u64 1000000000, .int .u64 10000000000, .int .u64 100000000000, .int .u64 1000000000000, .int .u64 10000000000000, .int .u64 100000000000000, .int .u64 1000000000000000, .int .u64 10000000000000000, .int .u64 100000000000000000, .int .u64 1000000000000000000, .int .u64 10000000000000000000])) }
theorem laid_met (os : Os) : laidMet Tryd.prog Rows.wordWideRow.laid ((laidWorld os).forCall (fun _ _ => 0) ⟨#[], #[.int .u64 0, .int .u64 0], []⟩).memory := laidMet_of_run' 8 (by kernel_rfl) (by kernel_rfl)
theorem reads (os : Os) {H : Type} (enc : TypeId × Value → H) : ∃ places, DataW.whole enc Tryd.prog ((laidWorld os).forCall (fun _ _ => 0) ⟨#[], #[.int .u64 0, .int .u64 0], []⟩).memory Tryd.f8.params.toList Rows.wordWideSpec.vars false (#[.int .u64 0, .int .u64 0] : Array Value).toList 8 = some ([.lit (.int .u64 0), .lit (.int .u64 0)], [], places) := ⟨[], by kernel_rfl⟩
theorem contract (H : Type) (enc : TypeId × Value → H) (W : World) (base : Nat) (args : Array Value) (ds gs : List (DataW H)) (before : List MemPlace)
    (hval : ∀ (j : Nat) t v, Tryd.f8.params[j]? = some t → args[j]? = some v → Value.okWide Tryd.prog W .any base t v)
    (hW : DataW.Whole enc Tryd.prog Tryd.f8.params.toList Rows.wordWideSpec.vars false W args.toList ds gs before) (hL : laidMetH Tryd.prog Rows.wordWideRow.laid W) :
    Calls Tryd.prog 8 args W fun e W' => ∃ v, e = .returned v ∧ Rows.wordWideSpec.post enc Tryd.prog Tryd.f8 false true false false W args v W' := by
  have hW' := hW
  obtain ⟨p, q, hA0, hV, rfl, hfz, hnd⟩ := hW
  have hA : DataW.TrodAll enc Tryd.prog W 0 (fun _ => true) true Tryd.f8.params.toList args.toList ds p := hA0
  rw [Tryd.params8] at hA hval
  obtain ⟨v0, vs0, d0, ds0, p0, q0, hargs, rfl, rfl, h0, r0⟩ := trodAll_cons hA
  obtain ⟨v1, vs1, d1, ds1, p1, q1, rfl, rfl, rfl, h1, r1⟩ := trodAll_cons r0
  obtain ⟨rfl, rfl, rfl⟩ := trodAll_nil r1
  obtain rfl : args = #[v0, v1] := by cases args; simp_all
  obtain ⟨rfl, rfl⟩ := trodVars_none hV
  obtain ⟨a0, rfl, rfl, rfl, w0⟩ := open_int Tryd.underlying52 (hval 0 52 v0 rfl rfl) h0
  obtain ⟨a1, rfl, rfl, rfl, w1⟩ := open_int Tryd.underlying52 (hval 1 52 v1 rfl rfl) h1
  clear hA0
  have hT := tables hL
  refine (walk a0 a1 W w0 w1 hT).mono fun e W' ⟨he, bel⟩ => ?_
  subst he
  exact ⟨_, rfl, _, _, _, [], _, [], hW', trodAll_mk1 (shut_bool Tryd.underlying4 _), (trodAll_cons_mk (shut_int Tryd.underlying52 w0) (trodAll_cons_mk (shut_int Tryd.underlying52 w1) trodAll_mk0)), rfl, bel.frame _, fun h => by cases h⟩
set_option maxRecDepth 100000 in
theorem lifted (os : Os) (started : os.Started) (H : Type) (enc : TypeId × Value → H) (F : Stop.Interp) :
    ReturnsInHanded {} Tryd.checked os 8 .any ((OpenSpec.ofChange Rows.wordWideSpec).preRow enc Tryd.prog Tryd.f8 Rows.wordWideRow.domain false Rows.wordWideRow.laid) (((OpenSpec.ofChange Rows.wordWideSpec).at F).post enc Tryd.prog Tryd.f8 false true false false) := by
  obtain ⟨places, hx⟩ := reads os enc
  refine returnsInHanded_of_row (C := Tryd.checked) (s := OpenSpec.ofChange Rows.wordWideSpec) own started (by kernel_rfl) Tryd.func8
    (witness_row_at (enc := enc) (C := Tryd.checked) false (laidWorld os) #[.int .u64 0, .int .u64 0] rfl (by kernel_rfl) (by kernel_rfl) (by kernel_rfl)
      (OpenSpec.preRow_of_cond 8 hx (by kernel_rfl) (fun k hk => by cases hk) (by kernel_rfl) (laid_met os))) ?_
  intro W base args ds gs before hval hW _ _ _ hL _ _
  exact contract H enc W base args ds gs before hval hW hL
theorem said : Rows.WordWideSaid :=
  OpenClaim.holds_of_cond 8 Tryd.f8 rfl rfl rfl rfl rfl rfl rfl ⟨rfl, rfl, rfl, rfl, rfl⟩ rfl rfl rfl rfl rfl (by kernel_rfl) Tryd.func8 (by kernel_rfl)
    (of_decide_eq_true (by kernel_rfl)) (by unfold Func.isWrapper; first | (rw [if_pos (by decide +kernel)]; kernel_rfl) | (rw [if_neg (by decide +kernel)]; exact ⟨rfl, rfl⟩))
    (fun os started H enc _ F => by rw [OpenClaim.pre_eq_preRow]; exact lifted os started H enc F)
theorem plain (f : FuncId) (fn : Func) (hf : Tryd.pinned.checked.prog.funcNamed "selfsame/selfsamelaw01.WordWide" = some f) (hfn : Tryd.pinned.checked.prog.funcs[f]? = some fn) :
    false = Tryd.pinned.checked.prog.looks [] ∧ ∀ (j : Nat) t, fn.params[j]? = some t → Tryd.pinned.checked.prog.wantsStandIn t = false := by
  obtain rfl : f = 8 := Option.some.inj ((show Tryd.prog.funcNamed "selfsame/selfsamelaw01.WordWide" = some 8 by kernel_rfl).symm.trans hf) |>.symm
  obtain rfl : fn = Tryd.f8 := (Option.some.inj (Tryd.func8.symm.trans hfn)).symm
  refine ⟨by kernel_rfl, fun j t ht => ?_⟩
  rw [Tryd.params8] at ht
  have hm := Array.mem_of_getElem? ht
  simp only [List.mem_toArray, List.mem_cons, List.not_mem_nil, or_false] at hm
  rcases hm with rfl | rfl
  · exact (show Tryd.prog.wantsStandIn 52 = false by kernel_rfl)
  · exact (show Tryd.prog.wantsStandIn 52 = false by kernel_rfl)
theorem proved : Rows.WordWideCardSaid :=
  Claim7.holds_tied_plain_at .later [] _ _ _ _ said (fun _ h => by cases h) (by kernel_rfl) (fun _ h => by cases h) wordWide_row_tie rfl ⟨rfl, rfl⟩ (by kernel_rfl) rfl plain (by kernel_rfl)
end Go.Proofs.YtpfbonknajcmaaaDoor.wordWide

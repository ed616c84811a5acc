/-
  WordMeans: for every two words: what was added is taken away again; what is turned 32 times by one is the same, and turned by a number is turned by ones; texts and bytes are read as the word; quotient times divisor, and what is left, is the number. No condition.
-/
import Derived.Test.YtpfbonknajcmaaaDoorTextC
import Derived.Test.YtpfbonknajcmaaaDoorBytesA
import Derived.Test.YtpfbonknajcmaaaDoorWordK
import Derived.Test.YtpfbonknajcmaaaDoorCards
import Derived.Test.YtpfbonknajcmaaaDoorTie
import Derived.Deep.DeepHandedRow
import Derived.Lib.LaidTab
import Derived.Stop.LaidErr
namespace Go.Proofs.YtpfbonknajcmaaaDoor.wordMeans
open Go.ChangeShapes Go.WideShapes Go.ChangeAt Go.RowKit
open Go.ChangeMaps (open_string shut_string)
set_option linter.unusedVariables false

theorem trn_one (x : Int) (x0 : 0 ≤ x) : trn x 1 = x / 2 + x % 2 * 2147483648 := by
  unfold trn
  rw [show ((1 : Int) % 32).toNat = 0 + 1 from rfl, trnN_succ x 0 x0 (by omega), trnN_zero]
/-- after so many turns by one -/
def it (a : Int) (i : Nat) : Int := if i = 32 then a else trnN a i
theorem it_bd (a : Int) (i : Nat) (a0 : 0 ≤ a) (a1 : a ≤ 4294967295) (hi : i ≤ 32) : 0 ≤ it a i ∧ it a i ≤ 4294967295 := by
  unfold it; split
  · exact ⟨a0, a1⟩
  · exact trnN_bd a i a0 a1 (by omega)
theorem it_turn (a : Int) (i : Nat) (hi : i < 32) : it a i = trn a i := by
  unfold it trn; rw [if_neg (by omega), show ((i : Int) % 32).toNat = i by omega]
theorem it_succ (a : Int) (i : Nat) (a0 : 0 ≤ a) (a1 : a ≤ 4294967295) (hi : i < 32) : it a (i + 1) = trn (it a i) 1 := by
  rw [trn_one _ (it_bd a i a0 a1 (by omega)).1]
  unfold it
  rw [if_neg (show ¬ i = 32 by omega)]
  by_cases h : i = 31
  · subst h
    rw [if_pos rfl]
    unfold trnN
    simp
    omega
  · rw [if_neg (by omega), trnN_succ a i a0 (by omega)]
theorem words_two (a b : Int) (a0 : 0 ≤ a) (a1 : a ≤ 4294967295) (b0 : 0 ≤ b) (b1 : b ≤ 4294967295) : wordsOf (bytesOf [a, b]) 2 = [a, b] := by
  show [wordAt [a % 256, a / 256 % 256, a / 65536 % 256, a / 16777216 % 256, b % 256, b / 256 % 256, b / 65536 % 256, b / 16777216 % 256] 0, wordAt [a % 256, a / 256 % 256, a / 65536 % 256, a / 16777216 % 256, b % 256, b / 256 % 256, b / 65536 % 256, b / 16777216 % 256] 1] = [a, b]
  show [a % 256 + 256 * (a / 256 % 256) + 65536 * (a / 65536 % 256) + 16777216 * (a / 16777216 % 256), b % 256 + 256 * (b / 256 % 256) + 65536 * (b / 65536 % 256) + 16777216 * (b / 16777216 % 256)] = [a, b]
  rw [show a % 256 + 256 * (a / 256 % 256) + 65536 * (a / 65536 % 256) + 16777216 * (a / 16777216 % 256) = a by omega, show b % 256 + 256 * (b / 256 % 256) + 65536 * (b / 65536 % 256) + 16777216 * (b / 16777216 % 256) = b by omega]
theorem rd_two (W : World) (a b : Int) (t : TypeId) : Rd (W.alloc (.cells #[.int .u32 a, .int .u32 b] t)) (W.alloc (.cells #[.int .u32 a, .int .u32 b] t)).heap.size .u32 (some ⟨W.heap.size, 0, none⟩) 2 [a, b] := by
  refine ⟨rfl, fun _ => ⟨_, rfl, by simp, fun i hi => ?_⟩⟩
  have : i = 0 ∨ i = 1 := by omega
  rcases this with rfl | rfl
  · simp [Addr.add, nth]
  · simp [Addr.add, nth]
set_option maxRecDepth 100000 in
theorem walk (a0 : Int) (a1 : Int) (w : World) (w0 : (Lit.int .u32 a0).wf = true) (w1 : (Lit.int .u32 a1).wf = true) (hT : Tab w) :
    Calls Tryd.prog 7 #[.int .u32 a0, .int .u32 a1] w fun e w' => e = .returned (.bool true) ∧ Below w.heap.size w w' := by
  have HT := Lib.hid hT
  clear hT
  obtain ⟨x0, x1⟩ := bd_u32 w0
  obtain ⟨y0, y1⟩ := bd_u32 w1
  clear w0 w1
  have hb2 := w32_bd (a0 + a1 + bit false)
  have ed : w32 (w32 (a0 + a1 + bit false) - a1 - bit false) = a0 := by unfold w32; rw [show bit false = 0 from rfl]; omega
  have ED := Lib.hid ed
  clear ed
  go_enter Tryd.func7, Tryd.ntmps7
  go_wp2_with fail
  refine (known_any _ HT.out).mono ?_; rintro e wk ⟨rfl, bk⟩
  go_wp2_with (first | (go_at_call 12; (with_reducible refine (add_any _ _ _ (by omega) (by omega) (by omega) (by omega) _).mono ?_); rintro e w' ⟨rfl, rfl⟩) | (go_at_call 14; (with_reducible refine (sub_any _ _ _ (by omega) (by omega) (by omega) (by omega) _).mono ?_); rintro e w' ⟨rfl, rfl⟩))
  rw [ED.out]
  go_loop [11, 12] (fun n i => ∃ j : Nat, j ≤ 32 ∧ i = .int .u32 j ∧ n = .int .u32 (it a0 j)) (fun _ i => 32 - (intOf i).toNat)
  case atStart => exact ⟨0, by omega, rfl, by unfold it; rw [if_neg (by omega), trnN_zero]⟩
  case round =>
    obtain ⟨j, hj, rfl, rfl⟩ := hrel
    have hbd := it_bd a0 j x0 x1 hj
    by_cases hlt : j < 32
    · have e1 := Lib.hid (it_turn a0 j hlt)
      have e2 := Lib.hid (it_succ a0 j x0 x1 hlt)
      go_wp2_with fail
      refine (turn_any _ _ (by omega) (by omega) (by omega) (by omega) _).mono ?_; rintro e w' ⟨rfl, rfl⟩
      rw [← e1.out]
      go_wp2_with fail
      refine (turn_any _ _ (by omega) (by omega) (by omega) (by omega) _).mono ?_; rintro e w' ⟨rfl, rfl⟩
      rw [← e2.out]
      go_wp2_with fail
      go_round
      case rel => exact ⟨j + 1, by omega, by go_num, rfl⟩
      case measure => simp [intOf]; omega
    · have e3 : it a0 j = a0 := by unfold it; rw [if_pos (by omega)]
      rw [e3]
      clear e3 hbd
      go_wp2_with fail
      refine (dec_any _ _ (HT.out.below bk)).mono ?_; rintro e u1 ⟨rfl, b1⟩
      have b1 := bk.trans (b1.mono bk.size)
      clear bk
      go_wp2_with fail
      refine (ofDec_dec _ x0 x1 _ (HT.out.below b1)).mono ?_; rintro e u2 ⟨rfl, b2⟩
      have b2 := b1.trans (b2.mono b1.size)
      clear b1
      go_wp2_with fail
      refine (hex_any _ x0 x1 _).mono ?_; rintro e u3 ⟨rfl, b3⟩
      have b3 := b2.trans (b3.mono b2.size)
      clear b2
      go_wp2_with fail
      refine (ofHex_hex _ x0 x1 _).mono ?_; rintro e u4 ⟨rfl, b4⟩
      have b4 := b3.trans (b4.mono b3.size)
      clear b3
      go_wp2_with fail
      refine (bytes_any _ 2 2 [a0, a1] _ (rd_two _ _ _ _) (fun i => nth_mem (fun z => 0 ≤ z ∧ z ≤ 4294967295) _ (by intro z hz; simp at hz; rcases hz with rfl | rfl <;> omega) (by omega) i) (by omega)).mono ?_
      rintro e u5 ⟨v, rfl, own5, b5⟩
      have b5 : Below w.heap.size w u5 := (b4.alloc b4.size _).trans (b5.mono (by simp; have := b4.size; omega))
      obtain ⟨A5, c5, rfl, hc5, r5⟩ := rd_of_own own5
      have hby : ∀ i, 0 ≤ nth (bytesOf [a0, a1]) i ∧ nth (bytesOf [a0, a1]) i ≤ 255 := fun i => nth_mem (fun z => 0 ≤ z ∧ z ≤ 255) _ (bytesOf_bd _) (by omega) i
      clear own5
      go_wp2_with fail
      refine (of_any A5 2 c5 (bytesOf [a0, a1]) _ r5 hby (by omega)).mono ?_
      rintro e u6 ⟨v, rfl, own6, b6⟩
      have b6 : Below w.heap.size w u6 := b5.trans (b6.mono b5.size)
      rw [words_two a0 a1 x0 x1 y0 y1] at own6
      obtain ⟨A6, c6, rfl, hc6, r6⟩ := rd_of_own own6
      obtain ⟨_, r6⟩ := r6
      obtain ⟨x, rfl, hx, hcell⟩ := r6 (by omega)
      have q0 : u6.cell? x = some (.int .u32 a0) := by have := hcell 0 (by omega); simpa [Addr.add, nth] using this
      have q1 : u6.cell? (x.add 1) = some (.int .u32 a1) := by have := hcell 1 (by omega); simpa [nth] using this
      have q1' : u6.cell? ⟨x.block, x.off + 1, none⟩ = some (.int .u32 a1) := by rw [← add_pos x 1 (by omega)]; exact q1
      clear own6 hcell r5 b5 b4 hby hc6 hc5
      by_cases hd : wrap32 a1 ≤ 0
      · go_wp2_with (first | (go_at_call 20; refine (num_any _ _).mono ?_; rintro e w' ⟨rfl, rfl⟩) | (go_at_call 18; (with_reducible refine (div_no _ _ (by omega) _).mono ?_); rintro e w' ⟨rfl, rfl⟩))
        all_goals go_ret
        all_goals exact ⟨rfl, b6⟩
      · obtain ⟨Q, R, eQ, eR, q1_, q2_, q3_, r0, r1, g0, g1, g2⟩ := quo_all (wrap32 a0) (wrap32 a1) (wrap32_bd _) (by omega)
        have hs1 := wrap32_bd a1
        have C1 := fun W : World => div_yes a0 a1 (by omega) W
        simp only [eQ, eR] at C1
        have hq1 : wrap32 (w32 Q) = Q := wrap_w32 Q g0 g1
        have hr1 : wrap32 R = R := wrap_in R (by omega) (by omega)
        have h00 : wrap32 0 = 0 := wrap_in 0 (by omega) (by omega)
        have bq : 0 ≤ w32 Q ∧ w32 Q ≤ 4294967295 := w32_bd _
        generalize w32 Q = qq at C1 hq1 bq
        have C2 := fun W : World => mul_yes qq a1 bq.1 bq.2 y0 y1 W
        rw [hq1] at C2
        have hfin : w32 (w32 (Q * wrap32 a1) + R + bit false) = a0 := by
          have e1 := w32_wrap32 a0
          rw [w32_in a0 x0 x1] at e1
          rw [← e1, show wrap32 a0 = Q * wrap32 a1 + R by omega]
          generalize Q * wrap32 a1 = P
          unfold w32; rw [show bit false = 0 from rfl]; omega
        have bp : 0 ≤ w32 (Q * wrap32 a1) ∧ w32 (Q * wrap32 a1) ≤ 4294967295 := w32_bd _
        generalize w32 (Q * wrap32 a1) = pp at C2 hfin bp
        generalize w32 (Q * wrap32 a1 / 4294967296) = ph at C2
        have D1 := Lib.hid C1
        have D2 := Lib.hid C2
        have F := Lib.hid hfin
        clear C1 C2 hfin eQ eR q1_ q2_ q3_ g2
        go_wp2_with (first | (go_at_call 20; refine (num_any _ _).mono ?_; rintro e w' ⟨rfl, rfl⟩))
        refine (D1.out _).mono ?_; rintro e u7 ⟨rfl, n1, rfl⟩
        go_wp2_with (first | (go_at_call 20; refine (num_any _ _).mono ?_; rintro e w' ⟨rfl, rfl⟩))
        refine (D2.out _).mono ?_; rintro e u8 ⟨rfl, rfl⟩
        go_wp2_with fail
        refine (add_any _ _ _ (by omega) (by omega) (by omega) (by omega) _).mono ?_; rintro e u9 ⟨rfl, rfl⟩
        rw [F.out]
        go_wp2_with (first | (go_at_call 31; refine (less_any _ _ _).mono ?_; rintro e w' ⟨rfl, rfl⟩))
        all_goals go_ret
        all_goals first
          | exact ⟨rfl, below_drewN b6 _⟩
          | exact ⟨ret_bool (by simp; omega), below_drewN b6 _⟩

theorem own : ownKnob Tryd.prog.godebug = none := by kernel_rfl
theorem laidOut : laidOutB Tryd.prog = true := by kernel_rfl
theorem gTab0 : Tryd.prog.globalNamed "math/bits.deBruijn32tab" = some 1 := by kernel_rfl
theorem gTab1 : Tryd.prog.globalNamed "math/bits.deBruijn64tab" = some 2 := by kernel_rfl
theorem gTab2 : Tryd.prog.globalNamed "internal/strconv.uint64pow10" = some 0 := by kernel_rfl
theorem tables {W : World} (h0 : laidMetH Tryd.prog Rows.wordMeansRow.laid W) : Tab W := by
  have h : laidMet Tryd.prog Rows.wordMeansRow.laid W := h0
  exact Lib.tabIs_of_head (rest := _) gTab2 (by kernel_rfl) Tryd.underlying70 Tryd.underlying52 (by kernel_rfl) (by kernel_rfl) (laidMet.tail (laidMet.tail h))
def lay (l : Array Value) : Obj → Obj
  | .cells _ t frozen => .cells l t frozen
  | o => o
noncomputable def laidWorld (os : Os) : World := { World.holding Tryd.prog os ⟨#[], #[], []⟩ with heap := ((((World.holding Tryd.prog os ⟨#[], #[], []⟩).heap.modify 1 (lay #[.int .u8 0, .int .u8 1, .int .u8 28, .int .u8 2, .int .u8 29, .int .u8 14, .int .u8 24, .int .u8 3, .int .u8 30, .int .u8 22, .int .u8 20, .int .u8 15, .int .u8 25, .int .u8 17, .int .u8 4, .int .u8 8, .int .u8 31, .int .u8 27, .int .u8 13, .int .u8 23, .int .u8 21, .int .u8 19, .int .u8 16, .int .u8 7, .int .u8 26, .int .u8 12, .int .u8 18, .int .u8 6, .int .u8 11, .int .u8 5, .int .u8 10, .int .u8 9])).modify 2 (lay #[.int .u8 0, .int .u8 1, .int .u8 56, .int .u8 2, .int .u8 57, .int .u8 49, .int .u8 28, .int .u8 3, .int .u8 61, .int .u8 58, .int .u8 42, .int .u8 50, .int .u8 38, .int .u8 29, .int .u8 17, .int .u8 4, .int .u8 62, .int .u8 47, .int .u8 59, .int .u8 36, .int .u8 45, .int .u8 43, .int .u8 51, .int .u8 22, .int .u8 53, .int .u8 39, .int .u8 33, .int .u8 30, .int .u8 24, .int .u8 18, .int .u8 12, .int .u8 5, .int .u8 63, .int .u8 55, .int .u8 48, .int .u8 27, .int .u8 60, .int .u8 41, .int .u8 37, .int .u8 16, .int .u8 46, .int .u8 35, .int .u8 44, .int .u8 21, .int .u8 52, .int .u8 32, .int .u8 23, .int .u8 11, .int .u8 54, .int .u8 26, .int .u8 40, .int .u8 15, .int .u8 34, .int .u8 20, .int .u8 31, .int .u8 10, .int .u8 25, .int .u8 14, .int .u8 19, .int .u8 9, .int .u8 13, .int .u8 8, .int .u8 7, .int .u8 6])).modify 0 (lay #[.int .u64 1, .int .u64 10, .int .u64 100, .int .u64 1000, .int .u64 10000, .int .u64 100000, .int .u64 1000000, .int .u64 10000000, .int .u64 100000000, .int .u64 1000000000, .int .u64 10000000000, .int .u64 100000000000, .int .u64 1000000000000, .int .u64 10000000000000, .int .u64 100000000000000, .int .u64 1000000000000000, .int .u64 10000000000000000, .int .u64 100000000000000000, .int .u64 1000000000000000000, .int .u64 10000000000000000000])) }
theorem laid_met (os : Os) : laidMet Tryd.prog Rows.wordMeansRow.laid ((laidWorld os).forCall (fun _ _ => 0) ⟨#[], #[.int .u32 0, .int .u32 0], []⟩).memory := laidMet_of_run' 8 (by kernel_rfl) (by kernel_rfl)
theorem reads (os : Os) {H : Type} (enc : TypeId × Value → H) : ∃ places, DataW.whole enc Tryd.prog ((laidWorld os).forCall (fun _ _ => 0) ⟨#[], #[.int .u32 0, .int .u32 0], []⟩).memory Tryd.f7.params.toList Rows.wordMeansSpec.vars false (#[.int .u32 0, .int .u32 0] : Array Value).toList 8 = some ([.lit (.int .u32 0), .lit (.int .u32 0)], [], places) := ⟨[], by kernel_rfl⟩
theorem contract (H : Type) (enc : TypeId × Value → H) (W : World) (base : Nat) (args : Array Value) (ds gs : List (DataW H)) (before : List MemPlace)
    (hval : ∀ (j : Nat) t v, Tryd.f7.params[j]? = some t → args[j]? = some v → Value.okWide Tryd.prog W .any base t v)
    (hW : DataW.Whole enc Tryd.prog Tryd.f7.params.toList Rows.wordMeansSpec.vars false W args.toList ds gs before) (hL : laidMetH Tryd.prog Rows.wordMeansRow.laid W) :
    Calls Tryd.prog 7 args W fun e W' => ∃ v, e = .returned v ∧ Rows.wordMeansSpec.post enc Tryd.prog Tryd.f7 false true false false W args v W' := by
  have hW' := hW
  obtain ⟨p, q, hA0, hV, rfl, hfz, hnd⟩ := hW
  have hA : DataW.TrodAll enc Tryd.prog W 0 (fun _ => true) true Tryd.f7.params.toList args.toList ds p := hA0
  rw [Tryd.params7] at hA hval
  obtain ⟨v0, vs0, d0, ds0, p0, q0, hargs, rfl, rfl, h0, r0⟩ := trodAll_cons hA
  obtain ⟨v1, vs1, d1, ds1, p1, q1, rfl, rfl, rfl, h1, r1⟩ := trodAll_cons r0
  obtain ⟨rfl, rfl, rfl⟩ := trodAll_nil r1
  obtain rfl : args = #[v0, v1] := by cases args; simp_all
  obtain ⟨rfl, rfl⟩ := trodVars_none hV
  obtain ⟨a0, rfl, rfl, rfl, w0⟩ := open_int Tryd.underlying22 (hval 0 22 v0 rfl rfl) h0
  obtain ⟨a1, rfl, rfl, rfl, w1⟩ := open_int Tryd.underlying22 (hval 1 22 v1 rfl rfl) h1
  clear hA0
  have hT := tables hL
  refine (walk a0 a1 W w0 w1 hT).mono fun e W' ⟨he, bel⟩ => ?_
  subst he
  exact ⟨_, rfl, _, _, _, [], _, [], hW', trodAll_mk1 (shut_bool Tryd.underlying4 _), (trodAll_cons_mk (shut_int Tryd.underlying22 w0) (trodAll_cons_mk (shut_int Tryd.underlying22 w1) trodAll_mk0)), rfl, bel.frame _, fun h => by cases h⟩
set_option maxRecDepth 100000 in
theorem lifted (os : Os) (started : os.Started) (H : Type) (enc : TypeId × Value → H) (F : Stop.Interp) :
    ReturnsInHanded {} Tryd.checked os 7 .any ((OpenSpec.ofChange Rows.wordMeansSpec).preRow enc Tryd.prog Tryd.f7 Rows.wordMeansRow.domain false Rows.wordMeansRow.laid) (((OpenSpec.ofChange Rows.wordMeansSpec).at F).post enc Tryd.prog Tryd.f7 false true false false) := by
  obtain ⟨places, hx⟩ := reads os enc
  refine returnsInHanded_of_row (C := Tryd.checked) (s := OpenSpec.ofChange Rows.wordMeansSpec) own started (by kernel_rfl) Tryd.func7
    (witness_row_at (enc := enc) (C := Tryd.checked) false (laidWorld os) #[.int .u32 0, .int .u32 0] rfl (by kernel_rfl) (by kernel_rfl) (by kernel_rfl)
      (OpenSpec.preRow_of_cond 8 hx (by kernel_rfl) (fun k hk => by cases hk) (by kernel_rfl) (laid_met os))) ?_
  intro W base args ds gs before hval hW _ _ _ hL _ _
  exact contract H enc W base args ds gs before hval hW hL
theorem said : Rows.WordMeansSaid :=
  OpenClaim.holds_of_cond 7 Tryd.f7 rfl rfl rfl rfl rfl rfl rfl ⟨rfl, rfl, rfl, rfl, rfl⟩ rfl rfl rfl rfl rfl (by kernel_rfl) Tryd.func7 (by kernel_rfl)
    (of_decide_eq_true (by kernel_rfl)) (by unfold Func.isWrapper; first | (rw [if_pos (by decide +kernel)]; kernel_rfl) | (rw [if_neg (by decide +kernel)]; exact ⟨rfl, rfl⟩))
    (fun os started H enc _ F => by rw [OpenClaim.pre_eq_preRow]; exact lifted os started H enc F)
theorem plain (f : FuncId) (fn : Func) (hf : Tryd.pinned.checked.prog.funcNamed "selfsame/selfsamelaw01.WordMeans" = some f) (hfn : Tryd.pinned.checked.prog.funcs[f]? = some fn) :
    false = Tryd.pinned.checked.prog.looks [] ∧ ∀ (j : Nat) t, fn.params[j]? = some t → Tryd.pinned.checked.prog.wantsStandIn t = false := by
  obtain rfl : f = 7 := Option.some.inj ((show Tryd.prog.funcNamed "selfsame/selfsamelaw01.WordMeans" = some 7 by kernel_rfl).symm.trans hf) |>.symm
  obtain rfl : fn = Tryd.f7 := (Option.some.inj (Tryd.func7.symm.trans hfn)).symm
  refine ⟨by kernel_rfl, fun j t ht => ?_⟩
  rw [Tryd.params7] at ht
  have hm := Array.mem_of_getElem? ht
  simp only [List.mem_toArray, List.mem_cons, List.not_mem_nil, or_false] at hm
  rcases hm with rfl | rfl
  · exact (show Tryd.prog.wantsStandIn 22 = false by kernel_rfl)
  · exact (show Tryd.prog.wantsStandIn 22 = false by kernel_rfl)
theorem proved : Rows.WordMeansCardSaid :=
  Claim7.holds_tied_plain_at .later [] _ _ _ _ said (fun _ h => by cases h) (by kernel_rfl) (fun _ h => by cases h) wordMeans_row_tie rfl ⟨rfl, rfl⟩ (by kernel_rfl) rfl plain (by kernel_rfl)
end Go.Proofs.YtpfbonknajcmaaaDoor.wordMeans

/-
  WordTexts: for every word, every two texts of at most 9000 bytes: Dec and Hex of package word are the reference's; OfDec and OfHex tell the word whose text it is, or ErrBytes, as the reference does. No condition.
-/
import Derived.Test.YtpfbonknajcmaaaDoorTextC
import Derived.Test.YtpfbonknajcmaaaDoorWordK
import Derived.Test.YtpfbonknajcmaaaDoorCards
import Derived.Test.YtpfbonknajcmaaaDoorTie
import Derived.Deep.DeepHandedRow
import Derived.Lib.LaidTab
import Derived.Stop.LaidErr
namespace Go.Proofs.YtpfbonknajcmaaaDoor.wordTexts
open Go.ChangeShapes Go.WideShapes Go.ChangeAt Go.RowKit
open Go.ChangeMaps (open_string shut_string)
set_option linter.unusedVariables false

theorem decLen_le (k u : Nat) (h : u < 10 ^ (k + 1)) : (Lib.decDigits u).length ≤ k + 1 := by
  induction k generalizing u with
  | zero => rw [Lib.decDigits_one (by simpa using h)]; simp
  | succ k ih =>
    rw [Lib.decDigits]
    split
    · simp
    · rw [List.length_append]
      have := ih (u / 10) (by rw [Nat.div_lt_iff_lt_mul (by omega), ← Nat.pow_succ]; exact h)
      simp; omega
theorem rdec_pos' (u : Nat) (h : u ≤ 2147483648) : rdec (Lib.decDigits u) = u := by
  have hl := decLen_le 9 u (by omega)
  have hd := decDigits_dig u
  unfold rdec
  rw [List.take_of_length_le (by omega), rval_dig _ hd, dval_decDigits, if_neg]
  intro e
  have := hd 45 (List.mem_of_mem_head? e)
  unfold isDig at this; revert this; decide
theorem rdec_neg' (u : Nat) (h : u ≤ 2147483648) : rdec (45 :: Lib.decDigits u) = -(u : Int) := by
  have hl := decLen_le 9 u (by omega)
  have hd := decDigits_dig u
  unfold rdec
  rw [List.take_of_length_le (by simp; omega), rval_neg _ hd, dval_decDigits]
  exact if_pos rfl
theorem S_data (l : List UInt8) : (S l).data.toList = l := by simp [S]
theorem dec_both (s : ByteArray) (hs : s.size ≤ maxLen) :
    (∃ x : Int, 0 ≤ x ∧ x ≤ 4294967295 ∧ (∀ w, Tab w → Calls Tryd.prog 35 #[.string s] w fun e w' => e = .returned (.tuple #[.int .u32 x, .int .i64 0]) ∧ Below w.heap.size w w') ∧
      (∀ w, Calls Tryd.prog 36 #[.string s] w fun e w' => e = .returned (.tuple #[.int .u32 x, .bool true]) ∧ Below w.heap.size w w')) ∨
    (∃ y : Int, (∀ w, Tab w → Calls Tryd.prog 35 #[.string s] w fun e w' => e = .returned (.tuple #[.int .u32 0, .int .i64 4]) ∧ Below w.heap.size w w') ∧
      (∀ w, Calls Tryd.prog 36 #[.string s] w fun e w' => e = .returned (.tuple #[.int .u32 y, .bool false]) ∧ Below w.heap.size w w')) := by
  by_cases h : ∃ v : Int, -2147483648 ≤ v ∧ v ≤ 2147483647 ∧ itoaB v = s
  · left
    obtain ⟨v, v0, v1, rfl⟩ := h
    have key : ∀ x : Int, rdec (itoaB v).data.toList = v → w32 v = x → ∀ w, Calls Tryd.prog 36 #[.string (itoaB v)] w fun e w' => e = .returned (.tuple #[.int .u32 x, .bool true]) ∧ Below w.heap.size w w' := fun x hr hx w => by
      have := rofDec_any (itoaB v) hs w
      rw [hr, show wrap32 (w32 v) = v from wrap_w32 v v0 v1, hx] at this
      simpa using this
    by_cases hv : v < 0
    · obtain ⟨u, hu⟩ := Int.eq_ofNat_of_zero_le (show 0 ≤ -v by omega)
      have he : itoaB v = S (45 :: Lib.decDigits u) := by unfold itoaB; rw [show v = -(u : Int) by omega, Lib.itoa_neg u (by omega)]
      refine ⟨4294967296 - u, by omega, by omega, fun w hT => ?_, key _ ?_ ?_⟩
      · rw [he]; exact ofDec_neg u (by omega) (by omega) w hT
      · rw [he, S_data, rdec_neg' u (by omega)]; omega
      · unfold w32; omega
    · obtain ⟨u, hu⟩ := Int.eq_ofNat_of_zero_le (show 0 ≤ v by omega)
      have he : itoaB v = S (Lib.decDigits u) := by unfold itoaB; rw [hu, Lib.itoa_nonneg]
      refine ⟨u, by omega, by omega, fun w hT => ?_, key _ ?_ ?_⟩
      · rw [he]; exact ofDec_pos u (by omega) w hT
      · rw [he, S_data, rdec_pos' u (by omega)]; omega
      · unfold w32; omega
  · right
    refine ⟨w32 (rdec s.data.toList), fun w hT => ofDec_no s (fun v v0 v1 e => h ⟨v, v0, v1, e⟩) w hT, fun w => ?_⟩
    have := rofDec_any s hs w
    rw [neq_list _ _ (fun e => h ⟨_, (wrap32_bd _).1, (wrap32_bd _).2, e⟩)] at this
    exact this
theorem hexL_len (a : Int) : (hexL a).length = 8 := hexT_length _ _
theorem hex_both (s : ByteArray) (hs : s.size ≤ maxLen) :
    (∃ x : Int, 0 ≤ x ∧ x ≤ 4294967295 ∧ (∀ w, Calls Tryd.prog 37 #[.string s] w fun e w' => e = .returned (.tuple #[.int .u32 x, .int .i64 0]) ∧ Below w.heap.size w w') ∧
      (∀ w, Calls Tryd.prog 38 #[.string s] w fun e w' => e = .returned (.tuple #[.int .u32 x, .bool true]) ∧ Below w.heap.size w w')) ∨
    (∃ y : Int, (∀ w, Calls Tryd.prog 37 #[.string s] w fun e w' => e = .returned (.tuple #[.int .u32 0, .int .i64 4]) ∧ Below w.heap.size w w') ∧
      (∀ w, Calls Tryd.prog 38 #[.string s] w fun e w' => e = .returned (.tuple #[.int .u32 y, .bool false]) ∧ Below w.heap.size w w')) := by
  obtain ⟨l, hl⟩ : ∃ l, s = S l := ⟨_, (S_list s).symm⟩
  subst hl
  have hd := S_data l
  by_cases h : l.length = 8 ∧ ∀ c ∈ l, isHex c
  · left
    obtain ⟨h8, hh⟩ := h
    obtain ⟨g1, g2, g3⟩ := hnat_all l hh
    have g3 := g3 (by omega)
    have hb := rhex_bd l 8
    rw [List.take_of_length_le (by omega)] at hb
    refine ⟨rhex l, hb.1, hb.2, fun w => ofHex_yes l h8 hh w, fun w => ?_⟩
    have := rofHex_any (S l) hs w
    rw [hd, List.take_of_length_le (by omega)] at this
    have e : hexB (rhex l) = S l := by
      unfold hexB hexL
      rw [g3, Int.toNat_natCast, ← h8, g1]
    rw [e] at this
    simpa using this
  · right
    refine ⟨rhex (l.take 9), fun w => ?_, fun w => ?_⟩
    · by_cases h8 : l.length = 8
      · have : ∃ c ∈ l, ¬ isHex c := by
          false_or_by_contra
          rename_i hc
          exact h ⟨h8, fun c hm => by
            false_or_by_contra
            rename_i hx
            exact hc ⟨c, hm, hx⟩⟩
        obtain ⟨c, hm, hx⟩ := this
        obtain ⟨i, hi, rfl⟩ := List.mem_iff_getElem.1 hm
        exact ofHex_no (S l) (by rw [S_size]; exact h8) i (by rw [S_size]; exact hi) hx w
      · exact ofHex_long (S l) (by rw [S_size]; exact h8) hs w
    · have := rofHex_any (S l) hs w
      rw [hd, neq_list] at this
      · exact this
      · intro e
        have e := S_inj (show S (hexL _) = S l from e)
        exact h ⟨by rw [← e]; exact hexL_len _, by rw [← e]; exact hexT_isHex _ _⟩
theorem walk (a0 : Int) (a1 : ByteArray) (a2 : ByteArray) (w : World) (w0 : (Lit.int .u32 a0).wf = true) (w1 : a1.size ≤ maxLen) (w2 : a2.size ≤ maxLen) (hT : Tab w) :
    Calls Tryd.prog 6 #[.int .u32 a0, .string a1, .string a2] w fun e w' => e = .returned (.bool true) ∧ Below w.heap.size w w' := by
  have HT := Lib.hid hT
  clear hT
  obtain ⟨x0, x1⟩ := bd_u32 w0
  have D := dec_both a1 w1
  have X := hex_both a2 w2
  unfold maxLen at w1 w2
  by_cases h1 : 9000 < a1.size
  · clear D X
    go_enter Tryd.func6, Tryd.ntmps6
    go_wp2_with (first | (go_at_call 21; refine (known_any _ (by first | exact HT.out | exact HT.out.below (below_drewN (Below.refl _ _) _) | exact HT.out.below (below_drewN (below_drewN (Below.refl _ _) _) _) | exact HT.out.below (by assumption))).mono ?_; rintro e w' ⟨rfl, hb⟩))
    go_ret
    exact ⟨rfl, hb⟩
  by_cases h2 : 9000 < a2.size
  · clear D X
    go_enter Tryd.func6, Tryd.ntmps6
    go_wp2_with (first | (go_at_call 21; refine (known_any _ (by first | exact HT.out | exact HT.out.below (below_drewN (Below.refl _ _) _) | exact HT.out.below (below_drewN (below_drewN (Below.refl _ _) _) _) | exact HT.out.below (by assumption))).mono ?_; rintro e w' ⟨rfl, hb⟩))
    go_ret
    exact ⟨rfl, hb⟩
  have DC := fun (W : World) (hW : Below w.heap.size w W) => dec_any a0 W (HT.out.below hW)
  have RC := fun (W : World) => rdec_any a0 x0 x1 W
  have HC := fun (W : World) => hex_any a0 x0 x1 W
  have RH := fun (W : World) => rhex_any a0 x0 x1 W
  rcases D with ⟨x, q0, q1, C1, C2⟩ | ⟨y, C1, C2⟩ <;> rcases X with ⟨p, p0, p1, C3, C4⟩ | ⟨r, C3, C4⟩
  all_goals
    have D1 := Lib.hid C1
    have D2 := Lib.hid C2
    have D3 := Lib.hid C3
    have D4 := Lib.hid C4
    have D5 := Lib.hid DC
    have D6 := Lib.hid RC
    have D7 := Lib.hid HC
    have D8 := Lib.hid RH
    clear C1 C2 C3 C4 DC RC HC RH
    go_enter Tryd.func6, Tryd.ntmps6
    go_wp2_with fail
    refine (D1.out _ HT.out).mono ?_; rintro e u1 ⟨rfl, b1⟩
    go_wp2_with fail
    refine (D2.out _).mono ?_; rintro e u2 ⟨rfl, b2⟩
    have b2 := b1.trans (b2.mono b1.size)
    clear b1
    go_wp2_with fail
    refine (D3.out _).mono ?_; rintro e u3 ⟨rfl, b3⟩
    have b3 := b2.trans (b3.mono b2.size)
    clear b2
    go_wp2_with fail
    refine (D4.out _).mono ?_; rintro e u4 ⟨rfl, b4⟩
    have b4 := b3.trans (b4.mono b3.size)
    clear b3
    go_wp2_with fail
    refine (D5.out _ b4).mono ?_; rintro e u5 ⟨rfl, b5⟩
    have b5 := b4.trans (b5.mono b4.size)
    clear b4
    go_wp2_with fail
    refine (D6.out _).mono ?_; rintro e u6 ⟨rfl, b6⟩
    have b6 := b5.trans (b6.mono b5.size)
    clear b5
    go_wp2_with fail
    refine (D7.out _).mono ?_; rintro e u7 ⟨rfl, b7⟩
    have b7 := b6.trans (b7.mono b6.size)
    clear b6
    go_wp2_with fail
    refine (D8.out _).mono ?_; rintro e u8 ⟨rfl, b8⟩
    have b8 := b7.trans (b8.mono b7.size)
    clear b7
    go_wp2_with (first | (go_at_call 20; refine (num_any _ _).mono ?_; rintro e w' ⟨rfl, rfl⟩) | (go_at_call 21; refine (known_any _ (by first | exact HT.out | exact HT.out.below (below_drewN (Below.refl _ _) _) | exact HT.out.below (below_drewN (below_drewN (Below.refl _ _) _) _) | exact HT.out.below (by assumption))).mono ?_; rintro e w' ⟨rfl, hb⟩))
    all_goals go_ret
    all_goals exact ⟨rfl, b8.trans (hb.mono b8.size)⟩

theorem own : ownKnob Tryd.prog.godebug = none := by kernel_rfl
theorem laidOut : laidOutB Tryd.prog = true := by kernel_rfl
theorem gTab0 : Tryd.prog.globalNamed "math/bits.deBruijn32tab" = some 1 := by kernel_rfl
theorem gTab1 : Tryd.prog.globalNamed "math/bits.deBruijn64tab" = some 2 := by kernel_rfl
theorem gTab2 : Tryd.prog.globalNamed "internal/strconv.uint64pow10" = some 0 := by kernel_rfl
theorem tables {W : World} (h0 : laidMetH Tryd.prog Rows.wordTextsRow.laid W) : Tab W := by
  have h : laidMet Tryd.prog Rows.wordTextsRow.laid W := h0
  exact Lib.tabIs_of_head (rest := _) gTab2 (by kernel_rfl) Tryd.underlying70 Tryd.underlying52 (by kernel_rfl) (by kernel_rfl) (laidMet.tail (laidMet.tail h))
def lay (l : Array Value) : Obj → Obj
  | .cells _ t frozen => .cells l t frozen
  | o => o
noncomputable def laidWorld (os : Os) : World := { World.holding Tryd.prog os ⟨#[], #[], []⟩ with heap := ((((World.holding Tryd.prog os ⟨#[], #[], []⟩).heap.modify 1 (lay #[.int .u8 0, .int .u8 1, .int .u8 28, .int .u8 2, .int .u8 29, .int .u8 14, .int .u8 24, .int .u8 3, .int .u8 30, .int .u8 22, .int .u8 20, .int .u8 15, .int .u8 25, .int .u8 17, .int .u8 4, .int .u8 8, .int .u8 31, .int .u8 27, .int .u8 13, .int .u8 23, .int .u8 21, .int .u8 19, .int .u8 16, .int .u8 7, .int .u8 26, .int .u8 12, .int .u8 18, .int .u8 6, .int .u8 11, .int .u8 5, .int .u8 10, .int .u8 9])).modify 2 (lay #[.int .u8 0, .int .u8 1, .int .u8 56, .int .u8 2, .int .u8 57, .int .u8 49, .int .u8 28, .int .u8 3, .int .u8 61, .int .u8 58, .int .u8 42, .int .u8 50, .int .u8 38, .int .u8 29, .int .u8 17, .int .u8 4, .int .u8 62, .int .u8 47, .int .u8 59, .int .u8 36, .int .u8 45, .int .u8 43, .int .u8 51, .int .u8 22, .int .u8 53, .int .u8 39, .int .u8 33, .int .u8 30, .int .u8 24, .int .u8 18, .int .u8 12, .int .u8 5, .int .u8 63, .int .u8 55, .int .u8 48, .int .u8 27, .int .u8 60, .int .u8 41, .int .u8 37, .int .u8 16, .int .u8 46, .int .u8 35, .int .u8 44, .int .u8 21, .int .u8 52, .int .u8 32, .int .u8 23, .int .u8 11, .int .u8 54, .int .u8 26, .int .u8 40, .int .u8 15, .int .u8 34, .int .u8 20, .int .u8 31, .int .u8 10, .int .u8 25, .int .u8 14, .int .u8 19, .int .u8 9, .int .u8 13, .int .u8 8, .int .u8 7, .int .u8 6])).modify 0 (lay #[.int .u64 1, .int .u64 10, .int .u64 100, .int .u64 1000, .int .u64 10000, .int .u64 100000, .int .u64 1000000, .int .u64 10000000, .int .u64 100000000, .int .u64 1000000000, .int .u64 10000000000, .int .u64 100000000000, .int .u64 1000000000000, .int .u64 10000000000000, .int .u64 100000000000000, .int .u64 1000000000000000, .int .u64 10000000000000000, .int .u64 100000000000000000, .int .u64 1000000000000000000, .int .u64 10000000000000000000])) }
theorem laid_met (os : Os) : laidMet Tryd.prog Rows.wordTextsRow.laid ((laidWorld os).forCall (fun _ _ => 0) ⟨#[], #[.int .u32 0, .string .empty, .string .empty], []⟩).memory := laidMet_of_run' 8 (by kernel_rfl) (by kernel_rfl)
theorem reads (os : Os) {H : Type} (enc : TypeId × Value → H) : ∃ places, DataW.whole enc Tryd.prog ((laidWorld os).forCall (fun _ _ => 0) ⟨#[], #[.int .u32 0, .string .empty, .string .empty], []⟩).memory Tryd.f6.params.toList Rows.wordTextsSpec.vars false (#[.int .u32 0, .string .empty, .string .empty] : Array Value).toList 8 = some ([.lit (.int .u32 0), .lit (.string []), .lit (.string [])], [], places) := ⟨[], by kernel_rfl⟩
theorem contract (H : Type) (enc : TypeId × Value → H) (W : World) (base : Nat) (args : Array Value) (ds gs : List (DataW H)) (before : List MemPlace)
    (hval : ∀ (j : Nat) t v, Tryd.f6.params[j]? = some t → args[j]? = some v → Value.okWide Tryd.prog W .any base t v)
    (hW : DataW.Whole enc Tryd.prog Tryd.f6.params.toList Rows.wordTextsSpec.vars false W args.toList ds gs before) (hL : laidMetH Tryd.prog Rows.wordTextsRow.laid W) :
    Calls Tryd.prog 6 args W fun e W' => ∃ v, e = .returned v ∧ Rows.wordTextsSpec.post enc Tryd.prog Tryd.f6 false true false false W args v W' := by
  have hW' := hW
  obtain ⟨p, q, hA0, hV, rfl, hfz, hnd⟩ := hW
  have hA : DataW.TrodAll enc Tryd.prog W 0 (fun _ => true) true Tryd.f6.params.toList args.toList ds p := hA0
  rw [Tryd.params6] at hA hval
  obtain ⟨v0, vs0, d0, ds0, p0, q0, hargs, rfl, rfl, h0, r0⟩ := trodAll_cons hA
  obtain ⟨v1, vs1, d1, ds1, p1, q1, rfl, rfl, rfl, h1, r1⟩ := trodAll_cons r0
  obtain ⟨v2, vs2, d2, ds2, p2, q2, rfl, rfl, rfl, h2, r2⟩ := trodAll_cons r1
  obtain ⟨rfl, rfl, rfl⟩ := trodAll_nil r2
  obtain rfl : args = #[v0, v1, v2] := by cases args; simp_all
  obtain ⟨rfl, rfl⟩ := trodVars_none hV
  obtain ⟨a0, rfl, rfl, rfl, w0⟩ := open_int Tryd.underlying22 (hval 0 22 v0 rfl rfl) h0
  obtain ⟨a1, rfl, rfl, rfl, w1⟩ := open_string Tryd.underlying9 (hval 1 9 v1 rfl rfl) h1
  obtain ⟨a2, rfl, rfl, rfl, w2⟩ := open_string Tryd.underlying9 (hval 2 9 v2 rfl rfl) h2
  clear hA0
  have hT := tables hL
  refine (walk a0 a1 a2 W w0 w1 w2 hT).mono fun e W' ⟨he, bel⟩ => ?_
  subst he
  exact ⟨_, rfl, _, _, _, [], _, [], hW', trodAll_mk1 (shut_bool Tryd.underlying4 _), (trodAll_cons_mk (shut_int Tryd.underlying22 w0) (trodAll_cons_mk (shut_string Tryd.underlying9 w1) (trodAll_cons_mk (shut_string Tryd.underlying9 w2) trodAll_mk0))), rfl, bel.frame _, fun h => by cases h⟩
set_option maxRecDepth 100000 in
theorem lifted (os : Os) (started : os.Started) (H : Type) (enc : TypeId × Value → H) (F : Stop.Interp) :
    ReturnsInHanded {} Tryd.checked os 6 .any ((OpenSpec.ofChange Rows.wordTextsSpec).preRow enc Tryd.prog Tryd.f6 Rows.wordTextsRow.domain false Rows.wordTextsRow.laid) (((OpenSpec.ofChange Rows.wordTextsSpec).at F).post enc Tryd.prog Tryd.f6 false true false false) := by
  obtain ⟨places, hx⟩ := reads os enc
  refine returnsInHanded_of_row (C := Tryd.checked) (s := OpenSpec.ofChange Rows.wordTextsSpec) own started (by kernel_rfl) Tryd.func6
    (witness_row_at (enc := enc) (C := Tryd.checked) false (laidWorld os) #[.int .u32 0, .string .empty, .string .empty] rfl (by kernel_rfl) (by kernel_rfl) (by kernel_rfl)
      (OpenSpec.preRow_of_cond 8 hx (by kernel_rfl) (fun k hk => by cases hk) (by kernel_rfl) (laid_met os))) ?_
  intro W base args ds gs before hval hW _ _ _ hL _ _
  exact contract H enc W base args ds gs before hval hW hL
theorem said : Rows.WordTextsSaid :=
  OpenClaim.holds_of_cond 6 Tryd.f6 rfl rfl rfl rfl rfl rfl rfl ⟨rfl, rfl, rfl, rfl, rfl⟩ rfl rfl rfl rfl rfl (by kernel_rfl) Tryd.func6 (by kernel_rfl)
    (of_decide_eq_true (by kernel_rfl)) (by unfold Func.isWrapper; first | (rw [if_pos (by decide +kernel)]; kernel_rfl) | (rw [if_neg (by decide +kernel)]; exact ⟨rfl, rfl⟩))
    (fun os started H enc _ F => by rw [OpenClaim.pre_eq_preRow]; exact lifted os started H enc F)
theorem plain (f : FuncId) (fn : Func) (hf : Tryd.pinned.checked.prog.funcNamed "selfsame/selfsamelaw01.WordTexts" = some f) (hfn : Tryd.pinned.checked.prog.funcs[f]? = some fn) :
    false = Tryd.pinned.checked.prog.looks [] ∧ ∀ (j : Nat) t, fn.params[j]? = some t → Tryd.pinned.checked.prog.wantsStandIn t = false := by
  obtain rfl : f = 6 := Option.some.inj ((show Tryd.prog.funcNamed "selfsame/selfsamelaw01.WordTexts" = some 6 by kernel_rfl).symm.trans hf) |>.symm
  obtain rfl : fn = Tryd.f6 := (Option.some.inj (Tryd.func6.symm.trans hfn)).symm
  refine ⟨by kernel_rfl, fun j t ht => ?_⟩
  rw [Tryd.params6] at ht
  have hm := Array.mem_of_getElem? ht
  simp only [List.mem_toArray, List.mem_cons, List.not_mem_nil, or_false] at hm
  rcases hm with rfl | rfl | rfl
  · exact (show Tryd.prog.wantsStandIn 22 = false by kernel_rfl)
  · exact (show Tryd.prog.wantsStandIn 9 = false by kernel_rfl)
  · exact (show Tryd.prog.wantsStandIn 9 = false by kernel_rfl)
theorem proved : Rows.WordTextsCardSaid :=
  Claim7.holds_tied_plain_at .later [] _ _ _ _ said (fun _ h => by cases h) (by kernel_rfl) (fun _ h => by cases h) wordTexts_row_tie rfl ⟨rfl, rfl⟩ (by kernel_rfl) rfl plain (by kernel_rfl)
end Go.Proofs.YtpfbonknajcmaaaDoor.wordTexts

/-
  ScopeNil: what one that is not there, and a zero one, answer. No condition but the laid tables'.
-/
import Derived.Test.YtdoegipkfjndbaaGreatDoorScL
import Derived.Test.YtdoegipkfjndbaaGreatDoorScN
import Derived.Test.YtdoegipkfjndbaaGreatDoorRows
import Derived.Test.YtdoegipkfjndbaaGreatDoorCards
import Derived.Test.YtdoegipkfjndbaaGreatDoorTie
import Derived.Deep.DeepHandedRow
import Derived.Stop.LaidErr
import Derived.WalkKit
import Derived.ProofKit
import Derived.OpenShut
import Derived.LaidMore
import Derived.Lay
import Derived.SevenTiedAt
import Derived.Stop.Joined
namespace Go.Proofs.YtdoegipkfjndbaaGreatDoor.scopeNil
open Go.ChangeShapes Go.WideShapes Go.ChangeAt Go.RowKit
set_option linter.unusedVariables false
set_option linter.unusedSimpArgs false
structure Tab (w : World) : Prop where
  space : Lib.TabIs Tryz.prog w "strings.asciiSpace" .u8 spaceTab
set_option maxHeartbeats 16000000 in
set_option maxRecDepth 100000 in
theorem walk (w : World) (hT : Tab w) :
    Calls Tryz.prog 3 #[] w fun e w' => e = .returned (.bool true) ∧ Below w.heap.size w w' := by
  have HSP : SpTab w := ⟨hT.space⟩
  have HTT : Hid (∀ V, Below w.heap.size w V → SpTab V) := Lib.hid fun V hV => HSP.stab fun k hk => hV.block k (Nat.lt_of_lt_of_le hk (tab_base HSP (fun _ => 0) (fun _ => false) (fun _ => []) (fun _ => Nat.zero_le _)).2)
  clear hT HSP
  go_enter Tryz.func3, Tryz.ntmps3
  go_upto_region 3 with fail
  have hz0 : ((w.alloc (.cells #[.pointer none, .pointer none, .slice none 0 0, .int .i64 0, .slice none 0 0, .slice none 0 0, .map none] 29)).alloc (.cells #[.pointer none, .pointer (some ⟨w.heap.size, 0, none⟩)] 30)).heap[w.heap.size]? = some (.cells #[.pointer none, .pointer none, .slice none 0 0, .int .i64 0, .slice none 0 0, .slice none 0 0, .map none] 29 (0, 0)) := by
    rw [Below.heap_alloc _ _ _ (by simp)]; exact heap_alloc_new w _
  have hz1 : ((w.alloc (.cells #[.pointer none, .pointer none, .slice none 0 0, .int .i64 0, .slice none 0 0, .slice none 0 0, .map none] 29)).alloc (.cells #[.pointer none, .pointer (some ⟨w.heap.size, 0, none⟩)] 30)).heap[w.heap.size + 1]? = some (.cells #[.pointer none, .pointer (some ⟨w.heap.size, 0, none⟩)] 30 (0, 0)) := by
    have h := heap_alloc_new (w.alloc (.cells #[.pointer none, .pointer none, .slice none 0 0, .int .i64 0, .slice none 0 0, .slice none 0 0, .map none] 29)) (.cells #[.pointer none, .pointer (some ⟨w.heap.size, 0, none⟩)] 30)
    simpa using h
  have HB1 : Hid (Below w.heap.size w ((w.alloc (.cells #[.pointer none, .pointer none, .slice none 0 0, .int .i64 0, .slice none 0 0, .slice none 0 0, .map none] 29)).alloc (.cells #[.pointer none, .pointer (some ⟨w.heap.size, 0, none⟩)] 30))) := Lib.hid (((Below.refl _ _).alloc (Nat.le_refl _) _).alloc (by simp) _)
  generalize ((w.alloc (.cells #[.pointer none, .pointer none, .slice none 0 0, .int .i64 0, .slice none 0 0, .slice none 0 0, .map none] 29)).alloc (.cells #[.pointer none, .pointer (some ⟨w.heap.size, 0, none⟩)] 30)) = W1 at hz0 hz1 HB1 ⊢
  have HZ0 := Lib.hid hz0
  have HZ1 := Lib.hid hz1
  have HL : Hid (w.heap.size + 1 < W1.heap.size) := Lib.hid (Array.getElem?_eq_some_iff.1 hz1).1
  clear hz0 hz1
  go_wp2_with fail
  go_loopw [3] (fun iv wr => ∃ i : Nat, iv = .int .i64 (i : Int) ∧ i ≤ 2 ∧ Hid (Below W1.heap.size W1 wr)) (fun iv _ => 2 - (intOf iv).toNat)
  case atStart => exact ⟨0, rfl, by omega, Lib.hid (Below.refl _ _)⟩
  case round =>
    obtain ⟨i, rfl, hi, HW⟩ := hrel
    by_cases hlt : i < 2
    · obtain ⟨c, hc, hn⟩ : ∃ c, wr.cell? ⟨w.heap.size + 1, i, none⟩ = some c ∧ Nl wr c := by
        have h0 : wr.heap[w.heap.size + 1]? = some _ := (HW.out.block _ HL.out).trans HZ1.out
        have h2 : wr.heap[w.heap.size]? = some _ := (HW.out.block _ (by have := HL.out; omega)).trans HZ0.out
        match i, hlt with
        | 0, _ => exact ⟨.pointer none, by rw [World.cell?, h0]; rfl, .inl rfl⟩
        | 1, _ => exact ⟨.pointer (some ⟨w.heap.size, 0, none⟩), by rw [World.cell?, h0]; rfl, nl_zero w wr _ _ _ h2 rfl⟩
      have HN : Hid (∀ V, Below wr.heap.size wr V → Nl V c) := Lib.hid fun V hV => hn.next hV
      have H0 : Hid (Below wr.heap.size wr wr) := Lib.hid (Below.refl _ _)
      clear hn
      go_upto_region 12 with (first
        | (go_at_call 4; (with_reducible refine (nl_Open (HN.out _ H0.out)).mono ?_); rintro e w1 ⟨rfl, hb⟩; have H1 := Lib.hid (H0.out.trans (hb.mono H0.out.size)); clear hb)
        | (go_at_call 5; (with_reducible refine (nl_Close (HN.out _ H1.out)).mono ?_); rintro e w2 ⟨rfl, hb⟩; have H2 := Lib.hid (H1.out.trans (hb.mono H1.out.size)); clear hb)
        | (go_at_call 6; (with_reducible refine (nl_Set (HN.out _ H2.out)).mono ?_); rintro e w3 ⟨rfl, hb⟩; have H3 := Lib.hid (H2.out.trans (hb.mono H2.out.size)); clear hb)
        | (go_at_call 7; (with_reducible refine (nl_Declare (HN.out _ H3.out)).mono ?_); rintro e w4 ⟨rfl, hb⟩; have H4 := Lib.hid (H3.out.trans (hb.mono H3.out.size)); clear hb)
        | (go_at_call 8; (with_reducible refine (nl_Find (HN.out _ H4.out)).mono ?_); rintro e w5 ⟨rfl, hb⟩; have H5 := Lib.hid (H4.out.trans (hb.mono H4.out.size)); clear hb))
      go_upto_region 13 with (first
        | (go_at_call 9; (with_reducible refine (nl_Get (HN.out _ H5.out)).mono ?_); rintro e w6 ⟨rfl, hb⟩; have H6 := Lib.hid (H5.out.trans (hb.mono H5.out.size)); clear hb)
        | (with_reducible refine wpList_store_row rfl 36 _ _ rfl w6.heap.size #[.int .i64 0, .int .i64 0, .int .i64 0, .int .i64 0, .int .i32 0, .int .i64 0, .bool false, .bool false, .slice none 0 0] rfl rfl 36 _ (heap_alloc_new w6 _) nl_size9 rfl (by simp [Value.oneCell']) ?_))
      have H7 : Hid (Below wr.heap.size wr (w6.alloc (.cells #[.int .i64 0, .int .i64 0, .int .i64 0, .int .i64 0, .int .i32 0, .int .i64 0, .bool false, .bool false, .slice none 0 0] 36))) := Lib.hid (H6.out.alloc H6.out.size _)
      generalize w6.alloc (.cells #[.int .i64 0, .int .i64 0, .int .i64 0, .int .i64 0, .int .i32 0, .int .i64 0, .bool false, .bool false, .slice none 0 0] 36) = w7 at H7 ⊢
      clear H0 H1 H2 H3 H4 H5 H6
      go_upto_region 15 with (first
        | (go_at_call 11; (with_reducible refine (telling_any _).mono ?_); rintro e w8 ⟨f, rfl, hb⟩; have H8 := Lib.hid (H7.out.trans (hb.mono H7.out.size)); clear hb)
        | (go_at_call 10; (with_reducible refine (nl_Import (HN.out _ H8.out) _).mono ?_); rintro e w9 ⟨rfl, hb⟩; have H9 := Lib.hid (H8.out.trans (hb.mono H8.out.size)); clear hb)
        | (go_at_call 12; (with_reducible refine (nl_FindIn (HN.out _ H9.out)).mono ?_); rintro e w10 ⟨rfl, hb⟩; have H10 := Lib.hid (H9.out.trans (hb.mono H9.out.size)); clear hb))
      go_upto_region 16 with (first
        | (go_at_call 13; (with_reducible refine (nl_Face (HN.out _ H10.out)).mono ?_); rintro e w11 ⟨rfl, hb⟩; have H11 := Lib.hid (H10.out.trans (hb.mono H10.out.size)); clear hb)
        | (with_reducible refine wpList_store_row rfl 51 _ _ rfl w11.heap.size #[.string ⟨#[]⟩, .slice none 0 0, .slice none 0 0, .slice none 0 0] rfl rfl 51 _ (heap_alloc_new w11 _) nl_size4 rfl (by simp [Value.oneCell']) ?_))
      have H12 : Hid (Below wr.heap.size wr (w11.alloc (.cells #[.string ⟨#[]⟩, .slice none 0 0, .slice none 0 0, .slice none 0 0] 51))) := Lib.hid (H11.out.alloc H11.out.size _)
      generalize w11.alloc (.cells #[.string ⟨#[]⟩, .slice none 0 0, .slice none 0 0, .slice none 0 0] 51) = w12 at H12 ⊢
      clear H7 H8 H9 H10 H11
      go_wp2_with (first
        | (go_at_call 14; (with_reducible refine (nl_level (HN.out _ H12.out)).mono ?_); rintro e w' ⟨rfl, hw⟩; subst hw)
        | (go_at_call 15; (with_reducible refine (nl_Imports (HN.out _ H12.out)).mono ?_); rintro e w13 ⟨rfl, hb⟩; have H13 := Lib.hid (H12.out.trans (hb.mono H12.out.size)); clear hb)
        | (go_at_call 16; (with_reducible refine (nl_Len (HN.out _ H13.out)).mono ?_); rintro e w14 ⟨rfl, hb⟩; have H14 := Lib.hid (H13.out.trans (hb.mono H13.out.size)); clear hb))
      exact ⟨⟨i + 1, by simp, by omega, Lib.hid (HW.out.trans (H14.out.mono HW.out.size))⟩, by simp [intOf]; omega⟩
    · have HBW : Hid (Below w.heap.size w wr) := Lib.hid (HB1.out.trans (HW.out.mono HB1.out.size))
      have h2 : ¬ (i : Int) < 2 := by omega
      clear hlt hi
      go_wp2_with (first
        | (go_at_call 18; (with_reducible refine (types_new0 _ (HTT.out _ HBW.out)).mono ?_); rintro e w1 ⟨b, f, rfl, hb⟩; have H1 := Lib.hid (HBW.out.trans (hb.mono HBW.out.size)); clear hb)
        | (go_at_call 17; (with_reducible refine (new_nil _ _).mono ?_); rintro e w2 ⟨rfl, hb⟩; have H2 := Lib.hid (H1.out.trans (hb.mono H1.out.size)); clear hb)
        | (go_at_call 19; (with_reducible refine (scan_new _ (HTT.out _ H2.out)).mono ?_); rintro e w3 ⟨μ, b3, f3, rfl, hS, hm, hb⟩; have H3 := Lib.hid (H2.out.trans (hb.mono H2.out.size)); have HSS := Lib.hid (And.intro hS (And.intro hm H2.out.size)); clear hb hS hm)
        | (go_at_call 17; (with_reducible refine (scope_new0 HSS.out.1 HSS.out.2.1).mono ?_); rintro e w4 ⟨rfl, hb⟩; have H4 := Lib.hid (H3.out.trans (hb.mono HSS.out.2.2)); clear hb)
        | (go_at_call 20; (with_reducible refine (known13 _ (HTT.out _ H4.out)).mono ?_); rintro e w5 ⟨rfl, hb⟩; have H5 := Lib.hid (H4.out.trans (hb.mono H4.out.size)); clear hb))
      go_ret
      exact ⟨rfl, H5.out⟩
theorem own : ownKnob Tryz.prog.godebug = none := by kernel_rfl
theorem laidOut : laidOutB Tryz.prog = true := by kernel_rfl
theorem gTab5 : Tryz.prog.globalNamed "strings.asciiSpace" = some 0 := by kernel_rfl
set_option maxRecDepth 1000000 in
theorem tables {W : World} (h0 : laidMetH Tryz.prog Rows.scopeNilRow.laid W) : Tab W := by
  rw [MakeChecks.laidMetH_plain _ _ _ (by kernel_rfl)] at h0
  have h : laidMet Tryz.prog Rows.scopeNilRow.laid W := h0
  exact ⟨Lib.tabIs_of_head (rest := _) gTab5 (by kernel_rfl) Tryz.underlying131 Tryz.underlying5 (by kernel_rfl) (by kernel_rfl) (laidMet.tail (laidMet.tail (laidMet.tail (laidMet.tail (laidMet.tail h)))))⟩
set_option maxRecDepth 1000000 in
theorem contract (H : Type) (enc : TypeId × Value → H) (W : World) (base : Nat) (args : Array Value) (ds gs : List (DataW H)) (before : List MemPlace)
    (hval : ∀ (j : Nat) t v, Tryz.f3.params[j]? = some t → args[j]? = some v → Value.okWide Tryz.prog W .any base t v)
    (hW : DataW.Whole enc Tryz.prog Tryz.f3.params.toList Rows.scopeNilSpec.vars false W args.toList ds gs before) (hL : laidMetH Tryz.prog Rows.scopeNilRow.laid W) :
    Calls Tryz.prog 3 args W fun e W' => ∃ v, e = .returned v ∧ Rows.scopeNilSpec.post enc Tryz.prog Tryz.f3 false true false false W args v W' := by
  have hW' := hW
  obtain ⟨p, q, hA0, hV, rfl, hfz, hnd⟩ := hW
  have hA : DataW.TrodAll enc Tryz.prog W 0 (fun _ => true) true Tryz.f3.params.toList args.toList ds p := hA0
  rw [Tryz.params3] at hA hval
  obtain ⟨hargs, rfl, rfl⟩ := trodAll_nil hA
  obtain rfl : args = #[] := by cases args; simp_all
  obtain ⟨rfl, rfl⟩ := trodVars_none hV
  clear hA0
  have hT := tables hL
  refine (walk  W  hT).mono fun e W' ⟨he, bel⟩ => ?_
  subst he
  exact ⟨_, rfl, _, _, _, [], _, [], hW', trodAll_mk1 (shut_bool Tryz.underlying4 _), trodAll_mk0, rfl, bel.frame _, fun h => by cases h⟩
theorem witness_shaped {H : Type} {enc : TypeId × Value → H} {C : Checked} {os : Os} {f : FuncId} {fn : Func} {s : OpenSpec} {conds : List PathCond} {apart : Bool} {laid : List (String × DataW Unit)} (modest : Bool) (w0 : World) (args : Array Value) (hos : w0.os = os)
    (hsh : (w0.forCall (fun _ _ => 0) ⟨#[], args, []⟩).Shaped C.prog) (hok : Input.okWideB C.prog (w0.forCall (fun _ _ => 0) ⟨#[], args, []⟩) f ⟨#[], args, []⟩ = true)
    (hrow : s.preRow enc C.prog fn conds apart laid (w0.forCall (fun _ _ => 0) ⟨#[], args, []⟩).memory args) :
    ∃ (w : World) (tape : Tape) (i : Input), w.os = os ∧ (w.forCall tape i).Shaped C.prog ∧ i.vars = [] ∧ Input.okWide C.prog (w.forCall tape i) .any w.heap.size f i ∧
      s.preRow enc C.prog fn conds apart laid (w.forCall tape i).memory i.args ∧ ({ modest := modest } : Assume).holds C.prog (lone (Frame.enter C.prog f i.args .normal) [] (w.forCall tape i)) :=
  ⟨w0, fun _ _ => 0, ⟨#[], args, []⟩, hos, hsh, (Input.okWide_of_okWideB (base := 0) hok).1, (Input.okWide_of_okWideB hok).2, hrow, by
    simp only [Assume.holds]
    exact ⟨by simp, by simp, fun _ => Modest.zero, by simp, by simp⟩⟩
set_option maxRecDepth 1000000 in
theorem laid_met (os : Os) : laidMetH Tryz.prog Rows.scopeNilRow.laid ((World.laidAll Tryz.prog os Rows.scopeNilRow.laid).forCall (fun _ _ => 0) ⟨#[], #[], []⟩).memory := by
  rw [MakeChecks.laidMetH_plain _ _ _ (by kernel_rfl)]
  exact laidMet_laidAll _ (by kernel_rfl) (by kernel_rfl)
set_option maxRecDepth 1000000 in
theorem reads (os : Os) {H : Type} (enc : TypeId × Value → H) : ∃ places, DataW.whole enc Tryz.prog ((World.laidAll Tryz.prog os Rows.scopeNilRow.laid).forCall (fun _ _ => 0) ⟨#[], #[], []⟩).memory Tryz.f3.params.toList Rows.scopeNilSpec.vars false (#[] : Array Value).toList 8 = some ([], [], places) := ⟨[], by kernel_rfl⟩
set_option maxRecDepth 1000000 in
theorem lifted (os : Os) (started : os.Started) (H : Type) (enc : TypeId × Value → H) (F : Stop.Interp) :
    ReturnsInHanded {} Tryz.checked os 3 .any ((OpenSpec.ofChange Rows.scopeNilSpec).preRow enc Tryz.prog Tryz.f3 Rows.scopeNilRow.domain false Rows.scopeNilRow.laid) (((OpenSpec.ofChange Rows.scopeNilSpec).at F).post enc Tryz.prog Tryz.f3 false true false false) := by
  obtain ⟨places, hx⟩ := reads os enc
  refine returnsInHanded_of_row (C := Tryz.checked) (s := OpenSpec.ofChange Rows.scopeNilSpec) own started (by kernel_rfl) Tryz.func3
    (witness_shaped (enc := enc) (C := Tryz.checked) false (World.laidAll Tryz.prog os Rows.scopeNilRow.laid) #[] (World.laidAll_os _ _ _) (World.shaped_of_ZipB (by kernel_rfl) (by kernel_rfl)) (by kernel_rfl)
      (OpenSpec.preRow_of_cond 8 hx (by kernel_rfl) (fun k hk => by cases hk) (by kernel_rfl) (laid_met os))) ?_
  intro W base args ds gs before hval hW _ _ _ hL _ _
  exact contract H enc W base args ds gs before hval hW hL
theorem said : Rows.ScopeNilSaid :=
  OpenClaim.holds_of_cond 3 Tryz.f3 rfl rfl rfl rfl rfl rfl rfl ⟨rfl, rfl, rfl, rfl, rfl⟩ rfl rfl rfl rfl rfl (by kernel_rfl) Tryz.func3 (by kernel_rfl)
    (of_decide_eq_true (by kernel_rfl)) (by unfold Func.isWrapper; first | (rw [if_pos (by decide +kernel)]; kernel_rfl) | (rw [if_neg (by decide +kernel)]; exact ⟨rfl, rfl⟩))
    (fun os started H enc _ F => by rw [OpenClaim.pre_eq_preRow]; exact lifted os started H enc F)
theorem plain (f : FuncId) (fn : Func) (hf : Tryz.pinned.checked.prog.funcNamed "selfsame/selfsamelaw13.ScopeNil" = some f) (hfn : Tryz.pinned.checked.prog.funcs[f]? = some fn) :
    false = Tryz.pinned.checked.prog.looks [] ∧ ∀ (j : Nat) t, fn.params[j]? = some t → Tryz.pinned.checked.prog.wantsStandIn t = false := by
  obtain rfl : f = 3 := Option.some.inj ((show Tryz.prog.funcNamed "selfsame/selfsamelaw13.ScopeNil" = some 3 by kernel_rfl).symm.trans hf) |>.symm
  obtain rfl : fn = Tryz.f3 := (Option.some.inj (Tryz.func3.symm.trans hfn)).symm
  refine ⟨by kernel_rfl, fun j t ht => ?_⟩
  rw [Tryz.params3] at ht
  simp at ht
theorem proved : Rows.ScopeNilCardSaid :=
  Claim7.holds_tied_plain_at .later [] _ _ _ _ said (fun _ h => by cases h) (by kernel_rfl) (fun _ h => by cases h) scopeNil_row_tie rfl ⟨rfl, rfl⟩ (by kernel_rfl) rfl plain (by kernel_rfl)
end Go.Proofs.YtdoegipkfjndbaaGreatDoor.scopeNil

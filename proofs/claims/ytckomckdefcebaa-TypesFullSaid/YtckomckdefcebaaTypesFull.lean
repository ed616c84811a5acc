/-
  TypesFull: two hundred types and no more, of any kinds, at most three hundred asked for. No condition.
-/
import Derived.Test.YtckomckdefcebaaTypesC
import Derived.Test.YtckomckdefcebaaTypesF
import Derived.Test.YtckomckdefcebaaTypesI
import Derived.Test.YtckomckdefcebaaTypesK
namespace Go.Proofs.Ytckomckdefcebaa.typesFull
open Go.ChangeShapes Go.WideShapes Go.ChangeAt Go.RowKit
set_option linter.unusedVariables false
/-- where the round is -/
def St (w wr : World) (p : Nat) (j : Nat) : Prop := Below w.heap.size w wr ∧ ∃ G C ys, TabAt wr w.heap.size p G C (7 + min j 194) ys 0 ∧ ys.length = (7 + min j 194) * 7 ∧ Sz ys 1 4
/-- what the maker of the round gives -/
def Got (w : World) (p j : Nat) (N E : Int) (e : Ending) (w' : World) : Prop := e = .returned (.tuple #[.int .i64 N, .int .i64 E]) ∧ Hid (St w w' p (j + 1))
theorem sz_app {xs : List Value} (hl : 11 ≤ xs.length) (h : Sz xs 1 4) (ys : List Value) : Sz (xs ++ ys) 1 4 := by
  unfold Sz at *
  rw [List.getElem?_append_left (by omega)]; exact h
theorem made {w wr : World} {p j : Nat} {ys : List Value} {z : Int} (hb : Below w.heap.size w wr) (hl : ys.length = (7 + j) * 7) (hs : Sz ys 1 4) (hj : j < 194) {e : Ending} {w' : World} (h : Made wr w.heap.size p (7 + j) ys 0 z e w') : Got w p j (7 + j : Nat) 0 e w' := by
  obtain ⟨rfl, hb', g', c', x0, x1, x2, x4, x5, x6, hT⟩ := h
  refine ⟨rfl, Lib.hid ⟨hb.trans hb', g', c', ys ++ [x0, x1, x2, .int .i64 z, x4, x5, x6], ?_, ?_, sz_app (by omega) hs _⟩⟩
  · rw [show min (j + 1) 194 = j + 1 by omega]; exact hT
  · simp; omega
theorem refused {w wr : World} {p j G C : Nat} {ys : List Value} (hb : Below w.heap.size w wr) (hl : ys.length = 201 * 7) (hs : Sz ys 1 4) (hj : 194 ≤ j) {e : Ending} {w' : World} (h : Refused wr w.heap.size p G C 201 ys 0 64 e w') : Got w p j 0 64 e w' := by
  obtain ⟨rfl, hb', hT⟩ := h
  refine ⟨rfl, Lib.hid ⟨hb.trans hb', G, C, ys, ?_, ?_, hs⟩⟩
  · rw [show min (j + 1) 194 = 194 by omega]; exact hT
  · omega
section
variable {w wr : World} {p j : Nat}
theorem calls (h : St w wr p j) : ∃ N E : Int, ((j < 194 ∧ N = (7 + j : Nat) ∧ E = 0) ∨ (194 ≤ j ∧ N = 0 ∧ E = 64)) ∧ (Calls Try.prog 15 #[.pointer (some ⟨p, 0, none⟩), .int .i64 1, .int .i64 1] wr (Got w p j N E)) ∧ (Calls Try.prog 16 #[.pointer (some ⟨p, 0, none⟩), .int .i64 1] wr (Got w p j N E))
    ∧ (Calls Try.prog 17 #[.pointer (some ⟨p, 0, none⟩)] wr (Got w p j N E)) ∧ (Calls Try.prog 18 #[.pointer (some ⟨p, 0, none⟩), .int .i64 0] wr (Got w p j N E))
    ∧ (Calls Try.prog 19 #[.pointer (some ⟨p, 0, none⟩), .agg #[.int .i64 3, .int .i64 0, .int .i64 0, .int .i64 4, .slice none 0 0, .int .i64 0, .int .i64 0]] wr (Got w p j N E)) := by
  obtain ⟨hb, G, C, ys, hT, hl, hs⟩ := h
  have hB := hb.size
  by_cases hj : j < 194
  · rw [show min j 194 = j by omega] at hT hl
    exact ⟨_, _, .inl ⟨hj, rfl, rfl⟩, (array_good hT 1 1 4 (by omega) (by omega) hs (by omega) (by omega) (by omega) (by omega) (by omega) (by omega) hB).mono (fun e w' h => made hb hl hs hj h),
      (open_good hT (by omega) (by omega) hB).mono (fun e w' h => made hb hl hs hj h), (record_good hT (by omega) hB).mono (fun e w' h => made hb hl hs hj h),
      (pointer_good hT (by omega) hB).mono (fun e w' h => made hb hl hs hj h), (import_good hT (by omega) (by omega) (by omega) hB).mono (fun e w' h => made hb hl hs hj h)⟩
  · rw [show min j 194 = 194 by omega] at hT hl
    exact ⟨_, _, .inr ⟨by omega, rfl, rfl⟩, (array_full hT hs rfl hB).mono (fun e w' h => refused hb hl hs (by omega) h),
      (open_full hT rfl hB).mono (fun e w' h => refused hb hl hs (by omega) h), (record_full hT rfl hB).mono (fun e w' h => refused hb hl hs (by omega) h),
      (pointer_full hT rfl hB).mono (fun e w' h => refused hb hl hs (by omega) h), (import_full hT (by omega) (by omega) rfl hB).mono (fun e w' h => refused hb hl hs (by omega) h)⟩
end
set_option maxHeartbeats 4000000 in
set_option maxRecDepth 4000 in
theorem walk (a0 : Option Addr) (len0 cap0 : Nat) (z0 : List Int) (w : World) (w0 : IsRow .i64 w a0 len0 cap0 z0) :
    Calls Try.prog 4 #[.slice a0 len0 cap0] w fun e w' => e = .returned (.bool true) ∧ Below w.heap.size w w' := by
  have W0 := Lib.hid w0
  have hl0 : len0 ≤ maxLen := Nat.le_trans w0.2.1 w0.2.2.1
  have KN := Lib.hid known12_any
  clear w0
  by_cases h3 : 300 < len0
  · unfold maxLen at hl0
    go_enter Try.func4, Try.ntmps4
    go_wp2_with (go_at_call 7; refine (KN.out _).mono ?_; rintro e w' ⟨rfl, hb⟩)
    go_ret
    exact ⟨rfl, hb⟩
  · have NW := Lib.hid (new_any w)
    go_enter Try.func4, Try.ntmps4
    go_wp2_with (go_at_call 8; refine NW.out.mono ?_; rintro e w' ⟨p, g, cap, xs, rfl, hb, hT, hxs⟩)
    subst hxs
    have HR : Hid (St w w' p 0) := Lib.hid ⟨hb, g, cap, rowB 6, hT, rowB_len 6, rfl⟩
    clear hT NW hb
    go_loopw [4] (fun i wr => ∃ (j : Nat), j ≤ len0 ∧ i = .int .i64 j ∧ Hid (St w wr p j)) (fun i _ => len0 - (intOf i).toNat)
    case atStart => exact ⟨0, Nat.zero_le _, rfl, HR⟩
    case round =>
      obtain ⟨j, hj, rfl, HT⟩ := hrel
      clear HR
      by_cases hlt : j < len0
      · obtain ⟨x, rfl, hx, hcell⟩ := W0.out.2.2.2.2.2 (by omega)
        have hbr := HT.out.1
        have hc : wr.cell? (x.add j) = some (.int .i64 (nth z0 j)) := by
          rw [hbr.cell (by rw [block_add]; exact hx)]; exact hcell j hlt
        have hlb := bd_i64 (W0.out.2.2.2.1 (nth z0 j) (by rw [nth_eq z0 j (by rw [W0.out.1]; exact hlt)]; exact List.getElem_mem _))
        clear hcell hbr
        generalize nth z0 j = l at *
        obtain ⟨N, E, hne, hc1, hc2, hc3, hc4, hc5⟩ := calls HT.out
        have HC1 := Lib.hid hc1
        have HC2 := Lib.hid hc2
        have HC3 := Lib.hid hc3
        have HC4 := Lib.hid hc4
        have HC5 := Lib.hid hc5
        clear HT hc1 hc2 hc3 hc4 hc5
        rcases hne with ⟨q1, rfl, rfl⟩ | ⟨q1, rfl, rfl⟩
        · go_wp2_with (first | (go_at_call 15; refine HC1.out.mono ?_; rintro e w2 ⟨rfl, hs⟩) | (go_at_call 16; refine HC2.out.mono ?_; rintro e w2 ⟨rfl, hs⟩) | (go_at_call 17; refine HC3.out.mono ?_; rintro e w2 ⟨rfl, hs⟩) | (go_at_call 18; refine HC4.out.mono ?_; rintro e w2 ⟨rfl, hs⟩) | (go_at_call 19; refine HC5.out.mono ?_; rintro e w2 ⟨rfl, hs⟩))
          all_goals exact ⟨⟨j + 1, by omega, by simp, hs⟩, by simp [intOf]; omega⟩
        · go_wp2_with (first | (go_at_call 15; refine HC1.out.mono ?_; rintro e w2 ⟨rfl, hs⟩) | (go_at_call 16; refine HC2.out.mono ?_; rintro e w2 ⟨rfl, hs⟩) | (go_at_call 17; refine HC3.out.mono ?_; rintro e w2 ⟨rfl, hs⟩) | (go_at_call 18; refine HC4.out.mono ?_; rintro e w2 ⟨rfl, hs⟩) | (go_at_call 19; refine HC5.out.mono ?_; rintro e w2 ⟨rfl, hs⟩))
          all_goals exact ⟨⟨j + 1, by omega, by simp, hs⟩, by simp [intOf]; omega⟩
      · obtain rfl : j = len0 := by omega
        obtain ⟨hb, G, C, ys, hT, -, -⟩ := HT.out
        have HL := Lib.hid (len_any hT)
        have HB := Lib.hid hb
        have hle := hb.size
        clear HT hT hb
        by_cases h4 : j < 194
        · have hm : min j 194 = j := by omega
          rw [hm] at HL
          clear hm
          go_wp2_with (first | (go_at_call 7; refine (KN.out _).mono ?_; rintro e w3 ⟨rfl, hb3⟩) | (go_at_call 20; refine HL.out.mono ?_; rintro e w' ⟨rfl, rfl⟩))
          all_goals
            go_ret
            exact ⟨rfl, HB.out.trans (hb3.mono hle)⟩
        · have hm : min j 194 = 194 := by omega
          rw [hm] at HL
          clear hm
          go_wp2_with (first | (go_at_call 7; refine (KN.out _).mono ?_; rintro e w3 ⟨rfl, hb3⟩) | (go_at_call 20; refine HL.out.mono ?_; rintro e w' ⟨rfl, rfl⟩))
          all_goals
            go_ret
            exact ⟨rfl, HB.out.trans (hb3.mono hle)⟩
theorem own : ownKnob Try.prog.godebug = none := by kernel_rfl
theorem laidOut : laidOutB Try.prog = true := by kernel_rfl
set_option maxRecDepth 1000000 in
theorem contract (H : Type) (enc : TypeId × Value → H) (W : World) (base : Nat) (args : Array Value) (ds gs : List (DataW H)) (before : List MemPlace)
    (hval : ∀ (j : Nat) t v, Try.f4.params[j]? = some t → args[j]? = some v → Value.okWide Try.prog W .any base t v)
    (hW : DataW.Whole enc Try.prog Try.f4.params.toList Rows.typesFullSpec.vars false W args.toList ds gs before) :
    Calls Try.prog 4 args W fun e W' => ∃ v, e = .returned v ∧ Rows.typesFullSpec.post enc Try.prog Try.f4 false true false false W args v W' := by
  have hW' := hW
  obtain ⟨p, q, hA0, hV, rfl, hfz, hnd⟩ := hW
  have hA : DataW.TrodAll enc Try.prog W 0 (fun _ => true) true Try.f4.params.toList args.toList ds p := hA0
  rw [Try.params4] at hA hval
  obtain ⟨v0, vs0, d0, ds0, p0, q0, hargs, rfl, rfl, h0, r0⟩ := trodAll_cons hA
  obtain ⟨rfl, rfl, rfl⟩ := trodAll_nil r0
  obtain rfl : args = #[v0] := by cases args; simp_all
  obtain ⟨rfl, rfl⟩ := trodVars_none hV
  obtain ⟨a0, len0, cap0, rfl⟩ := okWide_slice Try.underlying46 (hval 0 46 v0 rfl rfl)
  have k0 := h0
  have lt0 : ∀ x ∈ p0, x.block < W.heap.size := by obtain ⟨m, hm⟩ := k0; exact DataW.trod_lt m _ _ _ hm
  obtain ⟨z0, w0⟩ := isRow_of Try.underlying46 Try.underlying3 (by kernel_rfl) h0
  clear hA0
  refine (walk a0 len0 cap0 z0 W w0).mono fun e W' ⟨he, bel⟩ => ?_
  subst he
  exact ⟨_, rfl, _, _, _, [], _, [], hW', trodAll_mk1 (shut_bool Try.underlying4 _), (trodAll_cons_mk (Below.trod laidOut (by kernel_rfl) (of_decide_eq_true (by kernel_rfl)) k0 bel lt0) trodAll_mk0), rfl, bel.frame _, fun h => by cases h⟩
set_option maxRecDepth 100000 in
theorem lifted (os : Os) (started : os.Started) (H : Type) (enc : TypeId × Value → H) :
    ReturnsInHanded {} Try.checked os 4 .any (Rows.typesFullSpec.pre6 enc Try.prog Try.f4 Rows.typesFullRow.domain false) (Rows.typesFullSpec.post enc Try.prog Try.f4 false true false false) := by
  refine returnsInHanded_of_change (C := Try.checked) own started (by kernel_rfl) Try.func4
    (ChangeSpec.witness6 (enc := enc) (C := Try.checked) false ⟨#[], #[.slice none 0 0], []⟩ 8 (by kernel_rfl) (by kernel_rfl) (by kernel_rfl) (by kernel_rfl)) ?_
  intro W base args ds gs before hval hW hcnd _
  exact contract H enc W base args ds gs before hval hW
theorem said : Rows.TypesFullSaid :=
  OpenClaim.holds_of_wide 4 Try.f4 rfl rfl rfl rfl rfl rfl rfl ⟨rfl, rfl, rfl, rfl, rfl⟩ rfl rfl rfl rfl rfl (by kernel_rfl) Try.func4 (by kernel_rfl)
    (of_decide_eq_true (by kernel_rfl)) (by unfold Func.isWrapper; first | (rw [if_pos (by decide +kernel)]; kernel_rfl) | (rw [if_neg (by decide +kernel)]; exact ⟨rfl, rfl⟩))
    (fun os started H enc _ => lifted os started H enc)
theorem proved : Rows.TypesFullSaid := said
end Go.Proofs.Ytckomckdefcebaa.typesFull

/-
  ScopeFull: nine hundred things and no more may be declared, whatever lists are opened between them. No condition but the laid tables'.
-/
import Derived.Test.YtpnohekidpphfaaGreatDoorScB
import Derived.Test.YtpnohekidpphfaaGreatDoorScK
import Derived.Test.YtpnohekidpphfaaGreatDoorRows
import Derived.Test.YtpnohekidpphfaaGreatDoorCards
import Derived.Test.YtpnohekidpphfaaGreatDoorTie
import Derived.Deep.DeepHandedRow
import Derived.Stop.LaidErr
import Derived.WalkKit
import Derived.ProofKit
import Derived.OpenShut
import Derived.LaidMore
import Derived.Lay
import Derived.SevenTiedAt
import Derived.Stop.Joined
namespace Go.Proofs.YtpnohekidpphfaaGreatDoor.scopeFull
open Go.ChangeShapes Go.WideShapes Go.ChangeAt Go.RowKit
set_option linter.unusedVariables false
set_option linter.unusedSimpArgs false
structure Tab (w : World) : Prop where
  space : Lib.TabIs Tryz.prog w "strings.asciiSpace" .u8 spaceTab
/-- where the rounds are: so many were declared; the last list's names are below the next one's -/
def At (w wr : World) (p o i k : Nat) : Prop := Below w.heap.size w wr ∧ ∃ tv lv xs ls q v ns, ScAt wr w.heap.size p o tv lv (29 + min i 900) xs ls ∧ ls.length = q + 1 ∧ ls[q]? = some (v, ns) ∧ ns.length ≤ i ∧ (∀ j ∈ ns, ∃ y, Nm xs j y ∧ y < 1000 + (i : Int)) ∧ ls.length ≤ 2 + 20 * i + k
theorem At.below {w wr W : World} {p o i k : Nat} (h : At w wr p o i k) (hb : Below wr.heap.size wr W) : At w W p o i k := by
  obtain ⟨h1, tv, lv, xs, ls, q, v, ns, h2, h3⟩ := h
  exact ⟨h1.trans (hb.mono h1.size), tv, lv, xs, ls, q, v, ns, h2.below hb, h3⟩
theorem At.more {w wr : World} {p o i k : Nat} (h : At w wr p o i k) : At w wr p o i (k + 1) := by
  obtain ⟨h1, tv, lv, xs, ls, q, v, ns, h2, h3, h4, h5, h6, h7⟩ := h
  exact ⟨h1, tv, lv, xs, ls, q, v, ns, h2, h3, h4, h5, h6, by omega⟩
theorem At.fresh {w wr : World} {p o i k : Nat} (h : At w wr p o i k) (hk : k ≤ 20) : At w wr p o i 20 := by
  obtain ⟨h1, tv, lv, xs, ls, q, v, ns, h2, h3, h4, h5, h6, h7⟩ := h
  exact ⟨h1, tv, lv, xs, ls, q, v, ns, h2, h3, h4, h5, h6, by omega⟩
theorem open_at {w wr : World} {p o i k : Nat} (h : At w wr p o i k) (hi : i ≤ 1000) (hk : k < 20) : Calls Tryz.prog 9 #[.pointer (some ⟨p, o, none⟩)] wr fun e w' => e = .returned (.tuple #[]) ∧ At w w' p o i (k + 1) := by
  obtain ⟨h1, tv, lv, xs, ls, q, v, ns, h2, h3, h4, h5, h6, h7⟩ := h
  refine (open_any h2 (by omega) h1.size).mono fun e w' ⟨he, hb, lv', hs⟩ => ⟨he, h1.trans hb, tv, lv', xs, _, q + 1, .slice none 0 0, [], hs, by simp [h3], ?_, by simp, fun j hj => by simp at hj, by simp; omega⟩
  rw [List.getElem?_append_right (by omega), h3]
  simp
theorem nm_app {xs ys : List Value} {j : Nat} {y : Int} (h : Nm xs j y) : Nm (xs ++ ys) j y := by
  unfold Nm at *
  rw [List.getElem?_append_left (List.getElem?_eq_some_iff.1 h).1]; exact h
/-- what a round's Declare tells -/
theorem declare_at {w wr : World} {p o i : Nat} (h : At w wr p o i 20) (hi : i < 1000) : ∃ N E : Int, ((i < 900 ∧ N = 29 + (i : Int) ∧ E = 0) ∨ (900 ≤ i ∧ N = 0 ∧ E = 63)) ∧
    Calls Tryz.prog 10 #[.pointer (some ⟨p, o, none⟩), .agg #[.int .i64 3, .int .i64 (1000 + (i : Int)), .int .i64 1, .int .i64 0, .int .i32 0, .int .i64 0, .bool false, .bool false, .slice none 0 0]] wr fun e w' => e = .returned (.tuple #[.int .i64 N, .int .i64 E]) ∧ At w w' p o (i + 1) 0 := by
  obtain ⟨h1, tv, lv, xs, ls, q, v, ns, h2, h3, h4, h5, h6, h7⟩ := h
  have hno : ∀ j ∈ ns, ∃ y, Nm xs j y ∧ y ≠ 1000 + (i : Int) := fun j hj => by
    obtain ⟨y, hy, hlt⟩ := h6 j hj
    exact ⟨y, hy, by omega⟩
  by_cases h9 : i < 900
  · rw [show min i 900 = i by omega] at h2
    have hxl := h2.th.1
    refine ⟨_, _, .inl ⟨h9, rfl, rfl⟩, (declare_any h2 h1.size q h3 v ns h4 (by omega) (.int .i64 3) (1000 + (i : Int)) (.int .i64 1) (.int .i32 0) (.int .i64 0) (.bool false) (.bool false) rfl rfl rfl rfl rfl rfl hno (by omega)).mono fun e w' ⟨he, hb, tv', v', hs⟩ => ⟨by rw [he, show ((29 + i : Nat) : Int) = 29 + (i : Int) by omega], h1.trans hb, tv', lv, xs ++ cells9 (.int .i64 3) (.int .i64 (1000 + (i : Int))) (.int .i64 1) (.int .i64 ((q : Int) + 1 - 2)) (.int .i32 0) (.int .i64 0) (.bool false) (.bool false), ls.set q (v', ns ++ [29 + i]), q, v', ns ++ [29 + i], ?_, by rw [List.length_set]; exact h3, ?_, by rw [List.length_append]; simp only [List.length_cons, List.length_nil]; omega, fun j hj => ?_, by rw [List.length_set]; omega⟩⟩
    · rw [show min (i + 1) 900 = i + 1 by omega]; exact hs
    · rw [List.getElem?_set, if_pos rfl, if_pos (by omega)]
    · rcases List.mem_append.1 hj with hj | hj
      · obtain ⟨y, hy, hlt⟩ := h6 j hj
        exact ⟨y, nm_app hy, by push_cast; omega⟩
      · obtain rfl : j = 29 + i := by simpa using hj
        refine ⟨1000 + (i : Int), ?_, by push_cast; omega⟩
        unfold Nm
        rw [List.getElem?_append_right (by omega), show (29 + i) * 9 + 1 - xs.length = 1 by omega]
        rfl
  · rw [show min i 900 = 900 by omega] at h2
    refine ⟨_, _, .inr ⟨by omega, rfl, rfl⟩, (declare_full h2 rfl q h3 v ns h4 (by omega) (.int .i64 3) (1000 + (i : Int)) (.int .i64 1) (.int .i32 0) (.int .i64 0) (.bool false) (.bool false) hno).mono fun e w' ⟨he, hb⟩ => ⟨he, h1.trans (hb.mono h1.size), tv, lv, xs, ls, q, v, ns, ?_, h3, h4, by omega, fun j hj => ?_, by omega⟩⟩
    · rw [show min (i + 1) 900 = 900 by omega]; exact h2.below hb
    · obtain ⟨y, hy, hlt⟩ := h6 j hj
      exact ⟨y, hy, by push_cast; omega⟩
theorem len_at {w wr : World} {p o i k : Nat} (h : At w wr p o i k) : Calls Tryz.prog 11 #[.pointer (some ⟨p, o, none⟩)] wr fun e w' => e = .returned (.int .i64 ((min i 900 : Nat) : Int)) ∧ Below wr.heap.size wr w' := by
  obtain ⟨h1, tv, lv, xs, ls, q, v, ns, h2, _⟩ := h
  exact (sclen_any h2).mono fun e w' ⟨he, hb⟩ => ⟨by rw [he]; congr 2; push_cast; omega, hb⟩
set_option maxHeartbeats 4000000 in
set_option maxRecDepth 100000 in
theorem walk (a0 : Int) (a1 : Option Addr) (len1 cap1 : Nat) (z1 : List Int) (w : World) (w0 : (Lit.int .i64 a0).wf = true) (w1 : IsRow .i64 w a1 len1 cap1 z1) (hT : Tab w) :
    Calls Tryz.prog 3 #[.int .i64 a0, .slice a1 len1 cap1] w fun e w' => e = .returned (.bool true) ∧ Below w.heap.size w w' := by
  obtain ⟨b0, b1⟩ := bd_i64 w0
  have hl1 : len1 ≤ maxLen := Nat.le_trans w1.2.1 w1.2.2.1
  have W1 := Lib.hid w1
  have HT : Hid (SpTab w) := Lib.hid ⟨hT.space⟩
  have KN : Hid (∀ W, Below w.heap.size w W → Calls Tryz.prog 5 #[] W fun e w' => e = .returned (.bool true) ∧ Below W.heap.size W w') := Lib.hid fun W hW => known13 W (HT.out.stab fun k hk => hW.block k (Nat.lt_of_lt_of_le hk (tab_base HT.out (fun _ => 0) (fun _ => false) (fun _ => []) (fun _ => Nat.zero_le _)).2))
  clear w0 w1 hT
  unfold maxLen at hl1
  by_cases hm : 0 ≤ a0 ∧ a0 ≤ 1000 ∧ len1 ≤ 20
  rotate_left
  · have hm2 : a0 < 0 ∨ 1000 < a0 ∨ 20 < len1 := by omega
    go_enter Tryz.func3, Tryz.ntmps3
    go_wp2_with (go_at_call 5; (refine (KN.out _ (Below.refl _ _)).mono ?_); rintro e w' ⟨rfl, hb⟩)
    all_goals first
      | (go_ret; exact ⟨rfl, hb⟩)
      | (exfalso; rcases hm2 with h | h | h <;> simp_all <;> omega)
  · obtain ⟨hm1, hm2, hm3⟩ := hm
    obtain ⟨n, rfl⟩ := Int.eq_ofNat_of_zero_le hm1
    go_enter Tryz.func3, Tryz.ntmps3
    go_wp2_with (first
      | (go_at_call 6; (refine (scan_new _ HT.out).mono ?_); rintro e v1 ⟨μ, sb, sf, rfl, hs, hμ, hb⟩; have HS := Lib.hid hs; have HM := Lib.hid hμ; have HB1 := Lib.hid hb; clear hs hμ hb)
      | (go_at_call 8; (refine (types_new HS.out).mono ?_); rintro e v2 ⟨μ1, tb, tf, rfl, hle, hs, hμ, hb⟩; have HS2 := Lib.hid hs; have HM2 := Lib.hid hμ; have HM1 := Lib.hid (Ev.Names.le.at hle HM.out); have HB2 := Lib.hid (HB1.out.trans hb); clear hs hμ hb hle)
      | (go_at_call 7; (refine (scope_new HS2.out HM1.out HM2.out).mono ?_); rintro e v3 ⟨p, o, tv, lv, xs, v0, rfl, hb, hs⟩; have HA : Hid (At w v3 p o 0 0) := Lib.hid ⟨HB2.out.trans hb, tv, lv, xs, _, 1, .slice none 0 0, [], hs, rfl, rfl, by simp, fun j hj => by simp at hj, by simp⟩; clear hb hs))
    clear HS HM HB1 HS2 HM2 HM1 HB2
    go_loopw [7, 8, 9, 10] (fun i _ _ _ wr => ∃ x : Nat, i = .int .i64 (x : Int) ∧ x ≤ n ∧ Hid (At w wr p o x 0)) (fun i _ _ _ _ => n - (intOf i).toNat)
    case atStart => exact ⟨0, rfl, by omega, HA⟩
    case round =>
      clear HA
      obtain ⟨x, rfl, hxn, HA⟩ := hrel
      by_cases hlt : x < n
      · go_wp2_with fail
        go_loopw [8] (fun i wr => ∃ k : Nat, i = .int .i64 (k : Int) ∧ k ≤ len1 ∧ Hid (At w wr p o x k)) (fun i _ => len1 - (intOf i).toNat)
        case atStart => exact ⟨0, rfl, by omega, HA⟩
        case round =>
          clear HA
          obtain ⟨k, rfl, hk, HA⟩ := hrel
          by_cases hlk : k < len1
          · obtain ⟨pz, he, hpb, hz⟩ := W1.out.2.2.2.2.2 (by omega)
            subst he
            have hzk : wr.cell? (pz.add k) = some (.int .i64 (nth z1 k)) := by
              rw [HA.out.1.cell (by rw [block_add]; exact hpb)]; exact hz k hlk
            clear hpb hz
            by_cases hq : nth z1 k = (x : Int)
            · rw [hq] at hzk
              have HO := Lib.hid (open_at HA.out (by omega) (by omega))
              go_wp2_with (go_at_call 9; (refine HO.out.mono ?_); rintro e w' ⟨rfl, ha⟩; have HA2 := Lib.hid ha; clear ha)
              exact ⟨⟨k + 1, by simp, by omega, HA2⟩, by simp [intOf]; omega⟩
            · have hq2 : (nth z1 k == (x : Int)) = false := by simpa using hq
              have HA2 := Lib.hid HA.out.more
              generalize nth z1 k = zk at *
              go_wp2_with fail
              exact ⟨⟨k + 1, by simp, by omega, HA2⟩, by simp [intOf]; omega⟩
          · obtain rfl : k = len1 := by omega
            obtain ⟨N, E, hNE, hD⟩ := declare_at (HA.out.fresh hm3) (by omega)
            have HD := Lib.hid hD
            clear hD
            rcases hNE with ⟨h9, rfl, rfl⟩ | ⟨h9, rfl, rfl⟩
            all_goals
              go_wp2_with (go_at_call 10; (refine HD.out.mono ?_); rintro e w' ⟨rfl, ha⟩; have HA2 := Lib.hid ha; clear ha)
            all_goals first
              | exact ⟨⟨x + 1, by simp, by omega, HA2⟩, by simp [intOf]; omega⟩
              | (exfalso; omega)
              | trace_state
      · obtain rfl : x = n := by omega
        have HKB : Hid (∀ W, Below wr.heap.size wr W → Calls Tryz.prog 5 #[] W fun e w' => e = .returned (.bool true) ∧ Below W.heap.size W w') := Lib.hid fun W hW => KN.out W (HA.out.1.trans (hW.mono HA.out.1.size))
        have HR : Hid (∀ W, Below wr.heap.size wr W → Calls Tryz.prog 12 #[] W fun e w' => ∃ b f a, e = .returned (.pointer (some ⟨b, f, none⟩)) ∧ w'.cell? ⟨b, f, none⟩ = some (.slice (some a) 7 7) ∧ Below W.heap.size W w') := Lib.hid fun W hW => ref12_new W (HT.out.stab fun k hk => (HA.out.1.trans (hW.mono HA.out.1.size)).block k (Nat.lt_of_lt_of_le hk (tab_base HT.out (fun _ => 0) (fun _ => false) (fun _ => []) (fun _ => Nat.zero_le _)).2))
        have HLN : Hid (∀ W, Below wr.heap.size wr W → Calls Tryz.prog 11 #[.pointer (some ⟨p, o, none⟩)] W fun e w' => e = .returned (.int .i64 ((min x 900 : Nat) : Int)) ∧ Below W.heap.size W w') := Lib.hid fun W hW => len_at (HA.out.below hW)
        have hmin : (x ≤ 900 ∧ min x 900 = x) ∨ (900 < x ∧ min x 900 = 900) := by omega
        rcases hmin with ⟨h9, hmn⟩ | ⟨h9, hmn⟩
        all_goals
          rw [hmn] at HLN
          go_wp2_with (first
            | (go_at_call 11; (refine (HLN.out _ (Below.refl _ _)).mono ?_); rintro e v5 ⟨rfl, hb⟩; have HB5 := Lib.hid hb; clear hb)
            | (go_at_call 11; (refine (HLN.out _ HB5.out).mono ?_); rintro e v6 ⟨rfl, hb⟩; replace HB5 := Lib.hid (HB5.out.trans (hb.mono HB5.out.size)); clear hb)
            | (go_at_call 12; (refine (HR.out _ HB5.out).mono ?_); rintro e v7 ⟨rb, rf, ra, rfl, hc, hb⟩; have HB7 := Lib.hid (HB5.out.trans (hb.mono HB5.out.size)); clear hb)
            | (go_at_call 5; (refine (HKB.out _ HB7.out).mono ?_); rintro e v8 ⟨rfl, hb⟩; have HB8 := Lib.hid (HA.out.1.trans ((HB7.out.trans (hb.mono HB7.out.size)).mono HA.out.1.size)); clear hb))
        all_goals first
          | (go_ret; exact ⟨rfl, HB8.out⟩)
          | (exfalso; omega)
          | trace_state
theorem own : ownKnob Tryz.prog.godebug = none := by kernel_rfl
theorem laidOut : laidOutB Tryz.prog = true := by kernel_rfl
theorem gTab5 : Tryz.prog.globalNamed "strings.asciiSpace" = some 0 := by kernel_rfl
set_option maxRecDepth 1000000 in
theorem tables {W : World} (h0 : laidMetH Tryz.prog Rows.scopeFullRow.laid W) : Tab W := by
  rw [MakeChecks.laidMetH_plain _ _ _ (by kernel_rfl)] at h0
  have h : laidMet Tryz.prog Rows.scopeFullRow.laid W := h0
  exact ⟨Lib.tabIs_of_head (rest := _) gTab5 (by kernel_rfl) Tryz.underlying81 Tryz.underlying5 (by kernel_rfl) (by kernel_rfl) (laidMet.tail (laidMet.tail (laidMet.tail (laidMet.tail (laidMet.tail h)))))⟩
set_option maxRecDepth 1000000 in
theorem contract (H : Type) (enc : TypeId × Value → H) (W : World) (base : Nat) (args : Array Value) (ds gs : List (DataW H)) (before : List MemPlace)
    (hval : ∀ (j : Nat) t v, Tryz.f3.params[j]? = some t → args[j]? = some v → Value.okWide Tryz.prog W .any base t v)
    (hW : DataW.Whole enc Tryz.prog Tryz.f3.params.toList Rows.scopeFullSpec.vars false W args.toList ds gs before) (hL : laidMetH Tryz.prog Rows.scopeFullRow.laid W) :
    Calls Tryz.prog 3 args W fun e W' => ∃ v, e = .returned v ∧ Rows.scopeFullSpec.post enc Tryz.prog Tryz.f3 false true false false W args v W' := by
  have hW' := hW
  obtain ⟨p, q, hA0, hV, rfl, hfz, hnd⟩ := hW
  have hA : DataW.TrodAll enc Tryz.prog W 0 (fun _ => true) true Tryz.f3.params.toList args.toList ds p := hA0
  rw [Tryz.params3] at hA hval
  obtain ⟨v0, vs0, d0, ds0, p0, q0, hargs, rfl, rfl, h0, r0⟩ := trodAll_cons hA
  obtain ⟨v1, vs1, d1, ds1, p1, q1, rfl, rfl, rfl, h1, r1⟩ := trodAll_cons r0
  obtain ⟨rfl, rfl, rfl⟩ := trodAll_nil r1
  obtain rfl : args = #[v0, v1] := by cases args; simp_all
  obtain ⟨rfl, rfl⟩ := trodVars_none hV
  obtain ⟨a0, rfl, rfl, rfl, w0⟩ := open_int Tryz.underlying3 (hval 0 3 v0 rfl rfl) h0
  obtain ⟨a1, len1, cap1, rfl⟩ := okWide_slice Tryz.underlying22 (hval 1 22 v1 rfl rfl)
  have k1 := h1
  have lt1 : ∀ x ∈ p1, x.block < W.heap.size := by obtain ⟨m, hm⟩ := k1; exact DataW.trod_lt m _ _ _ hm
  obtain ⟨z1, w1⟩ := isRow_of Tryz.underlying22 Tryz.underlying3 (by kernel_rfl) h1
  clear hA0
  have hT := tables hL
  refine (walk a0 a1 len1 cap1 z1 W w0 w1 hT).mono fun e W' ⟨he, bel⟩ => ?_
  subst he
  exact ⟨_, rfl, _, _, _, [], _, [], hW', trodAll_mk1 (shut_bool Tryz.underlying4 _), (trodAll_cons_mk (shut_int Tryz.underlying3 w0) (trodAll_cons_mk (Below.trod laidOut (by kernel_rfl) (of_decide_eq_true (by kernel_rfl)) k1 bel lt1) trodAll_mk0)), rfl, bel.frame _, fun h => by cases h⟩
theorem witness_shaped {H : Type} {enc : TypeId × Value → H} {C : Checked} {os : Os} {f : FuncId} {fn : Func} {s : OpenSpec} {conds : List PathCond} {apart : Bool} {laid : List (String × DataW Unit)} (modest : Bool) (w0 : World) (args : Array Value) (hos : w0.os = os)
    (hsh : (w0.forCall (fun _ _ => 0) ⟨#[], args, []⟩).Shaped C.prog) (hok : Input.okWideB C.prog (w0.forCall (fun _ _ => 0) ⟨#[], args, []⟩) f ⟨#[], args, []⟩ = true)
    (hrow : s.preRow enc C.prog fn conds apart laid (w0.forCall (fun _ _ => 0) ⟨#[], args, []⟩).memory args) :
    ∃ (w : World) (tape : Tape) (i : Input), w.os = os ∧ (w.forCall tape i).Shaped C.prog ∧ i.vars = [] ∧ Input.okWide C.prog (w.forCall tape i) .any w.heap.size f i ∧
      s.preRow enc C.prog fn conds apart laid (w.forCall tape i).memory i.args ∧ ({ modest := modest } : Assume).holds C.prog (lone (Frame.enter C.prog f i.args .normal) [] (w.forCall tape i)) :=
  ⟨w0, fun _ _ => 0, ⟨#[], args, []⟩, hos, hsh, (Input.okWide_of_okWideB (base := 0) hok).1, (Input.okWide_of_okWideB hok).2, hrow, by
    simp only [Assume.holds]
    exact ⟨by simp, by simp, fun _ => Modest.zero, by simp, by simp⟩⟩
set_option maxRecDepth 1000000 in
theorem laid_met (os : Os) : laidMetH Tryz.prog Rows.scopeFullRow.laid ((World.laidAll Tryz.prog os Rows.scopeFullRow.laid).forCall (fun _ _ => 0) ⟨#[], #[.int .i64 0, .slice none 0 0], []⟩).memory := by
  rw [MakeChecks.laidMetH_plain _ _ _ (by kernel_rfl)]
  exact laidMet_laidAll _ (by kernel_rfl) (by kernel_rfl)
set_option maxRecDepth 1000000 in
theorem reads (os : Os) {H : Type} (enc : TypeId × Value → H) : ∃ places, DataW.whole enc Tryz.prog ((World.laidAll Tryz.prog os Rows.scopeFullRow.laid).forCall (fun _ _ => 0) ⟨#[], #[.int .i64 0, .slice none 0 0], []⟩).memory Tryz.f3.params.toList Rows.scopeFullSpec.vars false (#[.int .i64 0, .slice none 0 0] : Array Value).toList 8 = some ([.lit (.int .i64 0), .nil], [], places) := ⟨[], by kernel_rfl⟩
set_option maxRecDepth 1000000 in
theorem lifted (os : Os) (started : os.Started) (H : Type) (enc : TypeId × Value → H) (F : Stop.Interp) :
    ReturnsInHanded {} Tryz.checked os 3 .any ((OpenSpec.ofChange Rows.scopeFullSpec).preRow enc Tryz.prog Tryz.f3 Rows.scopeFullRow.domain false Rows.scopeFullRow.laid) (((OpenSpec.ofChange Rows.scopeFullSpec).at F).post enc Tryz.prog Tryz.f3 false true false false) := by
  obtain ⟨places, hx⟩ := reads os enc
  refine returnsInHanded_of_row (C := Tryz.checked) (s := OpenSpec.ofChange Rows.scopeFullSpec) own started (by kernel_rfl) Tryz.func3
    (witness_shaped (enc := enc) (C := Tryz.checked) false (World.laidAll Tryz.prog os Rows.scopeFullRow.laid) #[.int .i64 0, .slice none 0 0] (World.laidAll_os _ _ _) (World.shaped_of_ZipB (by kernel_rfl) (by kernel_rfl)) (by kernel_rfl)
      (OpenSpec.preRow_of_cond 8 hx (by kernel_rfl) (fun k hk => by cases hk) (by kernel_rfl) (laid_met os))) ?_
  intro W base args ds gs before hval hW _ _ _ hL _ _
  exact contract H enc W base args ds gs before hval hW hL
theorem said : Rows.ScopeFullSaid :=
  OpenClaim.holds_of_cond 3 Tryz.f3 rfl rfl rfl rfl rfl rfl rfl ⟨rfl, rfl, rfl, rfl, rfl⟩ rfl rfl rfl rfl rfl (by kernel_rfl) Tryz.func3 (by kernel_rfl)
    (of_decide_eq_true (by kernel_rfl)) (by unfold Func.isWrapper; first | (rw [if_pos (by decide +kernel)]; kernel_rfl) | (rw [if_neg (by decide +kernel)]; exact ⟨rfl, rfl⟩))
    (fun os started H enc _ F => by rw [OpenClaim.pre_eq_preRow]; exact lifted os started H enc F)
theorem plain (f : FuncId) (fn : Func) (hf : Tryz.pinned.checked.prog.funcNamed "selfsame/selfsamelaw13.ScopeFull" = some f) (hfn : Tryz.pinned.checked.prog.funcs[f]? = some fn) :
    false = Tryz.pinned.checked.prog.looks [] ∧ ∀ (j : Nat) t, fn.params[j]? = some t → Tryz.pinned.checked.prog.wantsStandIn t = false := by
  obtain rfl : f = 3 := Option.some.inj ((show Tryz.prog.funcNamed "selfsame/selfsamelaw13.ScopeFull" = some 3 by kernel_rfl).symm.trans hf) |>.symm
  obtain rfl : fn = Tryz.f3 := (Option.some.inj (Tryz.func3.symm.trans hfn)).symm
  refine ⟨by kernel_rfl, fun j t ht => ?_⟩
  rw [Tryz.params3] at ht
  have hm := Array.mem_of_getElem? ht
  simp only [List.mem_toArray, List.mem_cons, List.not_mem_nil, or_false] at hm
  rcases hm with rfl | rfl
  · exact (show Tryz.prog.wantsStandIn 3 = false by kernel_rfl)
  · exact (show Tryz.prog.wantsStandIn 22 = false by kernel_rfl)
theorem proved : Rows.ScopeFullCardSaid :=
  Claim7.holds_tied_plain_at .later [] _ _ _ _ said (fun _ h => by cases h) (by kernel_rfl) (fun _ h => by cases h) scopeFull_row_tie rfl ⟨rfl, rfl⟩ (by kernel_rfl) rfl plain (by kernel_rfl)
end Go.Proofs.YtpnohekidpphfaaGreatDoor.scopeFull

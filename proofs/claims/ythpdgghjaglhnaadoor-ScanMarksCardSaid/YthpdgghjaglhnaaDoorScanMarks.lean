/-
  ScanMarks: the first error that is marked stays, at its place, and all symbols are the end then. No condition but the laid tables'.
-/
import Derived.Test.YthpdgghjaglhnaaDoorSnQ
import Derived.Test.YthpdgghjaglhnaaDoorSnR
import Derived.Test.YthpdgghjaglhnaaDoorRows
import Derived.Test.YthpdgghjaglhnaaDoorCards
import Derived.Test.YthpdgghjaglhnaaDoorTie
import Derived.Deep.DeepHandedRow
import Derived.Stop.LaidErr
import Derived.WalkKit
import Derived.ProofKit
import Derived.OpenShut
import Derived.LaidMore
import Derived.Lay
import Derived.SevenTiedAt
import Derived.Stop.Joined
namespace Go.Proofs.YthpdgghjaglhnaaDoor.scanMarks
open Go.ChangeShapes Go.WideShapes Go.ChangeAt Go.RowKit
open Ev (WRow)
set_option linter.unusedVariables false
set_option linter.unusedSimpArgs false
structure Tab (w : World) : Prop where
  space : Lib.TabIs Tryd.prog w "strings.asciiSpace" .u8 spaceTab
  pow : Lib.TabIs Tryd.prog w "internal/strconv.uint64pow10" .u64 Lib.pow10Tab
/-- a scanner of the law's own, in some state -/
structure St (w wr : World) (q : Sp) (s : Sn) : Prop where
  b : Below w.heap.size w wr
  sn : SnAt wr w.heap.size q s
  ok : Ok s
  kw : s.kw = 29
section
variable {w wr : World} {q : Sp} {s : Sn}
theorem St.next {V : World} (h : St w wr q s) (hb : Below wr.heap.size wr V) : St w V q s := ⟨h.b.trans (hb.mono h.b.size), h.sn.next hb, h.ok, h.kw⟩
theorem St.get (h : St w wr q s) (hT : ∀ V, Below w.heap.size w V → SpTab V ∧ Proofs.YthpdgghjaglhnaaDoor.Tab V) : Calls Tryd.prog 10 #[.pointer (some ⟨q.p, 0, none⟩)] wr fun e w' => e = .returned (.tuple #[]) ∧ ∃ q', q'.p = q.p ∧ St w w' q' (getF s) :=
  (get_any h.sn h.b.size (by rw [h.kw]; exact Int.le_refl _) (fun V hV => (hT V (h.b.trans hV)).2)).mono fun e w' ⟨he, q', hs, hf⟩ => ⟨he, q', hf.p, h.b.trans (hf.below h.sn h.b.size), hs, get_ok h.ok, by rw [get_kw]; exact h.kw⟩
theorem St.markat (h : St w wr q s) (c p : Int) : Calls Tryd.prog 13 #[.pointer (some ⟨q.p, 0, none⟩), .int .i64 c, .int .i64 p] wr fun e w' => e = .returned (.tuple #[]) ∧ St w w' q (markF s c p) :=
  (markat_any h.sn c p).mono fun e w' ⟨he, hs, hf⟩ => ⟨he, h.b.trans (hf.below h.sn h.b.size), hs, mark_ok h.ok _ _, by rw [markF_kw]; exact h.kw⟩
theorem St.mark (h : St w wr q s) (c : Int) : Calls Tryd.prog 14 #[.pointer (some ⟨q.p, 0, none⟩), .int .i64 c] wr fun e w' => e = .returned (.tuple #[]) ∧ St w w' q (markF s c s.pos) :=
  (mark_any h.sn c).mono fun e w' ⟨he, hs, hf⟩ => ⟨he, h.b.trans (hf.below h.sn h.b.size), hs, mark_ok h.ok _ _, by rw [markF_kw]; exact h.kw⟩
theorem mark_yes {s : Sn} (h : s.code = 0) {c : Int} (hc : c ≠ 0) (p : Int) : (markF s c p).code = c ∧ (markF s c p).epos = p := by
  unfold markF
  rw [if_pos ⟨h, hc⟩]
  exact ⟨rfl, rfl⟩
theorem mark_no {s : Sn} (h : s.code ≠ 0) (c p : Int) : markF s c p = s := by
  unfold markF
  rw [if_neg fun e => h e.1]
theorem get_no {s : Sn} (h : s.code ≠ 0) : getF s = s := by
  unfold getF
  rw [if_pos h]
theorem mark_all {s : Sn} (h : s.code = 0) {c : Int} (hc : c ≠ 0) (p : Int) : ∃ s1, markF s c p = s1 ∧ s1.code = c ∧ s1.epos = p ∧ s1.sym = 0 ∧ s1.pos = p := by
  refine ⟨_, rfl, ?_⟩
  unfold markF
  rw [if_pos ⟨h, hc⟩]
  exact ⟨rfl, rfl, rfl, rfl⟩
theorem St.err (h : St w wr q s) {p : Nat} (hp : q.p = p) : Calls Tryd.prog 11 #[.pointer (some ⟨p, 0, none⟩)] wr fun e w' => e = .returned (.tuple #[.int .i64 s.code, .int .i64 s.epos]) ∧ St w w' q s := by
  subst hp
  exact (snerr_any h.sn).mono fun e w' ⟨he, hb⟩ => ⟨he, h.next hb⟩
theorem St.sym (h : St w wr q s) {p : Nat} (hp : q.p = p) : Calls Tryd.prog 12 #[.pointer (some ⟨p, 0, none⟩)] wr fun e w' => e = .returned (.agg #[.int .i64 s.sym, .int .i64 s.pos, .int .i32 s.val, .int .i64 s.id, .string s.txt]) ∧ St w w' q s := by
  subst hp
  exact (symbol_any h.sn).mono fun e w' ⟨he, hb⟩ => ⟨he, h.next hb⟩
theorem St.markat1 (h : St w wr q s) (hc : s.code ≠ 0) {p : Nat} (hp : q.p = p) (c x : Int) : Calls Tryd.prog 13 #[.pointer (some ⟨p, 0, none⟩), .int .i64 c, .int .i64 x] wr fun e w' => e = .returned (.tuple #[]) ∧ St w w' q s := by
  subst hp
  exact (h.markat c x).mono fun e w' ⟨he, hs⟩ => ⟨he, by rwa [mark_no hc] at hs⟩
theorem St.mark1 (h : St w wr q s) (hc : s.code ≠ 0) {p : Nat} (hp : q.p = p) (c : Int) : Calls Tryd.prog 14 #[.pointer (some ⟨p, 0, none⟩), .int .i64 c] wr fun e w' => e = .returned (.tuple #[]) ∧ St w w' q s := by
  subst hp
  exact (h.mark c).mono fun e w' ⟨he, hs⟩ => ⟨he, by rwa [mark_no hc] at hs⟩
theorem St.get1 (h : St w wr q s) (hc : s.code ≠ 0) {p : Nat} (hp : q.p = p) (hT : ∀ V, Below w.heap.size w V → SpTab V ∧ Proofs.YthpdgghjaglhnaaDoor.Tab V) : Calls Tryd.prog 10 #[.pointer (some ⟨p, 0, none⟩)] wr fun e w' => e = .returned (.tuple #[]) ∧ ∃ q', q'.p = p ∧ St w w' q' s := by
  subst hp
  exact (h.get hT).mono fun e w' ⟨he, q', hq, hs⟩ => ⟨he, q', hq, by rwa [get_no hc] at hs⟩
end
theorem field_0 (a b c : Int) (d : Int) (e : ByteArray) (V : World) : (Instr.field 29 (.agg #[.int .i64 a, .int .i64 b, .int .i32 c, .int .i64 d, .string e]) 0).run Tryd.prog V = .ok (.int .i64 a) V := by kernel_rfl
theorem field_1 (a b c : Int) (d : Int) (e : ByteArray) (V : World) : (Instr.field 29 (.agg #[.int .i64 a, .int .i64 b, .int .i32 c, .int .i64 d, .string e]) 1).run Tryd.prog V = .ok (.int .i64 b) V := by kernel_rfl
set_option maxHeartbeats 8000000 in
set_option maxRecDepth 100000 in
theorem walk (a0 : Option Addr) (len0 cap0 : Nat) (z0 : List Int) (a1 a2 a3 a4 : Int) (a5 : Bool) (w : World) (w0 : IsRow .u8 w a0 len0 cap0 z0) (w1 : (Lit.int .i64 a1).wf = true) (w2 : (Lit.int .i64 a2).wf = true) (w3 : (Lit.int .i64 a3).wf = true) (w4 : (Lit.int .i64 a4).wf = true) (hT : Tab w) :
    Calls Tryd.prog 3 #[.slice a0 len0 cap0, .int .i64 a1, .int .i64 a2, .int .i64 a3, .int .i64 a4, .bool a5] w fun e w' => e = .returned (.bool true) ∧ Below w.heap.size w w' := by
  have hl0 : len0 ≤ maxLen := Nat.le_trans w0.2.1 w0.2.2.1
  obtain ⟨b1, b1'⟩ := bd_i64 w1
  have HSP : SpTab w := ⟨hT.space⟩
  have HTT : Hid (∀ V, Below w.heap.size w V → SpTab V ∧ Proofs.YthpdgghjaglhnaaDoor.Tab V) := Lib.hid fun V hV => ⟨HSP.stab fun k hk => hV.block k (Nat.lt_of_lt_of_le hk (tab_base HSP (fun _ => 0) (fun _ => false) (fun _ => []) (fun _ => Nat.zero_le _)).2), Proofs.YthpdgghjaglhnaaDoor.Tab.below (w := w) hT.pow hV⟩
  have KN : Hid (∀ W, Below w.heap.size w W → Calls Tryd.prog 8 #[] W fun e w' => e = .returned (.bool true) ∧ Below W.heap.size W w') := Lib.hid fun W hW => known11 W (HTT.out W hW).1
  have HRD : Hid (Rd w w.heap.size .u8 a0 len0 z0) := Lib.hid w0.2.2.2.2
  have HBY : Hid (∀ x ∈ z0, 0 ≤ x ∧ x < 256) := Lib.hid (fun x hx => by have := bd_u8 (w0.2.2.2.1 x hx); omega)
  clear hT HSP w0 w1 w2 w3 w4
  have hml := hl0
  unfold maxLen at hl0
  by_cases hm : len0 ≤ 2000 ∧ (0 ≤ a1 ∧ a1 ≤ 100) ∧ (1 ≤ a2 ∧ a2 ≤ 100) ∧ (1 ≤ a4 ∧ a4 ≤ 100) ∧ 0 ≤ a3 ∧ a3 ≤ 2000
  rotate_left
  · have hm2 : 2000 < len0 ∨ a1 < 0 ∨ 100 < a1 ∨ a2 < 1 ∨ 100 < a2 ∨ a4 < 1 ∨ 100 < a4 ∨ a3 < 0 ∨ 2000 < a3 := by omega
    clear hm
    go_enter Tryd.func3, Tryd.ntmps3
    go_wp2_with (go_at_call 8; (refine (KN.out _ (Below.refl _ _)).mono ?_); rintro e w' ⟨rfl, hb⟩)
    all_goals first
      | (go_ret; exact ⟨rfl, hb⟩)
      | (exfalso; omega)
      | (exfalso; rcases hm2 with h | h | h | h | h | h | h | h | h <;> simp_all <;> omega)
      | trace_state
  · obtain ⟨g0, ⟨g1, g1'⟩, ⟨g2, g2'⟩, ⟨g4, g4'⟩, g3, g3'⟩ := hm
    have HNEW := Lib.hid (new_any w a0 len0 cap0 z0 HRD.out hml HBY.out HTT.out)
    have HNO := Lib.hid (new_ok z0)
    obtain ⟨n, rfl⟩ := Int.eq_ofNat_of_zero_le g1
    go_enter Tryd.func3, Tryd.ntmps3
    go_wp2_with (go_at_call 9; (refine HNEW.out.mono ?_); rintro e w1 ⟨q, rfl, hs, hb⟩; have HS : Hid (St w w1 q (newF z0)) := Lib.hid ⟨hb, hs, HNO.out.1, HNO.out.2⟩; clear hs hb)
    clear HNEW HNO
    go_loopw [14] (fun iv wr => ∃ (i : Nat) (q' : Sp) (s : Sn), iv = .int .i64 (i : Int) ∧ i ≤ n ∧ q'.p = q.p ∧ Hid (St w wr q' s)) (fun iv _ => n - (intOf iv).toNat)
    case atStart => exact ⟨0, q, _, rfl, by omega, rfl, HS⟩
    case round =>
      clear HS
      obtain ⟨i, q', s, rfl, hi, hqp, HS⟩ := hrel
      obtain ⟨p', sv, nv, ib, gb⟩ := q'
      obtain rfl : p' = q.p := hqp
      by_cases hlt : i < n
      · have HG := Lib.hid (HS.out.get HTT.out)
        go_wp2_with (go_at_call 10; (with_reducible refine HG.out.mono ?_); rintro e w2 ⟨rfl, q2, hp2, hs⟩; have HS2 := Lib.hid hs; clear hs)
        exact ⟨⟨i + 1, q2, _, by simp, by omega, hp2, HS2⟩, by simp [intOf]; try omega⟩
      · obtain rfl : i = n := by omega
        clear hlt hi
        have hok := HS.out.ok
        have f0 := field_0
        have f1 := field_1
        by_cases hc : s.code = 0
        · clear hok
          cases a5 with
          | true =>
            obtain ⟨s1, hm1, k1, k2, k3, k4⟩ := mark_all hc (show a2 ≠ 0 by omega) a3
            have HM1 := Lib.hid hm1
            have HNE := Lib.hid (show s1.code ≠ 0 by rw [k1]; omega)
            clear hm1
            go_wp2_with (first
            | (go_at_call 11; (with_reducible refine (St.err HS1.out (by first | exact HP1.out | rfl)).mono ?_); rintro e w9 ⟨rfl, hs⟩; replace HS1 := Lib.hid hs; clear hs)
            | (go_at_call 12; (with_reducible refine (St.sym HS1.out (by first | exact HP1.out | rfl)).mono ?_); rintro e w9 ⟨rfl, hs⟩; replace HS1 := Lib.hid hs; clear hs)
            | (go_at_call 13; (with_reducible refine (St.markat1 HS1.out HNE.out (by first | exact HP1.out | rfl) _ _).mono ?_); rintro e w9 ⟨rfl, hs⟩; replace HS1 := Lib.hid hs; clear hs)
            | (go_at_call 14; (with_reducible refine (St.mark1 HS1.out HNE.out (by first | exact HP1.out | rfl) _).mono ?_); rintro e w9 ⟨rfl, hs⟩; replace HS1 := Lib.hid hs; clear hs)
            | (go_at_call 10; (with_reducible refine (St.get1 HS1.out HNE.out (by first | exact HP1.out | rfl) HTT.out).mono ?_); rintro e w9 ⟨rfl, q9, hp9, hs⟩; replace HS1 := Lib.hid hs; replace HP1 := Lib.hid hp9; clear hs hp9)
            | (go_at_call 8; (refine (KN.out _ HS1.out.b).mono ?_); rintro e w9 ⟨rfl, hb⟩; have HBB := Lib.hid (HS1.out.b.trans (hb.mono HS1.out.b.size)); clear hb)
            | (go_at_call 11; (with_reducible refine (St.err HS.out rfl).mono ?_); rintro e w9 ⟨rfl, hs⟩; replace HS := Lib.hid hs; clear hs)
            | (go_at_call 12; (with_reducible refine (St.sym HS.out rfl).mono ?_); rintro e w9 ⟨rfl, hs⟩; replace HS := Lib.hid hs; clear hs)
            | (go_at_call 13; (with_reducible refine (HS.out.markat _ _).mono ?_); rintro e w9 ⟨rfl, hs⟩; rw [HM1.out] at hs; have HS1 := Lib.hid hs; have HP1 := Lib.hid (show (⟨q.p, sv, nv, ib, gb⟩ : Sp).p = q.p from rfl); clear hs))
            go_ret
            exact ⟨rfl, HBB.out⟩
          | false =>
            obtain ⟨s1, hm1, k1, k2, k3, k4⟩ := mark_all hc (show a2 ≠ 0 by omega) s.pos
            have HM1 := Lib.hid hm1
            have HNE := Lib.hid (show s1.code ≠ 0 by rw [k1]; omega)
            clear hm1
            go_wp2_with (first
            | (go_at_call 11; (with_reducible refine (St.err HS1.out (by first | exact HP1.out | rfl)).mono ?_); rintro e w9 ⟨rfl, hs⟩; replace HS1 := Lib.hid hs; clear hs)
            | (go_at_call 12; (with_reducible refine (St.sym HS1.out (by first | exact HP1.out | rfl)).mono ?_); rintro e w9 ⟨rfl, hs⟩; replace HS1 := Lib.hid hs; clear hs)
            | (go_at_call 13; (with_reducible refine (St.markat1 HS1.out HNE.out (by first | exact HP1.out | rfl) _ _).mono ?_); rintro e w9 ⟨rfl, hs⟩; replace HS1 := Lib.hid hs; clear hs)
            | (go_at_call 14; (with_reducible refine (St.mark1 HS1.out HNE.out (by first | exact HP1.out | rfl) _).mono ?_); rintro e w9 ⟨rfl, hs⟩; replace HS1 := Lib.hid hs; clear hs)
            | (go_at_call 10; (with_reducible refine (St.get1 HS1.out HNE.out (by first | exact HP1.out | rfl) HTT.out).mono ?_); rintro e w9 ⟨rfl, q9, hp9, hs⟩; replace HS1 := Lib.hid hs; replace HP1 := Lib.hid hp9; clear hs hp9)
            | (go_at_call 8; (refine (KN.out _ HS1.out.b).mono ?_); rintro e w9 ⟨rfl, hb⟩; have HBB := Lib.hid (HS1.out.b.trans (hb.mono HS1.out.b.size)); clear hb)
            | (go_at_call 11; (with_reducible refine (St.err HS.out rfl).mono ?_); rintro e w9 ⟨rfl, hs⟩; replace HS := Lib.hid hs; clear hs)
            | (go_at_call 12; (with_reducible refine (St.sym HS.out rfl).mono ?_); rintro e w9 ⟨rfl, hs⟩; replace HS := Lib.hid hs; clear hs)
            | (go_at_call 14; (with_reducible refine (HS.out.mark _).mono ?_); rintro e w9 ⟨rfl, hs⟩; rw [HM1.out] at hs; have HS1 := Lib.hid hs; have HP1 := Lib.hid (show (⟨q.p, sv, nv, ib, gb⟩ : Sp).p = q.p from rfl); clear hs))
            go_ret
            exact ⟨rfl, HBB.out⟩
        · obtain ⟨k3, k4⟩ := hok hc
          have HNE := Lib.hid hc
          have hc2 : (s.code == 0) = false := by simpa using hc
          have HS1 := Lib.hid HS.out
          have HP1 := Lib.hid (show (⟨q.p, sv, nv, ib, gb⟩ : Sp).p = q.p from rfl)
          clear hc hok HS
          cases a5
          all_goals
            go_wp2_with (first
            | (go_at_call 11; (with_reducible refine (St.err HS1.out (by first | exact HP1.out | rfl)).mono ?_); rintro e w9 ⟨rfl, hs⟩; replace HS1 := Lib.hid hs; clear hs)
            | (go_at_call 12; (with_reducible refine (St.sym HS1.out (by first | exact HP1.out | rfl)).mono ?_); rintro e w9 ⟨rfl, hs⟩; replace HS1 := Lib.hid hs; clear hs)
            | (go_at_call 13; (with_reducible refine (St.markat1 HS1.out HNE.out (by first | exact HP1.out | rfl) _ _).mono ?_); rintro e w9 ⟨rfl, hs⟩; replace HS1 := Lib.hid hs; clear hs)
            | (go_at_call 14; (with_reducible refine (St.mark1 HS1.out HNE.out (by first | exact HP1.out | rfl) _).mono ?_); rintro e w9 ⟨rfl, hs⟩; replace HS1 := Lib.hid hs; clear hs)
            | (go_at_call 10; (with_reducible refine (St.get1 HS1.out HNE.out (by first | exact HP1.out | rfl) HTT.out).mono ?_); rintro e w9 ⟨rfl, q9, hp9, hs⟩; replace HS1 := Lib.hid hs; replace HP1 := Lib.hid hp9; clear hs hp9)
            | (go_at_call 8; (refine (KN.out _ HS1.out.b).mono ?_); rintro e w9 ⟨rfl, hb⟩; have HBB := Lib.hid (HS1.out.b.trans (hb.mono HS1.out.b.size)); clear hb))
            go_ret
            exact ⟨rfl, HBB.out⟩
theorem own : ownKnob Tryd.prog.godebug = none := by kernel_rfl
theorem laidOut : laidOutB Tryd.prog = true := by kernel_rfl
theorem gTab5 : Tryd.prog.globalNamed "strings.asciiSpace" = some 0 := by kernel_rfl
theorem gTab2 : Tryd.prog.globalNamed "internal/strconv.uint64pow10" = some 6 := by kernel_rfl
set_option maxRecDepth 1000000 in
theorem tables {W : World} (h0 : laidMetH Tryd.prog Rows.scanMarksRow.laid W) : Tab W := by
  rw [MakeChecks.laidMetH_plain _ _ _ (by kernel_rfl)] at h0
  have h : laidMet Tryd.prog Rows.scanMarksRow.laid W := h0
  exact ⟨Lib.tabIs_of_head (rest := _) gTab5 (by kernel_rfl) Tryd.underlying57 Tryd.underlying5 (by kernel_rfl) (by kernel_rfl) (laidMet.tail (laidMet.tail (laidMet.tail (laidMet.tail (laidMet.tail h))))), Lib.tabIs_of_head (rest := _) gTab2 (by kernel_rfl) Tryd.underlying150 Tryd.underlying47 (by kernel_rfl) (by kernel_rfl) (laidMet.tail (laidMet.tail h))⟩
set_option maxRecDepth 1000000 in
theorem contract (H : Type) (enc : TypeId × Value → H) (W : World) (base : Nat) (args : Array Value) (ds gs : List (DataW H)) (before : List MemPlace)
    (hval : ∀ (j : Nat) t v, Tryd.f3.params[j]? = some t → args[j]? = some v → Value.okWide Tryd.prog W .any base t v)
    (hW : DataW.Whole enc Tryd.prog Tryd.f3.params.toList Rows.scanMarksSpec.vars false W args.toList ds gs before) (hL : laidMetH Tryd.prog Rows.scanMarksRow.laid W) :
    Calls Tryd.prog 3 args W fun e W' => ∃ v, e = .returned v ∧ Rows.scanMarksSpec.post enc Tryd.prog Tryd.f3 false true false false W args v W' := by
  have hW' := hW
  obtain ⟨p, q, hA0, hV, rfl, hfz, hnd⟩ := hW
  have hA : DataW.TrodAll enc Tryd.prog W 0 (fun _ => true) true Tryd.f3.params.toList args.toList ds p := hA0
  rw [Tryd.params3] at hA hval
  obtain ⟨v0, vs0, d0, ds0, p0, q0, hargs, rfl, rfl, h0, r0⟩ := trodAll_cons hA
  obtain ⟨v1, vs1, d1, ds1, p1, q1, rfl, rfl, rfl, h1, r1⟩ := trodAll_cons r0
  obtain ⟨v2, vs2, d2, ds2, p2, q2, rfl, rfl, rfl, h2, r2⟩ := trodAll_cons r1
  obtain ⟨v3, vs3, d3, ds3, p3, q3, rfl, rfl, rfl, h3, r3⟩ := trodAll_cons r2
  obtain ⟨v4, vs4, d4, ds4, p4, q4, rfl, rfl, rfl, h4, r4⟩ := trodAll_cons r3
  obtain ⟨v5, vs5, d5, ds5, p5, q5, rfl, rfl, rfl, h5, r5⟩ := trodAll_cons r4
  obtain ⟨rfl, rfl, rfl⟩ := trodAll_nil r5
  obtain rfl : args = #[v0, v1, v2, v3, v4, v5] := by cases args; simp_all
  obtain ⟨rfl, rfl⟩ := trodVars_none hV
  obtain ⟨a0, len0, cap0, rfl⟩ := okWide_slice Tryd.underlying22 (hval 0 22 v0 rfl rfl)
  have k0 := h0
  have lt0 : ∀ x ∈ p0, x.block < W.heap.size := by obtain ⟨m, hm⟩ := k0; exact DataW.trod_lt m _ _ _ hm
  obtain ⟨z0, w0⟩ := isRow_of Tryd.underlying22 Tryd.underlying5 (by kernel_rfl) h0
  obtain ⟨a1, rfl, rfl, rfl, w1⟩ := open_int Tryd.underlying3 (hval 1 3 v1 rfl rfl) h1
  obtain ⟨a2, rfl, rfl, rfl, w2⟩ := open_int Tryd.underlying3 (hval 2 3 v2 rfl rfl) h2
  obtain ⟨a3, rfl, rfl, rfl, w3⟩ := open_int Tryd.underlying3 (hval 3 3 v3 rfl rfl) h3
  obtain ⟨a4, rfl, rfl, rfl, w4⟩ := open_int Tryd.underlying3 (hval 4 3 v4 rfl rfl) h4
  obtain ⟨a5, rfl, rfl, rfl⟩ := open_bool Tryd.underlying4 (hval 5 4 v5 rfl rfl) h5
  clear hA0
  have hT := tables hL
  refine (walk a0 len0 cap0 z0 a1 a2 a3 a4 a5 W w0 w1 w2 w3 w4 hT).mono fun e W' ⟨he, bel⟩ => ?_
  subst he
  exact ⟨_, rfl, _, _, _, [], _, [], hW', trodAll_mk1 (shut_bool Tryd.underlying4 _), (trodAll_cons_mk (Below.trod laidOut (by kernel_rfl) (of_decide_eq_true (by kernel_rfl)) k0 bel lt0) (trodAll_cons_mk (shut_int Tryd.underlying3 w1) (trodAll_cons_mk (shut_int Tryd.underlying3 w2) (trodAll_cons_mk (shut_int Tryd.underlying3 w3) (trodAll_cons_mk (shut_int Tryd.underlying3 w4) (trodAll_cons_mk (shut_bool Tryd.underlying4 a5) trodAll_mk0)))))), rfl, bel.frame _, fun h => by cases h⟩
theorem witness_shaped {H : Type} {enc : TypeId × Value → H} {C : Checked} {os : Os} {f : FuncId} {fn : Func} {s : OpenSpec} {conds : List PathCond} {apart : Bool} {laid : List (String × DataW Unit)} (modest : Bool) (w0 : World) (args : Array Value) (hos : w0.os = os)
    (hsh : (w0.forCall (fun _ _ => 0) ⟨#[], args, []⟩).Shaped C.prog) (hok : Input.okWideB C.prog (w0.forCall (fun _ _ => 0) ⟨#[], args, []⟩) f ⟨#[], args, []⟩ = true)
    (hrow : s.preRow enc C.prog fn conds apart laid (w0.forCall (fun _ _ => 0) ⟨#[], args, []⟩).memory args) :
    ∃ (w : World) (tape : Tape) (i : Input), w.os = os ∧ (w.forCall tape i).Shaped C.prog ∧ i.vars = [] ∧ Input.okWide C.prog (w.forCall tape i) .any w.heap.size f i ∧
      s.preRow enc C.prog fn conds apart laid (w.forCall tape i).memory i.args ∧ ({ modest := modest } : Assume).holds C.prog (lone (Frame.enter C.prog f i.args .normal) [] (w.forCall tape i)) :=
  ⟨w0, fun _ _ => 0, ⟨#[], args, []⟩, hos, hsh, (Input.okWide_of_okWideB (base := 0) hok).1, (Input.okWide_of_okWideB hok).2, hrow, by
    simp only [Assume.holds]
    exact ⟨by simp, by simp, fun _ => Modest.zero, by simp, by simp⟩⟩
set_option maxRecDepth 1000000 in
theorem laid_met (os : Os) : laidMetH Tryd.prog Rows.scanMarksRow.laid ((World.laidAll Tryd.prog os Rows.scanMarksRow.laid).forCall (fun _ _ => 0) ⟨#[], #[.slice none 0 0, .int .i64 0, .int .i64 0, .int .i64 0, .int .i64 0, .bool false], []⟩).memory := by
  rw [MakeChecks.laidMetH_plain _ _ _ (by kernel_rfl)]
  exact laidMet_laidAll _ (by kernel_rfl) (by kernel_rfl)
set_option maxRecDepth 1000000 in
theorem reads (os : Os) {H : Type} (enc : TypeId × Value → H) : ∃ places, DataW.whole enc Tryd.prog ((World.laidAll Tryd.prog os Rows.scanMarksRow.laid).forCall (fun _ _ => 0) ⟨#[], #[.slice none 0 0, .int .i64 0, .int .i64 0, .int .i64 0, .int .i64 0, .bool false], []⟩).memory Tryd.f3.params.toList Rows.scanMarksSpec.vars false (#[.slice none 0 0, .int .i64 0, .int .i64 0, .int .i64 0, .int .i64 0, .bool false] : Array Value).toList 8 = some ([.nil, .lit (.int .i64 0), .lit (.int .i64 0), .lit (.int .i64 0), .lit (.int .i64 0), .lit (.bool false)], [], places) := ⟨[], by kernel_rfl⟩
set_option maxRecDepth 1000000 in
theorem lifted (os : Os) (started : os.Started) (H : Type) (enc : TypeId × Value → H) (F : Stop.Interp) :
    ReturnsInHanded {} Tryd.checked os 3 .any ((OpenSpec.ofChange Rows.scanMarksSpec).preRow enc Tryd.prog Tryd.f3 Rows.scanMarksRow.domain false Rows.scanMarksRow.laid) (((OpenSpec.ofChange Rows.scanMarksSpec).at F).post enc Tryd.prog Tryd.f3 false true false false) := by
  obtain ⟨places, hx⟩ := reads os enc
  refine returnsInHanded_of_row (C := Tryd.checked) (s := OpenSpec.ofChange Rows.scanMarksSpec) own started (by kernel_rfl) Tryd.func3
    (witness_shaped (enc := enc) (C := Tryd.checked) false (World.laidAll Tryd.prog os Rows.scanMarksRow.laid) #[.slice none 0 0, .int .i64 0, .int .i64 0, .int .i64 0, .int .i64 0, .bool false] (World.laidAll_os _ _ _) (World.shaped_of_ZipB (by kernel_rfl) (by kernel_rfl)) (by kernel_rfl)
      (OpenSpec.preRow_of_cond 8 hx (by kernel_rfl) (fun k hk => by cases hk) (by kernel_rfl) (laid_met os))) ?_
  intro W base args ds gs before hval hW _ _ _ hL _ _
  exact contract H enc W base args ds gs before hval hW hL
theorem said : Rows.ScanMarksSaid :=
  OpenClaim.holds_of_cond 3 Tryd.f3 rfl rfl rfl rfl rfl rfl rfl ⟨rfl, rfl, rfl, rfl, rfl⟩ rfl rfl rfl rfl rfl (by kernel_rfl) Tryd.func3 (by kernel_rfl)
    (of_decide_eq_true (by kernel_rfl)) (by unfold Func.isWrapper; first | (rw [if_pos (by decide +kernel)]; kernel_rfl) | (rw [if_neg (by decide +kernel)]; exact ⟨rfl, rfl⟩))
    (fun os started H enc _ F => by rw [OpenClaim.pre_eq_preRow]; exact lifted os started H enc F)
theorem plain (f : FuncId) (fn : Func) (hf : Tryd.pinned.checked.prog.funcNamed "selfsame/selfsamelaw11.ScanMarks" = some f) (hfn : Tryd.pinned.checked.prog.funcs[f]? = some fn) :
    false = Tryd.pinned.checked.prog.looks [] ∧ ∀ (j : Nat) t, fn.params[j]? = some t → Tryd.pinned.checked.prog.wantsStandIn t = false := by
  obtain rfl : f = 3 := Option.some.inj ((show Tryd.prog.funcNamed "selfsame/selfsamelaw11.ScanMarks" = some 3 by kernel_rfl).symm.trans hf) |>.symm
  obtain rfl : fn = Tryd.f3 := (Option.some.inj (Tryd.func3.symm.trans hfn)).symm
  refine ⟨by kernel_rfl, fun j t ht => ?_⟩
  rw [Tryd.params3] at ht
  have hm := Array.mem_of_getElem? ht
  simp only [List.mem_toArray, List.mem_cons, List.not_mem_nil, or_false] at hm
  rcases hm with rfl | rfl | rfl | rfl | rfl | rfl
  · exact (show Tryd.prog.wantsStandIn 22 = false by kernel_rfl)
  · exact (show Tryd.prog.wantsStandIn 3 = false by kernel_rfl)
  · exact (show Tryd.prog.wantsStandIn 3 = false by kernel_rfl)
  · exact (show Tryd.prog.wantsStandIn 3 = false by kernel_rfl)
  · exact (show Tryd.prog.wantsStandIn 3 = false by kernel_rfl)
  · exact (show Tryd.prog.wantsStandIn 4 = false by kernel_rfl)
theorem proved : Rows.ScanMarksCardSaid :=
  Claim7.holds_tied_plain_at .later [] _ _ _ _ said (fun _ h => by cases h) (by kernel_rfl) (fun _ h => by cases h) scanMarks_row_tie rfl ⟨rfl, rfl⟩ (by kernel_rfl) rfl plain (by kernel_rfl)
end Go.Proofs.YthpdgghjaglhnaaDoor.scanMarks

/-
  The law's same: are two objects that may be of the same bytes? (Stands on Bytes' contract as a premise.)
-/
import Derived.Test.YtekipbfafofkdaaObK
import Derived.Test.YtekipbfafofkdaaObT
import Derived.Deep.RegionWith
namespace Go.Proofs.Ytekipbfafofkdaa
open Go.ChangeShapes Go.WideShapes Go.ChangeAt Go.RowKit
set_option linter.unusedVariables false
def BytesC (w0 : World) (o : Ob) (u : Value) : Prop := ∀ W, Below w0.heap.size w0 W → Calls Try.prog 13 #[u] W fun e w' => ∃ A n c, e = .returned (.slice A n c) ∧ Rd w' w'.heap.size .u8 A n (bytesO o) ∧ Below W.heap.size W w'
theorem BytesC.call {w0 W : World} {o : Ob} {u : Value} (h : BytesC w0 o u) (hW : Below w0.heap.size w0 W) : Calls Try.prog 13 #[u] W fun e w' => ∃ A n c, e = .returned (.slice A n c) ∧ Rd w' w'.heap.size .u8 A n (bytesO o) ∧ Below W.heap.size W w' := h W hW
def MayC2 (w0 : World) (o : Ob) (u : Value) : Prop := ∀ W, Below w0.heap.size w0 W → Calls Try.prog 11 #[u] W fun e w' => e = .returned (.bool (mayO o)) ∧ Below W.heap.size W w'
set_option maxHeartbeats 8000000 in
theorem same_any {w0 w : World} {o p : Ob} {ai : Option Addr} {li ci : Nat} {at_ : Option Addr} {lt ct : Nat} {ac : Option Addr} {lc cc : Nat} {ae : Option Addr} {le ce : Nat} {af : Option Addr} {lf cf : Nat} {ai2 : Option Addr} {li2 ci2 : Nat} {at2 : Option Addr} {lt2 ct2 : Nat} {ac2 : Option Addr} {lc2 cc2 : Nat} {ae2 : Option Addr} {le2 ce2 : Nat} {af2 : Option Addr} {lf2 cf2 : Nat} (ho : ObRows w0 o ai li ci at_ lt ct ac lc cc ae le ce af lf cf) (hp : ObRows w0 p ai2 li2 ci2 at2 lt2 ct2 ac2 lc2 cc2 ae2 le2 ce2 af2 lf2 cf2) (hbo : mayO o = true → BytesC w0 o (ob o.name o.key ai li ci o.vars at_ lt ct ac lc cc ae le ce af lf cf)) (hbp : mayO p = true → BytesC w0 p (ob p.name p.key ai2 li2 ci2 p.vars at2 lt2 ct2 ac2 lc2 cc2 ae2 le2 ce2 af2 lf2 cf2)) (hw : Below w0.heap.size w0 w) :
    Calls Try.prog 12 #[ob o.name o.key ai li ci o.vars at_ lt ct ac lc cc ae le ce af lf cf, ob p.name p.key ai2 li2 ci2 p.vars at2 lt2 ct2 ac2 lc2 cc2 ae2 le2 ce2 af2 lf2 cf2] w fun e w' => e = .returned (.bool (mayO o && (mayO p && ((strOf (bytesO o)).toList == (strOf (bytesO p)).toList)))) ∧ Below w.heap.size w w' := by
  have HM1 := Lib.hid (fun W hW => omay_any (w0 := w0) (w := W) ho hW)
  have HM2 := Lib.hid (fun W hW => omay_any (w0 := w0) (w := W) hp hW)
  have HB1 := Lib.hid hbo
  have HB2 := Lib.hid hbp
  have HO := Lib.hid (((Ob8.new w o.name o.key ai li ci o.vars at_ lt ct ac lc cc ae le ce af lf cf rfl).next (below1 _ (.cells #[.string p.name, .int .u32 p.key, .slice ai2 li2 ci2, .int .i64 p.vars, .slice at2 lt2 ct2, .slice ac2 lc2 cc2, .slice ae2 le2 ce2, .slice af2 lf2 cf2] 29))).next (Below.refl _ _).drew)
  have HP := Lib.hid ((Ob8.new (w.alloc (.cells #[.string o.name, .int .u32 o.key, .slice ai li ci, .int .i64 o.vars, .slice at_ lt ct, .slice ac lc cc, .slice ae le ce, .slice af lf cf] 29)) p.name p.key ai2 li2 ci2 p.vars at2 lt2 ct2 ac2 lc2 cc2 ae2 le2 ce2 af2 lf2 cf2 (b := w.heap.size + 1) (by simp)).next (Below.refl _ _).drew)
  have HB := Lib.hid (((below1 w (.cells #[.string o.name, .int .u32 o.key, .slice ai li ci, .int .i64 o.vars, .slice at_ lt ct, .slice ac lc cc, .slice ae le ce, .slice af lf cf] 29)).alloc (by simp) (.cells #[.string p.name, .int .u32 p.key, .slice ai2 li2 ci2, .int .i64 p.vars, .slice at2 lt2 ct2, .slice ac2 lc2 cc2, .slice ae2 le2 ce2, .slice af2 lf2 cf2] 29)).drew)
  have HW := Lib.hid hw
  obtain ⟨x0, x1, x2, x3, x4, x5, x6, x7, -⟩ := HO.out
  obtain ⟨y0, y1, y2, y3, y4, y5, y6, y7, -⟩ := HP.out
  clear ho hp hbo hbp hw
  generalize hmo : mayO o = mo at *
  generalize hmp : mayO p = mp at *
  unfold ob at *
  cases mo with
  | false =>
    go_enter Try.func12, Try.ntmps12
    go_wp2_with fail
    go_region_with (go_at_call 11; (first | (with_reducible refine (HM1.out _ (HW.out.trans (HB.out.mono HW.out.size))).mono ?_) | (with_reducible refine (HM2.out _ (HW.out.trans (HB.out.mono HW.out.size))).mono ?_)); rintro e w' ⟨rfl, hb⟩; have HO := Lib.hid (HO.out.next hb); have HP := Lib.hid (HP.out.next hb); have HB := Lib.hid (HB.out.trans (hb.mono HB.out.size)); obtain ⟨x0, x1, x2, x3, x4, x5, x6, x7, -⟩ := HO.out; obtain ⟨y0, y1, y2, y3, y4, y5, y6, y7, -⟩ := HP.out; clear hb)
    all_goals
      go_wp2_with fail
      go_ret
      exact ⟨ret_bool (by rfl), HB.out⟩
  | true =>
    have HC1 := Lib.hid (HB1.out rfl)
    cases mp with
    | false =>
      go_enter Try.func12, Try.ntmps12
      go_wp2_with fail
      go_region_with (go_at_call 11; (first | (with_reducible refine (HM1.out _ (HW.out.trans (HB.out.mono HW.out.size))).mono ?_) | (with_reducible refine (HM2.out _ (HW.out.trans (HB.out.mono HW.out.size))).mono ?_)); rintro e w' ⟨rfl, hb⟩; have HO := Lib.hid (HO.out.next hb); have HP := Lib.hid (HP.out.next hb); have HB := Lib.hid (HB.out.trans (hb.mono HB.out.size)); obtain ⟨x0, x1, x2, x3, x4, x5, x6, x7, -⟩ := HO.out; obtain ⟨y0, y1, y2, y3, y4, y5, y6, y7, -⟩ := HP.out; clear hb)
      all_goals
        go_wp2_with fail
        go_ret
        exact ⟨ret_bool (by rfl), HB.out⟩
    | true =>
      have HC2 := Lib.hid (HB2.out rfl)
      go_enter Try.func12, Try.ntmps12
      go_wp2_with fail
      go_region_with (first
        | (go_at_call 11; (first | (with_reducible refine (HM1.out _ (HW.out.trans (HB.out.mono HW.out.size))).mono ?_) | (with_reducible refine (HM2.out _ (HW.out.trans (HB.out.mono HW.out.size))).mono ?_)); rintro e w' ⟨rfl, hb⟩; have HO := Lib.hid (HO.out.next hb); have HP := Lib.hid (HP.out.next hb); have HB := Lib.hid (HB.out.trans (hb.mono HB.out.size)); obtain ⟨x0, x1, x2, x3, x4, x5, x6, x7, -⟩ := HO.out; obtain ⟨y0, y1, y2, y3, y4, y5, y6, y7, -⟩ := HP.out; clear hb)
        | (go_at_call 13; (with_reducible refine (BytesC.call HC1.out (HW.out.trans (HB.out.mono HW.out.size))).mono ?_); rintro e w' ⟨A1, n1, cA1, rfl, hrd, hb⟩; have cv1 := conv_rd hrd cA1; have HCV1 := Lib.hid (fun V (hV : Below w'.heap.size w' V) => conv_rd (hrd.below hV) cA1); (try have cv2 := HCV2.out _ hb); clear hrd; have HO := Lib.hid (HO.out.next hb); have HP := Lib.hid (HP.out.next hb); have HB := Lib.hid (HB.out.trans (hb.mono HB.out.size)); obtain ⟨x0, x1, x2, x3, x4, x5, x6, x7, -⟩ := HO.out; obtain ⟨y0, y1, y2, y3, y4, y5, y6, y7, -⟩ := HP.out; clear hb)
        | (go_at_call 13; (with_reducible refine (BytesC.call HC2.out (HW.out.trans (HB.out.mono HW.out.size))).mono ?_); rintro e w' ⟨A2, n2, cA2, rfl, hrd, hb⟩; have cv2 := conv_rd hrd cA2; have HCV2 := Lib.hid (fun V (hV : Below w'.heap.size w' V) => conv_rd (hrd.below hV) cA2); (try have cv1 := HCV1.out _ hb); clear hrd; have HO := Lib.hid (HO.out.next hb); have HP := Lib.hid (HP.out.next hb); have HB := Lib.hid (HB.out.trans (hb.mono HB.out.size)); obtain ⟨x0, x1, x2, x3, x4, x5, x6, x7, -⟩ := HO.out; obtain ⟨y0, y1, y2, y3, y4, y5, y6, y7, -⟩ := HP.out; clear hb))
      all_goals
        go_wp2_with fail
        go_ret
        exact ⟨ret_bool (by rfl), HB.out⟩
end Go.Proofs.Ytekipbfafofkdaa

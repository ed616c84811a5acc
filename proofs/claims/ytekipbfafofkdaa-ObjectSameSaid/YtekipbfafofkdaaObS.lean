/-
  object.Same of two objects: are they one?
-/
import Derived.Test.YtekipbfafofkdaaObQ
import Derived.OwnWalk
import Derived.Tactics
namespace Go.Proofs.Ytekipbfafofkdaa
open Go.ChangeShapes Go.WideShapes Go.ChangeAt Go.RowKit
set_option linter.unusedVariables false
open Classical in
noncomputable def sameB (o p : Ob) : Bool := decide (o = p)
theorem sameB_refl (o : Ob) : sameB o o = true := by unfold sameB; simp
theorem sameB_iff {o p : Ob} : sameB o p = true ↔ o = p := by unfold sameB; simp
theorem sameB_comm (o p : Ob) : sameB o p = sameB p o := by rw [Bool.eq_iff_iff, sameB_iff, sameB_iff]; exact eq_comm
theorem sameB_parts (n1 n2 : ByteArray) (k1 k2 : Int) (i1 i2 : List (ByteArray × Int)) (v1 v2 : Int) (t1 t2 c1 c2 e1 e2 : List Int) (f1 f2 : List (Int × Int × Int)) :
    sameB ⟨n1, k1, i1, v1, t1, c1, e1, f1⟩ ⟨n2, k2, i2, v2, t2, c2, e2, f2⟩ = (decide (n1 = n2) && (decide (k1 = k2) && (decide (v1 = v2) && (decide (i1 = i2) && (decide (t1 = t2) && (decide (c1 = c2) && (decide (e1 = e2) && decide (f1 = f2)))))))) := by
  unfold sameB
  rw [Bool.eq_iff_iff]
  simp only [Bool.and_eq_true, decide_eq_true_eq, Ob.mk.injEq]
  constructor
  · rintro ⟨h1, h2, h3, h4, h5, h6, h7, h8⟩
    exact ⟨h1, h2, h4, h3, h5, h6, h7, h8⟩
  · rintro ⟨h1, h2, h4, h3, h5, h6, h7, h8⟩
    exact ⟨h1, h2, h3, h4, h5, h6, h7, h8⟩
/-- an object's cells, in a block -/
structure Ob8 (W : World) (b : Nat) (n : ByteArray) (key : Int) (ai : Option Addr) (li ci : Nat) (vars : Int) (at_ : Option Addr) (lt ct : Nat) (ac : Option Addr) (lc cc : Nat) (ae : Option Addr) (le ce : Nat) (af : Option Addr) (lf cf : Nat) : Prop where
  c0 : W.cell? ⟨b, 0, none⟩ = some (.string n)
  c1 : W.cell? ⟨b, 1, none⟩ = some (.int .u32 key)
  c2 : W.cell? ⟨b, 2, none⟩ = some (.slice ai li ci)
  c3 : W.cell? ⟨b, 3, none⟩ = some (.int .i64 vars)
  c4 : W.cell? ⟨b, 4, none⟩ = some (.slice at_ lt ct)
  c5 : W.cell? ⟨b, 5, none⟩ = some (.slice ac lc cc)
  c6 : W.cell? ⟨b, 6, none⟩ = some (.slice ae le ce)
  c7 : W.cell? ⟨b, 7, none⟩ = some (.slice af lf cf)
  lt_ : b < W.heap.size
section
variable {W V : World} {b : Nat} {n : ByteArray} {key : Int} {ai : Option Addr} {li ci : Nat} {vars : Int} {at_ : Option Addr} {lt ct : Nat} {ac : Option Addr} {lc cc : Nat} {ae : Option Addr} {le ce : Nat} {af : Option Addr} {lf cf : Nat}
theorem Ob8.next (h : Ob8 W b n key ai li ci vars at_ lt ct ac lc cc ae le ce af lf cf) (hb : Below W.heap.size W V) : Ob8 V b n key ai li ci vars at_ lt ct ac lc cc ae le ce af lf cf :=
  have l := h.lt_
  ⟨by rw [hb.cell l]; exact h.c0, by rw [hb.cell l]; exact h.c1, by rw [hb.cell l]; exact h.c2, by rw [hb.cell l]; exact h.c3, by rw [hb.cell l]; exact h.c4, by rw [hb.cell l]; exact h.c5, by rw [hb.cell l]; exact h.c6, by rw [hb.cell l]; exact h.c7, Nat.lt_of_lt_of_le l hb.size⟩
theorem Ob8.new (V : World) (n : ByteArray) (key : Int) (ai : Option Addr) (li ci : Nat) (vars : Int) (at_ : Option Addr) (lt ct : Nat) (ac : Option Addr) (lc cc : Nat) (ae : Option Addr) (le ce : Nat) (af : Option Addr) (lf cf : Nat) {b : Nat} (hb : V.heap.size = b) :
    Ob8 (V.alloc (.cells #[.string n, .int .u32 key, .slice ai li ci, .int .i64 vars, .slice at_ lt ct, .slice ac lc cc, .slice ae le ce, .slice af lf cf] 29)) b n key ai li ci vars at_ lt ct ac lc cc ae le ce af lf cf := by
  subst hb
  exact ⟨by rw [World.cell?_alloc_new V _ _ _]; rfl, by rw [World.cell?_alloc_new V _ _ _]; rfl, by rw [World.cell?_alloc_new V _ _ _]; rfl, by rw [World.cell?_alloc_new V _ _ _]; rfl, by rw [World.cell?_alloc_new V _ _ _]; rfl, by rw [World.cell?_alloc_new V _ _ _]; rfl, by rw [World.cell?_alloc_new V _ _ _]; rfl, by rw [World.cell?_alloc_new V _ _ _]; rfl, by simp⟩
end
set_option maxHeartbeats 8000000 in
theorem osame_any {w0 w : World} {o p : Ob} {ai : Option Addr} {li ci : Nat} {at_ : Option Addr} {lt ct : Nat} {ac : Option Addr} {lc cc : Nat} {ae : Option Addr} {le ce : Nat} {af : Option Addr} {lf cf : Nat} {ai2 : Option Addr} {li2 ci2 : Nat} {at2 : Option Addr} {lt2 ct2 : Nat} {ac2 : Option Addr} {lc2 cc2 : Nat} {ae2 : Option Addr} {le2 ce2 : Nat} {af2 : Option Addr} {lf2 cf2 : Nat} (ho : ObRows w0 o ai li ci at_ lt ct ac lc cc ae le ce af lf cf) (hp : ObRows w0 p ai2 li2 ci2 at2 lt2 ct2 ac2 lc2 cc2 ae2 le2 ce2 af2 lf2 cf2) (hw : Below w0.heap.size w0 w) :
    Calls Try.prog 10 #[ob o.name o.key ai li ci o.vars at_ lt ct ac lc cc ae le ce af lf cf, ob p.name p.key ai2 li2 ci2 p.vars at2 lt2 ct2 ac2 lc2 cc2 ae2 le2 ce2 af2 lf2 cf2] w fun e w' => e = .returned (.bool (sameB o p)) ∧ Below w.heap.size w w' := by
  obtain ⟨n1, k1, i1, v1, t1, c1, e1, f1⟩ := o
  obtain ⟨n2, k2, i2, v2, t2, c2, e2, f2⟩ := p
  have H0 := Lib.hid (fun W hW => eqImp_any (w0 := w0) (w := W) ho.imps hp.imps hW)
  have H1 := Lib.hid (fun W hW => eqU8_any (w0 := w0) (w := W) ho.text hp.text hW)
  have H2 := Lib.hid (fun W hW => eqU32_any (w0 := w0) (w := W) ho.code hp.code hW)
  have H3 := Lib.hid (fun W hW => eqI_any (w0 := w0) (w := W) ho.ents hp.ents hW)
  have H4 := Lib.hid (fun W hW => eqFix_any (w0 := w0) (w := W) ho.fixs hp.fixs hW)
  rw [sameB_parts]
  have HO := Lib.hid ((Ob8.new w n1 k1 ai li ci v1 at_ lt ct ac lc cc ae le ce af lf cf rfl).next (below1 _ (.cells #[.string n2, .int .u32 k2, .slice ai2 li2 ci2, .int .i64 v2, .slice at2 lt2 ct2, .slice ac2 lc2 cc2, .slice ae2 le2 ce2, .slice af2 lf2 cf2] 29)))
  have HP := Lib.hid (Ob8.new (w.alloc (.cells #[.string n1, .int .u32 k1, .slice ai li ci, .int .i64 v1, .slice at_ lt ct, .slice ac lc cc, .slice ae le ce, .slice af lf cf] 29)) n2 k2 ai2 li2 ci2 v2 at2 lt2 ct2 ac2 lc2 cc2 ae2 le2 ce2 af2 lf2 cf2 (b := w.heap.size + 1) (by simp))
  have HB := Lib.hid ((below1 w (.cells #[.string n1, .int .u32 k1, .slice ai li ci, .int .i64 v1, .slice at_ lt ct, .slice ac lc cc, .slice ae le ce, .slice af lf cf] 29)).alloc (by simp) (.cells #[.string n2, .int .u32 k2, .slice ai2 li2 ci2, .int .i64 v2, .slice at2 lt2 ct2, .slice ac2 lc2 cc2, .slice ae2 le2 ce2, .slice af2 lf2 cf2] 29))
  obtain ⟨x0, x1, x2, x3, x4, x5, x6, x7, -⟩ := HO.out
  obtain ⟨y0, y1, y2, y3, y4, y5, y6, y7, -⟩ := HP.out
  clear ho hp
  generalize decide (i1 = i2) = b0 at *
  generalize decide (t1 = t2) = b1 at *
  generalize decide (c1 = c2) = b2 at *
  generalize decide (e1 = e2) = b3 at *
  generalize decide (f1 = f2) = b4 at *
  unfold ob at *
  by_cases hn : n1 = n2
  rotate_left
  · have z0 : (n1.toList == n2.toList) = false := by
      cases h : (n1.toList == n2.toList) with
      | false => rfl
      | true => exact absurd (toList_inj (by simpa using h)) hn
    rw [decide_eq_false hn, Bool.false_and]
    go_enter Try.func10, Try.ntmps10
    go_wp2_with (first | (go_at_call 17; refine (H0.out _ (hw.trans (HB.out.mono hw.size))).mono ?_; rintro e w' ⟨rfl, hb⟩; have HO := Lib.hid (HO.out.next hb); have HP := Lib.hid (HP.out.next hb); have HB := Lib.hid (HB.out.trans (hb.mono HB.out.size)); obtain ⟨x0, x1, x2, x3, x4, x5, x6, x7, -⟩ := HO.out; obtain ⟨y0, y1, y2, y3, y4, y5, y6, y7, -⟩ := HP.out; clear hb) | (go_at_call 18; refine (H1.out _ (hw.trans (HB.out.mono hw.size))).mono ?_; rintro e w' ⟨rfl, hb⟩; have HO := Lib.hid (HO.out.next hb); have HP := Lib.hid (HP.out.next hb); have HB := Lib.hid (HB.out.trans (hb.mono HB.out.size)); obtain ⟨x0, x1, x2, x3, x4, x5, x6, x7, -⟩ := HO.out; obtain ⟨y0, y1, y2, y3, y4, y5, y6, y7, -⟩ := HP.out; clear hb) | (go_at_call 19; refine (H2.out _ (hw.trans (HB.out.mono hw.size))).mono ?_; rintro e w' ⟨rfl, hb⟩; have HO := Lib.hid (HO.out.next hb); have HP := Lib.hid (HP.out.next hb); have HB := Lib.hid (HB.out.trans (hb.mono HB.out.size)); obtain ⟨x0, x1, x2, x3, x4, x5, x6, x7, -⟩ := HO.out; obtain ⟨y0, y1, y2, y3, y4, y5, y6, y7, -⟩ := HP.out; clear hb) | (go_at_call 20; refine (H3.out _ (hw.trans (HB.out.mono hw.size))).mono ?_; rintro e w' ⟨rfl, hb⟩; have HO := Lib.hid (HO.out.next hb); have HP := Lib.hid (HP.out.next hb); have HB := Lib.hid (HB.out.trans (hb.mono HB.out.size)); obtain ⟨x0, x1, x2, x3, x4, x5, x6, x7, -⟩ := HO.out; obtain ⟨y0, y1, y2, y3, y4, y5, y6, y7, -⟩ := HP.out; clear hb) | (go_at_call 21; refine (H4.out _ (hw.trans (HB.out.mono hw.size))).mono ?_; rintro e w' ⟨rfl, hb⟩; have HO := Lib.hid (HO.out.next hb); have HP := Lib.hid (HP.out.next hb); have HB := Lib.hid (HB.out.trans (hb.mono HB.out.size)); obtain ⟨x0, x1, x2, x3, x4, x5, x6, x7, -⟩ := HO.out; obtain ⟨y0, y1, y2, y3, y4, y5, y6, y7, -⟩ := HP.out; clear hb))
    go_ret
    exact ⟨ret_bool (by rfl), HB.out⟩
  subst hn
  rw [decide_eq_true rfl, Bool.true_and]
  by_cases hk : k1 = k2
  rotate_left
  · have z0 : (k1 == k2) = false := by simpa using hk
    rw [decide_eq_false hk, Bool.false_and]
    go_enter Try.func10, Try.ntmps10
    go_wp2_with (first | (go_at_call 17; refine (H0.out _ (hw.trans (HB.out.mono hw.size))).mono ?_; rintro e w' ⟨rfl, hb⟩; have HO := Lib.hid (HO.out.next hb); have HP := Lib.hid (HP.out.next hb); have HB := Lib.hid (HB.out.trans (hb.mono HB.out.size)); obtain ⟨x0, x1, x2, x3, x4, x5, x6, x7, -⟩ := HO.out; obtain ⟨y0, y1, y2, y3, y4, y5, y6, y7, -⟩ := HP.out; clear hb) | (go_at_call 18; refine (H1.out _ (hw.trans (HB.out.mono hw.size))).mono ?_; rintro e w' ⟨rfl, hb⟩; have HO := Lib.hid (HO.out.next hb); have HP := Lib.hid (HP.out.next hb); have HB := Lib.hid (HB.out.trans (hb.mono HB.out.size)); obtain ⟨x0, x1, x2, x3, x4, x5, x6, x7, -⟩ := HO.out; obtain ⟨y0, y1, y2, y3, y4, y5, y6, y7, -⟩ := HP.out; clear hb) | (go_at_call 19; refine (H2.out _ (hw.trans (HB.out.mono hw.size))).mono ?_; rintro e w' ⟨rfl, hb⟩; have HO := Lib.hid (HO.out.next hb); have HP := Lib.hid (HP.out.next hb); have HB := Lib.hid (HB.out.trans (hb.mono HB.out.size)); obtain ⟨x0, x1, x2, x3, x4, x5, x6, x7, -⟩ := HO.out; obtain ⟨y0, y1, y2, y3, y4, y5, y6, y7, -⟩ := HP.out; clear hb) | (go_at_call 20; refine (H3.out _ (hw.trans (HB.out.mono hw.size))).mono ?_; rintro e w' ⟨rfl, hb⟩; have HO := Lib.hid (HO.out.next hb); have HP := Lib.hid (HP.out.next hb); have HB := Lib.hid (HB.out.trans (hb.mono HB.out.size)); obtain ⟨x0, x1, x2, x3, x4, x5, x6, x7, -⟩ := HO.out; obtain ⟨y0, y1, y2, y3, y4, y5, y6, y7, -⟩ := HP.out; clear hb) | (go_at_call 21; refine (H4.out _ (hw.trans (HB.out.mono hw.size))).mono ?_; rintro e w' ⟨rfl, hb⟩; have HO := Lib.hid (HO.out.next hb); have HP := Lib.hid (HP.out.next hb); have HB := Lib.hid (HB.out.trans (hb.mono HB.out.size)); obtain ⟨x0, x1, x2, x3, x4, x5, x6, x7, -⟩ := HO.out; obtain ⟨y0, y1, y2, y3, y4, y5, y6, y7, -⟩ := HP.out; clear hb))
    go_ret
    exact ⟨ret_bool (by rfl), HB.out⟩
  subst hk
  rw [decide_eq_true rfl, Bool.true_and]
  by_cases hv : v1 = v2
  rotate_left
  · have z0 : (v1 == v2) = false := by simpa using hv
    rw [decide_eq_false hv, Bool.false_and]
    go_enter Try.func10, Try.ntmps10
    go_wp2_with (first | (go_at_call 17; refine (H0.out _ (hw.trans (HB.out.mono hw.size))).mono ?_; rintro e w' ⟨rfl, hb⟩; have HO := Lib.hid (HO.out.next hb); have HP := Lib.hid (HP.out.next hb); have HB := Lib.hid (HB.out.trans (hb.mono HB.out.size)); obtain ⟨x0, x1, x2, x3, x4, x5, x6, x7, -⟩ := HO.out; obtain ⟨y0, y1, y2, y3, y4, y5, y6, y7, -⟩ := HP.out; clear hb) | (go_at_call 18; refine (H1.out _ (hw.trans (HB.out.mono hw.size))).mono ?_; rintro e w' ⟨rfl, hb⟩; have HO := Lib.hid (HO.out.next hb); have HP := Lib.hid (HP.out.next hb); have HB := Lib.hid (HB.out.trans (hb.mono HB.out.size)); obtain ⟨x0, x1, x2, x3, x4, x5, x6, x7, -⟩ := HO.out; obtain ⟨y0, y1, y2, y3, y4, y5, y6, y7, -⟩ := HP.out; clear hb) | (go_at_call 19; refine (H2.out _ (hw.trans (HB.out.mono hw.size))).mono ?_; rintro e w' ⟨rfl, hb⟩; have HO := Lib.hid (HO.out.next hb); have HP := Lib.hid (HP.out.next hb); have HB := Lib.hid (HB.out.trans (hb.mono HB.out.size)); obtain ⟨x0, x1, x2, x3, x4, x5, x6, x7, -⟩ := HO.out; obtain ⟨y0, y1, y2, y3, y4, y5, y6, y7, -⟩ := HP.out; clear hb) | (go_at_call 20; refine (H3.out _ (hw.trans (HB.out.mono hw.size))).mono ?_; rintro e w' ⟨rfl, hb⟩; have HO := Lib.hid (HO.out.next hb); have HP := Lib.hid (HP.out.next hb); have HB := Lib.hid (HB.out.trans (hb.mono HB.out.size)); obtain ⟨x0, x1, x2, x3, x4, x5, x6, x7, -⟩ := HO.out; obtain ⟨y0, y1, y2, y3, y4, y5, y6, y7, -⟩ := HP.out; clear hb) | (go_at_call 21; refine (H4.out _ (hw.trans (HB.out.mono hw.size))).mono ?_; rintro e w' ⟨rfl, hb⟩; have HO := Lib.hid (HO.out.next hb); have HP := Lib.hid (HP.out.next hb); have HB := Lib.hid (HB.out.trans (hb.mono HB.out.size)); obtain ⟨x0, x1, x2, x3, x4, x5, x6, x7, -⟩ := HO.out; obtain ⟨y0, y1, y2, y3, y4, y5, y6, y7, -⟩ := HP.out; clear hb))
    go_ret
    exact ⟨ret_bool (by rfl), HB.out⟩
  subst hv
  rw [decide_eq_true rfl, Bool.true_and]
  cases b0 with
  | false =>
    go_enter Try.func10, Try.ntmps10
    go_wp2_with (first | (go_at_call 17; refine (H0.out _ (hw.trans (HB.out.mono hw.size))).mono ?_; rintro e w' ⟨rfl, hb⟩; have HO := Lib.hid (HO.out.next hb); have HP := Lib.hid (HP.out.next hb); have HB := Lib.hid (HB.out.trans (hb.mono HB.out.size)); obtain ⟨x0, x1, x2, x3, x4, x5, x6, x7, -⟩ := HO.out; obtain ⟨y0, y1, y2, y3, y4, y5, y6, y7, -⟩ := HP.out; clear hb) | (go_at_call 18; refine (H1.out _ (hw.trans (HB.out.mono hw.size))).mono ?_; rintro e w' ⟨rfl, hb⟩; have HO := Lib.hid (HO.out.next hb); have HP := Lib.hid (HP.out.next hb); have HB := Lib.hid (HB.out.trans (hb.mono HB.out.size)); obtain ⟨x0, x1, x2, x3, x4, x5, x6, x7, -⟩ := HO.out; obtain ⟨y0, y1, y2, y3, y4, y5, y6, y7, -⟩ := HP.out; clear hb) | (go_at_call 19; refine (H2.out _ (hw.trans (HB.out.mono hw.size))).mono ?_; rintro e w' ⟨rfl, hb⟩; have HO := Lib.hid (HO.out.next hb); have HP := Lib.hid (HP.out.next hb); have HB := Lib.hid (HB.out.trans (hb.mono HB.out.size)); obtain ⟨x0, x1, x2, x3, x4, x5, x6, x7, -⟩ := HO.out; obtain ⟨y0, y1, y2, y3, y4, y5, y6, y7, -⟩ := HP.out; clear hb) | (go_at_call 20; refine (H3.out _ (hw.trans (HB.out.mono hw.size))).mono ?_; rintro e w' ⟨rfl, hb⟩; have HO := Lib.hid (HO.out.next hb); have HP := Lib.hid (HP.out.next hb); have HB := Lib.hid (HB.out.trans (hb.mono HB.out.size)); obtain ⟨x0, x1, x2, x3, x4, x5, x6, x7, -⟩ := HO.out; obtain ⟨y0, y1, y2, y3, y4, y5, y6, y7, -⟩ := HP.out; clear hb) | (go_at_call 21; refine (H4.out _ (hw.trans (HB.out.mono hw.size))).mono ?_; rintro e w' ⟨rfl, hb⟩; have HO := Lib.hid (HO.out.next hb); have HP := Lib.hid (HP.out.next hb); have HB := Lib.hid (HB.out.trans (hb.mono HB.out.size)); obtain ⟨x0, x1, x2, x3, x4, x5, x6, x7, -⟩ := HO.out; obtain ⟨y0, y1, y2, y3, y4, y5, y6, y7, -⟩ := HP.out; clear hb))
    go_ret
    exact ⟨ret_bool (by rfl), HB.out⟩
  | true =>
    cases b1 with
    | false =>
      go_enter Try.func10, Try.ntmps10
      go_wp2_with (first | (go_at_call 17; refine (H0.out _ (hw.trans (HB.out.mono hw.size))).mono ?_; rintro e w' ⟨rfl, hb⟩; have HO := Lib.hid (HO.out.next hb); have HP := Lib.hid (HP.out.next hb); have HB := Lib.hid (HB.out.trans (hb.mono HB.out.size)); obtain ⟨x0, x1, x2, x3, x4, x5, x6, x7, -⟩ := HO.out; obtain ⟨y0, y1, y2, y3, y4, y5, y6, y7, -⟩ := HP.out; clear hb) | (go_at_call 18; refine (H1.out _ (hw.trans (HB.out.mono hw.size))).mono ?_; rintro e w' ⟨rfl, hb⟩; have HO := Lib.hid (HO.out.next hb); have HP := Lib.hid (HP.out.next hb); have HB := Lib.hid (HB.out.trans (hb.mono HB.out.size)); obtain ⟨x0, x1, x2, x3, x4, x5, x6, x7, -⟩ := HO.out; obtain ⟨y0, y1, y2, y3, y4, y5, y6, y7, -⟩ := HP.out; clear hb) | (go_at_call 19; refine (H2.out _ (hw.trans (HB.out.mono hw.size))).mono ?_; rintro e w' ⟨rfl, hb⟩; have HO := Lib.hid (HO.out.next hb); have HP := Lib.hid (HP.out.next hb); have HB := Lib.hid (HB.out.trans (hb.mono HB.out.size)); obtain ⟨x0, x1, x2, x3, x4, x5, x6, x7, -⟩ := HO.out; obtain ⟨y0, y1, y2, y3, y4, y5, y6, y7, -⟩ := HP.out; clear hb) | (go_at_call 20; refine (H3.out _ (hw.trans (HB.out.mono hw.size))).mono ?_; rintro e w' ⟨rfl, hb⟩; have HO := Lib.hid (HO.out.next hb); have HP := Lib.hid (HP.out.next hb); have HB := Lib.hid (HB.out.trans (hb.mono HB.out.size)); obtain ⟨x0, x1, x2, x3, x4, x5, x6, x7, -⟩ := HO.out; obtain ⟨y0, y1, y2, y3, y4, y5, y6, y7, -⟩ := HP.out; clear hb) | (go_at_call 21; refine (H4.out _ (hw.trans (HB.out.mono hw.size))).mono ?_; rintro e w' ⟨rfl, hb⟩; have HO := Lib.hid (HO.out.next hb); have HP := Lib.hid (HP.out.next hb); have HB := Lib.hid (HB.out.trans (hb.mono HB.out.size)); obtain ⟨x0, x1, x2, x3, x4, x5, x6, x7, -⟩ := HO.out; obtain ⟨y0, y1, y2, y3, y4, y5, y6, y7, -⟩ := HP.out; clear hb))
      go_ret
      exact ⟨ret_bool (by rfl), HB.out⟩
    | true =>
      cases b2 with
      | false =>
        go_enter Try.func10, Try.ntmps10
        go_wp2_with (first | (go_at_call 17; refine (H0.out _ (hw.trans (HB.out.mono hw.size))).mono ?_; rintro e w' ⟨rfl, hb⟩; have HO := Lib.hid (HO.out.next hb); have HP := Lib.hid (HP.out.next hb); have HB := Lib.hid (HB.out.trans (hb.mono HB.out.size)); obtain ⟨x0, x1, x2, x3, x4, x5, x6, x7, -⟩ := HO.out; obtain ⟨y0, y1, y2, y3, y4, y5, y6, y7, -⟩ := HP.out; clear hb) | (go_at_call 18; refine (H1.out _ (hw.trans (HB.out.mono hw.size))).mono ?_; rintro e w' ⟨rfl, hb⟩; have HO := Lib.hid (HO.out.next hb); have HP := Lib.hid (HP.out.next hb); have HB := Lib.hid (HB.out.trans (hb.mono HB.out.size)); obtain ⟨x0, x1, x2, x3, x4, x5, x6, x7, -⟩ := HO.out; obtain ⟨y0, y1, y2, y3, y4, y5, y6, y7, -⟩ := HP.out; clear hb) | (go_at_call 19; refine (H2.out _ (hw.trans (HB.out.mono hw.size))).mono ?_; rintro e w' ⟨rfl, hb⟩; have HO := Lib.hid (HO.out.next hb); have HP := Lib.hid (HP.out.next hb); have HB := Lib.hid (HB.out.trans (hb.mono HB.out.size)); obtain ⟨x0, x1, x2, x3, x4, x5, x6, x7, -⟩ := HO.out; obtain ⟨y0, y1, y2, y3, y4, y5, y6, y7, -⟩ := HP.out; clear hb) | (go_at_call 20; refine (H3.out _ (hw.trans (HB.out.mono hw.size))).mono ?_; rintro e w' ⟨rfl, hb⟩; have HO := Lib.hid (HO.out.next hb); have HP := Lib.hid (HP.out.next hb); have HB := Lib.hid (HB.out.trans (hb.mono HB.out.size)); obtain ⟨x0, x1, x2, x3, x4, x5, x6, x7, -⟩ := HO.out; obtain ⟨y0, y1, y2, y3, y4, y5, y6, y7, -⟩ := HP.out; clear hb) | (go_at_call 21; refine (H4.out _ (hw.trans (HB.out.mono hw.size))).mono ?_; rintro e w' ⟨rfl, hb⟩; have HO := Lib.hid (HO.out.next hb); have HP := Lib.hid (HP.out.next hb); have HB := Lib.hid (HB.out.trans (hb.mono HB.out.size)); obtain ⟨x0, x1, x2, x3, x4, x5, x6, x7, -⟩ := HO.out; obtain ⟨y0, y1, y2, y3, y4, y5, y6, y7, -⟩ := HP.out; clear hb))
        go_ret
        exact ⟨ret_bool (by rfl), HB.out⟩
      | true =>
        cases b3 with
        | false =>
          go_enter Try.func10, Try.ntmps10
          go_wp2_with (first | (go_at_call 17; refine (H0.out _ (hw.trans (HB.out.mono hw.size))).mono ?_; rintro e w' ⟨rfl, hb⟩; have HO := Lib.hid (HO.out.next hb); have HP := Lib.hid (HP.out.next hb); have HB := Lib.hid (HB.out.trans (hb.mono HB.out.size)); obtain ⟨x0, x1, x2, x3, x4, x5, x6, x7, -⟩ := HO.out; obtain ⟨y0, y1, y2, y3, y4, y5, y6, y7, -⟩ := HP.out; clear hb) | (go_at_call 18; refine (H1.out _ (hw.trans (HB.out.mono hw.size))).mono ?_; rintro e w' ⟨rfl, hb⟩; have HO := Lib.hid (HO.out.next hb); have HP := Lib.hid (HP.out.next hb); have HB := Lib.hid (HB.out.trans (hb.mono HB.out.size)); obtain ⟨x0, x1, x2, x3, x4, x5, x6, x7, -⟩ := HO.out; obtain ⟨y0, y1, y2, y3, y4, y5, y6, y7, -⟩ := HP.out; clear hb) | (go_at_call 19; refine (H2.out _ (hw.trans (HB.out.mono hw.size))).mono ?_; rintro e w' ⟨rfl, hb⟩; have HO := Lib.hid (HO.out.next hb); have HP := Lib.hid (HP.out.next hb); have HB := Lib.hid (HB.out.trans (hb.mono HB.out.size)); obtain ⟨x0, x1, x2, x3, x4, x5, x6, x7, -⟩ := HO.out; obtain ⟨y0, y1, y2, y3, y4, y5, y6, y7, -⟩ := HP.out; clear hb) | (go_at_call 20; refine (H3.out _ (hw.trans (HB.out.mono hw.size))).mono ?_; rintro e w' ⟨rfl, hb⟩; have HO := Lib.hid (HO.out.next hb); have HP := Lib.hid (HP.out.next hb); have HB := Lib.hid (HB.out.trans (hb.mono HB.out.size)); obtain ⟨x0, x1, x2, x3, x4, x5, x6, x7, -⟩ := HO.out; obtain ⟨y0, y1, y2, y3, y4, y5, y6, y7, -⟩ := HP.out; clear hb) | (go_at_call 21; refine (H4.out _ (hw.trans (HB.out.mono hw.size))).mono ?_; rintro e w' ⟨rfl, hb⟩; have HO := Lib.hid (HO.out.next hb); have HP := Lib.hid (HP.out.next hb); have HB := Lib.hid (HB.out.trans (hb.mono HB.out.size)); obtain ⟨x0, x1, x2, x3, x4, x5, x6, x7, -⟩ := HO.out; obtain ⟨y0, y1, y2, y3, y4, y5, y6, y7, -⟩ := HP.out; clear hb))
          go_ret
          exact ⟨ret_bool (by rfl), HB.out⟩
        | true =>
          cases b4 with
          | false =>
            go_enter Try.func10, Try.ntmps10
            go_wp2_with (first | (go_at_call 17; refine (H0.out _ (hw.trans (HB.out.mono hw.size))).mono ?_; rintro e w' ⟨rfl, hb⟩; have HO := Lib.hid (HO.out.next hb); have HP := Lib.hid (HP.out.next hb); have HB := Lib.hid (HB.out.trans (hb.mono HB.out.size)); obtain ⟨x0, x1, x2, x3, x4, x5, x6, x7, -⟩ := HO.out; obtain ⟨y0, y1, y2, y3, y4, y5, y6, y7, -⟩ := HP.out; clear hb) | (go_at_call 18; refine (H1.out _ (hw.trans (HB.out.mono hw.size))).mono ?_; rintro e w' ⟨rfl, hb⟩; have HO := Lib.hid (HO.out.next hb); have HP := Lib.hid (HP.out.next hb); have HB := Lib.hid (HB.out.trans (hb.mono HB.out.size)); obtain ⟨x0, x1, x2, x3, x4, x5, x6, x7, -⟩ := HO.out; obtain ⟨y0, y1, y2, y3, y4, y5, y6, y7, -⟩ := HP.out; clear hb) | (go_at_call 19; refine (H2.out _ (hw.trans (HB.out.mono hw.size))).mono ?_; rintro e w' ⟨rfl, hb⟩; have HO := Lib.hid (HO.out.next hb); have HP := Lib.hid (HP.out.next hb); have HB := Lib.hid (HB.out.trans (hb.mono HB.out.size)); obtain ⟨x0, x1, x2, x3, x4, x5, x6, x7, -⟩ := HO.out; obtain ⟨y0, y1, y2, y3, y4, y5, y6, y7, -⟩ := HP.out; clear hb) | (go_at_call 20; refine (H3.out _ (hw.trans (HB.out.mono hw.size))).mono ?_; rintro e w' ⟨rfl, hb⟩; have HO := Lib.hid (HO.out.next hb); have HP := Lib.hid (HP.out.next hb); have HB := Lib.hid (HB.out.trans (hb.mono HB.out.size)); obtain ⟨x0, x1, x2, x3, x4, x5, x6, x7, -⟩ := HO.out; obtain ⟨y0, y1, y2, y3, y4, y5, y6, y7, -⟩ := HP.out; clear hb) | (go_at_call 21; refine (H4.out _ (hw.trans (HB.out.mono hw.size))).mono ?_; rintro e w' ⟨rfl, hb⟩; have HO := Lib.hid (HO.out.next hb); have HP := Lib.hid (HP.out.next hb); have HB := Lib.hid (HB.out.trans (hb.mono HB.out.size)); obtain ⟨x0, x1, x2, x3, x4, x5, x6, x7, -⟩ := HO.out; obtain ⟨y0, y1, y2, y3, y4, y5, y6, y7, -⟩ := HP.out; clear hb))
            go_ret
            exact ⟨ret_bool (by rfl), HB.out⟩
          | true =>
            go_enter Try.func10, Try.ntmps10
            go_wp2_with (first | (go_at_call 17; refine (H0.out _ (hw.trans (HB.out.mono hw.size))).mono ?_; rintro e w' ⟨rfl, hb⟩; have HO := Lib.hid (HO.out.next hb); have HP := Lib.hid (HP.out.next hb); have HB := Lib.hid (HB.out.trans (hb.mono HB.out.size)); obtain ⟨x0, x1, x2, x3, x4, x5, x6, x7, -⟩ := HO.out; obtain ⟨y0, y1, y2, y3, y4, y5, y6, y7, -⟩ := HP.out; clear hb) | (go_at_call 18; refine (H1.out _ (hw.trans (HB.out.mono hw.size))).mono ?_; rintro e w' ⟨rfl, hb⟩; have HO := Lib.hid (HO.out.next hb); have HP := Lib.hid (HP.out.next hb); have HB := Lib.hid (HB.out.trans (hb.mono HB.out.size)); obtain ⟨x0, x1, x2, x3, x4, x5, x6, x7, -⟩ := HO.out; obtain ⟨y0, y1, y2, y3, y4, y5, y6, y7, -⟩ := HP.out; clear hb) | (go_at_call 19; refine (H2.out _ (hw.trans (HB.out.mono hw.size))).mono ?_; rintro e w' ⟨rfl, hb⟩; have HO := Lib.hid (HO.out.next hb); have HP := Lib.hid (HP.out.next hb); have HB := Lib.hid (HB.out.trans (hb.mono HB.out.size)); obtain ⟨x0, x1, x2, x3, x4, x5, x6, x7, -⟩ := HO.out; obtain ⟨y0, y1, y2, y3, y4, y5, y6, y7, -⟩ := HP.out; clear hb) | (go_at_call 20; refine (H3.out _ (hw.trans (HB.out.mono hw.size))).mono ?_; rintro e w' ⟨rfl, hb⟩; have HO := Lib.hid (HO.out.next hb); have HP := Lib.hid (HP.out.next hb); have HB := Lib.hid (HB.out.trans (hb.mono HB.out.size)); obtain ⟨x0, x1, x2, x3, x4, x5, x6, x7, -⟩ := HO.out; obtain ⟨y0, y1, y2, y3, y4, y5, y6, y7, -⟩ := HP.out; clear hb) | (go_at_call 21; refine (H4.out _ (hw.trans (HB.out.mono hw.size))).mono ?_; rintro e w' ⟨rfl, hb⟩; have HO := Lib.hid (HO.out.next hb); have HP := Lib.hid (HP.out.next hb); have HB := Lib.hid (HB.out.trans (hb.mono HB.out.size)); obtain ⟨x0, x1, x2, x3, x4, x5, x6, x7, -⟩ := HO.out; obtain ⟨y0, y1, y2, y3, y4, y5, y6, y7, -⟩ := HP.out; clear hb))
            go_ret
            exact ⟨ret_bool (by rfl), HB.out⟩
end Go.Proofs.Ytekipbfafofkdaa

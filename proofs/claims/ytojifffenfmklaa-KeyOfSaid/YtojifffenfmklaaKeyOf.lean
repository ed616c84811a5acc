/-
  KeyOf: for every lists of at most 3000 bytes and parts: the fingerprint is the reference's, wherever they are parted; lists stay.
-/
import Derived.Test.YtojifffenfmklaaKeyC
import Derived.Deep.DeepHandedRow
import Derived.Deep.RegionWith
import Derived.WalkSpells
namespace Go.Proofs.Ytojifffenfmklaa.keyOf
open Go.ChangeShapes Go.WideShapes Go.ChangeAt Go.RowKit
set_option linter.unusedVariables false

theorem rdL_at (W : World) (g : Nat) (y : Lst) (hg : g < W.heap.size) (hc : W.cell? ⟨g, 0, none⟩ = some y.val) (hy : Rd W W.heap.size .u8 y.a y.n y.l) (hb : ∀ i, 0 ≤ nth y.l i ∧ nth y.l i ≤ 255) (hn : y.n ≤ maxLen) :
    RdL W W.heap.size (some ⟨g, 0, none⟩) 1 [y] := by
  refine ⟨rfl, fun _ => ⟨_, rfl, hg, fun i z hi => ?_⟩, fun z hz => ?_⟩
  · match i, hi with
    | 0, hi => simp at hi; subst hi; exact hc
  · rw [List.mem_singleton] at hz
    subst hz
    exact ⟨hy, hb, hn⟩
theorem rdL_more {w : World} {B B' n : Nat} {A : Option Addr} {ls : List Lst} (h : RdL w B A n ls) (hB : B ≤ B') : RdL w B' A n ls :=
  ⟨h.1, fun hn => by obtain ⟨x, e, hx, hc⟩ := h.2.1 hn; exact ⟨x, e, by omega, hc⟩, fun y hy => ⟨(h.2.2 y hy).1.more hB, (h.2.2 y hy).2⟩⟩
theorem allOf_bd {w : World} {B n : Nat} {A : Option Addr} {ls : List Lst} (h : RdL w B A n ls) (i : Nat) : 0 ≤ nth (allOf ls) i ∧ nth (allOf ls) i ≤ 255 := by
  refine nth_mem (fun z => 0 ≤ z ∧ z ≤ 255) _ (fun z hz => ?_) (by omega) i
  unfold allOf at hz
  obtain ⟨y, hy, hz⟩ := List.mem_flatMap.1 hz
  obtain ⟨k, hk, rfl⟩ := List.getElem_of_mem hz
  have := (h.2.2 y hy).2.1 k
  rw [nth_eq _ k hk] at this
  exact this
set_option maxHeartbeats 4000000 in
theorem walk {H : Type} {enc : TypeId × Value → H} {p : List MemPlace} (a0 : Option Addr) (len0 cap0 : Nat) (d : DataW H) (w : World)
    (h : DataW.Trod enc Try.prog w 0 (fun _ => true) true 22 (.slice a0 len0 cap0) d p) :
    Calls Try.prog 3 #[.slice a0 len0 cap0] w fun e w' => e = .returned (.bool true) ∧ Below w.heap.size w w' := by
  obtain ⟨ls, hr, hm⟩ := rdL_of h
  have HR := Lib.hid hr
  clear h hr
  go_enter Try.func3, Try.ntmps3
  go_wp2_with fail
  refine (much_any a0 len0 cap0 ls w HR.out hm).mono ?_
  rintro e w' ⟨r, rfl, rfl, hr⟩
  cases r with
  | true =>
    go_wp2_with (go_at_call 10; refine (known6_any _).mono ?_; rintro e w' ⟨rfl, b1⟩)
    go_ret
    exact ⟨rfl, b1⟩
  | false =>
    obtain ⟨h0, h1⟩ := hr rfl
    clear hr
    go_wp2_with fail
    refine (join_any a0 len0 cap0 ls w HR.out h0 h1).mono ?_
    rintro e u1 ⟨A2, c2, rfl, r2, b1⟩
    have R2 := Lib.hid r2
    clear r2
    go_wp2_with fail
    refine (key_of_any a0 len0 cap0 ls u1 (rdL_more (HR.out.below b1) b1.size) hm).mono ?_
    rintro e u2 ⟨rfl, d2⟩
    have b2 : Below w.heap.size w u2 := b1.trans (d2.mono b1.size)
    have hbd := allOf_bd HR.out
    have R3 : Rd u2 u2.heap.size .u8 A2 (allOf ls).length (allOf ls) := (R2.out.below d2).more d2.size
    have hM : (allOf ls).length ≤ maxLen := by unfold maxLen; omega
    have RK : ∀ v : World, Below u2.heap.size u2 v → Calls Try.prog 13 #[.slice A2 (allOf ls).length c2] v fun e w' => e = .returned (.int .u32 (fnv 2166136261 (allOf ls))) ∧ v = w' := fun v hv =>
      rkey_any A2 _ c2 (allOf ls) v ((R3.below hv).more hv.size) hbd hM
    have OF : ∀ v : World, Below u2.heap.size u2 v → u2.heap.size < v.heap.size → v.cell? ⟨u2.heap.size, 0, none⟩ = some (.slice A2 (allOf ls).length c2) → Calls Try.prog 12 #[.slice (some ⟨u2.heap.size, 0, none⟩) 1 1] v fun e w' => e = .returned (.int .u32 (fnv 2166136261 (allOf ls))) ∧ Below u2.heap.size u2 w' := by
      intro v hv hs hc
      refine (key_of_any _ 1 1 [⟨A2, (allOf ls).length, c2, allOf ls⟩] v (rdL_at v _ _ hs hc ((R3.below hv).more hv.size) hbd hM) (by unfold maxLen; omega)).mono ?_
      rintro e w' ⟨rfl, hb⟩
      rw [allOf_one]
      exact ⟨rfl, hv.trans (hb.mono hv.size)⟩
    have JO : ∀ v : World, Below u2.heap.size u2 v → Calls Try.prog 11 #[.slice a0 len0 cap0] v fun e w' => ∃ A3 c3, e = .returned (.slice A3 (allOf ls).length c3) ∧ Below u2.heap.size u2 w' ∧ (convert 25 9 (.slice A3 (allOf ls).length c3)).run Try.prog w' = .ok (.string (strOf (allOf ls))) w' := by
      intro v hv
      have bv : Below w.heap.size w v := b2.trans (hv.mono b2.size)
      refine (join_any a0 len0 cap0 ls v (rdL_more (HR.out.below bv) bv.size) h0 h1).mono ?_
      rintro e w' ⟨A3, c3, rfl, r3, hb⟩
      exact ⟨A3, c3, rfl, hv.trans (hb.mono hv.size), conv_rd r3 c3⟩
    have CV : ∀ v : World, Below u2.heap.size u2 v → (convert 25 9 (.slice A2 (allOf ls).length c2)).run Try.prog v = .ok (.string (strOf (allOf ls))) v := fun v hv => conv_rd (R3.below hv) c2
    have KN : ∀ v : World, Below u2.heap.size u2 v → Calls Try.prog 10 #[] v fun e w2 => e = .returned (.bool true) ∧ Below u2.heap.size u2 w2 := by
      intro v hv
      refine (known6_any v).mono ?_
      rintro e w2 ⟨rfl, hb⟩
      exact ⟨rfl, hv.trans (hb.mono hv.size)⟩
    have HB2 := Lib.hid b2
    clear b2 d2 b1 R2 R3 hbd hM h0 h1 hm HR
    generalize strOf (allOf ls) = T at *
    generalize fnv 2166136261 (allOf ls) = F at *
    generalize (allOf ls).length = M at *
    have B3 : Below u2.heap.size u2 u2.drew := (Below.refl _ _).drew
    have B4 : Below u2.heap.size u2 (u2.alloc (.cells #[.slice A2 M c2] 25)).drew := ((Below.refl u2.heap.size u2).alloc (Nat.le_refl _) _).drew
    go_wp2_with fail
    go_region_with (first | (go_at_call 13; refine (RK _ B3).mono ?_; rintro e w3 ⟨rfl, rfl⟩) | (go_at_call 12; refine (OF _ B4 (by simp) (by simp)).mono ?_; rintro e w4 ⟨rfl, bo⟩; have CVo := CV _ bo) | (go_at_call 11; refine (JO _ bo).mono ?_; rintro e w5 ⟨A5, k5, rfl, bj, hcv⟩; have CVj := CV _ bj) | (go_at_call 10; refine (KN _ bj).mono ?_; rintro e w6 ⟨rfl, bb⟩))
    all_goals clear CV RK OF JO KN B3 B4 CVo CVj hcv
    all_goals go_wp2_with fail
    all_goals go_ret
    all_goals exact ⟨rfl, HB2.out.trans (bb.mono HB2.out.size)⟩
theorem own : ownKnob Try.prog.godebug = none := by kernel_rfl
theorem laidOut : laidOutB Try.prog = true := by kernel_rfl
theorem contract (H : Type) (enc : TypeId × Value → H) (W : World) (base : Nat) (args : Array Value) (ds gs : List (DataW H)) (before : List MemPlace)
    (hval : ∀ (j : Nat) t v, Try.f3.params[j]? = some t → args[j]? = some v → Value.okWide Try.prog W .any base t v)
    (hW : DataW.Whole enc Try.prog Try.f3.params.toList Rows.keyOfSpec.vars false W args.toList ds gs before) :
    Calls Try.prog 3 args W fun e W' => ∃ v, e = .returned v ∧ Rows.keyOfSpec.post enc Try.prog Try.f3 false true false false W args v W' := by
  have hW' := hW
  obtain ⟨p, q, hA0, hV, rfl, hfz, hnd⟩ := hW
  have hA : DataW.TrodAll enc Try.prog W 0 (fun _ => true) true Try.f3.params.toList args.toList ds p := hA0
  rw [Try.params3] at hA hval
  obtain ⟨v0, vs0, d0, ds0, p0, q0, hargs, rfl, rfl, h0, r0⟩ := trodAll_cons hA
  obtain ⟨rfl, rfl, rfl⟩ := trodAll_nil r0
  obtain rfl : args = #[v0] := by cases args; simp_all
  obtain ⟨rfl, rfl⟩ := trodVars_none hV
  obtain ⟨a0, len0, cap0, rfl⟩ := okWide_slice Try.underlying22 (hval 0 22 v0 rfl rfl)
  have k0 := h0
  have lt0 : ∀ x ∈ p0, x.block < W.heap.size := by obtain ⟨m, hm⟩ := k0; exact DataW.trod_lt m _ _ _ hm
  clear hA0
  refine (walk a0 len0 cap0 _ W h0).mono fun e W' ⟨he, bel⟩ => ?_
  subst he
  exact ⟨_, rfl, _, _, _, [], _, [], hW', trodAll_mk1 (shut_bool Try.underlying4 _), (trodAll_cons_mk (Below.trod laidOut (by kernel_rfl) (of_decide_eq_true (by kernel_rfl)) k0 bel lt0) trodAll_mk0), rfl, bel.frame _, fun h => by cases h⟩
set_option maxRecDepth 100000 in
theorem lifted (os : Os) (started : os.Started) (H : Type) (enc : TypeId × Value → H) :
    ReturnsInHanded {} Try.checked os 3 .any (Rows.keyOfSpec.pre6 enc Try.prog Try.f3 Rows.keyOfRow.domain false) (Rows.keyOfSpec.post enc Try.prog Try.f3 false true false false) := by
  refine returnsInHanded_of_change (C := Try.checked) own started (by kernel_rfl) Try.func3
    (ChangeSpec.witness6 (enc := enc) (C := Try.checked) false ⟨#[], #[.slice none 0 0], []⟩ 8 (by kernel_rfl) (by kernel_rfl) (by kernel_rfl) (by kernel_rfl)) ?_
  intro W base args ds gs before hval hW hcnd _
  exact contract H enc W base args ds gs before hval hW
theorem said : Rows.KeyOfSaid :=
  OpenClaim.holds_of_wide 3 Try.f3 rfl rfl rfl rfl rfl rfl rfl ⟨rfl, rfl, rfl, rfl, rfl⟩ rfl rfl rfl rfl rfl (by kernel_rfl) Try.func3 (by kernel_rfl)
    (of_decide_eq_true (by kernel_rfl)) (by unfold Func.isWrapper; first | (rw [if_pos (by decide +kernel)]; kernel_rfl) | (rw [if_neg (by decide +kernel)]; exact ⟨rfl, rfl⟩))
    (fun os started H enc _ => lifted os started H enc)
theorem proved : Rows.KeyOfSaid := said
end Go.Proofs.Ytojifffenfmklaa.keyOf

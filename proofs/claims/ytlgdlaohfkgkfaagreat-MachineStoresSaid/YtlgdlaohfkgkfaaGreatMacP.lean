/-
  The words of MachineStores' two instructions.
-/
import Derived.Test.YtlgdlaohfkgkfaaGreatMacO
namespace Go.Proofs.YtlgdlaohfkgkfaaGreat
open Go.ChangeShapes Go.WideShapes Go.ChangeAt Go.RowKit
set_option linter.unusedVariables false
set_option linter.unusedSimpArgs false
theorem mrd1 (W : World) (x : Int) : Rd (W.alloc (.cells #[.int .u32 x] 23)) (W.alloc (.cells #[.int .u32 x] 23)).heap.size .u32 (some ⟨W.heap.size, 0, none⟩) 1 [x] :=
  ⟨rfl, fun _ => ⟨_, rfl, by simp, fun i hi => by
    obtain rfl : i = 0 := by omega
    rw [show (⟨W.heap.size, 0, none⟩ : Addr).add 0 = ⟨W.heap.size, 0, none⟩ from rfl, World.cell?_alloc_new W _ _ _]
    rfl⟩⟩
theorem mown_next {w w' : World} {b0 : Nat} {T : TypeId} {v : Value} {n : Nat} {xs : List Value} (h : w.ownsRow b0 T 1 v n xs) (hb : Below w.heap.size w w') : w'.ownsRow b0 T 1 v n xs := by
  refine ⟨h.1, ?_⟩
  have hlt := h.lt
  rcases h.2 with hn | ⟨g, cap, cur, rfl, hbb, hgg, rest⟩
  · exact .inl hn
  · exact .inr ⟨g, cap, cur, rfl, hbb, by rw [hb.block g (hlt g rfl).2]; exact hgg, rest⟩
set_option maxRecDepth 100000 in
set_option maxHeartbeats 4000000 in
theorem words2_any (b : Nat) (v : Bool) (w : World) (h1 : w.rangeAt b 0 [.int .i64 3, .bool false, .bool v, .int .i64 2, .int .i64 3, .int .i64 0, .int .i64 0, .int .i64 0, .int .i64 0, .int .i64 0, .int .i64 0]) (h2 : w.rangeAt b 11 [.int .i64 2, .bool false, .bool v, .int .i64 4, .int .i64 3, .int .i64 0, .int .i64 0, .int .i64 0, .int .i64 0, .int .i64 0, .int .i64 0]) :
    Calls Tryz.prog 16 #[.slice (some ⟨b, 0, none⟩) 2 2] w fun e w' => ∃ g c, e = .returned (.slice (some ⟨g, 0, none⟩) 2 c) ∧ w.heap.size ≤ g ∧ g < w'.heap.size ∧ w'.cell? ⟨g, 0, none⟩ = some (.int .u32 (wst v)) ∧ w'.cell? ⟨g, 1, none⟩ = some (.int .u32 (wld v)) ∧ Below w.heap.size w w' := by
  have HW1 : Hid (∀ W, Calls Tryz.prog 34 #[.agg #[.int .i64 3, .bool false, .bool v, .int .i64 2, .int .i64 3, .int .i64 0, .int .i64 0, .int .i64 0, .int .i64 0, .int .i64 0, .int .i64 0]] W fun e w' => e = .returned (.int .u32 (wst v)) ∧ Below W.heap.size W w') := Lib.hid (fun W => mrw3 false v 2 3 0 0 0 0 0 0 W)
  have HW2 : Hid (∀ W, Calls Tryz.prog 34 #[.agg #[.int .i64 2, .bool false, .bool v, .int .i64 4, .int .i64 3, .int .i64 0, .int .i64 0, .int .i64 0, .int .i64 0, .int .i64 0, .int .i64 0]] W fun e w' => e = .returned (.int .u32 (wld v)) ∧ Below W.heap.size W w') := Lib.hid (fun W => mrw2 false v 4 3 0 0 0 0 0 0 W)
  have HR1 := Lib.hid h1
  have HR2 := Lib.hid h2
  have HI1 : Hid ((Tryz.prog.info? 64).map (·.size) = some ([.int .i64 3, .bool false, .bool v, .int .i64 2, .int .i64 3, .int .i64 0, .int .i64 0, .int .i64 0, .int .i64 0, .int .i64 0, .int .i64 0] : List Value).length) := Lib.hid (by kernel_rfl)
  have HI2 : Hid ((Tryz.prog.info? 64).map (·.size) = some ([.int .i64 2, .bool false, .bool v, .int .i64 4, .int .i64 3, .int .i64 0, .int .i64 0, .int .i64 0, .int .i64 0, .int .i64 0, .int .i64 0] : List Value).length) := Lib.hid (by kernel_rfl)
  clear h1 h2
  obtain ⟨i0, hi0, hz0, hz1, hz2⟩ : ∃ i, Tryz.prog.info? 23 = some i ∧ i.zero = some (.int .u32 0) ∧ i.size = 1 ∧ i.bytes = 4 := by
    obtain ⟨i, e1, e2⟩ := Option.map_eq_some_iff.1 infoU32
    exact ⟨i, e1, (Prod.mk.inj e2).1, (Prod.mk.inj (Prod.mk.inj e2).2).1, (Prod.mk.inj (Prod.mk.inj e2).2).2⟩
  have HRV : ∀ (o : Nat) (l : List Value) (V : World), w.rangeAt b o l → Below w.heap.size w V → V.rangeAt b o l := fun o l V h hV j u hu => by
    have h1 := h j u hu
    rw [World.cell?_of_block (hV.block b (World.block_lt_of_cell? w _ h1))]
    exact h1
  go_enter Tryz.func16, Tryz.ntmps16
  go_wp2_with fail
  go_loopw [3, 4] (fun z i wr => (i = .int .i64 0 ∧ z = .slice none 0 0 ∧ Hid (Below w.heap.size w wr)) ∨ (i = .int .i64 1 ∧ Hid (wr.ownsRow w.heap.size 23 1 z 1 (valsOf .u32 [wst v])) ∧ Hid (Below w.heap.size w wr)) ∨ (i = .int .i64 2 ∧ Hid (wr.ownsRow w.heap.size 23 1 z 2 (valsOf .u32 [wst v, wld v])) ∧ Hid (Below w.heap.size w wr))) (fun _ i _ => 2 - (intOf i).toNat)
  case atStart => exact .inl ⟨rfl, rfl, Lib.hid (Below.refl _ _)⟩
  case round =>
    rcases hrel with ⟨rfl, rfl, HB⟩ | ⟨rfl, HO, HB⟩ | ⟨rfl, HO, HB⟩
    · have HRC1 := Lib.hid (HRV _ _ wr HR1.out HB.out)
      go_wp2_with (first
        | (with_reducible refine wpList_load_mid rfl 64 _ rfl b 0 rfl _ _ HRC1.out Tryz.underlying64 rfl HI1.out ?_)
        | (go_at_call 34; (refine (HW1.out _).mono ?_); rintro e v1 ⟨rfl, hb1⟩; have HB1 := Lib.hid (HB.out.trans (hb1.mono HB.out.size)); have HV := Lib.hid hb1; clear hb1)
        | (at_builtin; refine wpList_append_rd (by rfl) _ _ 22 (by rfl) w.heap.size 23 i0 (.int .u32 0) 4 Tryz.underlying22 hi0 hz0 hz1 hz2 rfl _ 0 (valsOf .u32 []) (by rfl) (World.ownsRow_nil _ _ _ _) _ .u32 _ _ _ [wst v] (by rfl) (mrd1 v1 (wst v)) (by unfold maxLen; omega) (by omega) (by have := HB1.out.size; have := (mbelow1 v1 (.cells #[.int .u32 (wst v)] 23)).size; omega) ?_; intro v4 w4 ho4 hg4))
      have HO : Hid (w4.ownsRow w.heap.size 23 1 v4 1 (valsOf .u32 [wst v])) := Lib.hid ho4
      have HB4 := Lib.hid (HB1.out.trans (((mbelow1 v1 (.cells #[.int .u32 (wst v)] 23)).mono HB1.out.size).trans ((Below.refl _ _).grown hg4 (by have := HB1.out.size; have := (mbelow1 v1 (.cells #[.int .u32 (wst v)] 23)).size; omega) (fun k hk => by cases hk))))
      clear ho4 hg4
      go_wp2_with fail
      exact ⟨.inr (.inl ⟨rfl, HO, HB4⟩), by simp [intOf]⟩
    · have HRC2 := Lib.hid (HRV _ _ wr HR2.out HB.out)
      go_wp2_with (first
        | (with_reducible refine wpList_load_mid rfl 64 _ rfl b 11 rfl _ _ HRC2.out Tryz.underlying64 rfl HI2.out ?_)
        | (go_at_call 34; (refine (HW2.out _).mono ?_); rintro e v1 ⟨rfl, hb1⟩; have HB1 := Lib.hid (HB.out.trans (hb1.mono HB.out.size)); have HV := Lib.hid hb1; clear hb1)
        | (at_builtin; refine wpList_append_rd (by rfl) _ _ 22 (by rfl) w.heap.size 23 i0 (.int .u32 0) 4 Tryz.underlying22 hi0 hz0 hz1 hz2 rfl _ 1 (valsOf .u32 [wst v]) (by rfl) (mown_next (mown_next HO.out HV.out) (mbelow1 v1 _)) _ .u32 _ _ _ [wld v] (by rfl) (mrd1 v1 (wld v)) (by unfold maxLen; omega) (by omega) (by have := HB1.out.size; have := (mbelow1 v1 (.cells #[.int .u32 (wld v)] 23)).size; omega) ?_; intro v4 w4 ho4 hg4))
      have hlt := HO.out.lt
      have HO2 : Hid (w4.ownsRow w.heap.size 23 1 v4 2 (valsOf .u32 [wst v, wld v])) := Lib.hid ho4
      have HB4 := Lib.hid (HB1.out.trans (((mbelow1 v1 (.cells #[.int .u32 (wld v)] 23)).mono HB1.out.size).trans ((Below.refl _ _).grown hg4 (by have := HB1.out.size; have := (mbelow1 v1 (.cells #[.int .u32 (wld v)] 23)).size; omega) (fun k hk => (hlt k hk).1))))
      clear ho4 hg4
      go_wp2_with fail
      exact ⟨.inr (.inr ⟨rfl, HO2, HB4⟩), by simp [intOf]⟩
    · obtain ⟨A, c, hv, -, hrd⟩ := rd_own HO.out
      have hlt := HO.out.lt
      rcases HO.out.2 with ⟨-, h0⟩ | ⟨g, cap, cur, hv2, hBg, hgg, -⟩
      · omega
      subst hv2
      cases hv
      obtain ⟨x, hx, -, hc⟩ := hrd.2 (by omega)
      cases hx
      have hc0 := hc 0 (by omega)
      have hc1 := hc 1 (by omega)
      rw [Addr.add_mid] at hc0 hc1
      have HC0 : Hid (wr.cell? ⟨g, 0, none⟩ = some (.int .u32 (wst v))) := Lib.hid hc0
      have HC1 : Hid (wr.cell? ⟨g, 1, none⟩ = some (.int .u32 (wld v))) := Lib.hid hc1
      clear hc hc0 hc1 hrd hlt
      go_wp2_with fail
      go_ret
      exact ⟨g, _, rfl, hBg, (Array.getElem?_eq_some_iff.1 hgg).1, HC0.out, HC1.out, HB.out⟩
end Go.Proofs.YtlgdlaohfkgkfaaGreat

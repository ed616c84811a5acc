/-
  A machine in memory: it is copied; its bytes are looked at.
-/
import Derived.Test.YtlgdlaohfkgkfaaGreatMacF
import Derived.Test.YtlgdlaohfkgkfaaGreatOwnA
import Derived.Shelf.SlMaps.Clone
import Derived.Deep.RegionHeld3
import Derived.Maps.RangeRun
namespace Go.Proofs.YtlgdlaohfkgkfaaGreat
open Go.ChangeShapes Go.WideShapes Go.ChangeAt Go.RowKit
set_option linter.unusedVariables false
set_option linter.unusedSimpArgs false
/-- a store that was just made, with all that it has -/
structure NewS (w : World) (q mb : Nat) : Prop where
  c0 : w.cell? ⟨q, 0, none⟩ = some (.bool true)
  c1 : w.cell? ⟨q, 1, none⟩ = some (.int .i64 10)
  c2 : w.cell? ⟨q, 2, none⟩ = some (.int .i64 0)
  c3 : w.cell? ⟨q, 3, none⟩ = some (.map (some mb))
  c4 : w.cell? ⟨q, 4, none⟩ = some (.slice none 0 0)
  mp : w.heap[mb]? = some (.map #[] 0)
theorem range_run (V : World) (mb : Nat) (h : V.heap[mb]? = some (.map #[] 0)) : (Instr.range 71 (.map (some mb))).run Tryz.prog V = .ok (.pointer (some ⟨V.heap.size, 0, none⟩)) (V.alloc (.mapIter (some mb) 0 #[] 0)) := by
  simp [Instr.range, run_underlying Tryz.underlying71, MapKept.run_getObj_map h, Result.andThen, go_sem]
theorem next_run (V : World) (r mb : Nat) (hr : V.heap[r]? = some (.mapIter (some mb) 0 #[] 0)) (h : V.heap[mb]? = some (.map #[] 0)) (ty : TypeId) : (Instr.next (.pointer (some ⟨r, 0, none⟩)) false ty).run Tryz.prog V = .ok (.tuple #[.bool false]) V := by
  rcases Go.run_next_at (P := Tryz.prog) V ty r mb 0 0 #[] #[] 0 hr h (by simp) (Nat.le_refl _) with ⟨-, h2⟩ | ⟨e, he, -⟩
  · exact h2
  · exact absurd he (by simp [Go.leftOf])
set_option maxRecDepth 100000 in
theorem mclone_any (b : Nat) (es : Array MapEntry) (clock : Nat) (w : World) (hb : w.heap[b]? = some (.map es clock)) :
    Calls Tryz.prog 38 #[.map (some b)] w fun e w' => e = .returned (.map (some w.heap.size)) ∧ w' = w.alloc (.map es clock) := by
  have hq := run_eql_map_nil_sl (P := Tryz.prog) w 77 _ _ (some b) Tryz.underlying77
  go_enter Tryz.func38, Tryz.ntmps38
  go_wp2
  rw [run_callFunc_extern (P := Tryz.prog) (f := 66) (fn := Tryz.f66) (by kernel_rfl) (by kernel_rfl) (by kernel_rfl) (by kernel_rfl) (e := Extern.MapsClone.clone) (by kernel_rfl), run_maps_clone_sl w 77 hb]
  simp only [Result.andThen]
  rw [Oper.upon_value]
  go_wp2
  rw [run_typeAssert_map_sl _ 77 _ _ _ _ Tryz.underlying77]
  simp only [Result.andThen]
  rw [Oper.upon_value]
  go_wp2
  go_ret
  exact ⟨rfl, rfl⟩
set_option maxHeartbeats 2000000 in
set_option maxRecDepth 100000 in
theorem stcopy_any {w : World} {q mb : Nat} (h : NewS w q mb) : Calls Tryz.prog 37 #[.pointer (some ⟨q, 0, none⟩)] w fun e w' => ∃ q', e = .returned (.pointer (some ⟨q', 0, none⟩)) ∧ Below w.heap.size w w' := by
  have c0 := h.c0
  have hmm := @run_makeMap Tryz.prog
  have HI : Hid (∀ V, Below w.heap.size w V → Calls Tryz.prog 64 #[.pointer (some ⟨q, 0, none⟩)] V fun e w' => e = .returned (.bool true) ∧ V = w') := Lib.hid fun V hV => by
    have k0 : V.cell? ⟨q, 0, none⟩ = some (.bool true) := by rw [World.cell?_of_block (hV.block q (World.block_lt_of_cell? w _ c0))]; exact c0
    go_enter Tryz.func64, Tryz.ntmps64
    go_wp2
    go_ret
    exact ⟨rfl, rfl⟩
  go_enter Tryz.func37, Tryz.ntmps37
  go_wp2_with (go_at_call 64; (refine (HI.out _ (Below.refl _ _)).mono ?_); rintro e w' ⟨rfl, rfl⟩; have c1 := h.c1; have c2 := h.c2; have c3 := h.c3; have c4 := h.c4)
  obtain ⟨d1, d2⟩ : w.drew.cell? ⟨q, 1, none⟩ = some (.int .i64 10) ∧ w.drew.cell? ⟨q, 2, none⟩ = some (.int .i64 0) := ⟨c1, c2⟩
  go_region_held3 (fun V => V.cell? ⟨q, 1, none⟩ = some (.int .i64 10) ∧ V.cell? ⟨q, 2, none⟩ = some (.int .i64 0))
    (first | exact ⟨by assumption, by assumption⟩ | go_keep)
    (fail)
  have B3 : Below w.heap.size w ((w.alloc (.map #[] 0)).alloc (.cells #[.bool true, .int .i64 10, .int .i64 0, .map (some w.heap.size), .slice none 0 0] 74)).drew := ((mbelow1 w _).alloc (by simp) _).drew
  change Exit.then _ _ Exit.normal _ ((w.alloc (.map #[] 0)).alloc (.cells #[.bool true, .int .i64 10, .int .i64 0, .map (some w.heap.size), .slice none 0 0] 74)).drew
  generalize ((w.alloc (.map #[] 0)).alloc (.cells #[.bool true, .int .i64 10, .int .i64 0, .map (some w.heap.size), .slice none 0 0] 74)).drew = W3 at *
  have qlt := World.block_lt_of_cell? w _ c0
  have mlt : mb < w.heap.size := (Array.getElem?_eq_some_iff.1 h.mp).1
  have HB3 := Lib.hid B3
  have HX : Hid (∀ V, Below w.heap.size w V → NewS V q mb) := Lib.hid fun V hV => by
    have e : ∀ i, V.cell? ⟨q, i, none⟩ = w.cell? ⟨q, i, none⟩ := fun i => World.cell?_of_block (hV.block q qlt)
    exact ⟨by rw [e]; exact h.c0, by rw [e]; exact h.c1, by rw [e]; exact h.c2, by rw [e]; exact h.c3, by rw [e]; exact h.c4, by rw [hV.block mb mlt]; exact h.mp⟩
  have HX4 := HX.out (((W3.alloc (.map #[] 0)).alloc (.cells #[.map (some W3.heap.size)] 111))) (B3.trans ((((mbelow1 W3 _)).alloc (by simp) _).mono B3.size))
  obtain ⟨y0, y1, y2, y3, y4, ymp⟩ := HX4
  clear c1 c2 c3 c4 d1 d2 c0
  have hrg := range_run _ mb ymp
  have hv4 : Below w.heap.size w (((W3.alloc (.map #[] 0)).alloc (.cells #[.map (some W3.heap.size)] 111))) := B3.trans ((((mbelow1 W3 _)).alloc (by simp) _).mono B3.size)
  have HV4 := Lib.hid hv4
  have E4 : Hid ((((W3.alloc (.map #[] 0)).alloc (.cells #[.map (some W3.heap.size)] 111))).heap.size = W3.heap.size + 1 + 1) := Lib.hid (by simp)
  go_wp2_with fail
  generalize ((W3.alloc (.map #[] 0)).alloc (.cells #[.map (some W3.heap.size)] 111)) = V4 at *
  have hr5 : (V4.alloc (.mapIter (some mb) 0 #[] 0)).heap[W3.heap.size + 1 + 1]? = some (.mapIter (some mb) 0 #[] 0) := by rw [← E4.out]; exact heap_alloc_last V4 _
  have hb5 := mbelow1 V4 (.mapIter (some mb) 0 #[] 0)
  have HV5 := Lib.hid (HV4.out.trans (hb5.mono HV4.out.size))
  generalize V4.alloc (.mapIter (some mb) 0 #[] 0) = V5 at *
  obtain ⟨x0, x1, x2, x3, x4, xmp⟩ := HX.out V5 HV5.out
  have hnx := fun ty => next_run V5 (W3.heap.size + 1 + 1) mb hr5 xmp ty
  clear y0 y1 y2 y3 y4 ymp hrg hb5 hv4
  go_loopw [31] (fun v wr => wr = V5) (fun _ _ => 0)
  case atStart => rfl
  case round =>
    obtain rfl := hrel.symm
    go_wp2_with fail
    go_loopw [49] (fun v wr => v = .int .i64 0 ∧ Hid (Below w.heap.size w wr)) (fun _ _ => 0)
    case atStart => exact ⟨rfl, by first | exact HV5 | exact hrel ▸ HV5⟩
    case round =>
      obtain ⟨rfl, HB9⟩ := hrel
      go_wp2_with fail
      go_ret
      exact ⟨_, rfl, HB9.out⟩
/-- a machine's bytes, for who looks at them alone -/
structure MemAt (V : World) (b g cap n : Nat) (f : Nat → Int) : Prop where
  lb : b < V.heap.size
  lg : g < V.heap.size
  mem : V.cell? ⟨b, 22, none⟩ = some (.slice (some ⟨g, 0, none⟩) n cap)
  fm : ∀ i, i < n → V.cell? ⟨g, i, none⟩ = some (.int .u8 (f i))
  n1 : n ≤ 16777216
theorem MemAt.next {V W : World} {b g cap n : Nat} {f : Nat → Int} (h : MemAt V b g cap n f) (hb : Below V.heap.size V W) : MemAt W b g cap n f :=
  ⟨Nat.lt_of_lt_of_le h.lb hb.size, Nat.lt_of_lt_of_le h.lg hb.size, by rw [World.cell?_of_block (hb.block b h.lb)]; exact h.mem, fun i hi => by rw [World.cell?_of_block (hb.block g h.lg)]; exact h.fm i hi, h.n1⟩
theorem MAt.memAt {W : World} {B : Nat} {p : Mp} {m : Mc} (h : MAt W B p m) : MemAt W p.b p.g m.n m.n m.f := ⟨h.lb, h.lg, h.mem, h.fm, h.n1⟩
theorem neq_nil' (g n c : Nat) (W : World) : (binOp .neq 54 (.slice (some ⟨g, 0, none⟩) n c) (.slice none 0 0)).run Tryz.prog W = .ok (.bool true) W := by
  have e : (Op.equalIn 10000 54 (.slice (some ⟨g, 0, none⟩) n c) (.slice none 0 0)).run Tryz.prog W = .ok false W := by
    rw [Lib.run_equalIn_slice_nil W 9999 54 5 (some ⟨g, 0, none⟩) n c 0 0 Tryz.underlying54]; rfl
  have hd : Op.maxDepth = 10000 := rfl
  rw [show binOp .neq 54 (.slice (some ⟨g, 0, none⟩) n c) (.slice none 0 0) = (do pure (.bool (!(← Op.equal 54 (.slice (some ⟨g, 0, none⟩) n c) (.slice none 0 0)))) : Sem Value) from rfl, Op.equal, hd]
  simp only [Sem.run_bind, e, Result.andThen_ok, Sem.run_pure]
  rfl
section
variable {w : World} {b g cap n : Nat} {f : Nat → Int}
theorem bis_any (h : MemAt w b g cap n f) : Calls Tryz.prog 35 #[.pointer (some ⟨b, 0, none⟩)] w fun e w' => e = .returned (.bool true) ∧ w = w' := by
  have c22 := h.mem
  have hn := neq_nil' g n cap w
  go_enter Tryz.func35, Tryz.ntmps35
  go_wp2
  go_ret
  exact ⟨rfl, rfl⟩
theorem binside_any (h : MemAt w b g cap n f) (q : Nat) (hq : q < n) : Calls Tryz.prog 87 #[.pointer (some ⟨b, 0, none⟩), .int .u32 (q : Int)] w fun e w' => e = .returned (.bool true) ∧ w = w' := by
  have c22 := h.mem
  have h1 := h.n1
  go_enter Tryz.func87, Tryz.ntmps87
  go_wp2
  go_ret
  refine ⟨?_, rfl⟩
  simp [hq]
theorem bmay_any (h : MemAt w b g cap n f) (q : Nat) (hq : q < n) : Calls Tryz.prog 55 #[.pointer (some ⟨b, 0, none⟩), .int .u32 (q : Int), .bool true] w fun e w' => e = .returned (.bool true) ∧ w = w' := by
  have HC := Lib.hid (binside_any h q hq)
  go_enter Tryz.func55, Tryz.ntmps55
  go_wp2_with (go_at_call 87; (refine HC.out.mono ?_); rintro e w' ⟨rfl, rfl⟩)
  go_ret
  exact ⟨rfl, rfl⟩
theorem blook_any (h : MemAt w b g cap n f) (q : Nat) (hq : q < n) : Calls Tryz.prog 27 #[.pointer (some ⟨b, 0, none⟩), .int .u32 (q : Int), .bool true] w fun e w' => e = .returned (.int .i64 0) ∧ w = w' := by
  have HI := Lib.hid (bis_any h)
  have HM := Lib.hid (bmay_any h q hq)
  go_enter Tryz.func27, Tryz.ntmps27
  go_wp2_with (first | (go_at_call 35; (refine HI.out.mono ?_); rintro e w' ⟨rfl, rfl⟩) | (go_at_call 55; (refine HM.out.mono ?_); rintro e w' ⟨rfl, rfl⟩))
  go_ret
  exact ⟨rfl, rfl⟩
theorem byte_any (h : MemAt w b g cap n f) (q : Nat) (hq : q < n) : Calls Tryz.prog 12 #[.pointer (some ⟨b, 0, none⟩), .int .u32 (q : Int)] w fun e w' => e = .returned (.tuple #[.int .u8 (f q), .int .i64 0]) ∧ w = w' := by
  have HL := Lib.hid (blook_any h q hq)
  have c22 := h.mem
  have cq := h.fm q hq
  go_enter Tryz.func12, Tryz.ntmps12
  go_wp2_with (first | (go_at_call 27; (refine HL.out.mono ?_); rintro e w' ⟨rfl, rfl⟩))
  go_ret2
  exact ⟨rfl, rfl⟩
/-- slices.Clone of bytes -/
theorem bclone_any (hg : ∀ i, i < n → w.cell? ⟨g, i, none⟩ = some (.int .u8 (f i))) (lg : g < w.heap.size) (n0 : 0 < n) (n1 : n ≤ 16777216) : Calls Tryz.prog 36 #[.slice (some ⟨g, 0, none⟩) n n] w fun e w' => ∃ g' cap, e = .returned (.slice (some ⟨g', 0, none⟩) n cap) ∧ w.heap.size ≤ g' ∧ g' < w'.heap.size ∧ (∀ i, i < n → w'.cell? ⟨g', i, none⟩ = some (.int .u8 (f i))) ∧ Below w.heap.size w w' := by
  have hq := Lib.run_eql_slice_nil (P := Tryz.prog) w 54 5 (some ⟨g, 0, none⟩) n n 0 0 Tryz.underlying54
  go_enter Tryz.func36, Tryz.ntmps36
  obtain ⟨i0, hi0, hz0, hz1, hz2⟩ : ∃ i, Tryz.prog.info? 5 = some i ∧ i.zero = some (.int .u8 0) ∧ i.size = 1 ∧ i.bytes = 1 := by
    obtain ⟨i, e1, e2⟩ := Option.map_eq_some_iff.1 infoU8
    exact ⟨i, e1, (Prod.mk.inj e2).1, (Prod.mk.inj (Prod.mk.inj e2).2).1, (Prod.mk.inj (Prod.mk.inj e2).2).2⟩
  have hrow : Rd w w.heap.size .u8 (some ⟨g, 0, none⟩) n ((List.range n).map f) := ⟨by simp, fun _ => ⟨_, rfl, lg, fun i hi => by
    rw [Addr.add_mid, Nat.zero_add, hg i hi, nth_eq _ _ (by simpa using hi)]
    simp⟩⟩
  have HR := Lib.hid hrow
  have HR1 : Hid (Rd (w.alloc (.cells #[] 5)) (w.alloc (.cells #[] 5)).heap.size .u8 (some ⟨g, 0, none⟩) n ((List.range n).map f)) := Lib.hid ((hrow.below (mbelow1 w _)).more (mbelow1 w _).size)
  have HO : Hid ((w.alloc (.cells #[] 5)).ownsRow w.heap.size 5 1 (.slice (some ⟨w.heap.size, 0, none⟩) 0 0) 0 (valsOf .u8 [])) := Lib.hid ⟨rfl, .inr ⟨w.heap.size, 0, #[], rfl, Nat.le_refl _, heap_alloc_last w _, Nat.le_refl _, by unfold maxLen; decide, rfl, rfl⟩⟩
  clear hrow hg
  go_wp2_with (at_builtin; (refine wpList_append_rd (by rfl) _ _ 54 (by rfl) w.heap.size 5 i0 (.int .u8 0) 1 Tryz.underlying54 hi0 hz0 hz1 hz2 rfl (.slice (some ⟨w.heap.size, 0, none⟩) 0 0) 0 (valsOf .u8 []) (by rfl) HO.out _ .u8 _ _ _ _ (by rfl) HR1.out (by unfold maxLen; omega) (by omega) (by simp) ?_); intro v4 w4 ho4 hg4)
  go_ret
  have ho5 : w4.ownsRow w.heap.size 5 1 v4 n (valsOf .u8 ((List.range n).map f)) := by
    have e : valsOf .u8 [] ++ valsOf .u8 ((List.range n).map f) = valsOf .u8 ((List.range n).map f) := rfl
    rw [Nat.zero_add, e] at ho4
    exact ho4
  have hbl : Below w.heap.size w w4 := (mbelow1 w _).trans ((Below.refl _ _).grown hg4 (by simp) (fun k hk => by cases hk; exact Nat.le_refl _))
  obtain ⟨A, c, hA, -, hrd⟩ := rd_own ho5
  have hlt := ho5.lt
  rcases ho5.2 with ⟨-, h0⟩ | ⟨g', cap, cur, hv, hB, hgg, -⟩
  · omega
  · subst hv
    cases hA
    refine ⟨g', _, rfl, hB, (Array.getElem?_eq_some_iff.1 hgg).1, fun i hi => ?_, hbl⟩
    obtain ⟨x, hx, -, hc⟩ := hrd.2 n0
    cases hx
    have := hc i hi
    rw [Addr.add_mid, Nat.zero_add, nth_eq _ _ (by simpa using hi)] at this
    simpa using this
end
end Go.Proofs.YtlgdlaohfkgkfaaGreat

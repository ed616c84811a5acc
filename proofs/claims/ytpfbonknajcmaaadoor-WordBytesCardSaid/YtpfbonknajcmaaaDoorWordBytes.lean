/-
  WordBytes: for every at most 3000 words, any at most 9000 bytes: words' bytes, and bytes' words, are the reference's; the words stay.
-/
import Derived.Test.YtpfbonknajcmaaaDoorTextC
import Derived.Test.YtpfbonknajcmaaaDoorBytesB
import Derived.Deep.RegionWith
import Derived.Test.YtpfbonknajcmaaaDoorWordK
import Derived.Test.YtpfbonknajcmaaaDoorCards
import Derived.Test.YtpfbonknajcmaaaDoorTie
import Derived.Deep.DeepHandedRow
import Derived.Lib.LaidTab
import Derived.Stop.LaidErr
namespace Go.Proofs.YtpfbonknajcmaaaDoor.wordBytes
open Go.ChangeShapes Go.WideShapes Go.ChangeAt Go.RowKit
open Go.ChangeMaps (open_string shut_string)
set_option linter.unusedVariables false

theorem of_all (A : Option Addr) (n c : Nat) (zs : List Int) (w : World) (hr : Rd w w.heap.size .u8 A n zs) (hz : ∀ z ∈ zs, 0 ≤ z ∧ z ≤ 255) (hn : n ≤ 9000) :
    Calls Tryd.prog 33 #[.slice A n c] w fun e w' => ∃ Ay cy m zy E, e = .returned (.tuple #[.slice Ay m cy, .int .i64 E]) ∧ Rd w' w'.heap.size .u32 Ay m zy ∧ (∀ i, 0 ≤ nth zy i ∧ nth zy i ≤ 4294967295) ∧ m ≤ 9000 ∧ Below w.heap.size w w' ∧ ((n % 4 = 0 ∧ E = 0 ∧ bytesOf zy = zs) ∨ (n % 4 ≠ 0 ∧ E = 4 ∧ m = 0)) := by
  have hzi : ∀ i, 0 ≤ nth zs i ∧ nth zs i ≤ 255 := fun i => nth_mem (fun z => 0 ≤ z ∧ z ≤ 255) _ hz (by omega) i
  by_cases h4 : n % 4 = 0
  · obtain ⟨m, rfl⟩ : ∃ m, n = 4 * m := ⟨n / 4, by omega⟩
    refine (of_any A m c zs w hr hzi (by omega)).mono ?_
    rintro e w' ⟨v, rfl, own, hb⟩
    obtain ⟨Ay, cy, rfl, _, ry⟩ := rd_of_own own
    refine ⟨Ay, cy, m, _, 0, rfl, ry, fun i => ?_, by omega, hb, .inl ⟨h4, rfl, bytesOf_words zs m hr.1 hz⟩⟩
    refine nth_mem (fun z => 0 ≤ z ∧ z ≤ 4294967295) _ (fun z hz' => ?_) (by omega) i
    unfold wordsOf at hz'
    obtain ⟨k, _, rfl⟩ := List.mem_map.1 hz'
    have k0 := hzi (4 * k)
    have k1 := hzi (4 * k + 1)
    have k2 := hzi (4 * k + 2)
    have k3 := hzi (4 * k + 3)
    unfold wordAt
    omega
  · refine (of_no A n c h4 (by omega) w).mono ?_
    rintro e w' ⟨rfl, rfl⟩
    exact ⟨none, 0, 0, [], 4, rfl, Rd.nil, fun i => by rw [nth_ge _ _ (by simp)]; omega, by omega, Below.refl _ _, .inr ⟨h4, rfl, rfl⟩⟩
set_option maxHeartbeats 4000000 in
theorem walk (a0 : Option Addr) (len0 cap0 : Nat) (z0 : List Int) (a1 : Option Addr) (len1 cap1 : Nat) (z1 : List Int) (w : World)
    (w0 : IsRow .u32 w a0 len0 cap0 z0) (w1 : IsRow .u8 w a1 len1 cap1 z1) (hT : Tab w) :
    Calls Tryd.prog 5 #[.slice a0 len0 cap0, .slice a1 len1 cap1] w fun e w' => e = .returned (.bool true) ∧ Below w.heap.size w w' := by
  have HT := Lib.hid hT
  have W0 := Lib.hid w0
  have W1 := Lib.hid w1
  clear w0 w1 hT
  obtain ⟨i0, hi, hz0, hz1, hz2⟩ := info_parts infoU32
  go_enter Tryd.func5, Tryd.ntmps5
  go_wp2_with (first | (go_at_call 21; refine (known_any _ HT.out).mono ?_; rintro e w' ⟨rfl, b1⟩) | (at_builtin; refine wpList_append_rd rfl _ _ 39 rfl w.heap.size 22 i0 (.int .u32 0) 4 Tryd.underlying39 hi hz0 hz1 hz2 rfl _ _ _ rfl (World.ownsRow_nil ..) w.heap.size .u32 a0 len0 cap0 z0 rfl ?c1 ?c2 ?c3 ?c4 ?_))
  · go_ret; exact ⟨rfl, b1⟩
  case c1 => exact W0.out.2.2.2.2
  case c2 => unfold maxLen; omega
  case c3 => omega
  case c4 => exact Nat.le_refl _
  rotate_right
  · go_ret; exact ⟨rfl, b1⟩
  intro v1 u1 o1 g1
  have p1 : u1.ownsRow w.heap.size 22 1 v1 len0 (valsOf .u32 z0) := by simpa using o1
  have b1 : Below w.heap.size w u1 := (Below.refl w.heap.size w).grown g1 (Nat.le_refl _) (by intro g hg; simp [Value.ownBlock] at hg)
  clear o1 g1
  obtain ⟨A1, k1, rfl, _, r1⟩ := rd_own p1
  clear p1
  have hzw : ∀ i, 0 ≤ nth z0 i ∧ nth z0 i ≤ 4294967295 := fun i => nth_mem (fun z => 0 ≤ z ∧ z ≤ 4294967295) _ (fun z hz => bd_u32 (W0.out.2.2.2.1 z hz)) (by omega) i
  have ZW := Lib.hid hzw
  have R1 := Lib.hid r1
  clear hzw r1
  go_wp2_with fail
  refine (bytes_any A1 len0 k1 z0 u1 R1.out ZW.out (by omega)).mono ?_
  rintro e u2 ⟨v2, rfl, own2, d2⟩
  obtain ⟨A2, k2, rfl, _, r2⟩ := rd_of_own own2
  have b2 : Below w.heap.size w u2 := b1.trans (d2.mono b1.size)
  have R2 := Lib.hid r2
  have D2 := Lib.hid d2
  clear own2 r2 d2
  go_wp2_with fail
  refine (of_all a1 len1 cap1 z1 u2 ((W1.out.2.2.2.2.below b2).more b2.size) (fun z hz => bd_u8 (W1.out.2.2.2.1 z hz)) (by omega)).mono ?_
  rintro e u3 ⟨A3, k3, m, zy, E, rfl, r3, zyb, hm, d3, hE⟩
  have b3 : Below w.heap.size w u3 := b2.trans (d3.mono b2.size)
  have R3 := Lib.hid r3
  have D3 := Lib.hid d3
  have ZY := Lib.hid zyb
  have HE := Lib.hid hE
  clear r3 d3 zyb hE
  go_wp2_with fail
  have B3 : Below u3.heap.size u3 u3.drew := (Below.refl _ _).drew
  have CV : ∀ v : World, Below u3.heap.size u3 v → (convert 40 9 (.slice A2 (4 * len0) k2)).run Tryd.prog v = .ok (.string (strOf (bytesOf z0))) v := fun v hv => conv_rd ((R2.out.below D3.out).below (hv.mono D3.out.size)) k2
  have RB : ∀ v : World, Below u3.heap.size u3 v → Calls Tryd.prog 34 #[.slice a0 len0 cap0] v fun e w' => ∃ A4 k4, e = .returned (.slice A4 (4 * len0) k4) ∧ Below u3.heap.size u3 w' ∧ (convert 40 9 (.slice A4 (4 * len0) k4)).run Tryd.prog w' = .ok (.string (strOf (bytesOf z0))) w' := by
    intro v hv
    have bv : Below w.heap.size w v := b3.trans (hv.mono b3.size)
    refine (rbytes_any a0 len0 cap0 z0 v ((W0.out.2.2.2.2.below bv).more bv.size) ZW.out (by omega)).mono ?_
    rintro e w' ⟨v4, rfl, own4, d4⟩
    obtain ⟨A4, k4, rfl, _, r4⟩ := rd_of_own own4
    exact ⟨A4, k4, rfl, hv.trans (d4.mono hv.size), conv_rd r4 k4⟩
  generalize strOf (bytesOf z0) = T at *
  have CVa := CV _ B3
  go_region_with (go_at_call 34; refine (RB _ B3).mono ?_; rintro e w' ⟨A4, k4, rfl, bb, hcv⟩; have CVb := CV _ bb)
  all_goals
    clear CV RB B3 hcv CVa CVb
    have b4 : Below w.heap.size w w' := b3.trans (bb.mono b3.size)
    have b34 : Below u2.heap.size u2 w' := D3.out.trans (bb.mono D3.out.size)
    have b14 : Below u1.heap.size u1 w' := D2.out.trans (b34.mono D2.out.size)
    have Q1 := Lib.hid ((R1.out.below b14).more b14.size)
    have Q0 := Lib.hid ((W0.out.2.2.2.2.below b4).more b4.size)
    have Q3 := Lib.hid ((R3.out.below bb).more bb.size)
    have B4 := Lib.hid b4
    clear b4 b34 b14 b3 b2 b1 bb D2 D3 R1 R2 R3
    go_wp2_with fail
    go_loopw [9] (fun i wr => ∃ j : Nat, j ≤ len0 ∧ i = .int .i64 j ∧ Below w'.heap.size w' wr) (fun i _ => len0 - (intOf i).toNat)
    case atStart => exact ⟨0, Nat.zero_le _, rfl, Below.refl _ _⟩
    case round =>
      obtain ⟨j, hj, rfl, hb⟩ := hrel
      by_cases hlt : j < len0
      · obtain ⟨x, rfl, hx, hcx⟩ := Q0.out.2 (by omega)
        obtain ⟨y, rfl, hy, hcy⟩ := Q1.out.2 (by omega)
        have c0 : wr.cell? (x.add j) = some (.int .u32 (nth z0 j)) := by
          rw [hb.cell (by rw [block_add]; exact hx)]; exact hcx j hlt
        have c1 : wr.cell? (y.add j) = some (.int .u32 (nth z0 j)) := by
          rw [hb.cell (by rw [block_add]; exact hy)]; exact hcy j hlt
        clear hcx hcy
        generalize nth z0 j = z at *
        have j0 : (0 : Int) ≤ (j : Int) := by omega
        have j1 : (j : Int) < (len0 : Int) := by omega
        go_wp2_with fail
        go_quiet (fail)
        go_wp2_with fail
        go_roundw
        case rel => exact ⟨j + 1, by omega, by go_num, below_drewN hb _⟩
        case measure => simp [intOf]; omega
      · have HB := Lib.hid hb
        clear hb
        have KN : ∀ v : World, Below wr.heap.size wr v → Calls Tryd.prog 21 #[] v fun e w2 => e = .returned (.bool true) ∧ Below wr.heap.size wr w2 := by
          intro v hv
          refine (known_any v (HT.out.below (B4.out.trans ((HB.out.trans (hv.mono HB.out.size)).mono B4.out.size)))).mono ?_
          rintro e w2 ⟨rfl, hb⟩
          exact ⟨rfl, hv.trans (hb.mono hv.size)⟩
        rcases HE.out with ⟨h4, rfl, hbz⟩ | ⟨h4, rfl, rfl⟩
        · have hm4 : ((len1 : Int) % 4 != 0) = false := by rw [bne_eq_false_iff_eq]; omega
          have CV : ∀ v : World, Below wr.heap.size wr v → (convert 40 9 (.slice a1 len1 cap1)).run Tryd.prog v = .ok (.string (strOf z1)) v := fun v hv => conv_rd (W1.out.2.2.2.2.below (B4.out.trans ((HB.out.trans (hv.mono HB.out.size)).mono B4.out.size))) cap1
          have RB : ∀ v : World, Below wr.heap.size wr v → Calls Tryd.prog 34 #[.slice A3 m k3] v fun e w2 => ∃ A5 k5, e = .returned (.slice A5 (4 * m) k5) ∧ Below wr.heap.size wr w2 ∧ (convert 40 9 (.slice A5 (4 * m) k5)).run Tryd.prog w2 = .ok (.string (strOf z1)) w2 := by
            intro v hv
            have bv : Below w'.heap.size w' v := HB.out.trans (hv.mono HB.out.size)
            refine (rbytes_any A3 m k3 zy v ((Q3.out.below bv).more bv.size) ZY.out (by omega)).mono ?_
            rintro e w2 ⟨v5, rfl, own5, d5⟩
            obtain ⟨A5, k5, rfl, _, r5⟩ := rd_of_own own5
            rw [hbz] at r5
            exact ⟨A5, k5, rfl, hv.trans (d5.mono hv.size), conv_rd r5 k5⟩
          have HBZ := Lib.hid hbz
          have H4 := Lib.hid h4
          clear hbz h4
          generalize strOf z1 = T2 at *
          have B3 : Below wr.heap.size wr wr.drew := (Below.refl _ _).drew
          go_wp2_with fail
          have CVa := CV _ B3
          go_region_with (first | (go_at_call 34; refine (RB _ B3).mono ?_; rintro e w2 ⟨A5, k5, rfl, bb, hcv⟩; have CVb := CV _ bb) | (go_at_call 20; refine (num_any _ _).mono ?_; rintro e w2 ⟨rfl, rfl⟩) | (go_at_call 21; refine (KN _ (by assumption)).mono ?_; rintro e w2 ⟨rfl, bb⟩))
          all_goals clear CV RB KN hcv CVa CVb
          all_goals go_wp2_with fail
          all_goals go_ret
          all_goals exact ⟨rfl, B4.out.trans ((HB.out.trans (bb.mono HB.out.size)).mono B4.out.size)⟩
        · have hm4 : ((len1 : Int) % 4 != 0) = true := by rw [bne_iff_ne]; omega
          clear h4
          go_wp2_with (first | (go_at_call 20; refine (num_any _ _).mono ?_; rintro e w2 ⟨rfl, rfl⟩) | (go_at_call 21; refine (KN _ (Below.refl _ _)).mono ?_; rintro e w2 ⟨rfl, bb⟩))
          go_ret
          exact ⟨rfl, B4.out.trans ((HB.out.trans (bb.mono HB.out.size)).mono B4.out.size)⟩
theorem own : ownKnob Tryd.prog.godebug = none := by kernel_rfl
theorem laidOut : laidOutB Tryd.prog = true := by kernel_rfl
theorem gTab0 : Tryd.prog.globalNamed "math/bits.deBruijn32tab" = some 1 := by kernel_rfl
theorem gTab1 : Tryd.prog.globalNamed "math/bits.deBruijn64tab" = some 2 := by kernel_rfl
theorem gTab2 : Tryd.prog.globalNamed "internal/strconv.uint64pow10" = some 0 := by kernel_rfl
theorem tables {W : World} (h0 : laidMetH Tryd.prog Rows.wordBytesRow.laid W) : Tab W := by
  have h : laidMet Tryd.prog Rows.wordBytesRow.laid W := h0
  exact Lib.tabIs_of_head (rest := _) gTab2 (by kernel_rfl) Tryd.underlying70 Tryd.underlying52 (by kernel_rfl) (by kernel_rfl) (laidMet.tail (laidMet.tail h))
def lay (l : Array Value) : Obj → Obj
  | .cells _ t frozen => .cells l t frozen
  | o => o
noncomputable def laidWorld (os : Os) : World := { World.holding Tryd.prog os ⟨#[], #[], []⟩ with heap := ((((World.holding Tryd.prog os ⟨#[], #[], []⟩).heap.modify 1 (lay #[.int .u8 0, .int .u8 1, .int .u8 28, .int .u8 2, .int .u8 29, .int .u8 14, .int .u8 24, .int .u8 3, .int .u8 30, .int .u8 22, .int .u8 20, .int .u8 15, .int .u8 25, .int .u8 17, .int .u8 4, .int .u8 8, .int .u8 31, .int .u8 27, .int .u8 13, .int .u8 23, .int .u8 21, .int .u8 19, .int .u8 16, .int .u8 7, .int .u8 26, .int .u8 12, .int .u8 18, .int .u8 6, .int .u8 11, .int .u8 5, .int .u8 10, .int .u8 9])).modify 2 (lay #[.int .u8 0, .int .u8 1, .int .u8 56, .int .u8 2, .int .u8 57, .int .u8 49, .int .u8 28, .int .u8 3, .int .u8 61, .int .u8 58, .int .u8 42, .int .u8 50, .int .u8 38, .int .u8 29, .int .u8 17, .int .u8 4, .int .u8 62, .int .u8 47, .int .u8 59, .int .u8 36, .int .u8 45, .int .u8 43, .int .u8 51, .int .u8 22, .int .u8 53, .int .u8 39, .int .u8 33, .int .u8 30, .int .u8 24, .int .u8 18, .int .u8 12, .int .u8 5, .int .u8 63, .int .u8 55, .int .u8 48, .int .u8 27, .int .u8 60, .int .u8 41, .int .u8 37, .int .u8 16, .int .u8 46, .int .u8 35, .int .u8 44, .int .u8 21, .int .u8 52, .int .u8 32, .int .u8 23, .int .u8 11, .int .u8 54, .int .u8 26, .int .u8 40, .int .u8 15, .int .u8 34, .int .u8 20, .int .u8 31, .int .u8 10, .int .u8 25, .int .u8 14, .int .u8 19, .int .u8 9, .int .u8 13, .int .u8 8, .int .u8 7, .int .u8 6])).modify 0 (lay #[.int .u64 1, .int .u64 10, .int .u64 100, .int .u64 1000, .int .u64 10000, .int .u64 100000, .int .u64 1000000, .int .u64 10000000, .int .u64 100000000, .int .u64 1000000000, .int .u64 10000000000, .int .u64 100000000000, .int .u64 1000000000000, .int .u64 10000000000000, .int .u64 100000000000000, .int .u64 1000000000000000, .int .u64 10000000000000000, .int .u64 100000000000000000, .int .u64 1000000000000000000, .int .u64 10000000000000000000])) }
theorem laid_met (os : Os) : laidMet Tryd.prog Rows.wordBytesRow.laid ((laidWorld os).forCall (fun _ _ => 0) ⟨#[], #[.slice none 0 0, .slice none 0 0], []⟩).memory := laidMet_of_run' 8 (by kernel_rfl) (by kernel_rfl)
theorem reads (os : Os) {H : Type} (enc : TypeId × Value → H) : ∃ places, DataW.whole enc Tryd.prog ((laidWorld os).forCall (fun _ _ => 0) ⟨#[], #[.slice none 0 0, .slice none 0 0], []⟩).memory Tryd.f5.params.toList Rows.wordBytesSpec.vars false (#[.slice none 0 0, .slice none 0 0] : Array Value).toList 8 = some ([.nil, .nil], [], places) := ⟨[], by kernel_rfl⟩
theorem contract (H : Type) (enc : TypeId × Value → H) (W : World) (base : Nat) (args : Array Value) (ds gs : List (DataW H)) (before : List MemPlace)
    (hval : ∀ (j : Nat) t v, Tryd.f5.params[j]? = some t → args[j]? = some v → Value.okWide Tryd.prog W .any base t v)
    (hW : DataW.Whole enc Tryd.prog Tryd.f5.params.toList Rows.wordBytesSpec.vars false W args.toList ds gs before) (hL : laidMetH Tryd.prog Rows.wordBytesRow.laid W) :
    Calls Tryd.prog 5 args W fun e W' => ∃ v, e = .returned v ∧ Rows.wordBytesSpec.post enc Tryd.prog Tryd.f5 false true false false W args v W' := by
  have hW' := hW
  obtain ⟨p, q, hA0, hV, rfl, hfz, hnd⟩ := hW
  have hA : DataW.TrodAll enc Tryd.prog W 0 (fun _ => true) true Tryd.f5.params.toList args.toList ds p := hA0
  rw [Tryd.params5] at hA hval
  obtain ⟨v0, vs0, d0, ds0, p0, q0, hargs, rfl, rfl, h0, r0⟩ := trodAll_cons hA
  obtain ⟨v1, vs1, d1, ds1, p1, q1, rfl, rfl, rfl, h1, r1⟩ := trodAll_cons r0
  obtain ⟨rfl, rfl, rfl⟩ := trodAll_nil r1
  obtain rfl : args = #[v0, v1] := by cases args; simp_all
  obtain ⟨rfl, rfl⟩ := trodVars_none hV
  obtain ⟨a0, len0, cap0, rfl⟩ := okWide_slice Tryd.underlying39 (hval 0 39 v0 rfl rfl)
  have k0 := h0
  have lt0 : ∀ x ∈ p0, x.block < W.heap.size := by obtain ⟨m, hm⟩ := k0; exact DataW.trod_lt m _ _ _ hm
  obtain ⟨z0, w0⟩ := isRow_of Tryd.underlying39 Tryd.underlying22 (by kernel_rfl) h0
  obtain ⟨a1, len1, cap1, rfl⟩ := okWide_slice Tryd.underlying40 (hval 1 40 v1 rfl rfl)
  have k1 := h1
  have lt1 : ∀ x ∈ p1, x.block < W.heap.size := by obtain ⟨m, hm⟩ := k1; exact DataW.trod_lt m _ _ _ hm
  obtain ⟨z1, w1⟩ := isRow_of Tryd.underlying40 Tryd.underlying5 (by kernel_rfl) h1
  clear hA0
  have hT := tables hL
  refine (walk a0 len0 cap0 z0 a1 len1 cap1 z1 W w0 w1 hT).mono fun e W' ⟨he, bel⟩ => ?_
  subst he
  exact ⟨_, rfl, _, _, _, [], _, [], hW', trodAll_mk1 (shut_bool Tryd.underlying4 _), (trodAll_cons_mk (Below.trod laidOut (by kernel_rfl) (of_decide_eq_true (by kernel_rfl)) k0 bel lt0) (trodAll_cons_mk (Below.trod laidOut (by kernel_rfl) (of_decide_eq_true (by kernel_rfl)) k1 bel lt1) trodAll_mk0)), rfl, bel.frame _, fun h => by cases h⟩
set_option maxRecDepth 100000 in
theorem lifted (os : Os) (started : os.Started) (H : Type) (enc : TypeId × Value → H) (F : Stop.Interp) :
    ReturnsInHanded {} Tryd.checked os 5 .any ((OpenSpec.ofChange Rows.wordBytesSpec).preRow enc Tryd.prog Tryd.f5 Rows.wordBytesRow.domain false Rows.wordBytesRow.laid) (((OpenSpec.ofChange Rows.wordBytesSpec).at F).post enc Tryd.prog Tryd.f5 false true false false) := by
  obtain ⟨places, hx⟩ := reads os enc
  refine returnsInHanded_of_row (C := Tryd.checked) (s := OpenSpec.ofChange Rows.wordBytesSpec) own started (by kernel_rfl) Tryd.func5
    (witness_row_at (enc := enc) (C := Tryd.checked) false (laidWorld os) #[.slice none 0 0, .slice none 0 0] rfl (by kernel_rfl) (by kernel_rfl) (by kernel_rfl)
      (OpenSpec.preRow_of_cond 8 hx (by kernel_rfl) (fun k hk => by cases hk) (by kernel_rfl) (laid_met os))) ?_
  intro W base args ds gs before hval hW _ _ _ hL _ _
  exact contract H enc W base args ds gs before hval hW hL
theorem said : Rows.WordBytesSaid :=
  OpenClaim.holds_of_cond 5 Tryd.f5 rfl rfl rfl rfl rfl rfl rfl ⟨rfl, rfl, rfl, rfl, rfl⟩ rfl rfl rfl rfl rfl (by kernel_rfl) Tryd.func5 (by kernel_rfl)
    (of_decide_eq_true (by kernel_rfl)) (by unfold Func.isWrapper; first | (rw [if_pos (by decide +kernel)]; kernel_rfl) | (rw [if_neg (by decide +kernel)]; exact ⟨rfl, rfl⟩))
    (fun os started H enc _ F => by rw [OpenClaim.pre_eq_preRow]; exact lifted os started H enc F)
theorem plain (f : FuncId) (fn : Func) (hf : Tryd.pinned.checked.prog.funcNamed "selfsame/selfsamelaw01.WordBytes" = some f) (hfn : Tryd.pinned.checked.prog.funcs[f]? = some fn) :
    false = Tryd.pinned.checked.prog.looks [] ∧ ∀ (j : Nat) t, fn.params[j]? = some t → Tryd.pinned.checked.prog.wantsStandIn t = false := by
  obtain rfl : f = 5 := Option.some.inj ((show Tryd.prog.funcNamed "selfsame/selfsamelaw01.WordBytes" = some 5 by kernel_rfl).symm.trans hf) |>.symm
  obtain rfl : fn = Tryd.f5 := (Option.some.inj (Tryd.func5.symm.trans hfn)).symm
  refine ⟨by kernel_rfl, fun j t ht => ?_⟩
  rw [Tryd.params5] at ht
  have hm := Array.mem_of_getElem? ht
  simp only [List.mem_toArray, List.mem_cons, List.not_mem_nil, or_false] at hm
  rcases hm with rfl | rfl
  · exact (show Tryd.prog.wantsStandIn 39 = false by kernel_rfl)
  · exact (show Tryd.prog.wantsStandIn 40 = false by kernel_rfl)
theorem proved : Rows.WordBytesCardSaid :=
  Claim7.holds_tied_plain_at .later [] _ _ _ _ said (fun _ h => by cases h) (by kernel_rfl) (fun _ h => by cases h) wordBytes_row_tie rfl ⟨rfl, rfl⟩ (by kernel_rfl) rfl plain (by kernel_rfl)
end Go.Proofs.YtpfbonknajcmaaaDoor.wordBytes

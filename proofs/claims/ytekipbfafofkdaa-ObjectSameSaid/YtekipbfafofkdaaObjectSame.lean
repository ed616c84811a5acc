/-
  ObjectSame: which objects are the same, and files' and modules' names.
-/
import Derived.Test.YtekipbfafofkdaaObV
import Derived.Test.YtekipbfafofkdaaObL
import Derived.Test.YtekipbfafofkdaaObF
import Derived.Test.YtekipbfafofkdaaObE
import Derived.Test.YtekipbfafofkdaaRows
import Derived.WalkKit
import Derived.ProofKit
import Derived.OpenShut
import Derived.Deep.DeepHandedRow
import Derived.Carry
import Derived.Deep.RegionHeld3
import Derived.Deep.Cut
namespace Go.Proofs.Ytekipbfafofkdaa.objectSame
open Go.ChangeShapes Go.WideShapes Go.ChangeAt Go.RowKit
open Go.ChangeMaps (open_string shut_string)
set_option linter.unusedVariables false
/-- what Bytes tells -/
def BytesAll : Prop := ∀ (w0 : World) (o : Ob) (ai : Option Addr) (li ci : Nat) (at_ : Option Addr) (lt ct : Nat) (ac : Option Addr) (lc cc : Nat) (ae : Option Addr) (le ce : Nat) (af : Option Addr) (lf cf : Nat), ObRows w0 o ai li ci at_ lt ct ac lc cc ae le ce af lf cf → mayO o = true → BytesC w0 o (ob o.name o.key ai li ci o.vars at_ lt ct ac lc cc ae le ce af lf cf)
set_option maxHeartbeats 8000000 in
set_option maxRecDepth 100000 in
theorem walkB (HBY : BytesAll) (va : Value) (oa : Ob) (vb : Value) (ob_ : Ob) (nm_ : ByteArray) (w : World) (wa : ObIs w oa va) (wb : ObIs w ob_ vb) (wn : nm_.size ≤ maxLen) : Calls Try.prog 3 #[va, vb, .string nm_] w fun e w' => e = .returned (.bool true) ∧ Below w.heap.size w w' := by
  obtain ⟨ai, li, ci, at_, lt, ct, ac, lc, cc, ae, le, ce, af, lf, cf, rfl, ho⟩ := wa
  obtain ⟨ai2, li2, ci2, at2, lt2, ct2, ac2, lc2, cc2, ae2, le2, ce2, af2, lf2, cf2, rfl, hp⟩ := wb
  have HU1 := Lib.hid (fun W => much_any W oa.name oa.key ai li ci oa.vars at_ lt ct ac lc cc ae le ce af lf cf)
  have HU2 := Lib.hid (fun W => much_any W ob_.name ob_.key ai2 li2 ci2 ob_.vars at2 lt2 ct2 ac2 lc2 cc2 ae2 le2 ce2 af2 lf2 cf2)
  have HN1 := Lib.hid (oname_any nm_ wn)
  have HN2 := Lib.hid (rname_any nm_ wn)
  have hss := fun W hW => osame_any (w0 := w) (w := W) ho ho hW
  have hs12 := fun W hW => osame_any (w0 := w) (w := W) ho hp hW
  have hs21 := fun W hW => osame_any (w0 := w) (w := W) hp ho hW
  rw [sameB_refl] at hss
  rw [sameB_comm ob_ oa] at hs21
  have hmy1 := fun W hW => omay_any (w0 := w) (w := W) ho hW
  have hmy2 := fun W hW => omay_any (w0 := w) (w := W) hp hW
  have hls := fun W hW => same_any (w0 := w) (w := W) ho hp (HBY _ _ _ _ _ _ _ _ _ _ _ _ _ _ _ _ _ ho) (HBY _ _ _ _ _ _ _ _ _ _ _ _ _ _ _ _ _ hp) hW
  have heq : mayO oa = true → mayO ob_ = true → ((strOf (bytesO oa)).toList == (strOf (bytesO ob_)).toList) = sameB oa ob_ := fun h1 h2 => bytes_same (tells_of ho h1) (tells_of hp h2) (text_bd ho.text) (text_bd hp.text)
  have HO := Lib.hid ((Ob8.new w oa.name oa.key ai li ci oa.vars at_ lt ct ac lc cc ae le ce af lf cf rfl).next (below1 _ (.cells #[.string ob_.name, .int .u32 ob_.key, .slice ai2 li2 ci2, .int .i64 ob_.vars, .slice at2 lt2 ct2, .slice ac2 lc2 cc2, .slice ae2 le2 ce2, .slice af2 lf2 cf2] 29)))
  have HP := Lib.hid (Ob8.new (w.alloc (.cells #[.string oa.name, .int .u32 oa.key, .slice ai li ci, .int .i64 oa.vars, .slice at_ lt ct, .slice ac lc cc, .slice ae le ce, .slice af lf cf] 29)) ob_.name ob_.key ai2 li2 ci2 ob_.vars at2 lt2 ct2 ac2 lc2 cc2 ae2 le2 ce2 af2 lf2 cf2 (b := w.heap.size + 1) (by simp))
  have HB := Lib.hid ((below1 w (.cells #[.string oa.name, .int .u32 oa.key, .slice ai li ci, .int .i64 oa.vars, .slice at_ lt ct, .slice ac lc cc, .slice ae le ce, .slice af lf cf] 29)).alloc (by simp) (.cells #[.string ob_.name, .int .u32 ob_.key, .slice ai2 li2 ci2, .int .i64 ob_.vars, .slice at2 lt2 ct2, .slice ac2 lc2 cc2, .slice ae2 le2 ce2, .slice af2 lf2 cf2] 29))
  clear ho hp
  generalize ((strOf (bytesO oa)).toList == (strOf (bytesO ob_)).toList) = be at *
  generalize sameB oa ob_ = sb at *
  generalize mayO oa = ma at *
  generalize mayO ob_ = mb at *
  generalize muchB li lt lc le lf = u1 at *
  generalize muchB li2 lt2 lc2 le2 lf2 = u2 at *
  generalize nameB nm_ = nb at *
  have HEQ : Hid ((ma && mb && (sb != (ma && (mb && be)))) = false) := Lib.hid (by
    cases ma <;> cases mb <;> try rfl
    rw [heq rfl rfl]
    cases sb <;> rfl)
  have HSS := Lib.hid hss
  have HS12 := Lib.hid hs12
  have HS21 := Lib.hid hs21
  have HMY1 := Lib.hid hmy1
  have HMY2 := Lib.hid hmy2
  have HLS := Lib.hid hls
  clear hss hs12 hs21 hmy1 hmy2 hls heq
  obtain ⟨x0, x1, x2, x3, x4, x5, x6, x7, -⟩ := HO.out
  obtain ⟨y0, y1, y2, y3, y4, y5, y6, y7, -⟩ := HP.out
  unfold ob at *
  by_cases hsz : nm_.size ≤ 100
  rotate_left
  · have hgt : ((nm_.size : Int) > 100) := by omega
    cases u1 <;> cases u2
    all_goals
      go_enter Try.func3, Try.ntmps3
      go_wp2_with (first | (go_at_call 5; (first | (with_reducible refine (HU1.out _).mono ?_) | (with_reducible refine (HU2.out _).mono ?_)); rintro e w' ⟨rfl, hb⟩; replace HO := Lib.hid (HO.out.next hb); replace HP := Lib.hid (HP.out.next hb); replace HB := Lib.hid (HB.out.trans (hb.mono HB.out.size)); clear x0 x1 x2 x3 x4 x5 x6 x7 y0 y1 y2 y3 y4 y5 y6 y7; obtain ⟨x0, x1, x2, x3, x4, x5, x6, x7, -⟩ := HO.out; obtain ⟨y0, y1, y2, y3, y4, y5, y6, y7, -⟩ := HP.out; clear hb) | (go_at_call 6; refine (known7_any _).mono ?_; rintro e w' ⟨rfl, hb⟩; replace HB := Lib.hid (HB.out.trans (hb.mono HB.out.size)); clear hb) | (go_at_call 7; refine (HN1.out _).mono ?_; rintro e w' ⟨rfl, rfl⟩) | (go_at_call 8; refine (HN2.out _).mono ?_; rintro e w' ⟨rfl, rfl⟩) | (go_at_call 9; refine (HFI.out _).mono ?_; rintro e w' ⟨rfl, rfl⟩))
      go_ret
      exact ⟨rfl, HB.out⟩
  have HFI := Lib.hid (ofile_any nm_ (by omega))
  cases u1 with
  | true =>
    cases u2
    all_goals
      go_enter Try.func3, Try.ntmps3
      go_wp2_with (first | (go_at_call 5; (first | (with_reducible refine (HU1.out _).mono ?_) | (with_reducible refine (HU2.out _).mono ?_)); rintro e w' ⟨rfl, hb⟩; replace HO := Lib.hid (HO.out.next hb); replace HP := Lib.hid (HP.out.next hb); replace HB := Lib.hid (HB.out.trans (hb.mono HB.out.size)); clear x0 x1 x2 x3 x4 x5 x6 x7 y0 y1 y2 y3 y4 y5 y6 y7; obtain ⟨x0, x1, x2, x3, x4, x5, x6, x7, -⟩ := HO.out; obtain ⟨y0, y1, y2, y3, y4, y5, y6, y7, -⟩ := HP.out; clear hb) | (go_at_call 6; refine (known7_any _).mono ?_; rintro e w' ⟨rfl, hb⟩; replace HB := Lib.hid (HB.out.trans (hb.mono HB.out.size)); clear hb) | (go_at_call 7; refine (HN1.out _).mono ?_; rintro e w' ⟨rfl, rfl⟩) | (go_at_call 8; refine (HN2.out _).mono ?_; rintro e w' ⟨rfl, rfl⟩) | (go_at_call 9; refine (HFI.out _).mono ?_; rintro e w' ⟨rfl, rfl⟩))
      go_ret
      exact ⟨rfl, HB.out⟩
  | false =>
    cases u2 with
    | true =>
      go_enter Try.func3, Try.ntmps3
      go_wp2_with (first | (go_at_call 5; (first | (with_reducible refine (HU1.out _).mono ?_) | (with_reducible refine (HU2.out _).mono ?_)); rintro e w' ⟨rfl, hb⟩; replace HO := Lib.hid (HO.out.next hb); replace HP := Lib.hid (HP.out.next hb); replace HB := Lib.hid (HB.out.trans (hb.mono HB.out.size)); clear x0 x1 x2 x3 x4 x5 x6 x7 y0 y1 y2 y3 y4 y5 y6 y7; obtain ⟨x0, x1, x2, x3, x4, x5, x6, x7, -⟩ := HO.out; obtain ⟨y0, y1, y2, y3, y4, y5, y6, y7, -⟩ := HP.out; clear hb) | (go_at_call 6; refine (known7_any _).mono ?_; rintro e w' ⟨rfl, hb⟩; replace HB := Lib.hid (HB.out.trans (hb.mono HB.out.size)); clear hb) | (go_at_call 7; refine (HN1.out _).mono ?_; rintro e w' ⟨rfl, rfl⟩) | (go_at_call 8; refine (HN2.out _).mono ?_; rintro e w' ⟨rfl, rfl⟩) | (go_at_call 9; refine (HFI.out _).mono ?_; rintro e w' ⟨rfl, rfl⟩))
      go_ret
      exact ⟨rfl, HB.out⟩
    | false =>
      go_enter Try.func3, Try.ntmps3
      go_wp2_with (first | (go_at_call 5; (first | (with_reducible refine (HU1.out _).mono ?_) | (with_reducible refine (HU2.out _).mono ?_)); rintro e w' ⟨rfl, hb⟩; replace HO := Lib.hid (HO.out.next hb); replace HP := Lib.hid (HP.out.next hb); replace HB := Lib.hid (HB.out.trans (hb.mono HB.out.size)); clear x0 x1 x2 x3 x4 x5 x6 x7 y0 y1 y2 y3 y4 y5 y6 y7; obtain ⟨x0, x1, x2, x3, x4, x5, x6, x7, -⟩ := HO.out; obtain ⟨y0, y1, y2, y3, y4, y5, y6, y7, -⟩ := HP.out; clear hb) | (go_at_call 6; refine (known7_any _).mono ?_; rintro e w' ⟨rfl, hb⟩; replace HB := Lib.hid (HB.out.trans (hb.mono HB.out.size)); clear hb) | (go_at_call 7; refine (HN1.out _).mono ?_; rintro e w' ⟨rfl, rfl⟩) | (go_at_call 8; refine (HN2.out _).mono ?_; rintro e w' ⟨rfl, rfl⟩) | (go_at_call 9; refine (HFI.out _).mono ?_; rintro e w' ⟨rfl, rfl⟩))
      have HCS : Hid (∀ V' : World, Below w'.heap.size w' V' → Below w'.heap.size w' V' ∧ V'.cell? ⟨w.heap.size, 0, none⟩ = some (.string oa.name) ∧ V'.cell? ⟨w.heap.size, 1, none⟩ = some (.int .u32 oa.key) ∧ V'.cell? ⟨w.heap.size, 2, none⟩ = some (.slice ai li ci) ∧ V'.cell? ⟨w.heap.size, 3, none⟩ = some (.int .i64 oa.vars) ∧ V'.cell? ⟨w.heap.size, 4, none⟩ = some (.slice at_ lt ct) ∧ V'.cell? ⟨w.heap.size, 5, none⟩ = some (.slice ac lc cc) ∧ V'.cell? ⟨w.heap.size, 6, none⟩ = some (.slice ae le ce) ∧ V'.cell? ⟨w.heap.size, 7, none⟩ = some (.slice af lf cf) ∧ V'.cell? ⟨w.heap.size + 1, 0, none⟩ = some (.string ob_.name) ∧ V'.cell? ⟨w.heap.size + 1, 1, none⟩ = some (.int .u32 ob_.key) ∧ V'.cell? ⟨w.heap.size + 1, 2, none⟩ = some (.slice ai2 li2 ci2) ∧ V'.cell? ⟨w.heap.size + 1, 3, none⟩ = some (.int .i64 ob_.vars) ∧ V'.cell? ⟨w.heap.size + 1, 4, none⟩ = some (.slice at2 lt2 ct2) ∧ V'.cell? ⟨w.heap.size + 1, 5, none⟩ = some (.slice ac2 lc2 cc2) ∧ V'.cell? ⟨w.heap.size + 1, 6, none⟩ = some (.slice ae2 le2 ce2) ∧ V'.cell? ⟨w.heap.size + 1, 7, none⟩ = some (.slice af2 lf2 cf2)) := Lib.hid fun V' h => by
        obtain ⟨x0, x1, x2, x3, x4, x5, x6, x7, -⟩ := HO.out.next h
        obtain ⟨y0, y1, y2, y3, y4, y5, y6, y7, -⟩ := HP.out.next h
        exact ⟨h, x0, x1, x2, x3, x4, x5, x6, x7, y0, y1, y2, y3, y4, y5, y6, y7⟩
      have HWb : Hid (∀ V' : World, Below w'.heap.size w' V' → Below w.heap.size w V') := Lib.hid fun V' h => HB.out.trans (h.mono HB.out.size)
      clear x0 x1 x2 x3 x4 x5 x6 x7 y0 y1 y2 y3 y4 y5 y6 y7
      obtain ⟨b0, x0, x1, x2, x3, x4, x5, x6, x7, y0, y1, y2, y3, y4, y5, y6, y7⟩ := HCS.out _ (Below.refl w'.heap.size w').drew
      go_cut [43] from 31 (fun s W => s = .bool false ∧ Hid (Below w'.heap.size w' W))
      case first =>
        cases sb
        all_goals
          go_region_held3 (fun V' => Below w'.heap.size w' V' ∧ V'.cell? ⟨w.heap.size, 0, none⟩ = some (.string oa.name) ∧ V'.cell? ⟨w.heap.size, 1, none⟩ = some (.int .u32 oa.key) ∧ V'.cell? ⟨w.heap.size, 2, none⟩ = some (.slice ai li ci) ∧ V'.cell? ⟨w.heap.size, 3, none⟩ = some (.int .i64 oa.vars) ∧ V'.cell? ⟨w.heap.size, 4, none⟩ = some (.slice at_ lt ct) ∧ V'.cell? ⟨w.heap.size, 5, none⟩ = some (.slice ac lc cc) ∧ V'.cell? ⟨w.heap.size, 6, none⟩ = some (.slice ae le ce) ∧ V'.cell? ⟨w.heap.size, 7, none⟩ = some (.slice af lf cf) ∧ V'.cell? ⟨w.heap.size + 1, 0, none⟩ = some (.string ob_.name) ∧ V'.cell? ⟨w.heap.size + 1, 1, none⟩ = some (.int .u32 ob_.key) ∧ V'.cell? ⟨w.heap.size + 1, 2, none⟩ = some (.slice ai2 li2 ci2) ∧ V'.cell? ⟨w.heap.size + 1, 3, none⟩ = some (.int .i64 ob_.vars) ∧ V'.cell? ⟨w.heap.size + 1, 4, none⟩ = some (.slice at2 lt2 ct2) ∧ V'.cell? ⟨w.heap.size + 1, 5, none⟩ = some (.slice ac2 lc2 cc2) ∧ V'.cell? ⟨w.heap.size + 1, 6, none⟩ = some (.slice ae2 le2 ce2) ∧ V'.cell? ⟨w.heap.size + 1, 7, none⟩ = some (.slice af2 lf2 cf2))
          (first | exact ⟨by assumption, by assumption, by assumption, by assumption, by assumption, by assumption, by assumption, by assumption, by assumption, by assumption, by assumption, by assumption, by assumption, by assumption, by assumption, by assumption, by assumption⟩ | go_keep)
          ((first | (go_at_call 10; (first | (with_reducible refine (HSS.out _ (HWb.out _ b0)).mono ?_) | (with_reducible refine (HS12.out _ (HWb.out _ b0)).mono ?_) | (with_reducible refine (HS21.out _ (HWb.out _ b0)).mono ?_)); rintro e v1 ⟨rfl, hb⟩; (obtain ⟨b0, x0, x1, x2, x3, x4, x5, x6, x7, y0, y1, y2, y3, y4, y5, y6, y7⟩ := HCS.out _ (b0.trans (hb.mono b0.size)); clear hb)) | (go_at_call 11; (first | (with_reducible refine (HMY1.out _ (HWb.out _ b0)).mono ?_) | (with_reducible refine (HMY2.out _ (HWb.out _ b0)).mono ?_)); rintro e v1 ⟨rfl, hb⟩; (obtain ⟨b0, x0, x1, x2, x3, x4, x5, x6, x7, y0, y1, y2, y3, y4, y5, y6, y7⟩ := HCS.out _ (b0.trans (hb.mono b0.size)); clear hb)) | (go_at_call 12; (with_reducible refine (HLS.out _ (HWb.out _ b0)).mono ?_); rintro e v1 ⟨rfl, hb⟩; (obtain ⟨b0, x0, x1, x2, x3, x4, x5, x6, x7, y0, y1, y2, y3, y4, y5, y6, y7⟩ := HCS.out _ (b0.trans (hb.mono b0.size)); clear hb))))
        all_goals
          go_wp2_with fail
          go_meet
          case rel => exact ⟨by rfl, Lib.hid b0⟩
      case rest =>
        obtain ⟨rfl, HC5⟩ := hcut
        clear x0 x1 x2 x3 x4 x5 x6 x7 y0 y1 y2 y3 y4 y5 y6 y7 b0
        go_wp2_with fail
        obtain ⟨b0, x0, x1, x2, x3, x4, x5, x6, x7, y0, y1, y2, y3, y4, y5, y6, y7⟩ := HCS.out _ HC5.out.drew
        cases ma with
        | false =>
          go_region_with (go_at_call 11; (first | (with_reducible refine (HMY1.out _ (HWb.out _ b0)).mono ?_) | (with_reducible refine (HMY2.out _ (HWb.out _ b0)).mono ?_)); rintro e v1 ⟨rfl, hb⟩; (obtain ⟨b0, x0, x1, x2, x3, x4, x5, x6, x7, y0, y1, y2, y3, y4, y5, y6, y7⟩ := HCS.out _ (b0.trans (hb.mono b0.size)); clear hb))
          all_goals
            go_wp2_with (go_at_call 6; refine (known7_any _).mono ?_; rintro e v9 ⟨rfl, hb⟩; have HE9 := Lib.hid ((HWb.out _ b0).trans (hb.mono (HWb.out _ b0).size)); clear hb)
            go_ret
            exact ⟨rfl, HE9.out⟩
        | true =>
          cases mb with
          | false =>
            go_region_with (go_at_call 11; (first | (with_reducible refine (HMY1.out _ (HWb.out _ b0)).mono ?_) | (with_reducible refine (HMY2.out _ (HWb.out _ b0)).mono ?_)); rintro e v1 ⟨rfl, hb⟩; (obtain ⟨b0, x0, x1, x2, x3, x4, x5, x6, x7, y0, y1, y2, y3, y4, y5, y6, y7⟩ := HCS.out _ (b0.trans (hb.mono b0.size)); clear hb))
            all_goals
              go_wp2_with (go_at_call 6; refine (known7_any _).mono ?_; rintro e v9 ⟨rfl, hb⟩; have HE9 := Lib.hid ((HWb.out _ b0).trans (hb.mono (HWb.out _ b0).size)); clear hb)
              go_ret
              exact ⟨rfl, HE9.out⟩
          | true =>
            cases sb <;> cases be
            all_goals first
              | (exfalso; have := HEQ.out; revert this; decide)
              | skip
            all_goals
              go_region_held3 (fun V' => Below w'.heap.size w' V' ∧ V'.cell? ⟨w.heap.size, 0, none⟩ = some (.string oa.name) ∧ V'.cell? ⟨w.heap.size, 1, none⟩ = some (.int .u32 oa.key) ∧ V'.cell? ⟨w.heap.size, 2, none⟩ = some (.slice ai li ci) ∧ V'.cell? ⟨w.heap.size, 3, none⟩ = some (.int .i64 oa.vars) ∧ V'.cell? ⟨w.heap.size, 4, none⟩ = some (.slice at_ lt ct) ∧ V'.cell? ⟨w.heap.size, 5, none⟩ = some (.slice ac lc cc) ∧ V'.cell? ⟨w.heap.size, 6, none⟩ = some (.slice ae le ce) ∧ V'.cell? ⟨w.heap.size, 7, none⟩ = some (.slice af lf cf) ∧ V'.cell? ⟨w.heap.size + 1, 0, none⟩ = some (.string ob_.name) ∧ V'.cell? ⟨w.heap.size + 1, 1, none⟩ = some (.int .u32 ob_.key) ∧ V'.cell? ⟨w.heap.size + 1, 2, none⟩ = some (.slice ai2 li2 ci2) ∧ V'.cell? ⟨w.heap.size + 1, 3, none⟩ = some (.int .i64 ob_.vars) ∧ V'.cell? ⟨w.heap.size + 1, 4, none⟩ = some (.slice at2 lt2 ct2) ∧ V'.cell? ⟨w.heap.size + 1, 5, none⟩ = some (.slice ac2 lc2 cc2) ∧ V'.cell? ⟨w.heap.size + 1, 6, none⟩ = some (.slice ae2 le2 ce2) ∧ V'.cell? ⟨w.heap.size + 1, 7, none⟩ = some (.slice af2 lf2 cf2))
                (first | exact ⟨by assumption, by assumption, by assumption, by assumption, by assumption, by assumption, by assumption, by assumption, by assumption, by assumption, by assumption, by assumption, by assumption, by assumption, by assumption, by assumption, by assumption⟩ | go_keep)
                ((first | (go_at_call 10; (first | (with_reducible refine (HSS.out _ (HWb.out _ b0)).mono ?_) | (with_reducible refine (HS12.out _ (HWb.out _ b0)).mono ?_) | (with_reducible refine (HS21.out _ (HWb.out _ b0)).mono ?_)); rintro e v1 ⟨rfl, hb⟩; (obtain ⟨b0, x0, x1, x2, x3, x4, x5, x6, x7, y0, y1, y2, y3, y4, y5, y6, y7⟩ := HCS.out _ (b0.trans (hb.mono b0.size)); clear hb)) | (go_at_call 11; (first | (with_reducible refine (HMY1.out _ (HWb.out _ b0)).mono ?_) | (with_reducible refine (HMY2.out _ (HWb.out _ b0)).mono ?_)); rintro e v1 ⟨rfl, hb⟩; (obtain ⟨b0, x0, x1, x2, x3, x4, x5, x6, x7, y0, y1, y2, y3, y4, y5, y6, y7⟩ := HCS.out _ (b0.trans (hb.mono b0.size)); clear hb)) | (go_at_call 12; (with_reducible refine (HLS.out _ (HWb.out _ b0)).mono ?_); rintro e v1 ⟨rfl, hb⟩; (obtain ⟨b0, x0, x1, x2, x3, x4, x5, x6, x7, y0, y1, y2, y3, y4, y5, y6, y7⟩ := HCS.out _ (b0.trans (hb.mono b0.size)); clear hb))))
            all_goals
              go_wp2_with (go_at_call 6; refine (known7_any _).mono ?_; rintro e v9 ⟨rfl, hb⟩; have HE9 := Lib.hid ((HWb.out _ b0).trans (hb.mono (HWb.out _ b0).size)); clear hb)
              go_ret
              exact ⟨rfl, HE9.out⟩
theorem bytes_all : BytesAll := by
  intro w0 o ai li ci at_ lt ct ac lc cc ae le ce af lf cf ho hm W hW
  have hT := tells_of ho hm
  obtain ⟨hI, hB, hC, hE, hF⟩ := mayO_iff.1 hm
  unfold mayIB at hI
  simp only [Bool.and_eq_true, decide_eq_true_eq] at hI
  obtain ⟨hI, hn, h12⟩ := hI
  exact obytes_any ho hT (by omega) (by have := hB.t1; omega) (by have := hC.c; omega) (by have := hC.e1; omega) (by have := hC.f; omega) hW
theorem walk (va : Value) (oa : Ob) (vb : Value) (ob_ : Ob) (nm_ : ByteArray) (w : World) (wa : ObIs w oa va) (wb : ObIs w ob_ vb) (wn : nm_.size ≤ maxLen) : Calls Try.prog 3 #[va, vb, .string nm_] w fun e w' => e = .returned (.bool true) ∧ Below w.heap.size w w' := walkB bytes_all va oa vb ob_ nm_ w wa wb wn
theorem own : ownKnob Try.prog.godebug = none := by kernel_rfl
theorem laidOut : laidOutB Try.prog = true := by kernel_rfl
set_option maxRecDepth 1000000 in
theorem contract (H : Type) (enc : TypeId × Value → H) (W : World) (base : Nat) (args : Array Value) (ds gs : List (DataW H)) (before : List MemPlace)
    (hval : ∀ (j : Nat) t v, Try.f3.params[j]? = some t → args[j]? = some v → Value.okWide Try.prog W .any base t v)
    (hW : DataW.Whole enc Try.prog Try.f3.params.toList Rows.objectSameSpec.vars false W args.toList ds gs before) :
    Calls Try.prog 3 args W fun e W' => ∃ v, e = .returned v ∧ Rows.objectSameSpec.post enc Try.prog Try.f3 false true false false W args v W' := by
  have hW' := hW
  obtain ⟨p, q, hA0, hV, rfl, hfz, hnd⟩ := hW
  have hA : DataW.TrodAll enc Try.prog W 0 (fun _ => true) true Try.f3.params.toList args.toList ds p := hA0
  rw [Try.params3] at hA hval
  obtain ⟨v0, vs0, d0, ds0, p0, q0, hargs, rfl, rfl, h0, r0⟩ := trodAll_cons hA
  obtain ⟨v1, vs1, d1, ds1, p1, q1, rfl, rfl, rfl, h1, r1⟩ := trodAll_cons r0
  obtain ⟨v2, vs2, d2, ds2, p2, q2, rfl, rfl, rfl, h2, r2⟩ := trodAll_cons r1
  obtain ⟨rfl, rfl, rfl⟩ := trodAll_nil r2
  obtain rfl : args = #[v0, v1, v2] := by cases args; simp_all
  obtain ⟨rfl, rfl⟩ := trodVars_none hV
  obtain ⟨n0, w0⟩ := obj_of (.inl (hval 0 29 v0 rfl rfl)) h0
  have k0 := h0
  have lt0 : ∀ x ∈ p0, x.block < W.heap.size := by obtain ⟨m, hm⟩ := k0; exact DataW.trod_lt m _ _ _ hm
  obtain ⟨n1, w1⟩ := obj_of (.inl (hval 1 29 v1 rfl rfl)) h1
  have k1 := h1
  have lt1 : ∀ x ∈ p1, x.block < W.heap.size := by obtain ⟨m, hm⟩ := k1; exact DataW.trod_lt m _ _ _ hm
  obtain ⟨a2, rfl, rfl, rfl, w2⟩ := open_string Try.underlying9 (hval 2 9 v2 rfl rfl) h2
  clear hA0
  refine (walk v0 n0 v1 n1 a2 W w0 w1 w2).mono fun e W' ⟨he, bel⟩ => ?_
  subst he
  exact ⟨_, rfl, _, _, _, [], _, [], hW', trodAll_mk1 (shut_bool Try.underlying4 _), (trodAll_cons_mk (Below.trod laidOut (by kernel_rfl) (of_decide_eq_true (by kernel_rfl)) k0 bel lt0) (trodAll_cons_mk (Below.trod laidOut (by kernel_rfl) (of_decide_eq_true (by kernel_rfl)) k1 bel lt1) (trodAll_cons_mk (shut_string Try.underlying9 w2) trodAll_mk0))), rfl, bel.frame _, fun h => by cases h⟩
set_option maxRecDepth 100000 in
theorem lifted (os : Os) (started : os.Started) (H : Type) (enc : TypeId × Value → H) :
    ReturnsInHanded {} Try.checked os 3 .any (Rows.objectSameSpec.pre6 enc Try.prog Try.f3 Rows.objectSameRow.domain false) (Rows.objectSameSpec.post enc Try.prog Try.f3 false true false false) := by
  refine returnsInHanded_of_change (C := Try.checked) own started (by kernel_rfl) Try.func3
    (ChangeSpec.witness6 (enc := enc) (C := Try.checked) false ⟨#[], #[.agg #[.string .empty, .int .u32 0, .slice none 0 0, .int .i64 0, .slice none 0 0, .slice none 0 0, .slice none 0 0, .slice none 0 0], .agg #[.string .empty, .int .u32 0, .slice none 0 0, .int .i64 0, .slice none 0 0, .slice none 0 0, .slice none 0 0, .slice none 0 0], .string .empty], []⟩ 8 (by kernel_rfl) (by kernel_rfl) (by kernel_rfl) (by kernel_rfl)) ?_
  intro W base args ds gs before hval hW hcnd _
  exact contract H enc W base args ds gs before hval hW
theorem said : Rows.ObjectSameSaid :=
  OpenClaim.holds_of_wide 3 Try.f3 rfl rfl rfl rfl rfl rfl rfl ⟨rfl, rfl, rfl, rfl, rfl⟩ rfl rfl rfl rfl rfl (by kernel_rfl) Try.func3 (by kernel_rfl)
    (of_decide_eq_true (by kernel_rfl)) (by unfold Func.isWrapper; first | (rw [if_pos (by decide +kernel)]; kernel_rfl) | (rw [if_neg (by decide +kernel)]; exact ⟨rfl, rfl⟩))
    (fun os started H enc _ => lifted os started H enc)
theorem proved : Rows.ObjectSameSaid := said
end Go.Proofs.Ytekipbfafofkdaa.objectSame

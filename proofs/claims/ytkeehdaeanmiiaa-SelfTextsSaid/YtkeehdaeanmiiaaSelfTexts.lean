/-
  SelfTexts: which sources there are, that each begins with its name, and that there are no others: for every text. No condition.
-/
import Derived.Test.YtkeehdaeanmiiaaSlfB
import Derived.Test.YtkeehdaeanmiiaaRows
import Derived.WalkKit
import Derived.ProofKit
import Derived.OpenShut
import Derived.Deep.DeepHandedRow
import Derived.Carry
namespace Go.Proofs.Ytkeehdaeanmiiaa.selfTexts
open Go.ChangeShapes Go.WideShapes Go.ChangeAt Go.RowKit
open Go.ChangeMaps (open_string shut_string)
open Ev (WRow)
set_option linter.unusedVariables false
set_option linter.unusedSimpArgs false
def inB (nm : ByteArray) (i : Nat) : Bool := decide (nm.data.toList ∈ mdL.take i)
theorem inB_succ (nm : ByteArray) {i : Nat} {l : List UInt8} (h : mdL[i]? = some l) : inB nm (i + 1) = (inB nm i || decide (l = nm.data.toList)) := by
  obtain ⟨hi, e⟩ := List.getElem?_eq_some_iff.1 h
  unfold inB
  rw [List.take_succ_eq_append_getElem hi, e, Bool.eq_iff_iff, Bool.or_eq_true, decide_eq_true_eq, decide_eq_true_eq, decide_eq_true_eq, List.mem_append, List.mem_singleton]
  exact ⟨fun h => h.imp id Eq.symm, fun h => h.imp id Eq.symm⟩
theorem source_mod {l : List UInt8} (h : l ∈ mdL) (w : World) : Calls Try.prog 6 #[.string (bs l)] w fun e w' => (∃ t, e = .returned (.tuple #[.string t, .bool true]) ∧ Good l t) ∧ w = w' :=
  (source_any (bs l) w).mono fun e w' ⟨he, hw⟩ => ⟨by
    rcases he with ⟨l2, h2, e2, t, ht, hg⟩ | ⟨h2, _⟩
    · have : l = l2 := by have := congrArg (fun b : ByteArray => b.data.toList) e2; simpa [bs] using this
      subst this
      exact ⟨t, ht, hg⟩
    · exact absurd rfl (h2 l h), hw⟩
/-- a text's bytes in memory -/
def nums (t : ByteArray) : List Int := t.data.toList.map fun b => (b.toNat : Int)
theorem bytes_rd (W : World) (t : ByteArray) : Rd (Lib.bytesWorld W 5 t) (Lib.bytesWorld W 5 t).heap.size .u8 (some ⟨W.heap.size, 0, none⟩) t.size (nums t) := by
  refine ⟨by unfold nums; rw [List.length_map]; rfl, fun _ => ⟨_, rfl, by rw [Lib.bytesWorld_size]; exact Nat.lt_succ_self _, fun i hi => ?_⟩⟩
  have h := Lib.bytesWorld_cell W 5 t i hi
  have e : (⟨W.heap.size, 0, none⟩ : Addr).add i = ⟨W.heap.size, i, none⟩ := by unfold Addr.add; split <;> simp_all
  rw [e, h]
  congr 2
  unfold nums nth
  have hl : i < t.data.toList.length := hi
  simp [List.getD, List.getElem?_eq_getElem hl]
theorem bytes_below (W : World) (t : ByteArray) : Below W.heap.size W (Lib.bytesWorld W 5 t) :=
  ⟨rfl, rfl, rfl, by rw [Lib.bytesWorld_size]; exact Nat.le_succ _, fun k hk => Lib.bytesWorld_at_old W 5 t k hk⟩
theorem nums_bd (t : ByteArray) : ∀ x ∈ nums t, 0 ≤ x ∧ x < 256 := by
  intro x hx
  obtain ⟨b, _, rfl⟩ := List.mem_map.1 hx
  have := b.toNat_lt
  omega
theorem rows_cells {W : World} {B M : Nat} {v : Value} {u : Sn} (h : WRow W B 5 v M (rowL u M)) (h3 : 3 ≤ M) : ∃ g f c, v = .slice (some ⟨g, f, none⟩) M c ∧ W.cell? ⟨g, f, none⟩ = some (.int .i64 (stp u 1).sym) ∧ W.cell? ⟨g, f + 5, none⟩ = some (.int .i64 (stp u 2).sym) ∧ W.cell? ⟨g, f + 8, none⟩ = some (.int .i64 (stp u 2).id) := by
  rcases h.2 with ⟨_, e⟩ | ⟨b, f, c, rfl, hb, hl, h1, h2, h4, h5⟩
  · omega
  · exact ⟨b, f, c, rfl, h4 0 _ (rowL_get u M 0 0 (by omega) (by omega)), h4 5 _ (rowL_get u M 1 0 (by omega) (by omega)), h4 8 _ (rowL_get u M 1 3 (by omega) (by omega))⟩
theorem scd_three {u : Sn} {nm : List UInt8} (hf : First u nm) {m : Nat} (hs : Scd u m) : 3 ≤ m ∧ (stp u (m + 1)).nms[57]? = some nm := by
  have h0 : m ≠ 0 := fun e => by have := hs.f; rw [e] at this; rw [show (0 : Nat) + 1 = 1 from rfl, hf.s1] at this; exact absurd this (by decide)
  have h1 : m ≠ 1 := fun e => by have := hs.f; rw [e] at this; rw [show (1 : Nat) + 1 = 2 from rfl, hf.s2] at this; exact absurd this (by decide)
  have h2 : m ≠ 2 := fun e => by have := hs.f; rw [e] at this; exact hf.s3 this
  have h3 : 3 ≤ m := by omega
  refine ⟨h3, ?_⟩
  have := stp_keep hf.n2 (m + 1 - 2)
  rwa [show 2 + (m + 1 - 2) = m + 1 by omega] at this
set_option maxRecDepth 100000 in
set_option maxHeartbeats 16000000 in
theorem walk (s : ByteArray) (w : World) (hs : s.size ≤ maxLen) :
    Calls Try.prog 3 #[.string s] w fun e w' => e = .returned (.bool true) ∧ Below w.heap.size w w' := by
  unfold maxLen at hs
  by_cases hm : s.size ≤ 100
  rotate_left
  · have KN := Lib.hid (known21 w)
    go_enter Try.func3, Try.ntmps3
    go_wp2_with (go_at_call 4; (refine KN.out.mono ?_); rintro e w' ⟨rfl, hb⟩)
    go_ret
    exact ⟨rfl, hb⟩
  · have HM := Lib.hid (modules_any w)
    have HC : Hid (∀ V, Below (w.heap.size + 1) (w.alloc (.cells (mdL.map fun k => Value.string (bs k)).toArray 9)) V → ∀ j l, mdL[j]? = some l → V.cell? ⟨w.heap.size, j, none⟩ = some (.string (bs l))) := Lib.hid fun V hV j l hj => by
      rw [hV.cell (show w.heap.size < w.heap.size + 1 by omega), World.cell?, heap_alloc_new]
      show (mdL.map fun k => Value.string (bs k)).toArray[j]? = _
      rw [List.getElem?_toArray, List.getElem?_map, hj]; rfl
    have HB1 : Hid (Below w.heap.size w (w.alloc (.cells (mdL.map fun k => Value.string (bs k)).toArray 9))) := Lib.hid ((Below.refl _ _).alloc (Nat.le_refl _) _)
    have hsz : (w.alloc (.cells (mdL.map fun k => Value.string (bs k)).toArray 9)).heap.size = w.heap.size + 1 := by simp
    have HZ := Lib.hid hsz
    clear hsz
    go_enter Try.func3, Try.ntmps3
    go_upto_region 4 with (go_at_call 5; (refine HM.out.mono ?_); rintro e w' ⟨rfl, rfl⟩)
    generalize w.alloc (.cells (mdL.map fun k => Value.string (bs k)).toArray 9) = W1 at HC HB1 HZ ⊢
    go_wp2_with fail
    go_loopw [4, 5] (fun bv iv wr => ∃ i : Nat, iv = .int .i64 (i : Int) ∧ i ≤ 5 ∧ bv = .bool (inB s i) ∧ Hid (Below (w.heap.size + 1) W1 wr)) (fun _ iv _ => 5 - (intOf iv).toNat)
    case atStart => exact ⟨0, rfl, by omega, by unfold inB; simp, Lib.hid (Below.refl _ _)⟩
    case round =>
      obtain ⟨i, rfl, hi, rfl, HB⟩ := hrel
      by_cases hlt : i < 5
      · obtain ⟨l, hl⟩ : ∃ l, mdL[i]? = some l := ⟨_, List.getElem?_eq_getElem (show i < mdL.length from hlt)⟩
        have hmem : l ∈ mdL := List.mem_of_getElem? hl
        have HSM := Lib.hid (source_mod hmem wr)
        have HOK := Lib.hid (mdL_ok l hmem)
        have hci := HC.out _ HB.out i l hl
        have HL := Lib.hid hl
        clear hl hmem
        go_upto_region 9 with (go_at_call 6; (refine HSM.out.mono ?_); rintro e w' ⟨⟨t, rfl, hg⟩, hw⟩; subst hw; have HGD := Lib.hid hg; clear hg)
        have hd1 : decide ((t.size : Int) < 10) = false := by have := HGD.out.1; simp; omega
        have hd2 : decide ((65535 : Int) < (t.size : Int)) = false := by have := HGD.out.2.1; simp; omega
        go_upto_region 12 with (fail)
        clear hd1 hd2 hci
        have HB0 := Lib.hid HB.out
        clear HB
        have HI := Lib.hid hlt
        go_wp2_with fail
        go_loopw [8] (fun kv wl => ∃ k : Nat, kv = .int .i64 (k : Int) ∧ k ≤ i ∧ Hid (Below (w.heap.size + 1) W1 wl)) (fun kv _ => i - (intOf kv).toNat)
        case atStart => exact ⟨0, rfl, Nat.zero_le _, HB0⟩
        case round =>
          clear HB0
          obtain ⟨k, rfl, hk, HB⟩ := hrel
          have hci := HC.out _ HB.out i l HL.out
          by_cases hki : k < i
          · obtain ⟨x, hx⟩ : ∃ x, mdL[k]? = some x := ⟨_, List.getElem?_eq_getElem (show k < mdL.length by have := HI.out; show k < 5; omega)⟩
            have hck := HC.out _ HB.out k x hx
            have hne : x ≠ l := fun e => by
              obtain ⟨h1, e1⟩ := List.getElem?_eq_some_iff.1 hx
              obtain ⟨h2, e2⟩ := List.getElem?_eq_some_iff.1 HL.out
              have h7 := mdL_nodup.idxOf_getElem k h1
              have h8 := mdL_nodup.idxOf_getElem i h2
              rw [e1] at h7
              rw [e2, ← e] at h8
              omega
            have hq : ((bs x).toList == (bs l).toList) = false := (qbs_eq x l).trans (decide_eq_false hne)
            clear hx hne
            go_wp2_with fail
            go_quiet (fail)
            go_wp2_with fail
            exact ⟨⟨k + 1, by simp, by omega, Lib.hid (qdrewN HB.out _)⟩, by simp [intOf]; omega⟩
          · obtain rfl : k = i := by omega
            have HIN := Lib.hid (inB_succ s HL.out)
            have hq2 : ((bs l).toList == s.toList) = decide (l = s.data.toList) := by have := qbs_eq l s.data.toList; rwa [bs_data] at this
            obtain ⟨d, hd⟩ : ∃ d, d = decide (l = s.data.toList) := ⟨_, rfl⟩
            rw [← hd] at hq2 HIN
            obtain ⟨b, hb⟩ : ∃ b, b = inB s k := ⟨_, rfl⟩
            rw [← hb] at HIN ⊢
            clear hd hb
            have ht2 := HGD.out.2.1
            have hcv := Lib.run_convert_string_bytes (P := Try.prog) wr 9 31 5 t Try.underlying9 Try.underlying31 Try.underlying5
            have HSC := Lib.hid (qscan_any (bytes_rd wr t) ht2 (grownCap_ge wr t.size 0 5) (nums_bd t))
            have HBB := Lib.hid (bytes_below wr t)
            have HF : Hid (First { wsF 57 29 with src := nums t } l) := Lib.hid (by
              obtain ⟨-, -, rest, hr⟩ := HGD.out
              refine first_any (rest := rest.map fun b => (b.toNat : Int)) (mdL_ok l (List.mem_of_getElem? HL.out)) ?_
              unfold nums numL modL
              rw [hr]
              simp)
            obtain ⟨u, hu⟩ : ∃ u, u = ({ wsF 57 29 with src := nums t } : Sn) := ⟨_, rfl⟩
            rw [← hu] at HSC HF
            clear hu ht2
            obtain ⟨gc, hgc⟩ : ∃ gc, gc = grownCap wr t.size 0 5 := ⟨_, rfl⟩
            rw [← hgc] at hcv HSC
            clear hgc
            generalize Lib.bytesWorld wr 5 t = Wb at hcv HSC HBB
            have hwr1 : w.heap.size + 1 ≤ wr.heap.size := by have := HB.out.size; rw [HZ.out] at this; exact this
            cases b
            all_goals
              go_upto_region 18 with (first
                | (go_at_call 7; (refine HSC.out.mono ?_); rintro e w7 ⟨m, v, nv, hsc, rfl, hqf⟩; obtain ⟨fc, hfc⟩ : ∃ fc, fc = (stp u (m + 1)).code := ⟨_, rfl⟩; obtain ⟨fe, hfe⟩ : ∃ fe, fe = (stp u (m + 1)).epos := ⟨_, rfl⟩; rw [← hfc, ← hfe]; have HSD := Lib.hid hsc; have HQF := Lib.hid hqf; have HON : Hid ((#[v, nv, .int .i64 fc, .int .i64 fe] : Array Value).all (·.oneCell') = true) := Lib.hid (by simp [wrow_one hqf.all, wrow_one hqf.nm]; exact ⟨rfl, rfl⟩); clear hsc hqf hfc hfe)
                | (with_reducible refine wpList_store_row rfl 29 _ _ rfl w7.heap.size #[v, nv, .int .i64 fc, .int .i64 fe] rfl rfl 29 _ (heap_alloc_new w7 _) (rsize v nv fc fe) rfl HON.out ?_))
              have HP : Hid (((w7.alloc (.cells #[.slice none 0 0, .slice none 0 0, .int .i64 0, .int .i64 0] 29)).setRow w7.heap.size #[v, nv, .int .i64 fc, .int .i64 fe]).heap[w7.heap.size]? = some (.cells #[v, nv, .int .i64 fc, .int .i64 fe] 29 (0, 0))) := Lib.hid (snsetRow_heap _ _ _ _ _ _ (heap_alloc_new w7 _))
              have HB7 : Hid (Below Wb.heap.size Wb ((w7.alloc (.cells #[.slice none 0 0, .slice none 0 0, .int .i64 0, .int .i64 0] 29)).setRow w7.heap.size #[v, nv, .int .i64 fc, .int .i64 fe])) := Lib.hid (snbelow_setRow (HQF.out.b.alloc HQF.out.b.size _) HQF.out.b.size _)
              have HKP : Hid (∀ k, k < w7.heap.size → ((w7.alloc (.cells #[.slice none 0 0, .slice none 0 0, .int .i64 0, .int .i64 0] 29)).setRow w7.heap.size #[v, nv, .int .i64 fc, .int .i64 fe]).heap[k]? = w7.heap[k]?) := Lib.hid fun k hk => by
                rw [setRow_other _ _ _ _ (by omega)]
                exact ((Below.refl w7.heap.size w7).alloc (Nat.le_refl _) _).block k hk
              have hsz7 : ((w7.alloc (.cells #[.slice none 0 0, .slice none 0 0, .int .i64 0, .int .i64 0] 29)).setRow w7.heap.size #[v, nv, .int .i64 fc, .int .i64 fe]).heap.size = w7.heap.size + 1 := by simp
              generalize (w7.alloc (.cells #[.slice none 0 0, .slice none 0 0, .int .i64 0, .int .i64 0] 29)).setRow w7.heap.size #[v, nv, .int .i64 fc, .int .i64 fe] = W2 at HP HB7 HKP hsz7 ⊢
              obtain ⟨h3, hn57⟩ := scd_three HF.out HSD.out
              obtain ⟨M, hM⟩ : ∃ M, M = allN u m := ⟨_, rfl⟩
              have hM3 : 3 ≤ M := by rw [hM]; unfold allN; split <;> omega
              have HALL := wrow_keep HQF.out.all (W := W2) (by omega) fun k hk => HKP.out k (HQF.out.all.lt k hk).2
              have HNMS := wrow_keep HQF.out.nm (W := W2) (by omega) fun k hk => HKP.out k (HQF.out.nm.lt k hk).2
              rw [← hM] at HALL
              obtain ⟨g, f, c, hv, k0, k5, k8⟩ := rows_cells HALL hM3
              rw [HF.out.s1] at k0
              rw [HF.out.s2] at k5
              rw [HF.out.i2] at k8
              obtain ⟨gn, fn, cn, hnv, -, -⟩ := HNMS.form (by have := (List.getElem?_eq_some_iff.1 hn57).1; omega)
              have kn : W2.cell? ⟨gn, fn + 57, none⟩ = some (.string (bs l)) := by
                have h1 := (List.getElem?_eq_some_iff.1 hn57).1
                rw [hnv] at HNMS
                rw [(HNMS.cell 57 (by omega)).1, List.getElem?_map, hn57]; rfl
              have hL57 := (List.getElem?_eq_some_iff.1 hn57).1
              obtain ⟨L, hL⟩ : ∃ L, L = (stp u (m + 1)).nms.length := ⟨_, rfl⟩
              rw [← hL] at hnv hL57
              subst hv
              subst hnv
              have c50 : W2.cell? ⟨w7.heap.size, 0, none⟩ = some (.slice (some ⟨g, f, none⟩) M c) := (qblock_cell HP.out rfl).1
              have c51 : W2.cell? ⟨w7.heap.size, 1, none⟩ = some (.slice (some ⟨gn, fn, none⟩) L cn) := (qblock_cell HP.out rfl).1
              have HBW : Hid (Below (w.heap.size + 1) W1 W2) := Lib.hid ((HB.out.trans (HBB.out.mono hwr1)).trans (HB7.out.mono (by have := HBB.out.size; omega)))
              have hci2 := HC.out _ HBW.out k l HL.out
              have hd3 : decide (M < 3) = false := by simp; omega
              have hd4 : decide ((M : Int) < 3) = false := by simp; omega
              have hM0 : (0 : Int) < (M : Int) := by omega
              have hM1 : (1 : Int) < (M : Int) := by omega
              have hLi : (57 : Int) < (L : Int) := by omega
              have k05 : W2.cell? ⟨g, f + 0, none⟩ = some (.int .i64 43) := k0
              have k58 : W2.cell? ⟨g, f + 5 + 3, none⟩ = some (.int .i64 57) := k8
              have hM00 : 0 < M := by omega
              have hM11 : 1 < M := by omega
              have hL11 : 57 < L := by omega
              have hqq : ((bs l).toList != (bs l).toList) = false := by simp
              clear hM hL HALL HNMS HB7 HKP HQF HON HSC hcv HP hn57 h3 hq2 hci
              go_wp2_with fail
              go_quiet (fail)
              go_wp2_with fail
              exact ⟨⟨k + 1, by simp, by have := HI.out; omega, by rw [HIN.out]; first | rfl | simp, Lib.hid (qdrewN HBW.out _)⟩, by simp [intOf]; omega⟩
      · obtain rfl : i = 5 := by omega
        have HW := Lib.hid (HB1.out.trans (HB.out.mono (Nat.le_succ _)))
        have HSA := Lib.hid (source_any s wr)
        have KN := Lib.hid (known21 wr)
        by_cases hin : s.data.toList ∈ mdL
        · have hb : inB s 5 = true := decide_eq_true hin
          rw [hb]
          have HSY : Hid (Calls Try.prog 6 #[.string s] wr fun e w' => (∃ t, e = .returned (.tuple #[.string t, .bool true])) ∧ wr = w') := Lib.hid (HSA.out.mono fun e w' ⟨he, hw⟩ => ⟨by
            rcases he with ⟨l2, h2, e2, t, ht, hg⟩ | ⟨h2, _⟩
            · exact ⟨t, ht⟩
            · exact absurd (bs_data s).symm (h2 _ hin), hw⟩)
          clear hb hin HSA
          go_wp2_with (first
            | (go_at_call 6; (refine HSY.out.mono ?_); rintro e w' ⟨⟨t, rfl⟩, hw⟩; subst hw)
            | (go_at_call 4; (refine KN.out.mono ?_); rintro e w' ⟨rfl, hb⟩; have HBE := Lib.hid (HW.out.trans (hb.mono HW.out.size)); clear hb))
          go_ret
          exact ⟨rfl, HBE.out⟩
        · have hb : inB s 5 = false := decide_eq_false hin
          rw [hb]
          have HSY : Hid (Calls Try.prog 6 #[.string s] wr fun e w' => e = .returned (.tuple #[.string ⟨#[]⟩, .bool false]) ∧ wr = w') := Lib.hid (HSA.out.mono fun e w' ⟨he, hw⟩ => ⟨by
            rcases he with ⟨l2, h2, e2, t, ht, hg⟩ | ⟨h2, h3⟩
            · exfalso
              apply hin
              rw [e2]
              exact h2
            · exact h3, hw⟩)
          clear hb hin HSA
          go_wp2_with (first
            | (go_at_call 6; (refine HSY.out.mono ?_); rintro e w' ⟨rfl, hw⟩; subst hw)
            | (go_at_call 4; (refine KN.out.mono ?_); rintro e w' ⟨rfl, hb⟩; have HBE := Lib.hid (HW.out.trans (hb.mono HW.out.size)); clear hb))
          go_ret
          exact ⟨rfl, HBE.out⟩
theorem own : ownKnob Try.prog.godebug = none := by kernel_rfl
theorem laidOut : laidOutB Try.prog = true := by kernel_rfl
set_option maxRecDepth 1000000 in
theorem contract (H : Type) (enc : TypeId × Value → H) (W : World) (base : Nat) (args : Array Value) (ds gs : List (DataW H)) (before : List MemPlace)
    (hval : ∀ (j : Nat) t v, Try.f3.params[j]? = some t → args[j]? = some v → Value.okWide Try.prog W .any base t v)
    (hW : DataW.Whole enc Try.prog Try.f3.params.toList Rows.selfTextsSpec.vars false W args.toList ds gs before) :
    Calls Try.prog 3 args W fun e W' => ∃ v, e = .returned v ∧ Rows.selfTextsSpec.post enc Try.prog Try.f3 false true false false W args v W' := by
  have hW' := hW
  obtain ⟨p, q, hA0, hV, rfl, hfz, hnd⟩ := hW
  have hA : DataW.TrodAll enc Try.prog W 0 (fun _ => true) true Try.f3.params.toList args.toList ds p := hA0
  rw [Try.params3] at hA hval
  obtain ⟨v0, vs0, d0, ds0, p0, q0, hargs, rfl, rfl, h0, r0⟩ := trodAll_cons hA
  obtain ⟨rfl, rfl, rfl⟩ := trodAll_nil r0
  obtain rfl : args = #[v0] := by cases args; simp_all
  obtain ⟨rfl, rfl⟩ := trodVars_none hV
  obtain ⟨a0, rfl, rfl, rfl, w0⟩ := open_string Try.underlying9 (hval 0 9 v0 rfl rfl) h0
  clear hA0
  refine (walk a0 W w0).mono fun e W' ⟨he, bel⟩ => ?_
  subst he
  exact ⟨_, rfl, _, _, _, [], _, [], hW', trodAll_mk1 (shut_bool Try.underlying4 _), (trodAll_cons_mk (shut_string Try.underlying9 w0) trodAll_mk0), rfl, bel.frame _, fun h => by cases h⟩
set_option maxRecDepth 100000 in
theorem lifted (os : Os) (started : os.Started) (H : Type) (enc : TypeId × Value → H) :
    ReturnsInHanded {} Try.checked os 3 .any (Rows.selfTextsSpec.pre6 enc Try.prog Try.f3 Rows.selfTextsRow.domain false) (Rows.selfTextsSpec.post enc Try.prog Try.f3 false true false false) := by
  refine returnsInHanded_of_change (C := Try.checked) own started (by kernel_rfl) Try.func3
    (ChangeSpec.witness6 (enc := enc) (C := Try.checked) false ⟨#[], #[.string .empty], []⟩ 8 (by kernel_rfl) (by kernel_rfl) (by kernel_rfl) (by kernel_rfl)) ?_
  intro W base args ds gs before hval hW hcnd _
  exact contract H enc W base args ds gs before hval hW
theorem said : Rows.SelfTextsSaid :=
  OpenClaim.holds_of_wide 3 Try.f3 rfl rfl rfl rfl rfl rfl rfl ⟨rfl, rfl, rfl, rfl, rfl⟩ rfl rfl rfl rfl rfl (by kernel_rfl) Try.func3 (by kernel_rfl)
    (of_decide_eq_true (by kernel_rfl)) (by unfold Func.isWrapper; first | (rw [if_pos (by decide +kernel)]; kernel_rfl) | (rw [if_neg (by decide +kernel)]; exact ⟨rfl, rfl⟩))
    (fun os started H enc _ => lifted os started H enc)
theorem proved : Rows.SelfTextsSaid := said
end Go.Proofs.Ytkeehdaeanmiiaa.selfTexts

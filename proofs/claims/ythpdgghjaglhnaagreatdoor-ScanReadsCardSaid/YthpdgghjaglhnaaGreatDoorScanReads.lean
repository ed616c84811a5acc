/-
  ScanReads: all symbols of a source, one by one, and the first error, its names: as the document's scanner tells them. No condition but the laid tables'.
-/
import Derived.Test.YthpdgghjaglhnaaGreatDoorSqF
import Derived.Test.YthpdgghjaglhnaaGreatDoorRows
import Derived.Test.YthpdgghjaglhnaaGreatDoorCards
import Derived.Test.YthpdgghjaglhnaaGreatDoorTie
import Derived.Deep.DeepHandedRow
import Derived.Stop.LaidErr
import Derived.WalkKit
import Derived.ProofKit
import Derived.OpenShut
import Derived.LaidMore
import Derived.Lay
import Derived.SevenTiedAt
import Derived.Stop.Joined
namespace Go.Proofs.YthpdgghjaglhnaaGreatDoor.scanReads
open Go.ChangeShapes Go.WideShapes Go.ChangeAt Go.RowKit
open Ev (WRow)
set_option linter.unusedVariables false
set_option linter.unusedSimpArgs false
structure Tab (w : World) : Prop where
  space : Lib.TabIs Tryz.prog w "strings.asciiSpace" .u8 spaceTab
  pow : Lib.TabIs Tryz.prog w "internal/strconv.uint64pow10" .u64 Lib.pow10Tab
/-- the symbols told, as they lie -/
theorem rows_form {W : World} {B M : Nat} {v : Value} {u : Sn} (h : WRow W B 5 v M (rowL u M)) : ∃ A c, v = .slice A M c ∧ ∀ i, i < M → ∃ g f, A = some ⟨g, f, none⟩ ∧ B ≤ g ∧ g < W.heap.size ∧ ∀ o, o < 5 → W.cell? ⟨g, f + (i * 5 + o), none⟩ = (symC (stp u (i + 1)))[o]? := by
  rcases h.2 with ⟨rfl, e⟩ | ⟨b, f, c, rfl, hb, hl, h1, h2, h3, h4⟩
  · exact ⟨none, 0, by rw [e], fun i hi => by omega⟩
  · refine ⟨_, c, rfl, fun i hi => ⟨b, f, rfl, hb, hl, fun o ho => ?_⟩⟩
    have e := rowL_get u M i o hi ho
    obtain ⟨x, hx⟩ : ∃ x, (symC (stp u (i + 1)))[o]? = some x := by
      have : o < (symC (stp u (i + 1))).size := by show o < 5; exact ho
      exact ⟨_, Array.getElem?_eq_getElem this⟩
    rw [hx] at e ⊢
    exact h3 _ x e
theorem names_rows {W : World} {B : Nat} {v : Value} {nms : List (List UInt8)} (h : WRow W B 1 v nms.length (nms.map fun l => .string (bs l))) : ∃ A c, v = .slice A nms.length c ∧ ∀ i l, nms[i]? = some l → ∃ g f, A = some ⟨g, f, none⟩ ∧ B ≤ g ∧ g < W.heap.size ∧ W.cell? ⟨g, f + i, none⟩ = some (.string (bs l)) := by
  rcases h.2 with ⟨rfl, e⟩ | ⟨b, f, c, rfl, hb, hl, h1, h2, h3, h4⟩
  · exact ⟨none, 0, by rw [e], fun i l hi => by
      have := (List.getElem?_eq_some_iff.1 hi).1
      omega⟩
  · exact ⟨_, c, rfl, fun i l hi => ⟨b, f, rfl, hb, hl, h3 i _ (by rw [List.getElem?_map, hi]; rfl)⟩⟩
theorem rs_getz {w W2 W : World} {B B1 : Nat} {q : Sp} {s : Sn} (h : Rs w W2 B B1 W q s) (hkw : s.kw = 29) (hT : ∀ V, Below w.heap.size w V → Proofs.YthpdgghjaglhnaaGreatDoor.Tab V) {p : Nat} (hp : q.p = p) : Calls Tryz.prog 10 #[.pointer (some ⟨p, 0, none⟩)] W fun e w' => e = .returned (.tuple #[]) ∧ ∃ q', q'.p = p ∧ Rs w W2 B B1 w' q' (getF s) ∧ ∀ z, z < W.heap.size → ApS z q → w'.heap[z]? = W.heap[z]? := by
  subst hp
  exact (get_any h.sn h.bW (by rw [hkw]; exact Int.le_refl _) (fun V hV => hT V (h.b.trans (hV.mono h.hB)))).mono fun e w' ⟨he, q', hs, hf⟩ => ⟨he, q', hf.p, h.wrote hs hf, fun z hz ha => (ha.sf hf hz).2⟩
set_option maxHeartbeats 16000000 in
set_option maxRecDepth 100000 in
theorem walk (a0 : Option Addr) (len0 cap0 : Nat) (z0 : List Int) (w : World) (w0 : IsRow .u8 w a0 len0 cap0 z0) (hT : Tab w) :
    Calls Tryz.prog 3 #[.slice a0 len0 cap0] w fun e w' => e = .returned (.bool true) ∧ Below w.heap.size w w' := by
  have hl0 : len0 ≤ maxLen := Nat.le_trans w0.2.1 w0.2.2.1
  have hcap := w0.2.1
  have HSP : SpTab w := ⟨hT.space⟩
  have HTT : Hid (∀ V, Below w.heap.size w V → SpTab V ∧ Proofs.YthpdgghjaglhnaaGreatDoor.Tab V) := Lib.hid fun V hV => ⟨HSP.stab fun k hk => hV.block k (Nat.lt_of_lt_of_le hk (tab_base HSP (fun _ => 0) (fun _ => false) (fun _ => []) (fun _ => Nat.zero_le _)).2), Proofs.YthpdgghjaglhnaaGreatDoor.Tab.below (w := w) hT.pow hV⟩
  have KN : Hid (∀ W, Below w.heap.size w W → Calls Tryz.prog 5 #[] W fun e w' => e = .returned (.bool true) ∧ Below W.heap.size W w') := Lib.hid fun W hW => known11 W (HTT.out W hW).1
  have HRD : Hid (Rd w w.heap.size .u8 a0 len0 z0) := Lib.hid w0.2.2.2.2
  have HBY : Hid (∀ x ∈ z0, 0 ≤ x ∧ x < 256) := Lib.hid (fun x hx => by have := bd_u8 (w0.2.2.2.1 x hx); omega)
  clear hT HSP w0
  have hml := hl0
  unfold maxLen at hl0
  by_cases hm : len0 ≤ 5000
  rotate_left
  · go_enter Tryz.func3, Tryz.ntmps3
    go_wp2_with (go_at_call 5; (refine (KN.out _ (Below.refl _ _)).mono ?_); rintro e w' ⟨rfl, hb⟩)
    go_ret
    exact ⟨rfl, hb⟩
  · have hzl : z0.length = len0 := HRD.out.1
    have HZL := Lib.hid hzl
    obtain ⟨u, hu⟩ : ∃ u, u = ({ wsF 57 29 with src := z0 } : Sn) := ⟨_, rfl⟩
    have hnf : newF z0 = stp u 1 := by
      unfold newF
      rw [if_neg (by omega), ← hu]
      rfl
    have HA0 : Hid (At0 u u 0) := Lib.hid (by subst hu; exact ⟨rfl, Nat.zero_le _, (by decide : (0 : Int) ≤ 29), rfl, Nat.le_refl _⟩)
    have HFT : Hid (Fit u) := Lib.hid (by rw [hu]; exact fit_start z0)
    have HOK : Hid (∀ i, Ok (stp u i)) := Lib.hid (ok_stp (ok_0 (by rw [hu]; rfl)))
    have HUS : Hid (u.src = z0) := Lib.hid (by rw [hu])
    have HU := Lib.hid hu
    have HNF := Lib.hid hnf
    clear hu hnf hzl
    obtain ⟨ib, hib, hbz, hb1, hb2⟩ := info_parts infoB0
    go_enter Tryz.func3, Tryz.ntmps3
    go_upto_region 4 with (at_builtin; refine wpList_append_rd rfl _ _ 22 rfl w.heap.size 5 ib (.int .u8 0) 1 Tryz.underlying22 hib hbz hb1 hb2 rfl _ _ _ rfl (World.ownsRow_nil _ _ _ _) w.heap.size .u8 a0 len0 cap0 z0 rfl HRD.out (by unfold maxLen; omega) (by omega) (Nat.le_refl _) ?_; intro v5 w5 ho hg0; have hg : w.grownBy w5 none := hg0; clear hg0; obtain ⟨A5, c5, hv5⟩ := owns_form ho; subst hv5; have HO := Lib.hid ho; have HG := Lib.hid hg; clear ho hg)
    have HO5 : Hid (w5.ownsRow w.heap.size 5 1 (.slice A5 len0 c5) len0 (valsOf .u8 z0)) := Lib.hid (by
      have := HO.out
      rwa [List.nil_append, Nat.zero_add] at this)
    have HB5 : Hid (Below w.heap.size w w5) := Lib.hid ((Below.refl _ _).grown HG.out (Nat.le_refl _) (fun z e => by cases e))
    have h5 := HB5.out.size
    have HRD5 : Hid (Rd w5 w5.heap.size .u8 A5 len0 z0) := Lib.hid (by
      obtain ⟨A, c, e, h1, h2⟩ := rd_own HO5.out
      obtain ⟨rfl, -⟩ : A5 = A ∧ c5 = c := by injection e with e1 e2 e3; exact ⟨e1, e3⟩
      exact h2)
    have HNEW := Lib.hid (new_any w5 A5 len0 c5 z0 HRD5.out hml HBY.out (fun V hV => HTT.out V (HB5.out.trans (hV.mono h5))))
    rw [HNF.out] at HNEW
    clear HO HG HNF
    obtain ⟨p5, hp5⟩ : ∃ p5 : Nat, p5 = p5 := ⟨0, rfl⟩
    clear hp5 p5
    go_upto_region 5 with (first
      | (go_at_call 6; (refine HNEW.out.mono ?_); rintro e w6 ⟨q, rfl, hs, hb⟩; have HS6 := Lib.hid hs; have HB6 := Lib.hid hb; have HSC : Hid (Calls Tryz.prog 7 #[.slice a0 len0 cap0] w6 (Told11 u w6)) := Lib.hid (by have h := qscan_any (c := cap0) ((HRD.out.below (HB5.out.trans (hb.mono h5))).more (HB5.out.trans (hb.mono h5)).size) (by omega) hcap HBY.out; rw [← HU.out] at h; exact h); clear hs hb)
      | (go_at_call 7; (refine HSC.out.mono ?_); rintro e w7 ⟨m, v, nv, hsc, rfl, hqf⟩; obtain ⟨fc, hfc⟩ : ∃ fc, fc = (stp u (m + 1)).code := ⟨_, rfl⟩; obtain ⟨fe, hfe⟩ : ∃ fe, fe = (stp u (m + 1)).epos := ⟨_, rfl⟩; rw [← hfc, ← hfe]; have HFC := Lib.hid hfc; have HFE := Lib.hid hfe; have HSD := Lib.hid hsc; have HQF := Lib.hid hqf; have HON : Hid ((#[v, nv, .int .i64 fc, .int .i64 fe] : Array Value).all (·.oneCell') = true) := Lib.hid (by simp [wrow_one hqf.all, wrow_one hqf.nm]; exact ⟨rfl, rfl⟩); clear hsc hqf hfc hfe)
      | (with_reducible refine wpList_store_row rfl 29 _ _ rfl w7.heap.size #[v, nv, .int .i64 fc, .int .i64 fe] rfl rfl 29 _ (heap_alloc_new w7 _) (rsize v nv fc fe) rfl HON.out ?_))
    have HP : Hid (((w7.alloc (.cells #[.slice none 0 0, .slice none 0 0, .int .i64 0, .int .i64 0] 29)).setRow w7.heap.size #[v, nv, .int .i64 fc, .int .i64 fe]).heap[w7.heap.size]? = some (.cells #[v, nv, .int .i64 fc, .int .i64 fe] 29 (0, 0))) := Lib.hid (snsetRow_heap _ _ _ _ _ _ (heap_alloc_new w7 _))
    have HB7 : Hid (Below w6.heap.size w6 ((w7.alloc (.cells #[.slice none 0 0, .slice none 0 0, .int .i64 0, .int .i64 0] 29)).setRow w7.heap.size #[v, nv, .int .i64 fc, .int .i64 fe])) := Lib.hid (snbelow_setRow (HQF.out.b.alloc HQF.out.b.size _) HQF.out.b.size _)
    have HKP : Hid (∀ k, k < w7.heap.size → ((w7.alloc (.cells #[.slice none 0 0, .slice none 0 0, .int .i64 0, .int .i64 0] 29)).setRow w7.heap.size #[v, nv, .int .i64 fc, .int .i64 fe]).heap[k]? = w7.heap[k]?) := Lib.hid fun k hk => by
      rw [setRow_other _ _ _ _ (by omega)]
      exact ((Below.refl w7.heap.size w7).alloc (Nat.le_refl _) _).block k hk
    have hsz7 : ((w7.alloc (.cells #[.slice none 0 0, .slice none 0 0, .int .i64 0, .int .i64 0] 29)).setRow w7.heap.size #[v, nv, .int .i64 fc, .int .i64 fe]).heap.size = w7.heap.size + 1 := by simp
    generalize (w7.alloc (.cells #[.slice none 0 0, .slice none 0 0, .int .i64 0, .int .i64 0] 29)).setRow w7.heap.size #[v, nv, .int .i64 fc, .int .i64 fe] = W2 at HP HB7 HKP hsz7 ⊢
    have HALL := Lib.hid (wrow_keep HQF.out.all (W := W2) (by omega) fun k hk => HKP.out k (HQF.out.all.lt k hk).2)
    have HNMS := Lib.hid (wrow_keep HQF.out.nm (W := W2) (by omega) fun k hk => HKP.out k (HQF.out.nm.lt k hk).2)
    have hp67 : w6.heap.size ≤ w7.heap.size := HQF.out.b.size
    obtain ⟨p5, hp5⟩ : ∃ p5, p5 = w7.heap.size := ⟨_, rfl⟩
    rw [← hp5] at HP hp67 hsz7 ⊢
    have HRS : Hid (Rs w W2 w5.heap.size w6.heap.size W2 q (stp u 1)) := Lib.hid ⟨(HB5.out.trans (HB6.out.mono h5)).trans (HB7.out.mono (HB5.out.trans (HB6.out.mono h5)).size), h5, HS6.out.next HB7.out, Nat.le_refl _, fun z h1 h2 => ⟨HS6.out.far h1, rfl⟩⟩
    have h56 := HB6.out.size
    obtain ⟨M, hM⟩ : ∃ M, M = allN u m := ⟨_, rfl⟩
    rw [← hM] at HALL
    have hMl : M ≤ 5001 := by
      have h1 := all_len HA0.out HSD.out
      rw [HUS.out, HZL.out] at h1
      rw [hM]; unfold allN; split <;> omega
    have HME := Lib.hid hM
    obtain ⟨AV, cv, hv, hvc⟩ := rows_form HALL.out
    obtain ⟨AN, cn, hnv, hnc⟩ := names_rows HNMS.out
    subst hv
    subst hnv
    have HVC := Lib.hid hvc
    have HNC := Lib.hid hnc
    have hL7 := (HFT.out.stp (m + 1)).n1
    obtain ⟨L, hL⟩ : ∃ L, L = (stp u (m + 1)).nms.length := ⟨_, rfl⟩
    rw [← hL] at HP hL7 HON ⊢
    have HLE := Lib.hid hL
    have hcv1 : (convert 22 9 (.slice A5 len0 c5)).run Tryz.prog W2 = .ok (.string (strOf z0)) W2 := conv_rd (HRD5.out.below (HB6.out.trans (HB7.out.mono h56))) c5
    have hcv2 : (convert 22 9 (.slice a0 len0 cap0)).run Tryz.prog W2 = .ok (.string (strOf z0)) W2 := conv_rd (HRD.out.below HRS.out.b) cap0
    generalize strOf z0 = tx at hcv1 hcv2
    have HB7X := Lib.hid HB7.out
    clear hp5 hM hvc hnc hL HALL HNMS HB7 HKP HQF HON HSC HNEW HS6
    have hw5 := ownsRow_wrow HO5.out
    have H0 : len0 ≤ 0 ∨ 0 < len0 := by omega
    rcases H0 with h0 | h0
    · have hd0 : decide (0 < len0) = false := by simp; omega
      have hd1 : decide ((0 : Int) < (len0 : Int)) = false := by simp; omega
      clear h0
      go_upto_region 9 with (fail)
      clear hd0 hd1
      refine wp_gen (fun V => Rs w W2 w5.heap.size w6.heap.size V q (stp u 1)) HRS.out ?_
      rintro W3 hs3
      have HS := Lib.hid hs3
      clear hcv1 hcv2 hw5 hs3
      go_wp2_with fail
      go_loopw [6] (fun iv wr => ∃ (i : Nat) (q' : Sp), iv = .int .i64 (i : Int) ∧ i ≤ M ∧ q'.p = q.p ∧ Hid (Rs w W2 w5.heap.size w6.heap.size wr q' (stp u (i + 1)))) (fun iv _ => M - (intOf iv).toNat)
      case atStart => exact ⟨0, q, rfl, by omega, rfl, HS⟩
      case round =>
        clear HS
        obtain ⟨i, q', rfl, hi, hqp, HS⟩ := hrel
        obtain ⟨p', sv, nv', ibq, gbq⟩ := q'
        obtain rfl : p' = q.p := hqp
        have hwr : W2.heap.size ≤ wr.heap.size := HS.out.sz
        by_cases hlt : i < M
        · skip
          have c50 : wr.cell? ⟨p5, 0, none⟩ = some (.slice AV M cv) := (HS.out.cell hp67 (by omega)).1.trans (qblock_cell HP.out rfl).1
          obtain ⟨g, f, hav, hg1, hg2, hcell⟩ := HVC.out i hlt
          subst hav
          obtain ⟨x0, x1, x2, x3, x4⟩ := sym_cells (fun o ho => ((HS.out.cell (by omega) hg2).1.trans (hcell o ho)))
          obtain ⟨hce1, hce2⟩ := all_ok HA0.out HFT.out HSD.out i (by rw [← HME.out]; exact hlt)
          have hkw := (HFT.out.stp (i + 1)).kw
          obtain ⟨s, hs⟩ : ∃ s, s = stp u (i + 1) := ⟨_, rfl⟩
          rw [← hs] at HS x0 x1 x2 x3 x4 hce1 hce2 hkw
          have HSE := Lib.hid hs
          have HC1 := Lib.hid hce1
          have HC2 := Lib.hid hce2
          have HKW := Lib.hid hkw
          have HCX : Hid (∀ V, Below wr.heap.size wr V → V.cell? ⟨p5, 0, none⟩ = some (.slice (some ⟨g, f, none⟩) M cv) ∧ V.cell? ⟨g, f + i * 5, none⟩ = some (.int .i64 s.sym) ∧ V.cell? ⟨g, f + i * 5 + 1, none⟩ = some (.int .i64 s.pos) ∧ V.cell? ⟨g, f + i * 5 + 2, none⟩ = some (.int .i32 s.val) ∧ V.cell? ⟨g, f + i * 5 + 3, none⟩ = some (.int .i64 s.id) ∧ V.cell? ⟨g, f + i * 5 + 4, none⟩ = some (.string s.txt)) := Lib.hid fun V hV =>
            ⟨(hV.cell (show p5 < wr.heap.size by omega)).trans c50, (hV.cell (show g < wr.heap.size by omega)).trans x0, (hV.cell (show g < wr.heap.size by omega)).trans x1, (hV.cell (show g < wr.heap.size by omega)).trans x2, (hV.cell (show g < wr.heap.size by omega)).trans x3, (hV.cell (show g < wr.heap.size by omega)).trans x4⟩
          have HSd := Lib.hid (HS.out.next (Below.refl _ _).drew)
          have B3 : Below wr.heap.size wr wr.drew := (Below.refl _ _).drew
          obtain ⟨d0, d1, d2, d3, d4, d5⟩ := HCX.out _ B3
          have hes := eq_sym s.sym s.pos s.val s.id s.txt
          have hgs := guard_sym
          clear hs hce1 hce2 hkw hcell
          go_upto_region 12 with (fail)
          go_region_held3 (fun V => Below wr.heap.size wr V ∧ V.cell? ⟨p5, 0, none⟩ = some (.slice (some ⟨g, f, none⟩) M cv) ∧ V.cell? ⟨g, f + i * 5, none⟩ = some (.int .i64 s.sym) ∧ V.cell? ⟨g, f + i * 5 + 1, none⟩ = some (.int .i64 s.pos) ∧ V.cell? ⟨g, f + i * 5 + 2, none⟩ = some (.int .i32 s.val) ∧ V.cell? ⟨g, f + i * 5 + 3, none⟩ = some (.int .i64 s.id) ∧ V.cell? ⟨g, f + i * 5 + 4, none⟩ = some (.string s.txt))
            (first | exact ⟨by assumption, by assumption, by assumption, by assumption, by assumption, by assumption, by assumption⟩ | go_keep)
            ((go_at_call 8; refine (rs_sym HSd.out rfl).mono ?_; rintro e v1 ⟨he, hb⟩; subst he; have B4 : Below wr.heap.size wr v1 := B3.trans hb; have HS1 := Lib.hid (HS.out.next B4); obtain ⟨e0, e1, e2, e3, e4, e5⟩ := HCX.out _ B4; clear hb))
          go_wp2_with (first
            | (go_at_call 9; (with_reducible refine (rs_err HS1.out rfl).mono ?_); rintro e w8 ⟨rfl, hb⟩; rw [HC1.out, HC2.out]; have HS2 := Lib.hid (HS1.out.next hb); clear hb)
            | (go_at_call 10; (with_reducible refine (rs_get HS2.out HKW.out (fun V hV => (HTT.out V hV).2) rfl).mono ?_); rintro e w9 ⟨rfl, q9, hq9, hs9⟩; have HS9 := Lib.hid hs9; clear hs9))
          have HS10 := HS9.out
          rw [HSE.out] at HS10
          exact ⟨⟨i + 1, q9, by simp, by omega, hq9, Lib.hid HS10⟩, by simp [intOf]; omega⟩
        · obtain rfl : i = M := by omega
          have c50 : wr.cell? ⟨p5, 0, none⟩ = some (.slice AV i cv) := (HS.out.cell hp67 (by omega)).1.trans (qblock_cell HP.out rfl).1
          have e9 : stp u (i + 1) = stp u (m + 1) := by rw [HME.out]; exact all_state HA0.out HSD.out
          rw [e9] at HS
          have hkw := (HFT.out.stp (m + 1)).kw
          have hok := HOK.out (m + 1)
          have hst := end_stay HA0.out HSD.out
          have hsy := HSD.out.f
          obtain ⟨s, hs⟩ : ∃ s, s = stp u (m + 1) := ⟨_, rfl⟩
          rw [← hs] at HS hkw hok hst hsy HFC HFE HLE
          have hgN : ∀ j l, s.nms[j]? = some l → ∃ g f, AN = some ⟨g, f, none⟩ ∧ w6.heap.size + 1 ≤ g ∧ g < W2.heap.size ∧ W2.cell? ⟨g, f + j, none⟩ = some (.string (bs l)) := by
            rw [hs]; exact HNC.out
          have HGN := Lib.hid hgN
          have HKW := Lib.hid hkw
          have HOK9 := Lib.hid hok
          have HST := Lib.hid hst
          have HSY := Lib.hid hsy
          clear e9 hs hkw hok hst hsy hgN hi hlt HME HVC
          go_upto_region 20 with (first
            | (go_at_call 9; (with_reducible refine (rs_err HS.out rfl).mono ?_); rintro e w8 ⟨rfl, hb⟩; rw [← HFC.out, ← HFE.out]; have HS8 := Lib.hid (HS.out.next hb); clear hb)
            | (go_at_call 8; (with_reducible refine (rs_sym HS8.out rfl).mono ?_); rintro e w9 ⟨rfl, hb⟩; rw [HSY.out]; have HS9 := Lib.hid (HS8.out.next hb); have HAY := Lib.hid (HS9.out.sn.far (Nat.le_refl _)); clear hb)
            | (with_reducible refine wpList_store_row rfl 32 _ _ rfl w9.heap.size #[.int .i64 0, .int .i64 s.pos, .int .i32 s.val, .int .i64 s.id, .string s.txt] rfl rfl 32 _ (heap_alloc_new w9 _) (ysize 0 s.pos s.val s.id s.txt) rfl (by simp [Value.oneCell']) ?_))
          have HY : Hid (((w9.alloc (.cells #[.int .i64 0, .int .i64 0, .int .i32 0, .int .i64 0, .string ⟨#[]⟩] 32)).setRow w9.heap.size #[.int .i64 0, .int .i64 s.pos, .int .i32 s.val, .int .i64 s.id, .string s.txt]).heap[w9.heap.size]? = some (.cells #[.int .i64 0, .int .i64 s.pos, .int .i32 s.val, .int .i64 s.id, .string s.txt] 32 (0, 0))) := Lib.hid (snsetRow_heap _ _ _ _ _ _ (heap_alloc_new w9 _))
          have HB9 : Hid (Below w9.heap.size w9 ((w9.alloc (.cells #[.int .i64 0, .int .i64 0, .int .i32 0, .int .i64 0, .string ⟨#[]⟩] 32)).setRow w9.heap.size #[.int .i64 0, .int .i64 s.pos, .int .i32 s.val, .int .i64 s.id, .string s.txt])) := Lib.hid (snbelow_setRow ((Below.refl _ _).alloc (Nat.le_refl _) _) (Nat.le_refl _) _)
          have hyW : w9.heap.size < ((w9.alloc (.cells #[.int .i64 0, .int .i64 0, .int .i32 0, .int .i64 0, .string ⟨#[]⟩] 32)).setRow w9.heap.size #[.int .i64 0, .int .i64 s.pos, .int .i32 s.val, .int .i64 s.id, .string s.txt]).heap.size := by simp
          generalize (w9.alloc (.cells #[.int .i64 0, .int .i64 0, .int .i32 0, .int .i64 0, .string ⟨#[]⟩] 32)).setRow w9.heap.size #[.int .i64 0, .int .i64 s.pos, .int .i32 s.val, .int .i64 s.id, .string s.txt] = W9 at HY HB9 hyW ⊢
          replace HS9 := Lib.hid (HS9.out.next HB9.out)
          generalize w9.heap.size = y at HY hyW HAY ⊢
          clear HB9 c50 HS HS8
          have h99 : W2.heap.size ≤ W9.heap.size := HS9.out.sz
          have c52 : W9.cell? ⟨p5, 2, none⟩ = some (.int .i64 fc) := (HS9.out.cell hp67 (by omega)).1.trans (qblock_cell HP.out rfl).1
          have c53 : W9.cell? ⟨p5, 3, none⟩ = some (.int .i64 fe) := (HS9.out.cell hp67 (by omega)).1.trans (qblock_cell HP.out rfl).1
          have c51 : W9.cell? ⟨p5, 1, none⟩ = some (.slice AN L cn) := (HS9.out.cell hp67 (by omega)).1.trans (qblock_cell HP.out rfl).1
          have y0 : W9.cell? ⟨y, 0, none⟩ = some (.int .i64 0) := (qblock_cell HY.out rfl).1
          have y1 : W9.cell? ⟨y, 1, none⟩ = some (.int .i64 s.pos) := (qblock_cell HY.out rfl).1
          have HPOS : fc ≠ 0 → s.pos = fe := fun h => by
            rw [HFE.out]
            exact (HOK9.out (by rw [← HFC.out]; exact h)).2
          have HSYM : Hid (∀ V, Rs w W2 w5.heap.size w6.heap.size V ⟨q.p, sv, nv', ibq, gbq⟩ s → True) := Lib.hid fun _ _ => trivial
          clear HSYM
          by_cases hfc : fc = 0
          rotate_left
          · skip
            have hp0 := HPOS hfc
            rw [hp0] at y1
            have hfcb : (fc != 0) = true := by simpa using hfc
            clear hp0 HPOS hfc
            go_upto_region 23 with (go_at_call 10; (with_reducible refine (rs_getz HS9.out HKW.out (fun V hV => (HTT.out V hV).2) rfl).mono ?_); rintro e w10 ⟨rfl, q10, hq10, hs10, hz10⟩; rw [HST.out] at hs10; have HS10 := Lib.hid hs10; have HY10 : Hid (w10.heap[y]? = some (.cells #[.int .i64 0, .int .i64 s.pos, .int .i32 s.val, .int .i64 s.id, .string s.txt] 32 (0, 0))) := Lib.hid ((hz10 y hyW HAY.out).trans HY.out); clear hs10 hz10 c51 c52 c53 y0 y1)
            obtain ⟨p10, sv2, nv2, ib2, gb2⟩ := q10
            obtain rfl : p10 = q.p := hq10
            have h10 : W2.heap.size ≤ w10.heap.size := HS10.out.sz
            have hy10 : y < w10.heap.size := (Array.getElem?_eq_some_iff.1 HY10.out).1
            have HCX : Hid (∀ V, Below w10.heap.size w10 V → V.cell? ⟨p5, 1, none⟩ = some (.slice AN L cn) ∧ V.cell? ⟨y, 0, none⟩ = some (.int .i64 0) ∧ V.cell? ⟨y, 1, none⟩ = some (.int .i64 s.pos) ∧ V.cell? ⟨y, 2, none⟩ = some (.int .i32 s.val) ∧ V.cell? ⟨y, 3, none⟩ = some (.int .i64 s.id) ∧ V.cell? ⟨y, 4, none⟩ = some (.string s.txt)) := Lib.hid fun V hV =>
              ⟨(hV.cell (show p5 < w10.heap.size by omega)).trans ((HS10.out.cell hp67 (by omega)).1.trans (qblock_cell HP.out rfl).1), (hV.cell (show y < w10.heap.size from hy10)).trans (qblock_cell HY10.out rfl).1, (hV.cell (show y < w10.heap.size from hy10)).trans (qblock_cell HY10.out rfl).1, (hV.cell (show y < w10.heap.size from hy10)).trans (qblock_cell HY10.out rfl).1, (hV.cell (show y < w10.heap.size from hy10)).trans (qblock_cell HY10.out rfl).1, (hV.cell (show y < w10.heap.size from hy10)).trans (qblock_cell HY10.out rfl).1⟩
            have HSd := Lib.hid (HS10.out.next (Below.refl _ _).drew)
            have B3 : Below w10.heap.size w10 w10.drew := (Below.refl _ _).drew
            obtain ⟨d1, d0, d2, d3, d4, d5⟩ := HCX.out _ B3
            have hes := eq_sym 0 s.pos s.val s.id s.txt
            have hgs := guard_sym
            clear HS9 HY HAY hyW h99
            go_region_held3 (fun V => Below w10.heap.size w10 V ∧ V.cell? ⟨p5, 1, none⟩ = some (.slice AN L cn) ∧ V.cell? ⟨y, 0, none⟩ = some (.int .i64 0) ∧ V.cell? ⟨y, 1, none⟩ = some (.int .i64 s.pos) ∧ V.cell? ⟨y, 2, none⟩ = some (.int .i32 s.val) ∧ V.cell? ⟨y, 3, none⟩ = some (.int .i64 s.id) ∧ V.cell? ⟨y, 4, none⟩ = some (.string s.txt))
              (first | exact ⟨by assumption, by assumption, by assumption, by assumption, by assumption, by assumption, by assumption⟩ | go_keep)
              ((first
                | (go_at_call 8; refine (rs_sym HSd.out rfl).mono ?_; rintro e v1 ⟨he, hb⟩; rw [HSY.out] at he; subst he; have B4 : Below w10.heap.size w10 v1 := B3.trans hb; have HS1 := Lib.hid (HS10.out.next B4); obtain ⟨e1, e0, e2, e3, e4, e5⟩ := HCX.out _ B4; clear hb)
                | (go_at_call 11; refine (snnames_any HS1.out.sn).mono ?_; rintro e v2 ⟨he, hw⟩; rw [← HLE.out] at he; subst he; subst hw)))
            clear hes hgs HCX HSd d0 d1 d2 d3 d4 d5 HY10 hy10
            go_wp2_with fail
            go_loopw [12] (fun iv wr => ∃ (i : Int) (q' : Sp), iv = .int .i64 i ∧ -1 ≤ i ∧ i ≤ (L : Int) + 1 ∧ q'.p = q.p ∧ Hid (Rs w W2 w5.heap.size w6.heap.size wr q' s)) (fun iv _ => ((L : Int) + 1 - intOf iv).toNat)
            case atStart => exact ⟨-1, ⟨q.p, sv2, nv2, ib2, gb2⟩, rfl, by omega, by omega, rfl, HS1⟩
            case round =>
              clear HS1 HS10
              obtain ⟨i, q', rfl, hi1, hi2, hqp, HS⟩ := hrel
              obtain ⟨p', sv3, nv3, ib3, gb3⟩ := q'
              obtain rfl : p' = q.p := hqp
              have hwl : W2.heap.size ≤ wr.heap.size := HS.out.sz
              have c51 : wr.cell? ⟨p5, 1, none⟩ = some (.slice AN L cn) := (HS.out.cell hp67 (by omega)).1.trans (qblock_cell HP.out rfl).1
              by_cases hle : i ≤ (L : Int)
              · by_cases hout : i < 0 ∨ (L : Int) ≤ i
                · have HNO := Lib.hid (snname_no HS.out.sn i (by rw [← HLE.out]; exact hout) (by omega) (by omega))
                  rcases hout with h | h
                  · go_wp2_with (go_at_call 12; (with_reducible refine HNO.out.mono ?_); rintro e w' ⟨rfl, hw⟩; subst hw)
                    exact ⟨⟨i + 1, ⟨q.p, sv3, nv3, ib3, gb3⟩, rfl, by omega, by omega, rfl, HS⟩, by simp [intOf]; omega⟩
                  · have h2 : ¬ i < 0 := by omega
                    go_wp2_with (go_at_call 12; (with_reducible refine HNO.out.mono ?_); rintro e w' ⟨rfl, hw⟩; subst hw)
                    exact ⟨⟨i + 1, ⟨q.p, sv3, nv3, ib3, gb3⟩, rfl, by omega, by omega, rfl, HS⟩, by simp [intOf]; omega⟩
                · obtain ⟨j, rfl⟩ : ∃ j : Nat, i = (j : Int) := ⟨i.toNat, by omega⟩
                  have hjL : j < L := by omega
                  obtain ⟨l, hl⟩ : ∃ l, s.nms[j]? = some l := ⟨_, List.getElem?_eq_getElem (by rw [← HLE.out]; exact hjL)⟩
                  obtain ⟨gn, fn, han, hg1, hg2, hcn⟩ := HGN.out j l hl
                  subst han
                  have hcj : wr.cell? ⟨gn, fn + j, none⟩ = some (.string (bs l)) := (HS.out.cell (by omega) hg2).1.trans hcn
                  have HYE9 := Lib.hid (snname_yes HS.out.sn j hl)
                  clear hcn hl hout hle
                  go_wp2_with (go_at_call 12; (with_reducible refine HYE9.out.mono ?_); rintro e w' ⟨rfl, hw⟩; subst hw)
                  exact ⟨⟨(j : Int) + 1, ⟨q.p, sv3, nv3, ib3, gb3⟩, rfl, by omega, by omega, rfl, HS⟩, by simp [intOf]; omega⟩
              · have h3 : (L : Int) < i := by omega
                go_wp2_with (go_at_call 5; (refine (KN.out _ HS.out.b).mono ?_); rintro e w9 ⟨rfl, hb⟩; have HBB := Lib.hid (HS.out.b.trans (hb.mono HS.out.b.size)); clear hb)
                go_ret
                exact ⟨rfl, HBB.out⟩
          · skip
            subst hfc
            clear HPOS
            go_upto_region 23 with (go_at_call 10; (with_reducible refine (rs_getz HS9.out HKW.out (fun V hV => (HTT.out V hV).2) rfl).mono ?_); rintro e w10 ⟨rfl, q10, hq10, hs10, hz10⟩; rw [HST.out] at hs10; have HS10 := Lib.hid hs10; have HY10 : Hid (w10.heap[y]? = some (.cells #[.int .i64 0, .int .i64 s.pos, .int .i32 s.val, .int .i64 s.id, .string s.txt] 32 (0, 0))) := Lib.hid ((hz10 y hyW HAY.out).trans HY.out); clear hs10 hz10 c51 c52 c53 y0 y1)
            obtain ⟨p10, sv2, nv2, ib2, gb2⟩ := q10
            obtain rfl : p10 = q.p := hq10
            have h10 : W2.heap.size ≤ w10.heap.size := HS10.out.sz
            have hy10 : y < w10.heap.size := (Array.getElem?_eq_some_iff.1 HY10.out).1
            have HCX : Hid (∀ V, Below w10.heap.size w10 V → V.cell? ⟨p5, 1, none⟩ = some (.slice AN L cn) ∧ V.cell? ⟨y, 0, none⟩ = some (.int .i64 0) ∧ V.cell? ⟨y, 1, none⟩ = some (.int .i64 s.pos) ∧ V.cell? ⟨y, 2, none⟩ = some (.int .i32 s.val) ∧ V.cell? ⟨y, 3, none⟩ = some (.int .i64 s.id) ∧ V.cell? ⟨y, 4, none⟩ = some (.string s.txt)) := Lib.hid fun V hV =>
              ⟨(hV.cell (show p5 < w10.heap.size by omega)).trans ((HS10.out.cell hp67 (by omega)).1.trans (qblock_cell HP.out rfl).1), (hV.cell (show y < w10.heap.size from hy10)).trans (qblock_cell HY10.out rfl).1, (hV.cell (show y < w10.heap.size from hy10)).trans (qblock_cell HY10.out rfl).1, (hV.cell (show y < w10.heap.size from hy10)).trans (qblock_cell HY10.out rfl).1, (hV.cell (show y < w10.heap.size from hy10)).trans (qblock_cell HY10.out rfl).1, (hV.cell (show y < w10.heap.size from hy10)).trans (qblock_cell HY10.out rfl).1⟩
            have HSd := Lib.hid (HS10.out.next (Below.refl _ _).drew)
            have B3 : Below w10.heap.size w10 w10.drew := (Below.refl _ _).drew
            obtain ⟨d1, d0, d2, d3, d4, d5⟩ := HCX.out _ B3
            have hes := eq_sym 0 s.pos s.val s.id s.txt
            have hgs := guard_sym
            clear HS9 HY HAY hyW h99
            go_region_held3 (fun V => Below w10.heap.size w10 V ∧ V.cell? ⟨p5, 1, none⟩ = some (.slice AN L cn) ∧ V.cell? ⟨y, 0, none⟩ = some (.int .i64 0) ∧ V.cell? ⟨y, 1, none⟩ = some (.int .i64 s.pos) ∧ V.cell? ⟨y, 2, none⟩ = some (.int .i32 s.val) ∧ V.cell? ⟨y, 3, none⟩ = some (.int .i64 s.id) ∧ V.cell? ⟨y, 4, none⟩ = some (.string s.txt))
              (first | exact ⟨by assumption, by assumption, by assumption, by assumption, by assumption, by assumption, by assumption⟩ | go_keep)
              ((first
                | (go_at_call 8; refine (rs_sym HSd.out rfl).mono ?_; rintro e v1 ⟨he, hb⟩; rw [HSY.out] at he; subst he; have B4 : Below w10.heap.size w10 v1 := B3.trans hb; have HS1 := Lib.hid (HS10.out.next B4); obtain ⟨e1, e0, e2, e3, e4, e5⟩ := HCX.out _ B4; clear hb)
                | (go_at_call 11; refine (snnames_any HS1.out.sn).mono ?_; rintro e v2 ⟨he, hw⟩; rw [← HLE.out] at he; subst he; subst hw)))
            clear hes hgs HCX HSd d0 d1 d2 d3 d4 d5 HY10 hy10
            go_wp2_with fail
            go_loopw [12] (fun iv wr => ∃ (i : Int) (q' : Sp), iv = .int .i64 i ∧ -1 ≤ i ∧ i ≤ (L : Int) + 1 ∧ q'.p = q.p ∧ Hid (Rs w W2 w5.heap.size w6.heap.size wr q' s)) (fun iv _ => ((L : Int) + 1 - intOf iv).toNat)
            case atStart => exact ⟨-1, ⟨q.p, sv2, nv2, ib2, gb2⟩, rfl, by omega, by omega, rfl, HS1⟩
            case round =>
              clear HS1 HS10
              obtain ⟨i, q', rfl, hi1, hi2, hqp, HS⟩ := hrel
              obtain ⟨p', sv3, nv3, ib3, gb3⟩ := q'
              obtain rfl : p' = q.p := hqp
              have hwl : W2.heap.size ≤ wr.heap.size := HS.out.sz
              have c51 : wr.cell? ⟨p5, 1, none⟩ = some (.slice AN L cn) := (HS.out.cell hp67 (by omega)).1.trans (qblock_cell HP.out rfl).1
              by_cases hle : i ≤ (L : Int)
              · by_cases hout : i < 0 ∨ (L : Int) ≤ i
                · have HNO := Lib.hid (snname_no HS.out.sn i (by rw [← HLE.out]; exact hout) (by omega) (by omega))
                  rcases hout with h | h
                  · go_wp2_with (go_at_call 12; (with_reducible refine HNO.out.mono ?_); rintro e w' ⟨rfl, hw⟩; subst hw)
                    exact ⟨⟨i + 1, ⟨q.p, sv3, nv3, ib3, gb3⟩, rfl, by omega, by omega, rfl, HS⟩, by simp [intOf]; omega⟩
                  · have h2 : ¬ i < 0 := by omega
                    go_wp2_with (go_at_call 12; (with_reducible refine HNO.out.mono ?_); rintro e w' ⟨rfl, hw⟩; subst hw)
                    exact ⟨⟨i + 1, ⟨q.p, sv3, nv3, ib3, gb3⟩, rfl, by omega, by omega, rfl, HS⟩, by simp [intOf]; omega⟩
                · obtain ⟨j, rfl⟩ : ∃ j : Nat, i = (j : Int) := ⟨i.toNat, by omega⟩
                  have hjL : j < L := by omega
                  obtain ⟨l, hl⟩ : ∃ l, s.nms[j]? = some l := ⟨_, List.getElem?_eq_getElem (by rw [← HLE.out]; exact hjL)⟩
                  obtain ⟨gn, fn, han, hg1, hg2, hcn⟩ := HGN.out j l hl
                  subst han
                  have hcj : wr.cell? ⟨gn, fn + j, none⟩ = some (.string (bs l)) := (HS.out.cell (by omega) hg2).1.trans hcn
                  have HYE9 := Lib.hid (snname_yes HS.out.sn j hl)
                  clear hcn hl hout hle
                  go_wp2_with (go_at_call 12; (with_reducible refine HYE9.out.mono ?_); rintro e w' ⟨rfl, hw⟩; subst hw)
                  exact ⟨⟨(j : Int) + 1, ⟨q.p, sv3, nv3, ib3, gb3⟩, rfl, by omega, by omega, rfl, HS⟩, by simp [intOf]; omega⟩
              · have h3 : (L : Int) < i := by omega
                go_wp2_with (go_at_call 5; (refine (KN.out _ HS.out.b).mono ?_); rintro e w9 ⟨rfl, hb⟩; have HBB := Lib.hid (HS.out.b.trans (hb.mono HS.out.b.size)); clear hb)
                go_ret
                exact ⟨rfl, HBB.out⟩
    · obtain ⟨g5, f5, c5', e5, hg5, hg6⟩ := hw5.form h0
      obtain ⟨rfl, rfl⟩ : A5 = some ⟨g5, f5, none⟩ ∧ c5 = c5' := by injection e5 with e1 e2 e3; exact ⟨e1, e3⟩
      have hb52 : Below w5.heap.size w5 W2 := HB6.out.trans (HB7X.out.mono h56)
      have hc5 : W2.cell? ⟨g5, f5, none⟩ = some (.int .u8 (nth z0 0)) := by
        rw [hb52.cell hg6]
        have := (hw5.cell 0 (by omega)).1
        rw [Nat.add_zero] at this
        unfold valsOf at this
        rw [this, List.getElem?_map, List.getElem?_eq_getElem (by rw [HZL.out]; exact h0), nth_eq z0 0 (by rw [HZL.out]; exact h0)]; rfl
      have hz5 : W2.frozen? ⟨g5, f5, none⟩ = false := by
        have := (hw5.cell 0 (by omega)).2
        rw [Nat.add_zero] at this
        rw [World.frozen?_of_block (hb52.block g5 hg6)]
        exact this
      have hd0 : decide (0 < len0) = true := by simp; omega
      have hd1 : decide ((0 : Int) < (len0 : Int)) = true := by simp; omega
      have H00 := Lib.hid h0
      clear h0
      go_upto_region 9 with (fail)
      clear hd0 hd1
      refine wp_gen (fun V => Rs w W2 w5.heap.size w6.heap.size V q (stp u 1)) ?c1 ?c2
      case c1 => exact ⟨HRS.out.b.setCell (p := ⟨g5, f5, none⟩) hg5 _, h5, HRS.out.sn.keep (by rw [snsize_setCell]; exact Nat.le_refl _) (fun k hk hBk _ => Below.heap_setCell _ _ _ _ (show k ≠ g5 by omega)), by rw [snsize_setCell]; exact Nat.le_refl _, fun z h1 h2 => ⟨(HRS.out.k z h1 h2).1, Below.heap_setCell _ _ _ _ (show z ≠ g5 by omega)⟩⟩
      rintro W3 hs3
      have HS := Lib.hid hs3
      clear hcv1 hcv2 hw5 hs3 hc5 hz5 hb52
      go_wp2_with fail
      go_loopw [6] (fun iv wr => ∃ (i : Nat) (q' : Sp), iv = .int .i64 (i : Int) ∧ i ≤ M ∧ q'.p = q.p ∧ Hid (Rs w W2 w5.heap.size w6.heap.size wr q' (stp u (i + 1)))) (fun iv _ => M - (intOf iv).toNat)
      case atStart => exact ⟨0, q, rfl, by omega, rfl, HS⟩
      case round =>
        clear HS
        obtain ⟨i, q', rfl, hi, hqp, HS⟩ := hrel
        obtain ⟨p', sv, nv', ibq, gbq⟩ := q'
        obtain rfl : p' = q.p := hqp
        have hwr : W2.heap.size ≤ wr.heap.size := HS.out.sz
        by_cases hlt : i < M
        · skip
          have c50 : wr.cell? ⟨p5, 0, none⟩ = some (.slice AV M cv) := (HS.out.cell hp67 (by omega)).1.trans (qblock_cell HP.out rfl).1
          obtain ⟨g, f, hav, hg1, hg2, hcell⟩ := HVC.out i hlt
          subst hav
          obtain ⟨x0, x1, x2, x3, x4⟩ := sym_cells (fun o ho => ((HS.out.cell (by omega) hg2).1.trans (hcell o ho)))
          obtain ⟨hce1, hce2⟩ := all_ok HA0.out HFT.out HSD.out i (by rw [← HME.out]; exact hlt)
          have hkw := (HFT.out.stp (i + 1)).kw
          obtain ⟨s, hs⟩ : ∃ s, s = stp u (i + 1) := ⟨_, rfl⟩
          rw [← hs] at HS x0 x1 x2 x3 x4 hce1 hce2 hkw
          have HSE := Lib.hid hs
          have HC1 := Lib.hid hce1
          have HC2 := Lib.hid hce2
          have HKW := Lib.hid hkw
          have HCX : Hid (∀ V, Below wr.heap.size wr V → V.cell? ⟨p5, 0, none⟩ = some (.slice (some ⟨g, f, none⟩) M cv) ∧ V.cell? ⟨g, f + i * 5, none⟩ = some (.int .i64 s.sym) ∧ V.cell? ⟨g, f + i * 5 + 1, none⟩ = some (.int .i64 s.pos) ∧ V.cell? ⟨g, f + i * 5 + 2, none⟩ = some (.int .i32 s.val) ∧ V.cell? ⟨g, f + i * 5 + 3, none⟩ = some (.int .i64 s.id) ∧ V.cell? ⟨g, f + i * 5 + 4, none⟩ = some (.string s.txt)) := Lib.hid fun V hV =>
            ⟨(hV.cell (show p5 < wr.heap.size by omega)).trans c50, (hV.cell (show g < wr.heap.size by omega)).trans x0, (hV.cell (show g < wr.heap.size by omega)).trans x1, (hV.cell (show g < wr.heap.size by omega)).trans x2, (hV.cell (show g < wr.heap.size by omega)).trans x3, (hV.cell (show g < wr.heap.size by omega)).trans x4⟩
          have HSd := Lib.hid (HS.out.next (Below.refl _ _).drew)
          have B3 : Below wr.heap.size wr wr.drew := (Below.refl _ _).drew
          obtain ⟨d0, d1, d2, d3, d4, d5⟩ := HCX.out _ B3
          have hes := eq_sym s.sym s.pos s.val s.id s.txt
          have hgs := guard_sym
          clear hs hce1 hce2 hkw hcell
          go_upto_region 12 with (fail)
          go_region_held3 (fun V => Below wr.heap.size wr V ∧ V.cell? ⟨p5, 0, none⟩ = some (.slice (some ⟨g, f, none⟩) M cv) ∧ V.cell? ⟨g, f + i * 5, none⟩ = some (.int .i64 s.sym) ∧ V.cell? ⟨g, f + i * 5 + 1, none⟩ = some (.int .i64 s.pos) ∧ V.cell? ⟨g, f + i * 5 + 2, none⟩ = some (.int .i32 s.val) ∧ V.cell? ⟨g, f + i * 5 + 3, none⟩ = some (.int .i64 s.id) ∧ V.cell? ⟨g, f + i * 5 + 4, none⟩ = some (.string s.txt))
            (first | exact ⟨by assumption, by assumption, by assumption, by assumption, by assumption, by assumption, by assumption⟩ | go_keep)
            ((go_at_call 8; refine (rs_sym HSd.out rfl).mono ?_; rintro e v1 ⟨he, hb⟩; subst he; have B4 : Below wr.heap.size wr v1 := B3.trans hb; have HS1 := Lib.hid (HS.out.next B4); obtain ⟨e0, e1, e2, e3, e4, e5⟩ := HCX.out _ B4; clear hb))
          go_wp2_with (first
            | (go_at_call 9; (with_reducible refine (rs_err HS1.out rfl).mono ?_); rintro e w8 ⟨rfl, hb⟩; rw [HC1.out, HC2.out]; have HS2 := Lib.hid (HS1.out.next hb); clear hb)
            | (go_at_call 10; (with_reducible refine (rs_get HS2.out HKW.out (fun V hV => (HTT.out V hV).2) rfl).mono ?_); rintro e w9 ⟨rfl, q9, hq9, hs9⟩; have HS9 := Lib.hid hs9; clear hs9))
          have HS10 := HS9.out
          rw [HSE.out] at HS10
          exact ⟨⟨i + 1, q9, by simp, by omega, hq9, Lib.hid HS10⟩, by simp [intOf]; omega⟩
        · obtain rfl : i = M := by omega
          have c50 : wr.cell? ⟨p5, 0, none⟩ = some (.slice AV i cv) := (HS.out.cell hp67 (by omega)).1.trans (qblock_cell HP.out rfl).1
          have e9 : stp u (i + 1) = stp u (m + 1) := by rw [HME.out]; exact all_state HA0.out HSD.out
          rw [e9] at HS
          have hkw := (HFT.out.stp (m + 1)).kw
          have hok := HOK.out (m + 1)
          have hst := end_stay HA0.out HSD.out
          have hsy := HSD.out.f
          obtain ⟨s, hs⟩ : ∃ s, s = stp u (m + 1) := ⟨_, rfl⟩
          rw [← hs] at HS hkw hok hst hsy HFC HFE HLE
          have hgN : ∀ j l, s.nms[j]? = some l → ∃ g f, AN = some ⟨g, f, none⟩ ∧ w6.heap.size + 1 ≤ g ∧ g < W2.heap.size ∧ W2.cell? ⟨g, f + j, none⟩ = some (.string (bs l)) := by
            rw [hs]; exact HNC.out
          have HGN := Lib.hid hgN
          have HKW := Lib.hid hkw
          have HOK9 := Lib.hid hok
          have HST := Lib.hid hst
          have HSY := Lib.hid hsy
          clear e9 hs hkw hok hst hsy hgN hi hlt HME HVC
          go_upto_region 20 with (first
            | (go_at_call 9; (with_reducible refine (rs_err HS.out rfl).mono ?_); rintro e w8 ⟨rfl, hb⟩; rw [← HFC.out, ← HFE.out]; have HS8 := Lib.hid (HS.out.next hb); clear hb)
            | (go_at_call 8; (with_reducible refine (rs_sym HS8.out rfl).mono ?_); rintro e w9 ⟨rfl, hb⟩; rw [HSY.out]; have HS9 := Lib.hid (HS8.out.next hb); have HAY := Lib.hid (HS9.out.sn.far (Nat.le_refl _)); clear hb)
            | (with_reducible refine wpList_store_row rfl 32 _ _ rfl w9.heap.size #[.int .i64 0, .int .i64 s.pos, .int .i32 s.val, .int .i64 s.id, .string s.txt] rfl rfl 32 _ (heap_alloc_new w9 _) (ysize 0 s.pos s.val s.id s.txt) rfl (by simp [Value.oneCell']) ?_))
          have HY : Hid (((w9.alloc (.cells #[.int .i64 0, .int .i64 0, .int .i32 0, .int .i64 0, .string ⟨#[]⟩] 32)).setRow w9.heap.size #[.int .i64 0, .int .i64 s.pos, .int .i32 s.val, .int .i64 s.id, .string s.txt]).heap[w9.heap.size]? = some (.cells #[.int .i64 0, .int .i64 s.pos, .int .i32 s.val, .int .i64 s.id, .string s.txt] 32 (0, 0))) := Lib.hid (snsetRow_heap _ _ _ _ _ _ (heap_alloc_new w9 _))
          have HB9 : Hid (Below w9.heap.size w9 ((w9.alloc (.cells #[.int .i64 0, .int .i64 0, .int .i32 0, .int .i64 0, .string ⟨#[]⟩] 32)).setRow w9.heap.size #[.int .i64 0, .int .i64 s.pos, .int .i32 s.val, .int .i64 s.id, .string s.txt])) := Lib.hid (snbelow_setRow ((Below.refl _ _).alloc (Nat.le_refl _) _) (Nat.le_refl _) _)
          have hyW : w9.heap.size < ((w9.alloc (.cells #[.int .i64 0, .int .i64 0, .int .i32 0, .int .i64 0, .string ⟨#[]⟩] 32)).setRow w9.heap.size #[.int .i64 0, .int .i64 s.pos, .int .i32 s.val, .int .i64 s.id, .string s.txt]).heap.size := by simp
          generalize (w9.alloc (.cells #[.int .i64 0, .int .i64 0, .int .i32 0, .int .i64 0, .string ⟨#[]⟩] 32)).setRow w9.heap.size #[.int .i64 0, .int .i64 s.pos, .int .i32 s.val, .int .i64 s.id, .string s.txt] = W9 at HY HB9 hyW ⊢
          replace HS9 := Lib.hid (HS9.out.next HB9.out)
          generalize w9.heap.size = y at HY hyW HAY ⊢
          clear HB9 c50 HS HS8
          have h99 : W2.heap.size ≤ W9.heap.size := HS9.out.sz
          have c52 : W9.cell? ⟨p5, 2, none⟩ = some (.int .i64 fc) := (HS9.out.cell hp67 (by omega)).1.trans (qblock_cell HP.out rfl).1
          have c53 : W9.cell? ⟨p5, 3, none⟩ = some (.int .i64 fe) := (HS9.out.cell hp67 (by omega)).1.trans (qblock_cell HP.out rfl).1
          have c51 : W9.cell? ⟨p5, 1, none⟩ = some (.slice AN L cn) := (HS9.out.cell hp67 (by omega)).1.trans (qblock_cell HP.out rfl).1
          have y0 : W9.cell? ⟨y, 0, none⟩ = some (.int .i64 0) := (qblock_cell HY.out rfl).1
          have y1 : W9.cell? ⟨y, 1, none⟩ = some (.int .i64 s.pos) := (qblock_cell HY.out rfl).1
          have HPOS : fc ≠ 0 → s.pos = fe := fun h => by
            rw [HFE.out]
            exact (HOK9.out (by rw [← HFC.out]; exact h)).2
          have HSYM : Hid (∀ V, Rs w W2 w5.heap.size w6.heap.size V ⟨q.p, sv, nv', ibq, gbq⟩ s → True) := Lib.hid fun _ _ => trivial
          clear HSYM
          by_cases hfc : fc = 0
          rotate_left
          · skip
            have hp0 := HPOS hfc
            rw [hp0] at y1
            have hfcb : (fc != 0) = true := by simpa using hfc
            clear hp0 HPOS hfc
            go_upto_region 23 with (go_at_call 10; (with_reducible refine (rs_getz HS9.out HKW.out (fun V hV => (HTT.out V hV).2) rfl).mono ?_); rintro e w10 ⟨rfl, q10, hq10, hs10, hz10⟩; rw [HST.out] at hs10; have HS10 := Lib.hid hs10; have HY10 : Hid (w10.heap[y]? = some (.cells #[.int .i64 0, .int .i64 s.pos, .int .i32 s.val, .int .i64 s.id, .string s.txt] 32 (0, 0))) := Lib.hid ((hz10 y hyW HAY.out).trans HY.out); clear hs10 hz10 c51 c52 c53 y0 y1)
            obtain ⟨p10, sv2, nv2, ib2, gb2⟩ := q10
            obtain rfl : p10 = q.p := hq10
            have h10 : W2.heap.size ≤ w10.heap.size := HS10.out.sz
            have hy10 : y < w10.heap.size := (Array.getElem?_eq_some_iff.1 HY10.out).1
            have HCX : Hid (∀ V, Below w10.heap.size w10 V → V.cell? ⟨p5, 1, none⟩ = some (.slice AN L cn) ∧ V.cell? ⟨y, 0, none⟩ = some (.int .i64 0) ∧ V.cell? ⟨y, 1, none⟩ = some (.int .i64 s.pos) ∧ V.cell? ⟨y, 2, none⟩ = some (.int .i32 s.val) ∧ V.cell? ⟨y, 3, none⟩ = some (.int .i64 s.id) ∧ V.cell? ⟨y, 4, none⟩ = some (.string s.txt)) := Lib.hid fun V hV =>
              ⟨(hV.cell (show p5 < w10.heap.size by omega)).trans ((HS10.out.cell hp67 (by omega)).1.trans (qblock_cell HP.out rfl).1), (hV.cell (show y < w10.heap.size from hy10)).trans (qblock_cell HY10.out rfl).1, (hV.cell (show y < w10.heap.size from hy10)).trans (qblock_cell HY10.out rfl).1, (hV.cell (show y < w10.heap.size from hy10)).trans (qblock_cell HY10.out rfl).1, (hV.cell (show y < w10.heap.size from hy10)).trans (qblock_cell HY10.out rfl).1, (hV.cell (show y < w10.heap.size from hy10)).trans (qblock_cell HY10.out rfl).1⟩
            have HSd := Lib.hid (HS10.out.next (Below.refl _ _).drew)
            have B3 : Below w10.heap.size w10 w10.drew := (Below.refl _ _).drew
            obtain ⟨d1, d0, d2, d3, d4, d5⟩ := HCX.out _ B3
            have hes := eq_sym 0 s.pos s.val s.id s.txt
            have hgs := guard_sym
            clear HS9 HY HAY hyW h99
            go_region_held3 (fun V => Below w10.heap.size w10 V ∧ V.cell? ⟨p5, 1, none⟩ = some (.slice AN L cn) ∧ V.cell? ⟨y, 0, none⟩ = some (.int .i64 0) ∧ V.cell? ⟨y, 1, none⟩ = some (.int .i64 s.pos) ∧ V.cell? ⟨y, 2, none⟩ = some (.int .i32 s.val) ∧ V.cell? ⟨y, 3, none⟩ = some (.int .i64 s.id) ∧ V.cell? ⟨y, 4, none⟩ = some (.string s.txt))
              (first | exact ⟨by assumption, by assumption, by assumption, by assumption, by assumption, by assumption, by assumption⟩ | go_keep)
              ((first
                | (go_at_call 8; refine (rs_sym HSd.out rfl).mono ?_; rintro e v1 ⟨he, hb⟩; rw [HSY.out] at he; subst he; have B4 : Below w10.heap.size w10 v1 := B3.trans hb; have HS1 := Lib.hid (HS10.out.next B4); obtain ⟨e1, e0, e2, e3, e4, e5⟩ := HCX.out _ B4; clear hb)
                | (go_at_call 11; refine (snnames_any HS1.out.sn).mono ?_; rintro e v2 ⟨he, hw⟩; rw [← HLE.out] at he; subst he; subst hw)))
            clear hes hgs HCX HSd d0 d1 d2 d3 d4 d5 HY10 hy10
            go_wp2_with fail
            go_loopw [12] (fun iv wr => ∃ (i : Int) (q' : Sp), iv = .int .i64 i ∧ -1 ≤ i ∧ i ≤ (L : Int) + 1 ∧ q'.p = q.p ∧ Hid (Rs w W2 w5.heap.size w6.heap.size wr q' s)) (fun iv _ => ((L : Int) + 1 - intOf iv).toNat)
            case atStart => exact ⟨-1, ⟨q.p, sv2, nv2, ib2, gb2⟩, rfl, by omega, by omega, rfl, HS1⟩
            case round =>
              clear HS1 HS10
              obtain ⟨i, q', rfl, hi1, hi2, hqp, HS⟩ := hrel
              obtain ⟨p', sv3, nv3, ib3, gb3⟩ := q'
              obtain rfl : p' = q.p := hqp
              have hwl : W2.heap.size ≤ wr.heap.size := HS.out.sz
              have c51 : wr.cell? ⟨p5, 1, none⟩ = some (.slice AN L cn) := (HS.out.cell hp67 (by omega)).1.trans (qblock_cell HP.out rfl).1
              by_cases hle : i ≤ (L : Int)
              · by_cases hout : i < 0 ∨ (L : Int) ≤ i
                · have HNO := Lib.hid (snname_no HS.out.sn i (by rw [← HLE.out]; exact hout) (by omega) (by omega))
                  rcases hout with h | h
                  · go_wp2_with (go_at_call 12; (with_reducible refine HNO.out.mono ?_); rintro e w' ⟨rfl, hw⟩; subst hw)
                    exact ⟨⟨i + 1, ⟨q.p, sv3, nv3, ib3, gb3⟩, rfl, by omega, by omega, rfl, HS⟩, by simp [intOf]; omega⟩
                  · have h2 : ¬ i < 0 := by omega
                    go_wp2_with (go_at_call 12; (with_reducible refine HNO.out.mono ?_); rintro e w' ⟨rfl, hw⟩; subst hw)
                    exact ⟨⟨i + 1, ⟨q.p, sv3, nv3, ib3, gb3⟩, rfl, by omega, by omega, rfl, HS⟩, by simp [intOf]; omega⟩
                · obtain ⟨j, rfl⟩ : ∃ j : Nat, i = (j : Int) := ⟨i.toNat, by omega⟩
                  have hjL : j < L := by omega
                  obtain ⟨l, hl⟩ : ∃ l, s.nms[j]? = some l := ⟨_, List.getElem?_eq_getElem (by rw [← HLE.out]; exact hjL)⟩
                  obtain ⟨gn, fn, han, hg1, hg2, hcn⟩ := HGN.out j l hl
                  subst han
                  have hcj : wr.cell? ⟨gn, fn + j, none⟩ = some (.string (bs l)) := (HS.out.cell (by omega) hg2).1.trans hcn
                  have HYE9 := Lib.hid (snname_yes HS.out.sn j hl)
                  clear hcn hl hout hle
                  go_wp2_with (go_at_call 12; (with_reducible refine HYE9.out.mono ?_); rintro e w' ⟨rfl, hw⟩; subst hw)
                  exact ⟨⟨(j : Int) + 1, ⟨q.p, sv3, nv3, ib3, gb3⟩, rfl, by omega, by omega, rfl, HS⟩, by simp [intOf]; omega⟩
              · have h3 : (L : Int) < i := by omega
                go_wp2_with (go_at_call 5; (refine (KN.out _ HS.out.b).mono ?_); rintro e w9 ⟨rfl, hb⟩; have HBB := Lib.hid (HS.out.b.trans (hb.mono HS.out.b.size)); clear hb)
                go_ret
                exact ⟨rfl, HBB.out⟩
          · skip
            subst hfc
            clear HPOS
            go_upto_region 23 with (go_at_call 10; (with_reducible refine (rs_getz HS9.out HKW.out (fun V hV => (HTT.out V hV).2) rfl).mono ?_); rintro e w10 ⟨rfl, q10, hq10, hs10, hz10⟩; rw [HST.out] at hs10; have HS10 := Lib.hid hs10; have HY10 : Hid (w10.heap[y]? = some (.cells #[.int .i64 0, .int .i64 s.pos, .int .i32 s.val, .int .i64 s.id, .string s.txt] 32 (0, 0))) := Lib.hid ((hz10 y hyW HAY.out).trans HY.out); clear hs10 hz10 c51 c52 c53 y0 y1)
            obtain ⟨p10, sv2, nv2, ib2, gb2⟩ := q10
            obtain rfl : p10 = q.p := hq10
            have h10 : W2.heap.size ≤ w10.heap.size := HS10.out.sz
            have hy10 : y < w10.heap.size := (Array.getElem?_eq_some_iff.1 HY10.out).1
            have HCX : Hid (∀ V, Below w10.heap.size w10 V → V.cell? ⟨p5, 1, none⟩ = some (.slice AN L cn) ∧ V.cell? ⟨y, 0, none⟩ = some (.int .i64 0) ∧ V.cell? ⟨y, 1, none⟩ = some (.int .i64 s.pos) ∧ V.cell? ⟨y, 2, none⟩ = some (.int .i32 s.val) ∧ V.cell? ⟨y, 3, none⟩ = some (.int .i64 s.id) ∧ V.cell? ⟨y, 4, none⟩ = some (.string s.txt)) := Lib.hid fun V hV =>
              ⟨(hV.cell (show p5 < w10.heap.size by omega)).trans ((HS10.out.cell hp67 (by omega)).1.trans (qblock_cell HP.out rfl).1), (hV.cell (show y < w10.heap.size from hy10)).trans (qblock_cell HY10.out rfl).1, (hV.cell (show y < w10.heap.size from hy10)).trans (qblock_cell HY10.out rfl).1, (hV.cell (show y < w10.heap.size from hy10)).trans (qblock_cell HY10.out rfl).1, (hV.cell (show y < w10.heap.size from hy10)).trans (qblock_cell HY10.out rfl).1, (hV.cell (show y < w10.heap.size from hy10)).trans (qblock_cell HY10.out rfl).1⟩
            have HSd := Lib.hid (HS10.out.next (Below.refl _ _).drew)
            have B3 : Below w10.heap.size w10 w10.drew := (Below.refl _ _).drew
            obtain ⟨d1, d0, d2, d3, d4, d5⟩ := HCX.out _ B3
            have hes := eq_sym 0 s.pos s.val s.id s.txt
            have hgs := guard_sym
            clear HS9 HY HAY hyW h99
            go_region_held3 (fun V => Below w10.heap.size w10 V ∧ V.cell? ⟨p5, 1, none⟩ = some (.slice AN L cn) ∧ V.cell? ⟨y, 0, none⟩ = some (.int .i64 0) ∧ V.cell? ⟨y, 1, none⟩ = some (.int .i64 s.pos) ∧ V.cell? ⟨y, 2, none⟩ = some (.int .i32 s.val) ∧ V.cell? ⟨y, 3, none⟩ = some (.int .i64 s.id) ∧ V.cell? ⟨y, 4, none⟩ = some (.string s.txt))
              (first | exact ⟨by assumption, by assumption, by assumption, by assumption, by assumption, by assumption, by assumption⟩ | go_keep)
              ((first
                | (go_at_call 8; refine (rs_sym HSd.out rfl).mono ?_; rintro e v1 ⟨he, hb⟩; rw [HSY.out] at he; subst he; have B4 : Below w10.heap.size w10 v1 := B3.trans hb; have HS1 := Lib.hid (HS10.out.next B4); obtain ⟨e1, e0, e2, e3, e4, e5⟩ := HCX.out _ B4; clear hb)
                | (go_at_call 11; refine (snnames_any HS1.out.sn).mono ?_; rintro e v2 ⟨he, hw⟩; rw [← HLE.out] at he; subst he; subst hw)))
            clear hes hgs HCX HSd d0 d1 d2 d3 d4 d5 HY10 hy10
            go_wp2_with fail
            go_loopw [12] (fun iv wr => ∃ (i : Int) (q' : Sp), iv = .int .i64 i ∧ -1 ≤ i ∧ i ≤ (L : Int) + 1 ∧ q'.p = q.p ∧ Hid (Rs w W2 w5.heap.size w6.heap.size wr q' s)) (fun iv _ => ((L : Int) + 1 - intOf iv).toNat)
            case atStart => exact ⟨-1, ⟨q.p, sv2, nv2, ib2, gb2⟩, rfl, by omega, by omega, rfl, HS1⟩
            case round =>
              clear HS1 HS10
              obtain ⟨i, q', rfl, hi1, hi2, hqp, HS⟩ := hrel
              obtain ⟨p', sv3, nv3, ib3, gb3⟩ := q'
              obtain rfl : p' = q.p := hqp
              have hwl : W2.heap.size ≤ wr.heap.size := HS.out.sz
              have c51 : wr.cell? ⟨p5, 1, none⟩ = some (.slice AN L cn) := (HS.out.cell hp67 (by omega)).1.trans (qblock_cell HP.out rfl).1
              by_cases hle : i ≤ (L : Int)
              · by_cases hout : i < 0 ∨ (L : Int) ≤ i
                · have HNO := Lib.hid (snname_no HS.out.sn i (by rw [← HLE.out]; exact hout) (by omega) (by omega))
                  rcases hout with h | h
                  · go_wp2_with (go_at_call 12; (with_reducible refine HNO.out.mono ?_); rintro e w' ⟨rfl, hw⟩; subst hw)
                    exact ⟨⟨i + 1, ⟨q.p, sv3, nv3, ib3, gb3⟩, rfl, by omega, by omega, rfl, HS⟩, by simp [intOf]; omega⟩
                  · have h2 : ¬ i < 0 := by omega
                    go_wp2_with (go_at_call 12; (with_reducible refine HNO.out.mono ?_); rintro e w' ⟨rfl, hw⟩; subst hw)
                    exact ⟨⟨i + 1, ⟨q.p, sv3, nv3, ib3, gb3⟩, rfl, by omega, by omega, rfl, HS⟩, by simp [intOf]; omega⟩
                · obtain ⟨j, rfl⟩ : ∃ j : Nat, i = (j : Int) := ⟨i.toNat, by omega⟩
                  have hjL : j < L := by omega
                  obtain ⟨l, hl⟩ : ∃ l, s.nms[j]? = some l := ⟨_, List.getElem?_eq_getElem (by rw [← HLE.out]; exact hjL)⟩
                  obtain ⟨gn, fn, han, hg1, hg2, hcn⟩ := HGN.out j l hl
                  subst han
                  have hcj : wr.cell? ⟨gn, fn + j, none⟩ = some (.string (bs l)) := (HS.out.cell (by omega) hg2).1.trans hcn
                  have HYE9 := Lib.hid (snname_yes HS.out.sn j hl)
                  clear hcn hl hout hle
                  go_wp2_with (go_at_call 12; (with_reducible refine HYE9.out.mono ?_); rintro e w' ⟨rfl, hw⟩; subst hw)
                  exact ⟨⟨(j : Int) + 1, ⟨q.p, sv3, nv3, ib3, gb3⟩, rfl, by omega, by omega, rfl, HS⟩, by simp [intOf]; omega⟩
              · have h3 : (L : Int) < i := by omega
                go_wp2_with (go_at_call 5; (refine (KN.out _ HS.out.b).mono ?_); rintro e w9 ⟨rfl, hb⟩; have HBB := Lib.hid (HS.out.b.trans (hb.mono HS.out.b.size)); clear hb)
                go_ret
                exact ⟨rfl, HBB.out⟩
theorem own : ownKnob Tryz.prog.godebug = none := by kernel_rfl
theorem laidOut : laidOutB Tryz.prog = true := by kernel_rfl
theorem gTab5 : Tryz.prog.globalNamed "strings.asciiSpace" = some 0 := by kernel_rfl
theorem gTab2 : Tryz.prog.globalNamed "internal/strconv.uint64pow10" = some 6 := by kernel_rfl
set_option maxRecDepth 1000000 in
theorem tables {W : World} (h0 : laidMetH Tryz.prog Rows.scanReadsRow.laid W) : Tab W := by
  rw [MakeChecks.laidMetH_plain _ _ _ (by kernel_rfl)] at h0
  have h : laidMet Tryz.prog Rows.scanReadsRow.laid W := h0
  exact ⟨Lib.tabIs_of_head (rest := _) gTab5 (by kernel_rfl) Tryz.underlying57 Tryz.underlying5 (by kernel_rfl) (by kernel_rfl) (laidMet.tail (laidMet.tail (laidMet.tail (laidMet.tail (laidMet.tail h))))), Lib.tabIs_of_head (rest := _) gTab2 (by kernel_rfl) Tryz.underlying153 Tryz.underlying118 (by kernel_rfl) (by kernel_rfl) (laidMet.tail (laidMet.tail h))⟩
set_option maxRecDepth 1000000 in
theorem contract (H : Type) (enc : TypeId × Value → H) (W : World) (base : Nat) (args : Array Value) (ds gs : List (DataW H)) (before : List MemPlace)
    (hval : ∀ (j : Nat) t v, Tryz.f3.params[j]? = some t → args[j]? = some v → Value.okWide Tryz.prog W .any base t v)
    (hW : DataW.Whole enc Tryz.prog Tryz.f3.params.toList Rows.scanReadsSpec.vars false W args.toList ds gs before) (hL : laidMetH Tryz.prog Rows.scanReadsRow.laid W) :
    Calls Tryz.prog 3 args W fun e W' => ∃ v, e = .returned v ∧ Rows.scanReadsSpec.post enc Tryz.prog Tryz.f3 false true false false W args v W' := by
  have hW' := hW
  obtain ⟨p, q, hA0, hV, rfl, hfz, hnd⟩ := hW
  have hA : DataW.TrodAll enc Tryz.prog W 0 (fun _ => true) true Tryz.f3.params.toList args.toList ds p := hA0
  rw [Tryz.params3] at hA hval
  obtain ⟨v0, vs0, d0, ds0, p0, q0, hargs, rfl, rfl, h0, r0⟩ := trodAll_cons hA
  obtain ⟨rfl, rfl, rfl⟩ := trodAll_nil r0
  obtain rfl : args = #[v0] := by cases args; simp_all
  obtain ⟨rfl, rfl⟩ := trodVars_none hV
  obtain ⟨a0, len0, cap0, rfl⟩ := okWide_slice Tryz.underlying22 (hval 0 22 v0 rfl rfl)
  have k0 := h0
  have lt0 : ∀ x ∈ p0, x.block < W.heap.size := by obtain ⟨m, hm⟩ := k0; exact DataW.trod_lt m _ _ _ hm
  obtain ⟨z0, w0⟩ := isRow_of Tryz.underlying22 Tryz.underlying5 (by kernel_rfl) h0
  clear hA0
  have hT := tables hL
  refine (walk a0 len0 cap0 z0 W w0 hT).mono fun e W' ⟨he, bel⟩ => ?_
  subst he
  exact ⟨_, rfl, _, _, _, [], _, [], hW', trodAll_mk1 (shut_bool Tryz.underlying4 _), (trodAll_cons_mk (Below.trod laidOut (by kernel_rfl) (of_decide_eq_true (by kernel_rfl)) k0 bel lt0) trodAll_mk0), rfl, bel.frame _, fun h => by cases h⟩
theorem witness_shaped {H : Type} {enc : TypeId × Value → H} {C : Checked} {os : Os} {f : FuncId} {fn : Func} {s : OpenSpec} {conds : List PathCond} {apart : Bool} {laid : List (String × DataW Unit)} (modest : Bool) (w0 : World) (args : Array Value) (hos : w0.os = os)
    (hsh : (w0.forCall (fun _ _ => 0) ⟨#[], args, []⟩).Shaped C.prog) (hok : Input.okWideB C.prog (w0.forCall (fun _ _ => 0) ⟨#[], args, []⟩) f ⟨#[], args, []⟩ = true)
    (hrow : s.preRow enc C.prog fn conds apart laid (w0.forCall (fun _ _ => 0) ⟨#[], args, []⟩).memory args) :
    ∃ (w : World) (tape : Tape) (i : Input), w.os = os ∧ (w.forCall tape i).Shaped C.prog ∧ i.vars = [] ∧ Input.okWide C.prog (w.forCall tape i) .any w.heap.size f i ∧
      s.preRow enc C.prog fn conds apart laid (w.forCall tape i).memory i.args ∧ ({ modest := modest } : Assume).holds C.prog (lone (Frame.enter C.prog f i.args .normal) [] (w.forCall tape i)) :=
  ⟨w0, fun _ _ => 0, ⟨#[], args, []⟩, hos, hsh, (Input.okWide_of_okWideB (base := 0) hok).1, (Input.okWide_of_okWideB hok).2, hrow, by
    simp only [Assume.holds]
    exact ⟨by simp, by simp, fun _ => Modest.zero, by simp, by simp⟩⟩
set_option maxRecDepth 1000000 in
theorem laid_met (os : Os) : laidMetH Tryz.prog Rows.scanReadsRow.laid ((World.laidAll Tryz.prog os Rows.scanReadsRow.laid).forCall (fun _ _ => 0) ⟨#[], #[.slice none 0 0], []⟩).memory := by
  rw [MakeChecks.laidMetH_plain _ _ _ (by kernel_rfl)]
  exact laidMet_laidAll _ (by kernel_rfl) (by kernel_rfl)
set_option maxRecDepth 1000000 in
theorem reads (os : Os) {H : Type} (enc : TypeId × Value → H) : ∃ places, DataW.whole enc Tryz.prog ((World.laidAll Tryz.prog os Rows.scanReadsRow.laid).forCall (fun _ _ => 0) ⟨#[], #[.slice none 0 0], []⟩).memory Tryz.f3.params.toList Rows.scanReadsSpec.vars false (#[.slice none 0 0] : Array Value).toList 8 = some ([.nil], [], places) := ⟨[], by kernel_rfl⟩
set_option maxRecDepth 1000000 in
theorem lifted (os : Os) (started : os.Started) (H : Type) (enc : TypeId × Value → H) (F : Stop.Interp) :
    ReturnsInHanded {} Tryz.checked os 3 .any ((OpenSpec.ofChange Rows.scanReadsSpec).preRow enc Tryz.prog Tryz.f3 Rows.scanReadsRow.domain false Rows.scanReadsRow.laid) (((OpenSpec.ofChange Rows.scanReadsSpec).at F).post enc Tryz.prog Tryz.f3 false true false false) := by
  obtain ⟨places, hx⟩ := reads os enc
  refine returnsInHanded_of_row (C := Tryz.checked) (s := OpenSpec.ofChange Rows.scanReadsSpec) own started (by kernel_rfl) Tryz.func3
    (witness_shaped (enc := enc) (C := Tryz.checked) false (World.laidAll Tryz.prog os Rows.scanReadsRow.laid) #[.slice none 0 0] (World.laidAll_os _ _ _) (World.shaped_of_ZipB (by kernel_rfl) (by kernel_rfl)) (by kernel_rfl)
      (OpenSpec.preRow_of_cond 8 hx (by kernel_rfl) (fun k hk => by cases hk) (by kernel_rfl) (laid_met os))) ?_
  intro W base args ds gs before hval hW _ _ _ hL _ _
  exact contract H enc W base args ds gs before hval hW hL
theorem said : Rows.ScanReadsSaid :=
  OpenClaim.holds_of_cond 3 Tryz.f3 rfl rfl rfl rfl rfl rfl rfl ⟨rfl, rfl, rfl, rfl, rfl⟩ rfl rfl rfl rfl rfl (by kernel_rfl) Tryz.func3 (by kernel_rfl)
    (of_decide_eq_true (by kernel_rfl)) (by unfold Func.isWrapper; first | (rw [if_pos (by decide +kernel)]; kernel_rfl) | (rw [if_neg (by decide +kernel)]; exact ⟨rfl, rfl⟩))
    (fun os started H enc _ F => by rw [OpenClaim.pre_eq_preRow]; exact lifted os started H enc F)
theorem plain (f : FuncId) (fn : Func) (hf : Tryz.pinned.checked.prog.funcNamed "selfsame/selfsamelaw11.ScanReads" = some f) (hfn : Tryz.pinned.checked.prog.funcs[f]? = some fn) :
    false = Tryz.pinned.checked.prog.looks [] ∧ ∀ (j : Nat) t, fn.params[j]? = some t → Tryz.pinned.checked.prog.wantsStandIn t = false := by
  obtain rfl : f = 3 := Option.some.inj ((show Tryz.prog.funcNamed "selfsame/selfsamelaw11.ScanReads" = some 3 by kernel_rfl).symm.trans hf) |>.symm
  obtain rfl : fn = Tryz.f3 := (Option.some.inj (Tryz.func3.symm.trans hfn)).symm
  refine ⟨by kernel_rfl, fun j t ht => ?_⟩
  rw [Tryz.params3] at ht
  have hm := Array.mem_of_getElem? ht
  simp only [List.mem_toArray, List.mem_cons, List.not_mem_nil, or_false] at hm
  rcases hm with rfl
  · exact (show Tryz.prog.wantsStandIn 22 = false by kernel_rfl)
theorem proved : Rows.ScanReadsCardSaid :=
  Claim7.holds_tied_plain_at .later [] _ _ _ _ said (fun _ h => by cases h) (by kernel_rfl) (fun _ h => by cases h) scanReads_row_tie rfl ⟨rfl, rfl⟩ (by kernel_rfl) rfl plain (by kernel_rfl)
end Go.Proofs.YthpdgghjaglhnaaGreatDoor.scanReads

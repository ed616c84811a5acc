/-
  TreeLooks: size, depth, walks, names, copies and sameness of any two nodes of at most 400 with all below them. No condition.
-/
import Derived.Test.YtkhbmamgfkpdbaaTreeME
import Derived.Test.YtkhbmamgfkpdbaaTreeK
import Derived.Test.YtkhbmamgfkpdbaaTreeP
import Derived.Test.YtkhbmamgfkpdbaaTreeZ
import Derived.Test.YtkhbmamgfkpdbaaTreeI
import Derived.Test.YtkhbmamgfkpdbaaTreeQ
import Derived.Test.YtkhbmamgfkpdbaaEvD

import Derived.Test.YtkhbmamgfkpdbaaRows
import Derived.Deep.RegionHeld3
import Derived.Deep.AppendLies
import Derived.Deep.Quiet
import Derived.WalkKit
import Derived.ProofKit
import Derived.OpenShut
import Derived.Deep.DeepHandedRow
import Derived.Carry
namespace Go.Proofs.Ytkhbmamgfkpdbaa.treeLooks
open Go.ChangeShapes Go.WideShapes Go.ChangeAt Go.RowKit
open Go.ChangeMaps (open_string shut_string)
set_option linter.unusedVariables false
theorem toList_inj {a b : ByteArray} (h : a.toList = b.toList) : a = b := by
  rw [ByteArray.toList_eq, ByteArray.toList_eq] at h
  exact Go.WideShapes.bytes_inj h
theorem rowN {W : World} {B : Nat} {u : Value} {N : List ByteArray} (h : W.ownsRow B 9 1 u N.length (N.map Value.string)) : ∃ a c, u = .slice a N.length c ∧ ∀ q (hq : q < N.length), ∃ g, a = some ⟨g, 0, none⟩ ∧ g < W.heap.size ∧ W.cell? ⟨g, q, none⟩ = some (.string N[q]) := by
  have h' := h
  rcases h.2 with ⟨h1, h2⟩ | ⟨g, cap, cur, rfl, hb, hg, -⟩
  · exact ⟨none, 0, by rw [h1, h2], fun q hq => by omega⟩
  · refine ⟨_, _, rfl, fun q hq => ⟨g, rfl, lt_blk hg, ?_⟩⟩
    have := h'.cells (g := g) rfl q (.string N[q]) (by simp [hq])
    rw [cell_add] at this
    exact this
theorem flatIs_of {w W W' : World} {g1 g2 n q1 q2 : Nat} {xs ys : List Value} {l : List (Tr × Int)} (hb : Below w.heap.size w W) (hb2 : Below W.heap.size W W') (h1 : W'.ownsRow W.heap.size 26 5 (.slice (some ⟨g1, 0, none⟩) n q1) n xs) (h2 : W'.ownsRow W.heap.size 3 1 (.slice (some ⟨g2, 0, none⟩) n q2) n ys) (hok : FlatOK w xs ys l) : FlatIs W' g1 g2 l :=
  ⟨(h1.lt g1 rfl).2, (h2.lt g2 rfl).2, fun i t d e => by
    obtain ⟨g, hy⟩ := hok.at_ i t d e
    refine ⟨kid_own h1 (g.imp fun u hu => reads_below (hb.trans (hb2.mono hb.size)) t u hu), ?_⟩
    have := h2.cells (g := g2) rfl _ _ hy
    rw [cell_add] at this
    exact this⟩
set_option maxHeartbeats 4000000 in
set_option maxRecDepth 100000 in
theorem walk (va : Value) (na : Nat) (vb : Value) (nb : Nat) (lv : Int) (w : World) (wa : At w na va) (wb : At w nb vb) (wl : (Lit.int .i64 lv).wf = true) : Calls Try.prog 3 #[va, vb, .int .i64 lv] w fun e w' => e = .returned (.bool true) ∧ Below w.heap.size w w' := by
  obtain ⟨t, ht⟩ := reads_of na va wa
  obtain ⟨t2, ht2⟩ := reads_of nb vb wb
  obtain ⟨k, s, v, m, a, l, c, rfl⟩ := nd_of ht
  obtain ⟨k2, s2, v2, m2, a2, l2, c2, rfl⟩ := nd_of ht2
  clear wa wb
  have HR := Lib.hid ht
  have HR2 := Lib.hid ht2
  clear ht ht2
  have HO := Lib.hid (CellsB.new w k s v m a l c 26 rfl)
  have HP := Lib.hid (CellsB.new (w.alloc (.cells #[.int .i64 k, .string s, .int .u32 v, .bool m, .slice a l c] 26)) k2 s2 v2 m2 a2 l2 c2 26 (b := w.heap.size + 1) (by simp))
  have hb0 : Below w.heap.size w ((w.alloc (.cells #[.int .i64 k, .string s, .int .u32 v, .bool m, .slice a l c] 26)).alloc (.cells #[.int .i64 k2, .string s2, .int .u32 v2, .bool m2, .slice a2 l2 c2] 26)) := (below1 w _).alloc (by simp) _
  have HB := Lib.hid hb0
  have HF1 := Lib.hid (fun V hV => few_any (W := V) HR.out hV)
  have HF2 := Lib.hid (fun V hV => few_any (W := V) HR2.out hV)
  have HO := Lib.hid (HO.out.next (below1 _ (.cells #[.int .i64 k2, .string s2, .int .u32 v2, .bool m2, .slice a2 l2 c2] 26)))
  clear hb0
  unfold nd at *
  by_cases hbig : 0 ≤ t.big 400
  rotate_left
  · rw [decide_eq_false hbig] at HF1
    go_enter Try.func3, Try.ntmps3
    go_wp2_with (first
    | (go_at_call 8; (with_reducible refine (HF1.out _ HB.out).mono ?_); rintro e w1 ⟨rfl, hb1⟩; replace HB := Lib.hid (HB.out.trans (hb1.mono HB.out.size)); clear hb1)
    | (go_at_call 9; refine (known15_any _).mono ?_; rintro e w2 ⟨rfl, hb1⟩; replace HB := Lib.hid (HB.out.trans (hb1.mono HB.out.size)); clear hb1))
    go_ret
    exact ⟨rfl, HB.out⟩
  rw [decide_eq_true hbig] at HF1
  by_cases hbig2 : 0 ≤ t2.big 400
  rotate_left
  · rw [decide_eq_false hbig2] at HF2
    go_enter Try.func3, Try.ntmps3
    go_wp2_with (first
    | (go_at_call 8; (first | (with_reducible refine (HF1.out _ HB.out).mono ?_) | (with_reducible refine (HF2.out _ HB.out).mono ?_)); rintro e w1 ⟨rfl, hb1⟩; replace HB := Lib.hid (HB.out.trans (hb1.mono HB.out.size)); replace HP := Lib.hid (HP.out.next hb1); obtain ⟨p0, p1, p2, p3, p4, -⟩ := HP.out; clear hb1)
    | (go_at_call 9; refine (known15_any _).mono ?_; rintro e w2 ⟨rfl, hb1⟩; replace HB := Lib.hid (HB.out.trans (hb1.mono HB.out.size)); clear hb1))
    go_ret
    exact ⟨rfl, HB.out⟩
  rw [decide_eq_true hbig2] at HF2
  have hcount : t.count ≤ 400 := by have := count_le t 400 hbig; omega
  have hcount2 : t2.count ≤ 400 := by have := count_le t2 400 hbig2; omega
  have hpos := count_pos t
  have HX := Lib.hid (flatT_all t _ HR.out)
  clear hbig hbig2
  go_enter Try.func3, Try.ntmps3
  go_wp2_with (first
    | (go_at_call 8; (first | (with_reducible refine (HF1.out _ HB.out).mono ?_) | (with_reducible refine (HF2.out _ HB.out).mono ?_)); rintro e w1 ⟨rfl, hb1⟩; replace HB := Lib.hid (HB.out.trans (hb1.mono HB.out.size)); replace HP := Lib.hid (HP.out.next hb1); replace HO := Lib.hid (HO.out.next hb1); (try clear c0 c1 c2 c3 c4 p0 p1 p2 p3 p4); obtain ⟨c0, c1, c2, c3, c4, -⟩ := HO.out; obtain ⟨p0, p1, p2, p3, p4, -⟩ := HP.out; clear hb1)
    | (go_at_call 9; refine (known15_any _).mono ?_; rintro e w2 ⟨rfl, hb1⟩; replace HB := Lib.hid (HB.out.trans (hb1.mono HB.out.size)); clear hb1))
  (with_reducible refine (FlatT.call HX.out HB.out 0 (by omega) (by omega)).mono ?_)
  rintro e w2 ⟨g1, q1, g2, q2, xs, ys, rfl, hb2, hne, hr1, hr2, hok⟩
  clear HX c0 c1 c2 c3 c4 p0 p1 p2 p3 p4 HF1 HF2
  have hfl : FlatIs w2 g1 g2 (t.flat 0) := flatIs_of HB.out hb2 hr1 hr2 hok
  have HFL := Lib.hid hfl
  replace HB := Lib.hid (HB.out.trans (hb2.mono HB.out.size))
  replace HO := Lib.hid (HO.out.next hb2)
  replace HP := Lib.hid (HP.out.next hb2)
  clear hb2 hr1 hr2 hok hfl hne
  simp only []
  go_at_K
  go_wp2_with fail
  obtain ⟨i0, hi0, hz0, hz1, hz2⟩ : ∃ i, Try.prog.info? 9 = some i ∧ i.zero = some (.string ⟨#[]⟩) ∧ i.size = 1 ∧ i.bytes = 16 := by
    obtain ⟨i, e1, e2⟩ := Option.map_eq_some_iff.1 infoS
    exact ⟨i, e1, (Prod.mk.inj e2).1, (Prod.mk.inj (Prod.mk.inj e2).2).1, (Prod.mk.inj (Prod.mk.inj e2).2).2⟩
  have hlf := flat_len t 0
  have HLF := Lib.hid hlf
  clear hlf
  go_loopw [9, 10, 11] (fun x y i wr => ∃ j : Nat, j ≤ t.count ∧ i = .int .i64 j ∧ x = .int .i64 (((t.flat 0).take j).foldl maxD 0) ∧ Hid (wr.ownsRow w2.heap.size 9 1 y (((t.flat 0).take j).foldl addN []).length ((((t.flat 0).take j).foldl addN []).map Value.string) ∧ Below w2.heap.size w2 wr)) (fun _ _ i _ => t.count - (intOf i).toNat)
  case atStart => exact ⟨0, Nat.zero_le _, rfl, rfl, Lib.hid ⟨⟨rfl, .inl ⟨rfl, rfl⟩⟩, Below.refl _ _⟩⟩
  case round =>
    obtain ⟨j, hj, rfl, rfl, HJ⟩ := hrel
    obtain ⟨W1, hW1⟩ : ∃ W1, W1 = wr := ⟨wr, rfl⟩
    subst hW1
    by_cases hlt : j < t.count
    · have hjl : j < (t.flat 0).length := by rw [HLF.out]; exact hlt
      have hD := fold_take maxD 0 (t.flat 0) j hjl
      have hN := fold_take addN [] (t.flat 0) j hjl
      have hNl := foldN_len ((t.flat 0).take j) []
      rw [List.length_take] at hNl
      obtain ⟨⟨kk, ss, vv, mm, aa, ll, cc, hkid, hrd⟩, hdc⟩ := (HFL.out.below HJ.out.2).at_ j (t.flat 0)[j].1 (t.flat 0)[j].2 (by rw [List.getElem?_eq_getElem hjl])
      obtain ⟨e0, e1, e2, e3, e4⟩ := hkid.at
      simp only [cell_add] at e0 e1 e2 e3 e4
      have hkn : (t.flat 0)[j].1.kind = kk ∧ (t.flat 0)[j].1.name = ss ∧ ss.size ≤ maxLen := by
        generalize (t.flat 0)[j].1 = T at hrd
        cases T
        unfold Reads at hrd
        obtain ⟨a, len, cap, he, hs, -⟩ := hrd
        unfold nd at he
        injection he with he
        simp at he
        exact ⟨he.1.symm, he.2.1.symm, by rw [he.2.1]; exact hs⟩
      have HN : Hid (((t.flat 0).take (j + 1)).foldl addN [] = addName (((t.flat 0).take j).foldl addN []) kk ss) := Lib.hid (by rw [hN]; unfold addN; rw [hkn.1, hkn.2.1])
      have HDD : Hid (((t.flat 0).take (j + 1)).foldl maxD 0 = max (((t.flat 0).take j).foldl maxD 0) (t.flat 0)[j].2) := Lib.hid hD
      have HDD2 : Hid (((t.flat 0).take (j + 1)).foldl maxD 0 = max (((t.flat 0).take j).foldl maxD 0) (t.flat 0)[j].2) := Lib.hid hD
      generalize (t.flat 0)[j].2 = dd at *
      have hsz := hkn.2.2
      clear hD hN hkid hrd hkn
      generalize hNN : ((t.flat 0).take j).foldl addN [] = N at *
      generalize ((t.flat 0).take j).foldl maxD 0 = D at *
      obtain ⟨aN, cN, rfl, hcl⟩ := rowN HJ.out.1
      have HCL := Lib.hid hcl
      have hNl2 : N.length ≤ 400 := by have := HLF.out; simp at hNl; omega
      have HG1 : Hid (g1 < W1.heap.size) := Lib.hid (Nat.lt_of_lt_of_le HFL.out.l1 HJ.out.2.size)
      clear hcl hNl
      go_wp2_with fail
      all_goals
        clear e2 e3 e4 hdc
        go_loopw [13, 14] (fun x i wq => ∃ (q : Nat) (b : Bool), q ≤ N.length ∧ i = .int .i64 q ∧ x = .bool b ∧ Hid (b = true ↔ ss ∈ N.take q) ∧ Hid (Below W1.heap.size W1 wq)) (fun _ i _ => N.length - (intOf i).toNat)
        case atStart => exact ⟨0, false, Nat.zero_le _, rfl, rfl, Lib.hid (by simp), Lib.hid (Below.refl _ _)⟩
        case round =>
          obtain ⟨q, b, hq, rfl, rfl, HBQ, HWQ⟩ := hrel
          have e0q := HWQ.out.cell (p := ⟨g1, j * 5, none⟩) HG1.out |>.trans e0
          have e1q := HWQ.out.cell (p := ⟨g1, j * 5 + 1, none⟩) HG1.out |>.trans e1
          by_cases hlt2 : q < N.length
          · obtain ⟨gN, rfl, hgN, hcq⟩ := HCL.out q hlt2
            have hcq2 := HWQ.out.cell (p := ⟨gN, q, none⟩) hgN |>.trans hcq
            have HT : Hid (∀ x : ByteArray, N[q] = x → ((b || (x.toList == ss.toList)) = true ↔ ss ∈ N.take (q + 1))) := Lib.hid fun x hx => by
              rw [List.take_succ_eq_append_getElem hlt2, hx, List.mem_append, Bool.or_eq_true, HBQ.out, beq_iff_eq, List.mem_singleton]
              exact ⟨fun h => h.imp id fun h => (toList_inj h).symm, fun h => h.imp id fun h => by rw [h]⟩
            generalize hnq : N[q] = zq at *
            have hB3 := HWQ.out.drew
            clear hcq e0 e1
            cases b
            · go_wp2_with fail
              go_region_held3 (fun w' => Below W1.heap.size W1 w' ∧ w'.cell? ⟨gN, q, none⟩ = some (.string zq) ∧ w'.cell? ⟨g1, j * 5 + 1, none⟩ = some (.string ss))
                (first | exact ⟨by assumption, by assumption, by assumption⟩ | go_keep) (fail)
              go_wp2_with fail
              exact ⟨⟨q + 1, (zq.toList == ss.toList), by omega, by simp, rfl, Lib.hid (by simpa using HT.out zq rfl), Lib.hid (by first | assumption | exact hHeld.1)⟩, by simp [intOf]; omega⟩
            · go_wp2_with fail
              go_quiet (fail)
              go_wp2_with fail
              exact ⟨⟨q + 1, true, by omega, by simp, rfl, Lib.hid (by simpa using HT.out zq rfl), Lib.hid (by first | exact HWQ.out.drew | exact below_drewN HWQ.out _)⟩, by simp [intOf]; omega⟩
          · obtain rfl : q = N.length := by omega
            have HM : Hid (b = true ↔ ss ∈ N) := Lib.hid (by have := HBQ.out; rw [List.take_length] at this; exact this)
            clear HBQ
            cases b
            · by_cases hem : ss.toList = []
              · go_wp2_with fail
                all_goals
                  have HAN : addName N kk ss = N := by
                    unfold addName
                    repeat' split
                    all_goals first | rfl | (exfalso; simp_all [notName]; done)
                  exact ⟨⟨j + 1, by omega, by simp, (by rw [HDD.out]; first | rw [Int.max_eq_right (by omega)] | rw [Int.max_eq_left (by omega)]), Lib.hid ⟨by rw [HN.out, HAN]; exact ownsRow_keep HJ.out.1 fun b hb => HWQ.out.block b (HJ.out.1.lt b hb).2, HJ.out.2.trans (HWQ.out.mono HJ.out.2.size)⟩⟩, by simp [intOf]; omega⟩
              · have HRQ := Lib.hid (ownsRow_keep HJ.out.1 fun b hb => HWQ.out.block b (HJ.out.1.lt b hb).2)
                have h2W := Nat.le_trans HJ.out.2.size HWQ.out.size
                go_wp2_with (at_builtin; refine wpList_append_lies _ (by rfl) _ _ 32 (by rfl) w2.heap.size 9 i0 _ 1 16 Try.underlying32 hi0 hz0 hz1 hz2 rfl (by omega) (.slice aN N.length cN) N.length (N.map Value.string) (by rfl) (HRQ.out.alloc _) ⟨_, 0, none⟩ 1 1 [.string ss] (by rfl) (by rfl) (World.news_of_block (cs := #[.string ss]) (t := 9) (fr := (0, 0)) (heap_alloc_new _ _)) (by intro u hu; simp at hu; subst hu; rfl) (by omega) (by unfold maxLen; omega) (by omega) (by simp; omega) _ rfl ?_; intro gg cap1 X ho hg hat hlt3; have HOX := Lib.hid ho; have HG := Lib.hid hg; have HAT := Lib.hid hat; clear ho hg hat)
                all_goals first
                  | (have HAN : addName N kk ss = N := by
                      unfold addName
                      repeat' split
                      all_goals first | rfl | (exfalso; simp_all [notName]; done)
                     exact ⟨⟨j + 1, by omega, by simp, (by rw [HDD.out]; first | rw [Int.max_eq_right (by omega)] | rw [Int.max_eq_left (by omega)]), Lib.hid ⟨by rw [HN.out, HAN]; exact HRQ.out, HJ.out.2.trans (HWQ.out.mono HJ.out.2.size)⟩⟩, by simp [intOf]; omega⟩)
                  | (have HAN : addName N kk ss = N ++ [ss] := by
                      unfold addName
                      rw [if_neg (by simp_all [notName]), if_neg hem, if_neg (fun h => by have := HM.out.2 h; cases this)]
                     have hw1 := HJ.out.2.trans ((HWQ.out.trans ((below1 _ (.cells #[.string ss] 9)).mono HWQ.out.size)).mono HJ.out.2.size)
                     have hx := hw1.grown HG.out (by simp; omega) (fun k hk => (HRQ.out.lt k hk).1)
                     exact ⟨⟨j + 1, by omega, by simp, (by rw [HDD.out]; first | rw [Int.max_eq_right (by omega)] | rw [Int.max_eq_left (by omega)]), Lib.hid ⟨by rw [HN.out, HAN]; simpa using HOX.out, hx⟩⟩, by simp [intOf]; omega⟩)
            · have hin := HM.out.1 rfl
              go_wp2_with fail
              all_goals
                have HAN : addName N kk ss = N := by
                  unfold addName
                  repeat' split
                  all_goals first | rfl | (exfalso; simp_all [notName]; done)
                exact ⟨⟨j + 1, by omega, by simp, (by rw [HDD.out]; first | rw [Int.max_eq_right (by omega)] | rw [Int.max_eq_left (by omega)]), Lib.hid ⟨by rw [HN.out, HAN]; exact ownsRow_keep HJ.out.1 fun b hb => HWQ.out.block b (HJ.out.1.lt b hb).2, HJ.out.2.trans (HWQ.out.mono HJ.out.2.size)⟩⟩, by simp [intOf]; omega⟩
    · obtain rfl : j = t.count := by omega
      have hNT : ((t.flat 0).take t.count).foldl addN [] = t.names [] := by rw [List.take_of_length_le (by rw [HLF.out]; exact Nat.le_refl _), fold_names]
      have hDT : ((t.flat 0).take t.count).foldl maxD 0 + 1 = t.deep := by rw [List.take_of_length_le (by rw [HLF.out]; exact Nat.le_refl _), fold_deep0]
      rw [hNT] at HJ
      have HDT := Lib.hid hDT
      generalize ((t.flat 0).take t.count).foldl maxD 0 = D at *
      have hnl : (t.names []).length ≤ 400 := by have := names_len t []; simp at this; omega
      obtain ⟨aN, cN, rfl, hcl⟩ := rowN HJ.out.1
      have HCL := Lib.hid hcl
      have HBW := Lib.hid (HB.out.trans (HJ.out.2.mono HB.out.size))
      have HOW := Lib.hid (HO.out.next HJ.out.2)
      have HPW := Lib.hid (HP.out.next HJ.out.2)
      have HNM := Lib.hid (names_any HR.out W1 HBW.out (by omega))
      obtain ⟨x0, x1, x2, x3, x4, -⟩ := HOW.out
      unfold nd at HNM
      clear hcl hNT hDT hlt
      go_wp2_with (go_at_call 11; (with_reducible refine HNM.out.mono ?_); rintro e w3 ⟨lv3, rfl, hrow, hb3⟩; have HR3 := Lib.hid hrow; have HB3 := Lib.hid hb3; obtain ⟨a3, c3', rfl, hcl3⟩ := rowN hrow; have HC3 := Lib.hid hcl3; clear hrow hb3 hcl3)
      have hW13 := HB3.out.size
      clear x0 x1 x2 x3 x4 HNM
      go_loopw [16] (fun i wq => ∃ q : Nat, q ≤ (t.names []).length ∧ i = .int .i64 q ∧ Hid (Below w3.heap.size w3 wq)) (fun i _ => (t.names []).length - (intOf i).toNat)
      case atStart => exact ⟨0, Nat.zero_le _, rfl, Lib.hid (Below.refl _ _)⟩
      case round =>
        obtain ⟨q, hq, rfl, HWQ⟩ := hrel
        by_cases hlt2 : q < (t.names []).length
        · obtain ⟨gN, rfl, hgN, hcq⟩ := HCL.out q hlt2
          obtain ⟨gM, rfl, hgM, hcm⟩ := HC3.out q hlt2
          have hcq2 := HWQ.out.cell (p := ⟨gN, q, none⟩) (Nat.lt_of_lt_of_le hgN hW13) |>.trans ((HB3.out.cell (p := ⟨gN, q, none⟩) hgN).trans hcq)
          have hcm2 := HWQ.out.cell (p := ⟨gM, q, none⟩) hgM |>.trans hcm
          generalize (t.names [])[q] = zq at *
          have hB3 := HWQ.out.drew
          clear hcq hcm
          go_wp2_with fail
          go_region_held3 (fun w' => Below w3.heap.size w3 w' ∧ w'.cell? ⟨gN, q, none⟩ = some (.string zq) ∧ w'.cell? ⟨gM, q, none⟩ = some (.string zq))
            (first | exact ⟨by assumption, by assumption, by assumption⟩ | go_keep) (fail)
          go_wp2_with fail
          exact ⟨⟨q + 1, by omega, by simp, Lib.hid (by first | assumption | exact hHeld.1)⟩, by simp [intOf]; omega⟩
        · obtain rfl : q = (t.names []).length := by omega
          go_wp2_with fail
          have HWb : Hid (∀ V' : World, Below w3.heap.size w3 V' → Below w.heap.size w V') := Lib.hid fun V' h => (HBW.out.trans (HB3.out.mono HBW.out.size)).trans (h.mono (Nat.le_trans HBW.out.size hW13))
          have HCS : Hid (∀ V' : World, Below w3.heap.size w3 V' → Below w3.heap.size w3 V' ∧ V'.cell? ⟨w.heap.size, 0, none⟩ = some (.int .i64 k) ∧ V'.cell? ⟨w.heap.size, 1, none⟩ = some (.string s) ∧ V'.cell? ⟨w.heap.size, 2, none⟩ = some (.int .u32 v) ∧ V'.cell? ⟨w.heap.size, 3, none⟩ = some (.bool m) ∧ V'.cell? ⟨w.heap.size, 4, none⟩ = some (.slice a l c) ∧ V'.cell? ⟨w.heap.size + 1, 0, none⟩ = some (.int .i64 k2) ∧ V'.cell? ⟨w.heap.size + 1, 1, none⟩ = some (.string s2) ∧ V'.cell? ⟨w.heap.size + 1, 2, none⟩ = some (.int .u32 v2) ∧ V'.cell? ⟨w.heap.size + 1, 3, none⟩ = some (.bool m2) ∧ V'.cell? ⟨w.heap.size + 1, 4, none⟩ = some (.slice a2 l2 c2)) := Lib.hid fun V' h => by
            obtain ⟨c0, c1, c2', c3, c4, -⟩ := (HOW.out.next HB3.out).next h
            obtain ⟨d0, d1, d2, d3, d4, -⟩ := (HPW.out.next HB3.out).next h
            exact ⟨h, c0, c1, c2', c3, c4, d0, d1, d2, d3, d4⟩
          have HRV : Hid (∀ V' : World, Below w3.heap.size w3 V' → Reads V' t (.agg #[.int .i64 k, .string s, .int .u32 v, .bool m, .slice a l c])) := Lib.hid fun V' h => reads_below (HWb.out V' h) t _ HR.out
          have HFV : Hid (∀ V' : World, Below w3.heap.size w3 V' → FlatIs V' g1 g2 (t.flat 0)) := Lib.hid fun V' h => (HFL.out.below (HJ.out.2.trans (HB3.out.mono HJ.out.2.size))).below (h.mono (by have := HJ.out.2.size; exact Nat.le_refl _))
          have HS10 := sameT_all t t2 _ _ HR.out HR2.out
          unfold SameT at HS10
          have HS1 := Lib.hid HS10
          have HE10 := esameT_all t t2 _ _ HR.out HR2.out
          unfold ESameT at HE10
          have HE1 := Lib.hid HE10
          clear HS10 HE10
          have HE2 := esameT_all t t _ _ HR.out HR.out
          unfold ESameT at HE2
          rw [same_refl t] at HE2
          replace HE2 := Lib.hid HE2
          have HZ := Lib.hid (sizeT_all t _ HR.out)
          obtain ⟨dp, hdpe⟩ : ∃ dp : Nat, t.deep = dp + 1 := ⟨t.deep - 1, by have := deep_pos t; omega⟩
          have hdp400 : dp ≤ 400 := by have := deep_le t; omega
          have hWR : IntKind.i64.wrap ((dp : Int) + 1) = (dp : Int) + 1 := IntWalk.i64_in _ (by omega)
          have HDP0 := deepT_all t _ HR.out
          unfold DeepT at HDP0
          rw [hdpe] at HDP0
          simp only [Int.natCast_add, Int.natCast_one] at HDP0
          have HDP := Lib.hid HDP0
          obtain rfl : D = (dp : Int) := by have := HDT.out; rw [hdpe] at this; push_cast at this; omega
          clear HDP0 hdpe HDT
          have HCP := Lib.hid (copyT_all t _ HR.out)
          have HON := Lib.hid (fun V' hV hF lv => once_any HR.out (by omega) V' hV g1 g2 q1 q2 hF lv)
          unfold nd at HON
          obtain ⟨b0, c0, c1, c2', c3, c4, d0, d1, d2, d3, d4⟩ := HCS.out _ HWQ.out.drew
          clear HCL HC3
          generalize hSB : t.same t2 = sb at *
          go_region_held3 (fun V' => Below w3.heap.size w3 V' ∧ V'.cell? ⟨w.heap.size, 0, none⟩ = some (.int .i64 k) ∧ V'.cell? ⟨w.heap.size, 1, none⟩ = some (.string s) ∧ V'.cell? ⟨w.heap.size, 2, none⟩ = some (.int .u32 v) ∧ V'.cell? ⟨w.heap.size, 3, none⟩ = some (.bool m) ∧ V'.cell? ⟨w.heap.size, 4, none⟩ = some (.slice a l c) ∧ V'.cell? ⟨w.heap.size + 1, 0, none⟩ = some (.int .i64 k2) ∧ V'.cell? ⟨w.heap.size + 1, 1, none⟩ = some (.string s2) ∧ V'.cell? ⟨w.heap.size + 1, 2, none⟩ = some (.int .u32 v2) ∧ V'.cell? ⟨w.heap.size + 1, 3, none⟩ = some (.bool m2) ∧ V'.cell? ⟨w.heap.size + 1, 4, none⟩ = some (.slice a2 l2 c2))
            (first | exact ⟨by assumption, by assumption, by assumption, by assumption, by assumption, by assumption, by assumption, by assumption, by assumption, by assumption, by assumption⟩ | go_keep)
            ((first
            | (go_at_call 12; (with_reducible refine (SizeT.call HZ.out (HWb.out _ b0) (by omega)).mono ?_); rintro e v1 ⟨rfl, hb⟩; (obtain ⟨b0, c0, c1, c2', c3, c4, d0, d1, d2, d3, d4⟩ := HCS.out _ (b0.trans (hb.mono b0.size)); clear hb))
            | (go_at_call 13; (with_reducible refine (HDP.out _ (HWb.out _ b0) (by omega)).mono ?_); rintro e v1 ⟨rfl, hb⟩; (obtain ⟨b0, c0, c1, c2', c3, c4, d0, d1, d2, d3, d4⟩ := HCS.out _ (b0.trans (hb.mono b0.size)); clear hb))
            | (go_at_call 14; (first | (with_reducible refine (HE1.out _ (HWb.out _ b0)).mono ?_) | (with_reducible refine (HE2.out _ (HWb.out _ b0)).mono ?_)); rintro e v1 ⟨rfl, hb⟩; (obtain ⟨b0, c0, c1, c2', c3, c4, d0, d1, d2, d3, d4⟩ := HCS.out _ (b0.trans (hb.mono b0.size)); clear hb))
            | (go_at_call 15; (first | (with_reducible refine (HS1.out _ (HWb.out _ b0)).mono ?_) | (with_reducible refine (HSC.out _ (Below.refl _ _)).mono ?_)); rintro e v1 ⟨rfl, hb⟩; (obtain ⟨b0, c0, c1, c2', c3, c4, d0, d1, d2, d3, d4⟩ := HCS.out _ (b0.trans (hb.mono b0.size)); clear hb))
            | (go_at_call 16; (with_reducible refine (HON.out _ (HWb.out _ b0) (HFV.out _ b0) _).mono ?_); rintro e v1 ⟨rfl, hb⟩; (obtain ⟨b0, c0, c1, c2', c3, c4, d0, d1, d2, d3, d4⟩ := HCS.out _ (b0.trans (hb.mono b0.size)); clear hb))
            | (go_at_call 17; (with_reducible refine (CopyT.call HCP.out (HWb.out _ b0) (by omega)).mono ?_); rintro e v1 ⟨kc, sc, vc, mc, ac, lc, cc, rfl, hb, hro⟩; have hsc0 := sameT_all t t _ _ hro.reads (HRV.out _ (b0.trans (hb.mono b0.size))); unfold SameT at hsc0; rw [same_refl t] at hsc0; have HSC := Lib.hid hsc0; clear hro hsc0; (obtain ⟨b0, c0, c1, c2', c3, c4, d0, d1, d2, d3, d4⟩ := HCS.out _ (b0.trans (hb.mono b0.size)); clear hb))
            | (go_at_call 9; refine (known15_any _).mono ?_; rintro e v1 ⟨rfl, hb⟩; (obtain ⟨b0, c0, c1, c2', c3, c4, d0, d1, d2, d3, d4⟩ := HCS.out _ (b0.trans (hb.mono b0.size)); clear hb))))
          all_goals
            go_wp2_with fail
            go_ret
            exact ⟨rfl, HWb.out _ (by assumption)⟩
theorem own : ownKnob Try.prog.godebug = none := by kernel_rfl
theorem laidOut : laidOutB Try.prog = true := by kernel_rfl
set_option maxRecDepth 1000000 in
theorem contract (H : Type) (enc : TypeId × Value → H) (W : World) (base : Nat) (args : Array Value) (ds gs : List (DataW H)) (before : List MemPlace)
    (hval : ∀ (j : Nat) t v, Try.f3.params[j]? = some t → args[j]? = some v → Value.okWide Try.prog W .any base t v)
    (hW : DataW.Whole enc Try.prog Try.f3.params.toList Rows.treeLooksSpec.vars false W args.toList ds gs before) :
    Calls Try.prog 3 args W fun e W' => ∃ v, e = .returned v ∧ Rows.treeLooksSpec.post enc Try.prog Try.f3 false true false false W args v W' := by
  have hW' := hW
  obtain ⟨p, q, hA0, hV, rfl, hfz, hnd⟩ := hW
  have hA : DataW.TrodAll enc Try.prog W 0 (fun _ => true) true Try.f3.params.toList args.toList ds p := hA0
  rw [Try.params3] at hA hval
  obtain ⟨v0, vs0, d0, ds0, p0, q0, hargs, rfl, rfl, h0, r0⟩ := trodAll_cons hA
  obtain ⟨v1, vs1, d1, ds1, p1, q1, rfl, rfl, rfl, h1, r1⟩ := trodAll_cons r0
  obtain ⟨v2, vs2, d2, ds2, p2, q2, rfl, rfl, rfl, h2, r2⟩ := trodAll_cons r1
  obtain ⟨rfl, rfl, rfl⟩ := trodAll_nil r2
  obtain rfl : args = #[v0, v1, v2] := by cases args; simp_all
  obtain ⟨rfl, rfl⟩ := trodVars_none hV
  obtain ⟨n0, w0⟩ := node_of (.inl (hval 0 26 v0 rfl rfl)) h0
  have k0 := h0
  have lt0 : ∀ x ∈ p0, x.block < W.heap.size := by obtain ⟨m, hm⟩ := k0; exact DataW.trod_lt m _ _ _ hm
  obtain ⟨n1, w1⟩ := node_of (.inl (hval 1 26 v1 rfl rfl)) h1
  have k1 := h1
  have lt1 : ∀ x ∈ p1, x.block < W.heap.size := by obtain ⟨m, hm⟩ := k1; exact DataW.trod_lt m _ _ _ hm
  obtain ⟨a2, rfl, rfl, rfl, w2⟩ := open_int Try.underlying3 (hval 2 3 v2 rfl rfl) h2
  clear hA0
  refine (walk v0 n0 v1 n1 a2 W w0 w1 w2).mono fun e W' ⟨he, bel⟩ => ?_
  subst he
  exact ⟨_, rfl, _, _, _, [], _, [], hW', trodAll_mk1 (shut_bool Try.underlying4 _), (trodAll_cons_mk (Below.trod laidOut (by kernel_rfl) (of_decide_eq_true (by kernel_rfl)) k0 bel lt0) (trodAll_cons_mk (Below.trod laidOut (by kernel_rfl) (of_decide_eq_true (by kernel_rfl)) k1 bel lt1) (trodAll_cons_mk (shut_int Try.underlying3 w2) trodAll_mk0))), rfl, bel.frame _, fun h => by cases h⟩
set_option maxRecDepth 100000 in
theorem lifted (os : Os) (started : os.Started) (H : Type) (enc : TypeId × Value → H) :
    ReturnsInHanded {} Try.checked os 3 .any (Rows.treeLooksSpec.pre6 enc Try.prog Try.f3 Rows.treeLooksRow.domain false) (Rows.treeLooksSpec.post enc Try.prog Try.f3 false true false false) := by
  refine returnsInHanded_of_change (C := Try.checked) own started (by kernel_rfl) Try.func3
    (ChangeSpec.witness6 (enc := enc) (C := Try.checked) false ⟨#[], #[.agg #[.int .i64 0, .string .empty, .int .u32 0, .bool false, .slice none 0 0], .agg #[.int .i64 0, .string .empty, .int .u32 0, .bool false, .slice none 0 0], .int .i64 0], []⟩ 8 (by kernel_rfl) (by kernel_rfl) (by kernel_rfl) (by kernel_rfl)) ?_
  intro W base args ds gs before hval hW hcnd _
  exact contract H enc W base args ds gs before hval hW
theorem said : Rows.TreeLooksSaid :=
  OpenClaim.holds_of_wide 3 Try.f3 rfl rfl rfl rfl rfl rfl rfl ⟨rfl, rfl, rfl, rfl, rfl⟩ rfl rfl rfl rfl rfl (by kernel_rfl) Try.func3 (by kernel_rfl)
    (of_decide_eq_true (by kernel_rfl)) (by unfold Func.isWrapper; first | (rw [if_pos (by decide +kernel)]; kernel_rfl) | (rw [if_neg (by decide +kernel)]; exact ⟨rfl, rfl⟩))
    (fun os started H enc _ => lifted os started H enc)
theorem proved : Rows.TreeLooksSaid := said
end Go.Proofs.Ytkhbmamgfkpdbaa.treeLooks

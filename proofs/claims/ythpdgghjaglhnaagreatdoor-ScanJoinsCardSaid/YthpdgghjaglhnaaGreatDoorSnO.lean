/-
  A new scanner.
-/
import Derived.Test.YthpdgghjaglhnaaGreatDoorSnM
import Derived.Deep.Cut
namespace Go.Proofs.YthpdgghjaglhnaaGreatDoor
open Go.ChangeShapes Go.WideShapes Go.ChangeAt Go.RowKit
open Ev (WRow)
set_option linter.unusedVariables false
set_option linter.unusedSimpArgs false
theorem ws_take_len (i : Nat) (h : i ≤ 57) : (wsL.take i).length = i := by rw [List.length_take, wsL_len]; omega
theorem owns_form {w : World} {B sz n : Nat} {e : TypeId} {v : Value} {xs : List Value} (h : w.ownsRow B e sz v n xs) : ∃ A c, v = .slice A n c := by
  rcases h.2 with ⟨e, e0⟩ | ⟨g, cap, cur, e, _⟩
  · exact ⟨none, 0, by rw [e, e0]⟩
  · exact ⟨_, cap, e⟩
section
variable {w : World} {B : Nat} {q : Sp}
/-- a word more -/
theorem add_ws {i : Nat} {kw : Int} {l : List UInt8} (h : SnAt w B q (wsF i kw)) (hB : B ≤ w.heap.size) (hi : i < 57) (hl : wsL[i]? = some l) :
    Calls Tryz.prog 15 #[.pointer (some ⟨q.p, 0, none⟩), .string (bs l)] w fun e w' => e = .returned (.int .i64 (i : Int)) ∧ ∃ q', SnAt w' B q' (wsF (i + 1) kw) ∧ Sf q q' w w' := by
  have hlen : (wsF i kw).nms.length = i := ws_take_len i (by omega)
  refine (add_any h hB l (ws_new hl) (wsL_15 l (List.mem_of_getElem? hl)) (by rw [hlen]; omega)).mono fun e w' ⟨he, q', hs, hf⟩ => ⟨by rw [he, hlen], q', ?_, hf⟩
  have : wsF (i + 1) kw = { wsF i kw with nms := (wsF i kw).nms ++ [l] } := by
    show wsF (i + 1) kw = { wsF i kw with nms := wsL.take i ++ [l] }
    rw [← ws_succ hl]; rfl
  rw [this]; exact hs
theorem kwL_at {i : Nat} (h : i < 29) : ∃ l, kwL[i]? = some l ∧ wsL[i]? = some l := by
  have h2 : i < kwL.length := h
  refine ⟨kwL[i], List.getElem?_eq_getElem h2, ?_⟩
  unfold wsL
  rw [List.getElem?_append_left h2, List.getElem?_eq_getElem h2]
theorem pdL_at {i : Nat} (h : i < 28) : ∃ l, pdL[i]? = some l ∧ wsL[29 + i]? = some l := by
  have h2 : i < pdL.length := h
  refine ⟨pdL[i], List.getElem?_eq_getElem h2, ?_⟩
  unfold wsL
  rw [List.getElem?_append_right (by show 29 ≤ _; omega), show 29 + i - kwL.length = i by show 29 + i - 29 = i; omega, List.getElem?_eq_getElem h2]
set_option maxRecDepth 100000 in
set_option maxHeartbeats 8000000 in
theorem new_any (w : World) (A : Option Addr) (n c : Nat) (zs : List Int) (hr : Rd w w.heap.size .u8 A n zs) (hn : n ≤ maxLen) (hb : ∀ x ∈ zs, 0 ≤ x ∧ x < 256) (hT : ∀ V, Below w.heap.size w V → SpTab V ∧ Tab V) :
    Calls Tryz.prog 6 #[.slice A n c] w fun e w' => ∃ q, e = .returned (.pointer (some ⟨q.p, 0, none⟩)) ∧ SnAt w' w.heap.size q (newF zs) ∧ Below w.heap.size w w' := by
  have hmm := @run_makeMap Tryz.prog
  have HT := Lib.hid hT
  have HR := Lib.hid hr
  have HB := Lib.hid hb
  have m0 := Lib.hid (World.ownsMap_made w Tryz.prog 9 sheld)
  have hlz := hr.1
  unfold maxLen at hn
  clear hr hb hT
  go_enter Tryz.func6, Tryz.ntmps6
  go_upto_region 2 with (go_at_call 13; (refine (signs_any _).mono ?_); rintro e w1 ⟨rfl, hm, hb⟩; have HM := Lib.hid hm; have HB1 := Lib.hid hb; clear hm hb)
  have hs0 : (w.alloc (.map #[] 0)).heap.size = w.heap.size + 1 := by simp
  have hs1 := HB1.out.size
  rw [hs0] at hs1 HM HB1
  obtain ⟨q0, hq0⟩ : ∃ q0 : Sp, q0 = ⟨w1.heap.size, .slice none 0 0, .slice none 0 0, w.heap.size, w.heap.size + 1⟩ := ⟨_, rfl⟩
  have hm1 : w1.ownsMap Tryz.prog 9 sheld w.heap.size 0 (.map []) := ownsMap_below m0.out (HB1.out.block w.heap.size (Nat.lt_succ_self _))
  have H0 := Lib.hid (SnAt.made (w := w) (B := w.heap.size) (p := w1.heap.size) (ib := w.heap.size) (gb := w.heap.size + 1) (V := w1) rfl hm1.lt HM.out.lt (by omega) hm1 HM.out (Nat.le_refl _) (by omega) (t := 45))
  have hb0 : Below w.heap.size w w1 := ((Below.refl w.heap.size w).alloc (Nat.le_refl _) (.map #[] 0)).trans (HB1.out.mono (by omega))
  have HB0 := Lib.hid (hb0.alloc (by omega) (.cells #[.slice none 0 0, .int .i64 0, .int .i64 0, .int .i64 0, .int .i32 0, .int .i64 0, .string (bs []), .int .i64 0, .int .i64 0, .slice none 0 0, .map (some w.heap.size), .int .i64 0, .map (some (w.heap.size + 1))] 45))
  rw [← hq0] at H0
  have hp0 : w1.heap.size = q0.p := by rw [hq0]
  have hnv0 : Hid (q0.nv.ownBlock = none) := Lib.hid (by rw [hq0]; rfl)
  have hsv0 : Hid (q0.sv = .slice none 0 0) := Lib.hid (by rw [hq0])
  rw [hp0]
  clear hm1 HM m0 hs0 hs1 hmm hb0 HB1 hq0
  change Hid (SnAt (w1.alloc (.cells #[.slice none 0 0, .int .i64 0, .int .i64 0, .int .i64 0, .int .i32 0, .int .i64 0, .string { data := #[] }, .int .i64 0, .int .i64 0, .slice none 0 0, .map (some w.heap.size), .int .i64 0, .map (some (w.heap.size + 1))] 45)) w.heap.size q0 (wsF 0 0)) at H0
  change Hid (Below w.heap.size w (w1.alloc (.cells #[.slice none 0 0, .int .i64 0, .int .i64 0, .int .i64 0, .int .i32 0, .int .i64 0, .string { data := #[] }, .int .i64 0, .int .i64 0, .slice none 0 0, .map (some w.heap.size), .int .i64 0, .map (some (w.heap.size + 1))] 45))) at HB0
  generalize w1.alloc (.cells #[.slice none 0 0, .int .i64 0, .int .i64 0, .int .i64 0, .int .i32 0, .int .i64 0, .string { data := #[] }, .int .i64 0, .int .i64 0, .slice none 0 0, .map (some w.heap.size), .int .i64 0, .map (some (w.heap.size + 1))] 45) = W0 at *
  have HF1 := Lib.hid (fields_kw W0 (HT.out _ HB0.out).1)
  clear hp0
  go_wp2_with (go_at_call 14; (refine HF1.out.mono ?_); rintro e W1 ⟨fb, ff, rfl, hcells, hfb0, hfb1, hb⟩; have HC := Lib.hid hcells; have H1 := Lib.hid (H0.out.next hb); have HBW := Lib.hid (HB0.out.trans (hb.mono HB0.out.size)); have hff := (show fb ≠ q0.p ∧ fb ≠ q0.ib from ⟨fun e => by have := H0.out.lt; omega, fun e => by have := H0.out.li; omega⟩); have HFF := Lib.hid hff; clear hcells hb hfb0 hff)
  clear H0 HB0 HF1
  go_loopw [14] (fun v wr => ∃ (i : Nat) (q : Sp), v = .int .i64 (i : Int) ∧ i ≤ 29 ∧ Hid (SnAt wr w.heap.size q (wsF i 0)) ∧ Hid (Sf q0 q W1 wr)) (fun v _ => 29 - (intOf v).toNat)
  case atStart => exact ⟨0, q0, rfl, by omega, H1, Lib.hid (Sf.refl _ _)⟩
  case round =>
    obtain ⟨i, q, rfl, hi, HS, HF⟩ := hrel
    obtain ⟨p, sv, nv, ib, gb⟩ := q
    obtain rfl : p = q0.p := HF.out.p
    have hBr : w.heap.size ≤ wr.heap.size := by have := HBW.out.size; have := HF.out.size; omega
    by_cases hlt : i < 29
    · obtain ⟨l, hl1, hl2⟩ := kwL_at hlt
      have hcell : wr.cell? ⟨fb, ff + i, none⟩ = some (.string (bs l)) := by
        rw [World.cell?_of_block (HF.out.block fb hfb1 HFF.out.1 (by rw [hnv0.out]; simp) HFF.out.2)]
        exact HC.out i l hl1
      have HA := Lib.hid (add_ws HS.out hBr (by omega) hl2)
      clear hl1 hl2
      go_wp2_with (go_at_call 15; (with_reducible refine HA.out.mono ?_); rintro e w3 ⟨rfl, q3, hs, hf⟩; have HS3 := Lib.hid hs; have HF3 := Lib.hid (HF.out.trans hf); clear hs hf)
      exact ⟨⟨i + 1, q3, by simp, by omega, HS3, HF3⟩, by simp [intOf]; omega⟩
    · obtain rfl : i = 29 := by omega
      have hsv1 := Lib.hid (show sv = .slice none 0 0 from HF.out.sv.trans hsv0.out)
      have c9 : wr.cell? ⟨q0.p, 9, none⟩ = some nv := HS.out.c9
      have c11 : wr.cell? ⟨q0.p, 11, none⟩ = some (.int .i64 0) := HS.out.c11
      have z11 : wr.frozen? ⟨q0.p, 11, none⟩ = false := HS.out.z 11 (by omega)
      obtain ⟨A9, cc9, e9⟩ := names_form HS.out
      have e9 : nv = .slice A9 29 cc9 := e9
      subst e9
      have HS1 := Lib.hid (HS.out.put 11 [.int .i64 29] (wsF 29 29) (by simp) rfl rfl (Nat.le_refl _) rfl)
      have HF1 := Lib.hid (HF.out.setCell 11 (.int .i64 29))
      clear HC hfb1 hi hlt HFF
      go_upto_region 8 with (fail)
      obtain ⟨W2, hW2⟩ : ∃ W2, W2 = wr.setCell ⟨q0.p, 11, none⟩ (.int .i64 29) := ⟨_, rfl⟩
      change Hid (SnAt (wr.setCell ⟨q0.p, 11, none⟩ (.int .i64 29)) _ _ _) at HS1
      change Hid (Sf _ _ _ (wr.setCell ⟨q0.p, 11, none⟩ (.int .i64 29))) at HF1
      rw [← hW2] at HS1 HF1 ⊢
      have hBr2 : w.heap.size ≤ W2.heap.size := by have := HBW.out.size; have := HF1.out.size; omega
      have HBW2 := Lib.hid (HBW.out.trans (HF1.out.below H1.out HBW.out.size))
      clear hW2 c9 c11 z11 HS HF hBr HF1 H1 hnv0
      have H2 := Lib.hid (fields_pd W2 (HT.out _ HBW2.out).1)
      have HQN := Lib.hid (show ∀ k, (Value.slice A9 29 cc9).ownBlock = some k → k < W2.heap.size from fun k hk => (HS1.out.nms.lt k hk).2)
      go_wp2_with (go_at_call 14; (refine H2.out.mono ?_); rintro e W3 ⟨gb3, gf3, rfl, hcells, hfb0, hfb1, hb⟩; have HC := Lib.hid hcells; have HS3 := Lib.hid (HS1.out.next hb); have HBW3 := Lib.hid (HBW2.out.trans (hb.mono HBW2.out.size)); have hff := (show gb3 ≠ q0.p ∧ gb3 ≠ ib ∧ (Value.slice A9 29 cc9).ownBlock ≠ some gb3 from ⟨fun e => by have h9 : q0.p < _ := HS1.out.lt; omega, fun e => by have h9 : ib < _ := HS1.out.li; omega, fun e => by have := HQN.out _ e; omega⟩); have HFF := Lib.hid hff; clear hcells hb hfb0 hff)
      clear H2 HS1 HBW2 HBW HQN
      go_loopw [32] (fun v wr => ∃ (i : Nat) (q : Sp), v = .int .i64 (i : Int) ∧ i ≤ 28 ∧ Hid (SnAt wr w.heap.size q (wsF (29 + i) 29)) ∧ Hid (Sf ⟨q0.p, sv, .slice A9 29 cc9, ib, gb⟩ q W3 wr)) (fun v _ => 28 - (intOf v).toNat)
      case atStart => exact ⟨0, _, rfl, by omega, HS3, Lib.hid (Sf.refl _ _)⟩
      case round =>
        obtain ⟨i, q, rfl, hi, HS, HF⟩ := hrel
        obtain ⟨p, sv2, nv2, ib2, gb2⟩ := q
        obtain rfl : p = q0.p := HF.out.p
        have hBr : w.heap.size ≤ wr.heap.size := by have := HBW3.out.size; have := HF.out.size; omega
        by_cases hlt : i < 28
        · obtain ⟨l, hl1, hl2⟩ := pdL_at hlt
          have hcell : wr.cell? ⟨gb3, gf3 + i, none⟩ = some (.string (bs l)) := by
            rw [World.cell?_of_block (HF.out.block gb3 hfb1 HFF.out.1 HFF.out.2.2 HFF.out.2.1)]
            exact HC.out i l hl1
          have HA := Lib.hid (add_ws HS.out hBr (by omega) hl2)
          clear hl1 hl2
          go_wp2_with (go_at_call 15; (with_reducible refine HA.out.mono ?_); rintro e w3 ⟨rfl, q3, hs, hf⟩; have HS4 := Lib.hid hs; have HF4 := Lib.hid (HF.out.trans hf); clear hs hf)
          exact ⟨⟨i + 1, q3, by simp, by omega, HS4, HF4⟩, by simp [intOf]; omega⟩
        · obtain rfl : i = 28 := by omega
          clear HC hfb1 hi hlt HFF
          have HSF := Lib.hid HS.out
          have HBR := Lib.hid (HBW3.out.trans (HF.out.below HS3.out HBW3.out.size))
          have hsv2 := Lib.hid (show sv2 = .slice none 0 0 from HF.out.sv.trans hsv1.out)
          have HSF : Hid (SnAt wr w.heap.size ⟨q0.p, sv2, nv2, ib2, gb2⟩ (wsF 57 29)) := HSF
          clear HS HF HS3 hsv1 hsv0
          have hlp : q0.p < wr.heap.size := HSF.out.lt
          by_cases hbig : 65535 < n
          · have HN : Hid (newF zs = markF (wsF 57 29) 60 0) := Lib.hid (by unfold newF; rw [if_pos (by omega)])
            have HMK := Lib.hid (markat_any HSF.out 60 0)
            go_wp2_with (go_at_call 16; (with_reducible refine HMK.out.mono ?_); rintro e w5 ⟨rfl, hA, hF⟩; have HA := Lib.hid hA; have HF := Lib.hid (hF.below HSF.out hBr); clear hA hF)
            go_ret
            refine ⟨⟨q0.p, sv2, nv2, ib2, gb2⟩, rfl, ?_, HBR.out.trans HF.out⟩
            rw [HN.out]; exact HA.out
          · have HN : Hid (newF zs = getF { wsF 57 29 with src := zs }) := Lib.hid (by unfold newF; rw [if_neg (by omega)])
            obtain ⟨i0, hi0, hz0, hz1, hz2⟩ := info_parts infoB0
            have HRD := Lib.hid (HR.out.below HBR.out)
            have c0 : wr.cell? ⟨q0.p, 0, none⟩ = some (.slice none 0 0) := by rw [← hsv2.out]; exact HSF.out.c0
            have z0 : wr.frozen? ⟨q0.p, 0, none⟩ = false := HSF.out.z 0 (by omega)
            go_upto_region 16 with (fail)
            go_wp2_with (at_builtin; refine wpList_append_rd rfl _ _ 22 rfl wr.heap.size 5 i0 (.int .u8 0) 1 Tryz.underlying22 hi0 hz0 hz1 hz2 rfl _ _ _ rfl (World.ownsRow_nil _ _ _ _) w.heap.size .u8 A n c zs rfl HRD.out (by unfold maxLen; omega) (by omega) (Nat.le_refl _) ?_; intro v5 w5 ho hg0; have hg : wr.grownBy w5 none := hg0; clear hg0; have k0 : w5.cell? ⟨q0.p, 0, none⟩ = some (.slice none 0 0) := (by rw [World.cell?_of_block (hg.block q0.p hlp (by simp))]; exact c0); have y0 : w5.frozen? ⟨q0.p, 0, none⟩ = false := (by rw [World.frozen?_of_block (hg.block q0.p hlp (by simp))]; exact z0); obtain ⟨A5, c5, hv5⟩ := owns_form ho; subst hv5; have HO := Lib.hid ho; have HG := Lib.hid hg; clear ho hg c0 z0)
            have hz5 : zs.length ≤ 65535 := by omega
            have ho5 : WRow w5 wr.heap.size 1 (.slice A5 n c5) zs.length (zs.map fun x => .int .u8 x) := by
              have := ownsRow_wrow HO.out
              rw [List.nil_append, Nat.zero_add] at this
              rw [hlz]
              exact this
            obtain ⟨hS, hBB⟩ := HSF.out.sourced hsv2.out zs hz5 HB.out ho5 HG.out rfl hBr
            have HS6 := Lib.hid hS
            have HB6 := Lib.hid (HBR.out.trans hBB)
            have hBr6 : w.heap.size ≤ (w5.setCell ⟨q0.p, 0, none⟩ (.slice A5 n c5)).heap.size := HB6.out.size
            have HGT := Lib.hid (get_any HS6.out hBr6 (Int.le_refl _) (fun V hV => (HT.out V (HB6.out.trans hV)).2))
            clear hS hBB ho5 HO HG HRD HSF HBR hz5
            unfold Done at HGT
            (refine HGT.out.mono ?_)
            rintro e w6 ⟨rfl, q6, hA, hF⟩
            have HA := Lib.hid hA
            have HFB := Lib.hid (HB6.out.trans (hF.below HS6.out hBr6))
            obtain ⟨p6, sv6, nv6, ib6, gb6⟩ := q6
            obtain rfl : p6 = q0.p := hF.p
            clear hA hF
            go_wp2_with fail
            go_ret
            refine ⟨⟨q0.p, sv6, nv6, ib6, gb6⟩, rfl, ?_, HFB.out⟩
            rw [HN.out]; exact HA.out
end
end Go.Proofs.YthpdgghjaglhnaaGreatDoor

/-
  script.take: one line of a script.
-/
import Derived.Test.YtlodoilihminaaaGreatDoorScrZE
namespace Go.Proofs.YtlodoilihminaaaGreatDoor
open Go.ChangeShapes Go.WideShapes Go.ChangeAt Go.RowKit
set_option linter.unusedVariables false
set_option linter.unusedSimpArgs false
theorem act_info : (Tryz.prog.info? 27).map (fun i => (i.zero, i.size, i.bytes)) = some (some (.agg #[.int .i64 0, .string .empty, .slice none 0 0, .slice none 0 0, .int .i64 0, .int .i64 0]), 6, 88) := by kernel_rfl
theorem inf_parts {P : Program} {t : TypeId} {z : Option Value} {a b : Nat} (h : (P.info? t).map (fun i => (i.zero, i.size, i.bytes)) = some (z, a, b)) : ∃ i, P.info? t = some i ∧ i.zero = z ∧ i.size = a ∧ i.bytes = b := by
  obtain ⟨i, e1, e2⟩ := Option.map_eq_some_iff.1 h
  exact ⟨i, e1, (Prod.mk.inj e2).1, (Prod.mk.inj (Prod.mk.inj e2).2).1, (Prod.mk.inj (Prod.mk.inj e2).2).2⟩
/-- what take leaves -/
structure Tk (W w' : World) (q M : Nat) (c : Int) (l : List Ac) : Prop where
  bel : Below q W w'
  box : ∃ v xs, w'.heap[q]? = some (.cells #[.int .i64 c, v] 38 (0, 0)) ∧ OA w' M v l xs
theorem ac1 (a : Ac) (bA : Option Addr) (bn bc : Nat) (nA : Option Addr) (nn nc : Nat) : ∀ u ∈ (actC a.kind a.name bA bn bc nA nn nc a.mem a.fuel).toList, u.oneCell' = true := by
  intro u hu
  simp only [actC, List.mem_cons, List.not_mem_nil, or_false] at hu
  rcases hu with rfl | rfl | rfl | rfl | rfl | rfl <;> rfl
set_option maxHeartbeats 4000000 in
set_option maxRecDepth 100000 in
theorem take0_any {W : World} {q M : Nat} {c : Int} {l : List Ac} {v : Value} {xs : List Value} (hbox : W.heap[q]? = some (.cells #[.int .i64 c, v] 38 (0, 0))) (ho : OA W M v l xs) (hqM : q < M) (x : List UInt8) (hx : x.length ≤ 1000000) (hT : Tb W) :
    Calls Tryz.prog 47 #[.pointer (some ⟨q, 0, none⟩), .int .i64 0, .string (S x)] W fun e w' => e = .returned (.bool (lineOk 0 x)) ∧ Tk W w' q M (numOf (c2 x)) l := by
  have hlt := (Array.getElem?_eq_some_iff.1 hbox).1
  have HBX := Lib.hid hbox
  have HOA := Lib.hid ho
  have HC := Lib.hid (cut_any 32 x (by omega) W hT.m)
  rw [k1_32, k2_32] at HC
  have HNU := Lib.hid fun (V : World) (hV : Below W.heap.size W V) => number_any (c2 x) V (Nat.le_trans (c2_len x) hx) (hT.below hV).t (hT.below hV).e
  have HOK : Hid (lineOk 0 x = (decide (c1 x = wCap) && capB (numOf (c2 x)))) := Lib.hid rfl
  have hs1 := S_ne (l := c1 x) (m := wCap)
  replace hs1 : ((S (c1 x)).toList == ([99, 97, 112, 97, 99, 105, 116, 121] : List UInt8)) = decide (c1 x = wCap) := by
    rw [← hs1, ByteArray.toList_eq (bs := S wCap)]
    rfl
  obtain ⟨b1, hb1⟩ : ∃ b1, b1 = decide (c1 x = wCap) := ⟨_, rfl⟩
  rw [← hb1] at hs1 HOK
  have HCA := Lib.hid (cap_any (numOf (c2 x)))
  obtain ⟨nu, hnu⟩ : ∃ nu, nu = numOf (c2 x) := ⟨_, rfl⟩
  rw [← hnu] at HOK HCA HNU ⊢
  have HFR : Hid (∀ V, Below W.heap.size W V → V.cell? ⟨q, 0, none⟩ = some (.int .i64 c) ∧ V.frozen? ⟨q, 0, none⟩ = false) := Lib.hid fun V hV => by
    have h := (hV.block _ hlt).trans hbox
    exact ⟨by rw [World.cell?, h]; rfl, by rw [World.frozen?, h]; simp⟩
  have HTK : Hid (∀ V, Below W.heap.size W V → (V.setCell ⟨q, 0, none⟩ (.int .i64 nu)).cell? ⟨q, 0, none⟩ = some (.int .i64 nu) ∧ Tk W (V.setCell ⟨q, 0, none⟩ (.int .i64 nu)) q M nu l) := Lib.hid fun V hV => by
    have h := (hV.block _ hlt).trans hbox
    have h2 := heap_setCell_same V q 0 (.int .i64 nu) h
    refine ⟨by rw [World.cell?, h2]; rfl, (hV.mono (Nat.le_of_lt hlt)).setCell (Nat.le_refl q) _, v, xs, h2.trans rfl, (ho.below hV).keep (by simp) (fun z hz _ => setCell_kept _ _ _ _ _ (by omega))⟩
  clear hb1 hnu hbox ho hlt hT
  generalize S (c1 x) = s1 at *
  generalize S (c2 x) = s2 at *
  generalize S x = s0 at *
  generalize decide (32 ∈ x) = b32 at *
  cases b1 with
  | false =>
    go_enter Tryz.func47, Tryz.ntmps47
    go_wp2_with (first
      | (go_at_call 22; (with_reducible refine HC.out.mono ?_); rintro e w1 ⟨rfl, n1, hw1⟩; have HB1 : Hid (Below W.heap.size W w1) := Lib.hid (by rw [hw1]; exact drewN_below W n1); clear hw1)
      | (go_at_call 27; (with_reducible refine (HNU.out _ HB1.out).mono ?_); rintro e w2 ⟨rfl, hb2⟩; have HB2 := Lib.hid (HB1.out.trans (hb2.mono HB1.out.size)); obtain ⟨g0, g1⟩ := HFR.out _ HB2.out; obtain ⟨g2, g3⟩ := HTK.out _ HB2.out; have HG := Lib.hid g3; clear hb2 g3))
    go_ret
    exact ⟨ret_bool (by rw [HOK.out]; rfl), HG.out⟩
  | true =>
    go_enter Tryz.func47, Tryz.ntmps47
    go_wp2_with (first
      | (go_at_call 22; (with_reducible refine HC.out.mono ?_); rintro e w1 ⟨rfl, n1, hw1⟩; have HB1 : Hid (Below W.heap.size W w1) := Lib.hid (by rw [hw1]; exact drewN_below W n1); clear hw1)
      | (go_at_call 27; (with_reducible refine (HNU.out _ HB1.out).mono ?_); rintro e w2 ⟨rfl, hb2⟩; have HB2 := Lib.hid (HB1.out.trans (hb2.mono HB1.out.size)); obtain ⟨g0, g1⟩ := HFR.out _ HB2.out; obtain ⟨g2, g3⟩ := HTK.out _ HB2.out; have HG := Lib.hid g3; clear hb2 g3)
      | (go_at_call 35; (with_reducible refine (HCA.out _).mono ?_); rintro e w' ⟨rfl, rfl⟩))
    go_ret
    exact ⟨ret_bool (by rw [HOK.out]; rfl), HG.out⟩
set_option maxHeartbeats 4000000 in
set_option maxRecDepth 100000 in
theorem take1_any {W : World} {q M : Nat} {c : Int} {l : List Ac} {v : Value} {xs : List Value} (hbox : W.heap[q]? = some (.cells #[.int .i64 c, v] 38 (0, 0))) (ho : OA W M v l xs) (hqM : q < M) (hM : M ≤ W.heap.size) (i : Nat) (hi : 0 < i) (hi2 : i ≤ 10000000) (hl : l.length ≤ 1000000) (x : List UInt8) (hx : x.length ≤ 1000000) (hT : Tb W) :
    Calls Tryz.prog 47 #[.pointer (some ⟨q, 0, none⟩), .int .i64 (i : Int), .string (S x)] W fun e w' => e = .returned (.bool (lineOk i x)) ∧ Tk W w' q M c (tkL i l x) := by
  have hlt := (Array.getElem?_eq_some_iff.1 hbox).1
  have HBX := Lib.hid hbox
  have HOA := Lib.hid ho
  have HAO := Lib.hid (actOf_any W x hx hT.t hT.s hT.m hT.e)
  have hiz : ((i : Int) == 0) = false := by simp; omega
  have hok : lineOk i x = (readB x && decide (i ≤ 4096)) := by unfold lineOk; rw [if_neg (by omega)]
  have htl : tkL i l x = if lineOk i x = true then l ++ [rdA x] else l := by unfold tkL; rw [if_neg (by omega)]
  rw [hok] at htl ⊢
  have HTL := Lib.hid htl
  have HTK0 : Hid (∀ V, Below W.heap.size W V → Tk W V q M c l) := Lib.hid fun V hV => ⟨hV.mono (Nat.le_of_lt hlt), v, xs, (hV.block _ hlt).trans hbox, ho.below hV⟩
  have HKW : Hid ((Lit.int .i64 (rdA x).kind).wf = true) := Lib.hid (by unfold rdA; split; exact pC_kind_wf x; decide)
  have HLT := Lib.hid hlt
  have HM := Lib.hid (⟨hqM, hM⟩ : _ ∧ _)
  clear hbox ho hlt hT hok htl hqM hM
  generalize rdA x = a at *
  cases hrd : readB x with
  | false =>
    rw [hrd] at HAO HTL
    clear hrd
    rw [Bool.false_and, if_neg (by decide)] at HTL
    generalize S x = sx at *
    go_enter Tryz.func47, Tryz.ntmps47
    unfold actC at HAO
    go_wp2_with (go_at_call 8; (with_reducible refine HAO.out.mono ?_); rintro e w1 ⟨bA, bn, bc, nA, nn, nc, rfl, -, -, -, hb1⟩; have HB1 := Lib.hid (hb1.alloc hb1.size (.cells #[.int .i64 a.kind, .string (S a.name), .slice bA bn bc, .slice nA nn nc, .int .i64 a.mem, .int .i64 a.fuel] 27)); clear hb1)
    go_ret
    exact ⟨rfl, by rw [HTL.out]; exact HTK0.out _ HB1.out⟩
  | true =>
    rw [hrd] at HAO HTL
    clear hrd
    rw [if_pos rfl] at HAO
    rw [Bool.true_and] at HTL ⊢
    generalize S x = sx at *
    unfold actC at HAO
    by_cases h4 : 4096 < i
    · rw [decide_eq_false (by omega), if_neg (by decide)] at HTL
      rw [decide_eq_false (by omega)]
      go_enter Tryz.func47, Tryz.ntmps47
      go_wp2_with (go_at_call 8; (with_reducible refine HAO.out.mono ?_); rintro e w1 ⟨bA, bn, bc, nA, nn, nc, rfl, -, -, -, hb1⟩; have HB1 := Lib.hid (hb1.alloc hb1.size (.cells #[.int .i64 a.kind, .string (S a.name), .slice bA bn bc, .slice nA nn nc, .int .i64 a.mem, .int .i64 a.fuel] 27)); clear hb1)
      go_ret
      exact ⟨rfl, by rw [HTL.out]; exact HTK0.out _ HB1.out⟩
    · rw [decide_eq_true (by omega), if_pos rfl] at HTL
      rw [decide_eq_true (by omega), HTL.out]
      go_enter Tryz.func47, Tryz.ntmps47
      go_upto_region 6 with (go_at_call 8; (with_reducible refine HAO.out.mono ?_); rintro e w1 ⟨bA, bn, bc, nA, nn, nc, rfl, hat, hl1, hl2, hb1⟩; have HAT := Lib.hid (⟨hat, hl1, hl2, hb1⟩ : _ ∧ _ ∧ _ ∧ _); clear hat hl1 hl2 hb1)
      have hp5 := heap_alloc_new w1 (.cells #[.int .i64 a.kind, .string (S a.name), .slice bA bn bc, .slice nA nn nc, .int .i64 a.mem, .int .i64 a.fuel] 27)
      have hb5 := sbelow1 w1 (.cells #[.int .i64 a.kind, .string (S a.name), .slice bA bn bc, .slice nA nn nc, .int .i64 a.mem, .int .i64 a.fuel] 27)
      generalize w1.alloc (.cells #[.int .i64 a.kind, .string (S a.name), .slice bA bn bc, .slice nA nn nc, .int .i64 a.mem, .int .i64 a.fuel] 27) = W5 at hp5 hb5 ⊢
      have HW5 := Lib.hid (HAT.out.2.2.2.trans (hb5.mono HAT.out.2.2.2.size))
      have HAT5 := Lib.hid (HAT.out.1.below hb5)
      have far : ∀ (A : Option Addr) (n : Nat), RLo W.heap.size A n → RFar M v A n := fun A n h h0 => by
        obtain ⟨y, e, h1⟩ := h h0
        refine ⟨y, e, Nat.le_trans HM.out.2 h1, fun e2 => ?_⟩
        have := (HOA.out.own.lt _ e2).2
        omega
      have HRA := Lib.hid (far bA bn HAT.out.2.1)
      have HRB := Lib.hid (far nA nn HAT.out.2.2.1)
      have HP5 := Lib.hid hp5
      have hpw : W.heap.size ≤ w1.heap.size := HAT.out.2.2.2.size
      generalize w1.heap.size = p at hp5 HP5 hpw ⊢
      clear hp5 hb5 far HAT
      go_wp2_with fail
      obtain ⟨ia, hia, hy0, hy1, hy2⟩ := inf_parts act_info
      have HOA7 := Lib.hid (HOA.out.below HW5.out)
      have HQS : Hid (q ≤ W5.heap.size) := Lib.hid (Nat.le_trans (Nat.le_of_lt HLT.out) HW5.out.size)
      have HMS : Hid (M ≤ W5.heap.size) := Lib.hid (Nat.le_trans HM.out.2 HW5.out.size)
      have HPQ : Hid (q < p) := Lib.hid (Nat.lt_of_lt_of_le HLT.out hpw)
      have HPN : Hid (v.ownBlock ≠ some p) := Lib.hid fun e => by have := (HOA.out.own.lt p e).2; omega
      have HBX5 := Lib.hid ((HW5.out.block _ HLT.out).trans HBX.out)
      refine wp_region_inv' 11 rfl (fun L a' w' => ∃ y0 y1 y2 y3 y4 y5 y6 y7 y8 y9 : Value, a' = { tmps := List.toArray ((.pointer (some ⟨q, 0, none⟩)) :: (.int .i64 (i : Int)) :: (.string sx) :: undef :: undef :: undef :: (.bool false) :: undef :: undef :: undef :: (.pointer (some ⟨p, 0, none⟩)) :: (.int .i64 0) :: (.int .i64 (i : Int)) :: (.bool false) :: undef :: undef :: undef :: undef :: undef :: undef :: undef :: undef :: undef :: undef :: undef :: undef :: undef :: undef :: undef :: undef :: undef :: undef :: undef :: undef :: (.tuple #[.agg #[.int .i64 a.kind, .string (S a.name), .slice bA bn bc, .slice nA nn nc, .int .i64 a.mem, .int .i64 a.fuel], .int .i64 0]) :: (.string sx) :: (.tuple #[.agg #[.int .i64 a.kind, .string (S a.name), .slice bA bn bc, .slice nA nn nc, .int .i64 a.mem, .int .i64 a.fuel], .int .i64 0]) :: (.agg #[.int .i64 a.kind, .string (S a.name), .slice bA bn bc, .slice nA nn nc, .int .i64 a.mem, .int .i64 a.fuel]) :: (.int .i64 0) :: (.int .i64 0) :: (.bool false) :: (.bool false) :: (.int .i64 (i : Int)) :: (.bool (decide (4096 < (i : Int)))) :: (.bool (decide (4096 < (i : Int)))) :: y0 :: y1 :: y2 :: y3 :: y4 :: y5 :: y6 :: y7 :: y8 :: y9 :: []), defers := [] } ∧ (L 0 = true → y0 = .pointer (some ⟨q, 0, none⟩)) ∧ (L 1 = true → y1 = .pointer (some ⟨q, 0, none⟩)) ∧ (L 2 = true → y2 = .pointer (some ⟨q, 0, none⟩)) ∧ (L 3 = true → y3 = .pointer (some ⟨q, 1, none⟩)) ∧ (L 4 = true → y4 = v) ∧ (L 5 = true → y5 = .agg #[.int .i64 a.kind, .string (S a.name), .slice bA bn bc, .slice nA nn nc, .int .i64 a.mem, .int .i64 a.fuel]) ∧ (L 6 = true → ∃ g, y6 = .slice (some ⟨g, 0, none⟩) 1 1) ∧ (L 7 = true → ∃ g cap, y7 = .slice (some ⟨g, 0, none⟩) (l.length + 1) cap) ∧ (L 8 = true → y8 = .pointer (some ⟨q, 0, none⟩)) ∧ (L 9 = true → y9 = .pointer (some ⟨q, 1, none⟩)) ∧ (Below q W5 w') ∧ (L 7 = false → Below W5.heap.size W5 w') ∧ (L 10 = false → w'.heap[q]? = some (.cells #[.int .i64 c, v] 38 (0, 0))) ∧ (w'.heap[p]? = some (.cells #[.int .i64 a.kind, .string (S a.name), .slice bA bn bc, .slice nA nn nc, .int .i64 a.mem, .int .i64 a.fuel] 27 (0, 0))) ∧ (L 6 = true → L 7 = false → ∀ g, y6 = .slice (some ⟨g, 0, none⟩) 1 1 → w'.heap[g]? = some (.cells #[.int .i64 a.kind, .string (S a.name), .slice bA bn bc, .slice nA nn nc, .int .i64 a.mem, .int .i64 a.fuel] 27 (0, 0))) ∧ (L 7 = true → L 10 = false → ∀ g cap, y7 = .slice (some ⟨g, 0, none⟩) (l.length + 1) cap → OA w' M (.slice (some ⟨g, 0, none⟩) (l.length + 1) cap) (l ++ [a]) (xs ++ (actC a.kind a.name bA bn bc nA nn nc a.mem a.fuel).toList)) ∧ (L 10 = true → ∃ v' xs', w'.heap[q]? = some (.cells #[.int .i64 c, v'] 38 (0, 0)) ∧ OA w' M v' (l ++ [a]) xs')) (by kernel_rfl) (by kernel_rfl) ?h0 ?step ?fin
      case h0 => exact ⟨undef, undef, undef, undef, undef, undef, undef, undef, undef, undef, rfl, (fun e => by simp at e), (fun e => by simp at e), (fun e => by simp at e), (fun e => by simp at e), (fun e => by simp at e), (fun e => by simp at e), (fun e => by simp at e), (fun e => by simp at e), (fun e => by simp at e), (fun e => by simp at e), ((Below.refl _ _).drew), (fun _ => (Below.refl _ _).drew), (fun _ => HBX5.out), HP5.out, (fun e => by simp at e), (fun e => by simp at e), (fun e => by simp at e)⟩
      case step =>
        rintro i hi L a' w' hLi hcl hdp ⟨y0, y1, y2, y3, y4, y5, y6, y7, y8, y9, rfl, e0, e1, e2, e3, e4, e5, e6, e7, e8, e9, hw0, hw1, hw2, hw3, hw4, hw5, hw6⟩
        have hi2 : i = 0 ∨ i = 1 ∨ i = 2 ∨ i = 3 ∨ i = 4 ∨ i = 5 ∨ i = 6 ∨ i = 7 ∨ i = 8 ∨ i = 9 ∨ i = 10 := by omega
        rcases hi2 with rfl | rfl | rfl | rfl | rfl | rfl | rfl | rfl | rfl | rfl | rfl
        · have HF0 := Lib.hid hw0; have HF1 := Lib.hid hw1; have HF2 := Lib.hid hw2; have HF3 := Lib.hid hw3; have HF4 := Lib.hid hw4; have HF5 := Lib.hid hw5; have HF6 := Lib.hid hw6
          have E1 := Lib.hid e1; have E2 := Lib.hid e2; have E3 := Lib.hid e3; have E4 := Lib.hid e4; have E5 := Lib.hid e5; have E6 := Lib.hid e6; have E7 := Lib.hid e7; have E8 := Lib.hid e8; have E9 := Lib.hid e9
          clear e0 e1 e2 e3 e4 e5 e6 e7 e8 e9 hw0 hw1 hw2 hw3 hw4 hw5 hw6
          refine wpOp_step rfl (fun K hK => ?_)
          go_simp
          exact hK _ _ ⟨_, _, _, _, _, _, _, _, _, _, rfl, (fun _ => rfl), (fun h => E1.out (by simpa [upOn] using h)), (fun h => E2.out (by simpa [upOn] using h)), (fun h => E3.out (by simpa [upOn] using h)), (fun h => E4.out (by simpa [upOn] using h)), (fun h => E5.out (by simpa [upOn] using h)), (fun h => E6.out (by simpa [upOn] using h)), (fun h => E7.out (by simpa [upOn] using h)), (fun h => E8.out (by simpa [upOn] using h)), (fun h => E9.out (by simpa [upOn] using h)), HF0.out, (fun h0 => HF1.out (by simpa [upOn] using h0)), (fun h0 => HF2.out (by simpa [upOn] using h0)), HF3.out, (fun h0 h1 => HF4.out (by simpa [upOn] using h0) (by simpa [upOn] using h1)), (fun h0 h1 => HF5.out (by simpa [upOn] using h0) (by simpa [upOn] using h1)), (fun h0 => HF6.out (by simpa [upOn] using h0))⟩
        · have HF0 := Lib.hid hw0; have HF1 := Lib.hid hw1; have HF2 := Lib.hid hw2; have HF3 := Lib.hid hw3; have HF4 := Lib.hid hw4; have HF5 := Lib.hid hw5; have HF6 := Lib.hid hw6
          have E0 := Lib.hid e0; have E2 := Lib.hid e2; have E3 := Lib.hid e3; have E4 := Lib.hid e4; have E5 := Lib.hid e5; have E6 := Lib.hid e6; have E7 := Lib.hid e7; have E8 := Lib.hid e8; have E9 := Lib.hid e9
          clear e0 e1 e2 e3 e4 e5 e6 e7 e8 e9 hw0 hw1 hw2 hw3 hw4 hw5 hw6
          refine wpOp_step rfl (fun K hK => ?_)
          go_simp
          exact hK _ _ ⟨_, _, _, _, _, _, _, _, _, _, rfl, (fun h => E0.out (by simpa [upOn] using h)), (fun _ => rfl), (fun h => E2.out (by simpa [upOn] using h)), (fun h => E3.out (by simpa [upOn] using h)), (fun h => E4.out (by simpa [upOn] using h)), (fun h => E5.out (by simpa [upOn] using h)), (fun h => E6.out (by simpa [upOn] using h)), (fun h => E7.out (by simpa [upOn] using h)), (fun h => E8.out (by simpa [upOn] using h)), (fun h => E9.out (by simpa [upOn] using h)), HF0.out, (fun h0 => HF1.out (by simpa [upOn] using h0)), (fun h0 => HF2.out (by simpa [upOn] using h0)), HF3.out, (fun h0 h1 => HF4.out (by simpa [upOn] using h0) (by simpa [upOn] using h1)), (fun h0 h1 => HF5.out (by simpa [upOn] using h0) (by simpa [upOn] using h1)), (fun h0 => HF6.out (by simpa [upOn] using h0))⟩
        · have HF0 := Lib.hid hw0; have HF1 := Lib.hid hw1; have HF2 := Lib.hid hw2; have HF3 := Lib.hid hw3; have HF4 := Lib.hid hw4; have HF5 := Lib.hid hw5; have HF6 := Lib.hid hw6
          have l1 := (hdp 1 (by kernel_rfl))
          obtain rfl := e1 l1
          have E0 := Lib.hid e0; have E3 := Lib.hid e3; have E4 := Lib.hid e4; have E5 := Lib.hid e5; have E6 := Lib.hid e6; have E7 := Lib.hid e7; have E8 := Lib.hid e8; have E9 := Lib.hid e9
          clear e0 e1 e2 e3 e4 e5 e6 e7 e8 e9 hw0 hw1 hw2 hw3 hw4 hw5 hw6
          refine wpOp_step rfl (fun K hK => ?_)
          go_simp
          exact hK _ _ ⟨_, _, _, _, _, _, _, _, _, _, rfl, (fun h => E0.out (by simpa [upOn] using h)), (fun _ => rfl), (fun _ => rfl), (fun h => E3.out (by simpa [upOn] using h)), (fun h => E4.out (by simpa [upOn] using h)), (fun h => E5.out (by simpa [upOn] using h)), (fun h => E6.out (by simpa [upOn] using h)), (fun h => E7.out (by simpa [upOn] using h)), (fun h => E8.out (by simpa [upOn] using h)), (fun h => E9.out (by simpa [upOn] using h)), HF0.out, (fun h0 => HF1.out (by simpa [upOn] using h0)), (fun h0 => HF2.out (by simpa [upOn] using h0)), HF3.out, (fun h0 h1 => HF4.out (by simpa [upOn] using h0) (by simpa [upOn] using h1)), (fun h0 h1 => HF5.out (by simpa [upOn] using h0) (by simpa [upOn] using h1)), (fun h0 => HF6.out (by simpa [upOn] using h0))⟩
        · have HF0 := Lib.hid hw0; have HF1 := Lib.hid hw1; have HF2 := Lib.hid hw2; have HF3 := Lib.hid hw3; have HF4 := Lib.hid hw4; have HF5 := Lib.hid hw5; have HF6 := Lib.hid hw6
          have l2 := (hdp 2 (by kernel_rfl))
          obtain rfl := e2 l2
          have E0 := Lib.hid e0; have E1 := Lib.hid e1; have E4 := Lib.hid e4; have E5 := Lib.hid e5; have E6 := Lib.hid e6; have E7 := Lib.hid e7; have E8 := Lib.hid e8; have E9 := Lib.hid e9
          clear e0 e1 e2 e3 e4 e5 e6 e7 e8 e9 hw0 hw1 hw2 hw3 hw4 hw5 hw6
          refine wpOp_step rfl (fun K hK => ?_)
          go_simp
          exact hK _ _ ⟨_, _, _, _, _, _, _, _, _, _, rfl, (fun h => E0.out (by simpa [upOn] using h)), (fun h => E1.out (by simpa [upOn] using h)), (fun _ => rfl), (fun _ => rfl), (fun h => E4.out (by simpa [upOn] using h)), (fun h => E5.out (by simpa [upOn] using h)), (fun h => E6.out (by simpa [upOn] using h)), (fun h => E7.out (by simpa [upOn] using h)), (fun h => E8.out (by simpa [upOn] using h)), (fun h => E9.out (by simpa [upOn] using h)), HF0.out, (fun h0 => HF1.out (by simpa [upOn] using h0)), (fun h0 => HF2.out (by simpa [upOn] using h0)), HF3.out, (fun h0 h1 => HF4.out (by simpa [upOn] using h0) (by simpa [upOn] using h1)), (fun h0 h1 => HF5.out (by simpa [upOn] using h0) (by simpa [upOn] using h1)), (fun h0 => HF6.out (by simpa [upOn] using h0))⟩
        · have HF0 := Lib.hid hw0; have HF1 := Lib.hid hw1; have HF2 := Lib.hid hw2; have HF3 := Lib.hid hw3; have HF4 := Lib.hid hw4; have HF5 := Lib.hid hw5; have HF6 := Lib.hid hw6
          have l3 := (hdp 3 (by kernel_rfl))
          have l10 : L 10 = false := by
            cases h : L 10
            · rfl
            · exact absurd (hcl 7 4 (hcl 10 7 h (by kernel_rfl)) (by kernel_rfl)) (by rw [hLi]; decide)
          obtain rfl := e3 l3
          have E0 := Lib.hid e0; have E1 := Lib.hid e1; have E2 := Lib.hid e2; have E5 := Lib.hid e5; have E6 := Lib.hid e6; have E7 := Lib.hid e7; have E8 := Lib.hid e8; have E9 := Lib.hid e9
          clear e0 e1 e2 e3 e4 e5 e6 e7 e8 e9 hw0 hw1 hw2 hw3 hw4 hw5 hw6
          have kb := HF2.out l10
          have k1 : w'.cell? ⟨q, 1, none⟩ = some v := by rw [World.cell?, kb]; rfl
          refine wpOp_step rfl (fun K hK => ?_)
          go_simp
          exact hK _ _ ⟨_, _, _, _, _, _, _, _, _, _, rfl, (fun h => E0.out (by simpa [upOn] using h)), (fun h => E1.out (by simpa [upOn] using h)), (fun h => E2.out (by simpa [upOn] using h)), (fun _ => rfl), (fun _ => rfl), (fun h => E5.out (by simpa [upOn] using h)), (fun h => E6.out (by simpa [upOn] using h)), (fun h => E7.out (by simpa [upOn] using h)), (fun h => E8.out (by simpa [upOn] using h)), (fun h => E9.out (by simpa [upOn] using h)), HF0.out, (fun h0 => HF1.out (by simpa [upOn] using h0)), (fun h0 => HF2.out (by simpa [upOn] using h0)), HF3.out, (fun h0 h1 => HF4.out (by simpa [upOn] using h0) (by simpa [upOn] using h1)), (fun h0 h1 => HF5.out (by simpa [upOn] using h0) (by simpa [upOn] using h1)), (fun h0 => HF6.out (by simpa [upOn] using h0))⟩
        · have HF0 := Lib.hid hw0; have HF1 := Lib.hid hw1; have HF2 := Lib.hid hw2; have HF3 := Lib.hid hw3; have HF4 := Lib.hid hw4; have HF5 := Lib.hid hw5; have HF6 := Lib.hid hw6
          have E0 := Lib.hid e0; have E1 := Lib.hid e1; have E2 := Lib.hid e2; have E3 := Lib.hid e3; have E4 := Lib.hid e4; have E6 := Lib.hid e6; have E7 := Lib.hid e7; have E8 := Lib.hid e8; have E9 := Lib.hid e9
          clear e0 e1 e2 e3 e4 e5 e6 e7 e8 e9 hw0 hw1 hw2 hw3 hw4 hw5 hw6
          have kp := HF3.out
          have k0 : w'.cell? ⟨p, 0, none⟩ = some (.int .i64 a.kind) := by rw [World.cell?, kp]; rfl
          have k1 : w'.cell? ⟨p, 1, none⟩ = some (.string (S a.name)) := by rw [World.cell?, kp]; rfl
          have k2 : w'.cell? ⟨p, 2, none⟩ = some (.slice bA bn bc) := by rw [World.cell?, kp]; rfl
          have k3 : w'.cell? ⟨p, 3, none⟩ = some (.slice nA nn nc) := by rw [World.cell?, kp]; rfl
          have k4 : w'.cell? ⟨p, 4, none⟩ = some (.int .i64 a.mem) := by rw [World.cell?, kp]; rfl
          have k5 : w'.cell? ⟨p, 5, none⟩ = some (.int .i64 a.fuel) := by rw [World.cell?, kp]; rfl
          refine wpOp_step rfl (fun K hK => ?_)
          go_simp
          exact hK _ _ ⟨_, _, _, _, _, _, _, _, _, _, rfl, (fun h => E0.out (by simpa [upOn] using h)), (fun h => E1.out (by simpa [upOn] using h)), (fun h => E2.out (by simpa [upOn] using h)), (fun h => E3.out (by simpa [upOn] using h)), (fun h => E4.out (by simpa [upOn] using h)), (fun _ => rfl), (fun h => E6.out (by simpa [upOn] using h)), (fun h => E7.out (by simpa [upOn] using h)), (fun h => E8.out (by simpa [upOn] using h)), (fun h => E9.out (by simpa [upOn] using h)), HF0.out, (fun h0 => HF1.out (by simpa [upOn] using h0)), (fun h0 => HF2.out (by simpa [upOn] using h0)), HF3.out, (fun h0 h1 => HF4.out (by simpa [upOn] using h0) (by simpa [upOn] using h1)), (fun h0 h1 => HF5.out (by simpa [upOn] using h0) (by simpa [upOn] using h1)), (fun h0 => HF6.out (by simpa [upOn] using h0))⟩
        · have HF0 := Lib.hid hw0; have HF1 := Lib.hid hw1; have HF2 := Lib.hid hw2; have HF3 := Lib.hid hw3; have HF4 := Lib.hid hw4; have HF5 := Lib.hid hw5; have HF6 := Lib.hid hw6
          have l5 := (hdp 5 (by kernel_rfl))
          have l7 : L 7 = false := by
            cases h : L 7
            · rfl
            · exact absurd (hcl 7 6 h (by kernel_rfl)) (by rw [hLi]; decide)
          have l10 : L 10 = false := by
            cases h : L 10
            · rfl
            · exact absurd (hcl 7 6 (hcl 10 7 h (by kernel_rfl)) (by kernel_rfl)) (by rw [hLi]; decide)
          obtain rfl := e5 l5
          have E0 := Lib.hid e0; have E1 := Lib.hid e1; have E2 := Lib.hid e2; have E3 := Lib.hid e3; have E4 := Lib.hid e4; have E7 := Lib.hid e7; have E8 := Lib.hid e8; have E9 := Lib.hid e9
          clear e0 e1 e2 e3 e4 e5 e6 e7 e8 e9 hw0 hw1 hw2 hw3 hw4 hw5 hw6
          refine wpOp_step rfl (fun K hK => ?_)
          go_simp
          have hz6 : ∀ z, z < w'.heap.size → (w'.alloc (.cells #[.int .i64 a.kind, .string (S a.name), .slice bA bn bc, .slice nA nn nc, .int .i64 a.mem, .int .i64 a.fuel] 27)).heap[z]? = w'.heap[z]? := fun z hz => Below.heap_alloc w' (.cells #[.int .i64 a.kind, .string (S a.name), .slice bA bn bc, .slice nA nn nc, .int .i64 a.mem, .int .i64 a.fuel] 27) z hz
          exact hK _ _ ⟨_, _, _, _, _, _, _, _, _, _, rfl, (fun h => E0.out (by simpa [upOn] using h)), (fun h => E1.out (by simpa [upOn] using h)), (fun h => E2.out (by simpa [upOn] using h)), (fun h => E3.out (by simpa [upOn] using h)), (fun h => E4.out (by simpa [upOn] using h)), (fun _ => rfl), (fun _ => ⟨_, rfl⟩), (fun h => E7.out (by simpa [upOn] using h)), (fun h => E8.out (by simpa [upOn] using h)), (fun h => E9.out (by simpa [upOn] using h)), (HF0.out.alloc (Nat.le_trans HQS.out HF0.out.size) _), (fun h => by have hq := HF1.out (by simpa [upOn] using h); exact hq.alloc hq.size _), (fun h => by have hq := HF2.out (by simpa [upOn] using h); exact (hz6 _ (Array.getElem?_eq_some_iff.1 hq).1).trans hq), ((hz6 _ (Array.getElem?_eq_some_iff.1 HF3.out).1).trans HF3.out), (fun _ _ g hg => by cases hg; exact heap_alloc_new w' (.cells #[.int .i64 a.kind, .string (S a.name), .slice bA bn bc, .slice nA nn nc, .int .i64 a.mem, .int .i64 a.fuel] 27)), (fun h _ => by simp [upOn, l7] at h), (fun h => by simp [upOn, l10] at h)⟩
        · have HF0 := Lib.hid hw0; have HF1 := Lib.hid hw1; have HF2 := Lib.hid hw2; have HF3 := Lib.hid hw3; have HF4 := Lib.hid hw4; have HF5 := Lib.hid hw5; have HF6 := Lib.hid hw6
          have l4 := (hdp 4 (by kernel_rfl))
          have l6 := (hdp 6 (by kernel_rfl))
          have l10 : L 10 = false := by
            cases h : L 10
            · rfl
            · exact absurd (hcl 10 7 h (by kernel_rfl)) (by rw [hLi]; decide)
          obtain rfl := (e4 l4).symm
          obtain ⟨g6, rfl⟩ := e6 l6
          have E0 := Lib.hid e0; have E1 := Lib.hid e1; have E2 := Lib.hid e2; have E3 := Lib.hid e3; have E5 := Lib.hid e5; have E8 := Lib.hid e8; have E9 := Lib.hid e9
          clear e0 e1 e2 e3 e4 e5 e6 e7 e8 e9 hw0 hw1 hw2 hw3 hw4 hw5 hw6
          have hb7 := HF1.out hLi
          have HOW := Lib.hid (HOA7.out.below hb7)
          have hg6 := HF4.out l6 hLi g6 rfl
          have hsz7 : M ≤ w'.heap.size := Nat.le_trans HMS.out hb7.size
          refine wpOp_step rfl (fun K hK => ?_)
          refine wp_append_lies _ _ _ 36 (by rfl) M 27 ia _ 6 88 Tryz.underlying36 hia hy0 hy1 hy2 rfl (by omega) v l.length xs (by rfl) HOW.out.own ⟨g6, 0, none⟩ 1 1 (actC a.kind a.name bA bn bc nA nn nc a.mem a.fuel).toList (by rfl) (by rfl) (World.news_of_block hg6) (ac1 a bA bn bc nA nn nc) (by omega) (by unfold maxLen; omega) (by omega) hsz7 w'.heap.size rfl ?_
          intro gg cap1 X1 hown1 hgrow hat hlt1
          have hne : ∀ z, z < M → some z ≠ v.ownBlock := fun z hz e => by have := (HOW.out.own.lt z e.symm).1; omega
          have hpne : some p ≠ v.ownBlock := fun e => HPN.out e.symm
          have hX : OA X1 M (.slice (some ⟨gg, 0, none⟩) (l.length + 1) cap1) (l ++ [a]) (xs ++ (actC a.kind a.name bA bn bc nA nn nc a.mem a.fuel).toList) := HOW.out.snoc (HAT5.out.below hb7) HRA.out HRB.out HKW.out hown1 hgrow hat
          exact hK _ _ ⟨_, _, _, _, _, _, _, _, _, _, rfl, (fun h => E0.out (by simpa [upOn] using h)), (fun h => E1.out (by simpa [upOn] using h)), (fun h => E2.out (by simpa [upOn] using h)), (fun h => E3.out (by simpa [upOn] using h)), (fun _ => rfl), (fun h => E5.out (by simpa [upOn] using h)), (fun _ => ⟨_, rfl⟩), (fun _ => ⟨_, _, rfl⟩), (fun h => E8.out (by simpa [upOn] using h)), (fun h => E9.out (by simpa [upOn] using h)), (HF0.out.grown hgrow (Nat.le_trans HQS.out HF0.out.size) (fun z e => by have := (HOW.out.own.lt z e).1; have := HM.out.1; omega)), (fun h0 => by simp [upOn] at h0), (fun h => by have hq := HF2.out (by simpa [upOn] using h); exact (hgrow.block _ (Array.getElem?_eq_some_iff.1 hq).1 (fun e => hne q HM.out.1 (by rw [e]))).trans hq), ((hgrow.block _ (Array.getElem?_eq_some_iff.1 HF3.out).1 (fun e => hpne (by rw [e]))).trans HF3.out), (fun h0 h1 => by simp [upOn] at h1), (fun _ _ g cap hg => by cases hg; exact hX), (fun h => by simp [upOn, l10] at h)⟩
        · have HF0 := Lib.hid hw0; have HF1 := Lib.hid hw1; have HF2 := Lib.hid hw2; have HF3 := Lib.hid hw3; have HF4 := Lib.hid hw4; have HF5 := Lib.hid hw5; have HF6 := Lib.hid hw6
          have l0 := (hdp 0 (by kernel_rfl))
          obtain rfl := e0 l0
          have E1 := Lib.hid e1; have E2 := Lib.hid e2; have E3 := Lib.hid e3; have E4 := Lib.hid e4; have E5 := Lib.hid e5; have E6 := Lib.hid e6; have E7 := Lib.hid e7; have E9 := Lib.hid e9
          clear e0 e1 e2 e3 e4 e5 e6 e7 e8 e9 hw0 hw1 hw2 hw3 hw4 hw5 hw6
          refine wpOp_step rfl (fun K hK => ?_)
          go_simp
          exact hK _ _ ⟨_, _, _, _, _, _, _, _, _, _, rfl, (fun _ => rfl), (fun h => E1.out (by simpa [upOn] using h)), (fun h => E2.out (by simpa [upOn] using h)), (fun h => E3.out (by simpa [upOn] using h)), (fun h => E4.out (by simpa [upOn] using h)), (fun h => E5.out (by simpa [upOn] using h)), (fun h => E6.out (by simpa [upOn] using h)), (fun h => E7.out (by simpa [upOn] using h)), (fun _ => rfl), (fun h => E9.out (by simpa [upOn] using h)), HF0.out, (fun h0 => HF1.out (by simpa [upOn] using h0)), (fun h0 => HF2.out (by simpa [upOn] using h0)), HF3.out, (fun h0 h1 => HF4.out (by simpa [upOn] using h0) (by simpa [upOn] using h1)), (fun h0 h1 => HF5.out (by simpa [upOn] using h0) (by simpa [upOn] using h1)), (fun h0 => HF6.out (by simpa [upOn] using h0))⟩
        · have HF0 := Lib.hid hw0; have HF1 := Lib.hid hw1; have HF2 := Lib.hid hw2; have HF3 := Lib.hid hw3; have HF4 := Lib.hid hw4; have HF5 := Lib.hid hw5; have HF6 := Lib.hid hw6
          have l8 := (hdp 8 (by kernel_rfl))
          obtain rfl := e8 l8
          have E0 := Lib.hid e0; have E1 := Lib.hid e1; have E2 := Lib.hid e2; have E3 := Lib.hid e3; have E4 := Lib.hid e4; have E5 := Lib.hid e5; have E6 := Lib.hid e6; have E7 := Lib.hid e7
          clear e0 e1 e2 e3 e4 e5 e6 e7 e8 e9 hw0 hw1 hw2 hw3 hw4 hw5 hw6
          refine wpOp_step rfl (fun K hK => ?_)
          go_simp
          exact hK _ _ ⟨_, _, _, _, _, _, _, _, _, _, rfl, (fun h => E0.out (by simpa [upOn] using h)), (fun h => E1.out (by simpa [upOn] using h)), (fun h => E2.out (by simpa [upOn] using h)), (fun h => E3.out (by simpa [upOn] using h)), (fun h => E4.out (by simpa [upOn] using h)), (fun h => E5.out (by simpa [upOn] using h)), (fun h => E6.out (by simpa [upOn] using h)), (fun h => E7.out (by simpa [upOn] using h)), (fun _ => rfl), (fun _ => rfl), HF0.out, (fun h0 => HF1.out (by simpa [upOn] using h0)), (fun h0 => HF2.out (by simpa [upOn] using h0)), HF3.out, (fun h0 h1 => HF4.out (by simpa [upOn] using h0) (by simpa [upOn] using h1)), (fun h0 h1 => HF5.out (by simpa [upOn] using h0) (by simpa [upOn] using h1)), (fun h0 => HF6.out (by simpa [upOn] using h0))⟩
        · have HF0 := Lib.hid hw0; have HF1 := Lib.hid hw1; have HF2 := Lib.hid hw2; have HF3 := Lib.hid hw3; have HF4 := Lib.hid hw4; have HF5 := Lib.hid hw5; have HF6 := Lib.hid hw6
          have l7 := (hdp 7 (by kernel_rfl))
          have l9 := (hdp 9 (by kernel_rfl))
          obtain ⟨g7, cap7, rfl⟩ := e7 l7
          obtain rfl := e9 l9
          have E0 := Lib.hid e0; have E1 := Lib.hid e1; have E2 := Lib.hid e2; have E3 := Lib.hid e3; have E4 := Lib.hid e4; have E5 := Lib.hid e5; have E6 := Lib.hid e6; have E8 := Lib.hid e8
          clear e0 e1 e2 e3 e4 e5 e6 e7 e8 e9 hw0 hw1 hw2 hw3 hw4 hw5 hw6
          have kb := HF2.out hLi
          have hX := HF5.out l7 hLi g7 cap7 rfl
          have k1 : w'.cell? ⟨q, 1, none⟩ = some v := by rw [World.cell?, kb]; rfl
          have f1 : w'.frozen? ⟨q, 1, none⟩ = false := by rw [World.frozen?, kb]; simp
          refine wpOp_step rfl (fun K hK => ?_)
          go_simp
          exact hK _ _ ⟨_, _, _, _, _, _, _, _, _, _, rfl, (fun h => E0.out (by simpa [upOn] using h)), (fun h => E1.out (by simpa [upOn] using h)), (fun h => E2.out (by simpa [upOn] using h)), (fun h => E3.out (by simpa [upOn] using h)), (fun h => E4.out (by simpa [upOn] using h)), (fun h => E5.out (by simpa [upOn] using h)), (fun h => E6.out (by simpa [upOn] using h)), (fun _ => ⟨_, _, rfl⟩), (fun h => E8.out (by simpa [upOn] using h)), (fun _ => rfl), (HF0.out.setCell (p := ⟨q, 1, none⟩) (Nat.le_refl q) _), (fun h => by simp [upOn, l7] at h), (fun h0 => by simp [upOn] at h0), ((setCell_kept _ _ _ _ _ (by have := HPQ.out; omega)).trans HF3.out), (fun _ h => by simp [upOn, l7] at h), (fun h0 h1 => by simp [upOn] at h1), (fun _ => ⟨_, _, (heap_setCell_same w' q 1 (.slice (some ⟨g7, 0, none⟩) (l.length + 1) cap7) kb).trans rfl, hX.keep (by simp) (fun z hz _ => setCell_kept _ _ _ _ _ (by have := HM.out.1; omega))⟩)⟩
      case fin =>
        rintro L a' w' hall ⟨y0, y1, y2, y3, y4, y5, y6, y7, y8, y9, rfl, e0, e1, e2, e3, e4, e5, e6, e7, e8, e9, hw0, hw1, hw2, hw3, hw4, hw5, hw6⟩
        obtain rfl := e0 (hall 0 (by omega))
        obtain rfl := e1 (hall 1 (by omega))
        obtain rfl := e2 (hall 2 (by omega))
        obtain rfl := e3 (hall 3 (by omega))
        obtain rfl := (e4 (hall 4 (by omega))).symm
        obtain rfl := e5 (hall 5 (by omega))
        obtain ⟨g6, rfl⟩ := e6 (hall 6 (by omega))
        obtain ⟨g7, cap7, rfl⟩ := e7 (hall 7 (by omega))
        obtain rfl := e8 (hall 8 (by omega))
        obtain rfl := e9 (hall 9 (by omega))
        have hF := hw6 (hall 10 (by omega))
        have HFN : Hid (Tk W w' q M c (l ++ [a])) := Lib.hid ⟨(HW5.out.mono (Nat.le_of_lt HLT.out)).trans hw0, hF⟩
        clear hw0 hw1 hw2 hw3 hw4 hw5 hw6 hF hall
        go_wp2_with fail
        go_ret
        exact ⟨rfl, HFN.out⟩
end Go.Proofs.YtlodoilihminaaaGreatDoor

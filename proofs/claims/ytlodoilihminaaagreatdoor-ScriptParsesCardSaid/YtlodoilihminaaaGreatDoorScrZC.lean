/-
  ref25.Same of any two scripts.
-/
import Derived.Test.YtlodoilihminaaaGreatDoorScrZB
namespace Go.Proofs.YtlodoilihminaaaGreatDoor
open Go.ChangeShapes Go.WideShapes Go.ChangeAt Go.RowKit
set_option linter.unusedVariables false
set_option linter.unusedSimpArgs false
def sameLB : List Ac → List Ac → Bool
  | [], [] => true
  | a :: l, b :: m => sameAB a b && sameLB l m
  | _, _ => false
theorem sameLB_iff : ∀ l m : List Ac, sameLB l m = true ↔ l = m
  | [], [] => by simp [sameLB]
  | [], b :: m => by simp [sameLB]
  | a :: l, [] => by simp [sameLB]
  | a :: l, b :: m => by
    unfold sameLB
    rw [Bool.and_eq_true, sameAB_iff, sameLB_iff l m]
    constructor
    · rintro ⟨rfl, rfl⟩; rfl
    · intro h; injection h with h1 h2; exact ⟨h1, h2⟩
def sameSB (c : Int) (l : List Ac) (c' : Int) (l' : List Ac) : Bool := decide (c = c') && sameLB l l'
theorem sameSB_iff (c : Int) (l : List Ac) (c' : Int) (l' : List Ac) : sameSB c l c' l' = true ↔ c = c' ∧ l = l' := by
  unfold sameSB
  rw [Bool.and_eq_true, decide_eq_true_eq, sameLB_iff]
theorem sameSB_no {c : Int} {l : List Ac} {c' : Int} {l' : List Ac} (h : ¬ (c = c' ∧ l = l')) : sameSB c l c' l' = false := by
  cases e : sameSB c l c' l' with
  | false => rfl
  | true => exact absurd ((sameSB_iff c l c' l').1 e) h
theorem acs_eq {l m : List Ac} (hl : l.length = m.length) (h : ∀ (j : Nat) (x y : Ac), l[j]? = some x → m[j]? = some y → x = y) : l = m := by
  apply List.ext_getElem?
  intro i
  by_cases hi : i < l.length
  · rw [List.getElem?_eq_getElem hi, List.getElem?_eq_getElem (by omega)]
    rw [h i _ _ (List.getElem?_eq_getElem hi) (List.getElem?_eq_getElem (by omega))]
  · rw [List.getElem?_eq_none (by omega), List.getElem?_eq_none (by omega)]
set_option maxHeartbeats 4000000 in
set_option maxRecDepth 100000 in
theorem rsc_any (w : World) (c : Int) (l : List Ac) (A : Option Addr) (n cc : Nat) (h : ScAt w c l A n cc) (c' : Int) (l' : List Ac) (A' : Option Addr) (n' cc' : Nat) (h' : ScAt w c' l' A' n' cc') :
    Calls Tryz.prog 16 #[.agg (scC c A n cc), .agg (scC c' A' n' cc')] w fun e w' => e = .returned (.bool (sameSB c l c' l')) ∧ Below w.heap.size w w' := by
  have HS := Lib.hid h
  have HS' := Lib.hid h'
  have hnm : n ≤ 9223372036854775807 ∧ n' ≤ 9223372036854775807 := by have := h.hn; have q := h.hm; have := h'.hn; have r := h'.hm; unfold maxLen at q r; omega
  obtain ⟨hnm, hnm'⟩ := hnm
  have HLN := Lib.hid (⟨h.row.1, h'.row.1⟩ : _ ∧ _)
  clear h h'
  unfold scC
  go_enter Tryz.func16, Tryz.ntmps16
  go_upto_region 1 with fail
  have hq1 := heap_alloc_new w (.cells #[.int .i64 c, .slice A n cc] 38)
  have hs1 : (w.alloc (.cells #[.int .i64 c, .slice A n cc] 38)).heap.size = w.heap.size + 1 := by simp
  have hb1 := sbelow1 w (.cells #[.int .i64 c, .slice A n cc] 38)
  generalize w.alloc (.cells #[.int .i64 c, .slice A n cc] 38) = W1 at hq1 hs1 hb1 ⊢
  have hq2 := heap_alloc_new W1 (.cells #[.int .i64 c', .slice A' n' cc'] 38)
  have hb2 := hb1.trans ((sbelow1 W1 (.cells #[.int .i64 c', .slice A' n' cc'] 38)).mono hb1.size)
  have hq3 := (Below.heap_alloc W1 (.cells #[.int .i64 c', .slice A' n' cc'] 38) _ (Array.getElem?_eq_some_iff.1 hq1).1).trans hq1
  generalize W1.alloc (.cells #[.int .i64 c', .slice A' n' cc'] 38) = W2 at hq2 hb2 hq3 ⊢
  rw [hs1] at hq2
  have k0 : W2.cell? ⟨w.heap.size, 0, none⟩ = some (.int .i64 c) := by rw [World.cell?, hq3]; rfl
  have k1 : W2.cell? ⟨w.heap.size, 1, none⟩ = some (.slice A n cc) := by rw [World.cell?, hq3]; rfl
  have j0 : W2.cell? ⟨w.heap.size + 1, 0, none⟩ = some (.int .i64 c') := by rw [World.cell?, hq2]; rfl
  have j1 : W2.cell? ⟨w.heap.size + 1, 1, none⟩ = some (.slice A' n' cc') := by rw [World.cell?, hq2]; rfl
  have HB := Lib.hid hb2
  have HX := Lib.hid (HS.out.row.below hb2)
  have HX' := Lib.hid (HS'.out.row.below hb2)
  clear hq1 hs1 hb1 hq2 hb2 hq3
  have hk : c ≠ c' ∨ c = c' := by omega
  have hl : n ≠ n' ∨ n = n' := by omega
  rcases hk with hk | rfl
  · have HNO := Lib.hid (sameSB_no (l := l) (l' := l') (fun e => hk e.1))
    have e1 : (c != c') = true := by simpa using hk
    clear hk hl
    go_wp2_with fail
    go_ret
    exact ⟨ret_bool HNO.out.symm, HB.out⟩
  rcases hl with hl | rfl
  · have HNO := Lib.hid (sameSB_no (c := c) (l := l) (c' := c) (l' := l') (fun e => hl (by rw [← HLN.out.1, ← HLN.out.2, e.2])))
    have e1 : ((n : Int) != (n' : Int)) = true := by simp; omega
    clear hl
    go_wp2_with fail
    go_ret
    exact ⟨ret_bool HNO.out.symm, HB.out⟩
  go_wp2_with fail
  have HK1 := Lib.hid k1
  have HJ1 := Lib.hid j1
  have HLB := Lib.hid (⟨World.block_lt_of_cell? _ _ k1, World.block_lt_of_cell? _ _ j1⟩ : _ ∧ _)
  clear k0 k1 j0 j1
  go_loopw [5] (fun iv wr => ∃ k : Nat, k ≤ n ∧ iv = .int .i64 (k : Int) ∧ Hid (Below W2.heap.size W2 wr) ∧ Hid (∀ (j : Nat) (x y : Ac), j < k → l[j]? = some x → l'[j]? = some y → x = y)) (fun iv _ => n - (intOf iv).toNat)
  case atStart => exact ⟨0, Nat.zero_le _, rfl, Lib.hid (Below.refl _ _), Lib.hid fun j x y hj => absurd hj (by omega)⟩
  case round =>
    obtain ⟨k, hk, rfl, HBR, HEQ⟩ := hrel
    have k1 : wr.cell? ⟨w.heap.size, 1, none⟩ = some (.slice A n cc) := (HBR.out.cell HLB.out.1).trans HK1.out
    have j1 : wr.cell? ⟨w.heap.size + 1, 1, none⟩ = some (.slice A' n cc') := (HBR.out.cell HLB.out.2).trans HJ1.out
    by_cases hlt : k < n
    · obtain ⟨x, a, bA, bn, bc, nA, nn, nc, rfl, hx, ha, hc, hat, -⟩ := HX.out.at hlt
      obtain ⟨x', b, bA', bn', bc', nA', nn', nc', rfl, hx', hb, hc', hat', -⟩ := HX'.out.at hlt
      have HCC : Hid (∀ V, Below W2.heap.size W2 V → V.cell? ⟨w.heap.size, 1, none⟩ = some (.slice (some x) n cc) ∧ V.cell? ⟨w.heap.size + 1, 1, none⟩ = some (.slice (some x') n cc') ∧ ActCells V (x.add (k * 6)) a bA bn bc nA nn nc ∧ ActCells V (x'.add (k * 6)) b bA' bn' bc' nA' nn' nc') := Lib.hid fun V hV => ⟨(hV.cell HLB.out.1).trans HK1.out, (hV.cell HLB.out.2).trans HJ1.out, hc.below (by rw [block_add]; exact hx) hV, hc'.below (by rw [block_add]; exact hx') hV⟩
      have HSA := Lib.hid (fun (V : World) (hV : Below W2.heap.size W2 V) => rsameact_any V a bA bn bc nA nn nc (hat.below hV) b bA' bn' bc' nA' nn' nc' (hat'.below hV))
      have HBT := Lib.hid (fun (U V : World) (hU : Below W2.heap.size W2 U) (hV : Below U.heap.size U V) => hU.trans (hV.mono hU.size))
      have HAB := Lib.hid (And.intro ha hb)
      have hk0 : (0 : Int) ≤ (k : Int) := by omega
      have hkn : (k : Int) < (n : Int) := by omega
      clear hat hat' ha hb hx hx' hc hc'
      obtain ⟨sb, hsb⟩ : ∃ sb, sb = sameAB a b := ⟨_, rfl⟩
      rw [← hsb] at HSA
      have HSB := Lib.hid hsb
      clear hsb
      unfold actC at HSA
      go_wp2_with fail
      refine wp_region_inv' 12 rfl (fun L a' w' => ∃ y0 y1 y2 y3 y4 y5 y6 y7 y8 y9 y10 y11 : Value, a' = { tmps := List.toArray ((.agg #[.int .i64 c, .slice (some x) n cc]) :: (.agg #[.int .i64 c, .slice (some x') n cc']) :: (.pointer (some ⟨w.heap.size, 0, none⟩)) :: (.pointer (some ⟨w.heap.size + 1, 0, none⟩)) :: u4 :: (.int .i64 (k : Int)) :: (.pointer (some ⟨w.heap.size, 0, none⟩)) :: (.int .i64 c) :: (.pointer (some ⟨w.heap.size + 1, 0, none⟩)) :: (.int .i64 c) :: (.bool false) :: (.bool false) :: (.pointer (some ⟨w.heap.size, 1, none⟩)) :: (.slice (some x) n cc) :: (.int .i64 (n : Int)) :: (.pointer (some ⟨w.heap.size + 1, 1, none⟩)) :: (.slice (some x') n cc') :: (.int .i64 (n : Int)) :: (.bool false) :: (.bool false) :: (.int .i64 (k : Int)) :: (.pointer (some ⟨w.heap.size, 1, none⟩)) :: (.slice (some x) n cc) :: (.int .i64 (n : Int)) :: (.bool true) :: u25 :: u26 :: y0 :: y1 :: y2 :: y3 :: y4 :: y5 :: y6 :: y7 :: y8 :: y9 :: y10 :: y11 :: []), defers := [] } ∧ (L 0 = true → y0 = .pointer (some ⟨w.heap.size, 1, none⟩)) ∧ (L 1 = true → y1 = .slice (some x) n cc) ∧ (L 2 = true → y2 = .int .i64 (k : Int)) ∧ (L 3 = true → y3 = .pointer (some (x.add (k * 6)))) ∧ (L 4 = true → y4 = .agg #[.int .i64 a.kind, .string (S a.name), .slice bA bn bc, .slice nA nn nc, .int .i64 a.mem, .int .i64 a.fuel]) ∧ (L 5 = true → y5 = .pointer (some ⟨w.heap.size + 1, 1, none⟩)) ∧ (L 6 = true → y6 = .slice (some x') n cc') ∧ (L 7 = true → y7 = .int .i64 (k : Int)) ∧ (L 8 = true → y8 = .pointer (some (x'.add (k * 6)))) ∧ (L 9 = true → y9 = .agg #[.int .i64 b.kind, .string (S b.name), .slice bA' bn' bc', .slice nA' nn' nc', .int .i64 b.mem, .int .i64 b.fuel]) ∧ (L 10 = true → y10 = .bool sb) ∧ (L 11 = true → y11 = .bool (!sb)) ∧ (Below W2.heap.size W2 w')) (by kernel_rfl) (by kernel_rfl) ?h0 ?step ?fin
      case h0 => exact ⟨u27, u28, u29, u30, u31, u32, u33, u34, u35, u36, u37, u38, rfl, (fun e => by simp at e), (fun e => by simp at e), (fun e => by simp at e), (fun e => by simp at e), (fun e => by simp at e), (fun e => by simp at e), (fun e => by simp at e), (fun e => by simp at e), (fun e => by simp at e), (fun e => by simp at e), (fun e => by simp at e), (fun e => by simp at e), HBR.out.trans ((Below.refl _ _).drew.mono HBR.out.size)⟩
      case step =>
        rintro i hi L a' w' hLi hcl hdp ⟨y0, y1, y2, y3, y4, y5, y6, y7, y8, y9, y10, y11, rfl, e0, e1, e2, e3, e4, e5, e6, e7, e8, e9, e10, e11, hw0⟩
        have hi2 : i = 0 ∨ i = 1 ∨ i = 2 ∨ i = 3 ∨ i = 4 ∨ i = 5 ∨ i = 6 ∨ i = 7 ∨ i = 8 ∨ i = 9 ∨ i = 10 ∨ i = 11 := by omega
        rcases hi2 with rfl | rfl | rfl | rfl | rfl | rfl | rfl | rfl | rfl | rfl | rfl | rfl
        · have HF0 := Lib.hid hw0
          have E1 := Lib.hid e1; have E2 := Lib.hid e2; have E3 := Lib.hid e3; have E4 := Lib.hid e4; have E5 := Lib.hid e5; have E6 := Lib.hid e6; have E7 := Lib.hid e7; have E8 := Lib.hid e8; have E9 := Lib.hid e9; have E10 := Lib.hid e10; have E11 := Lib.hid e11
          clear e0 e1 e2 e3 e4 e5 e6 e7 e8 e9 e10 e11 hw0
          refine wpOp_step rfl (fun K hK => ?_)
          go_simp
          exact hK _ _ ⟨_, _, _, _, _, _, _, _, _, _, _, _, rfl, (fun _ => rfl), (fun h => E1.out (by simpa [upOn] using h)), (fun h => E2.out (by simpa [upOn] using h)), (fun h => E3.out (by simpa [upOn] using h)), (fun h => E4.out (by simpa [upOn] using h)), (fun h => E5.out (by simpa [upOn] using h)), (fun h => E6.out (by simpa [upOn] using h)), (fun h => E7.out (by simpa [upOn] using h)), (fun h => E8.out (by simpa [upOn] using h)), (fun h => E9.out (by simpa [upOn] using h)), (fun h => E10.out (by simpa [upOn] using h)), (fun h => E11.out (by simpa [upOn] using h)), HF0.out⟩
        · have HF0 := Lib.hid hw0
          have l0 := (hdp 0 (by kernel_rfl))
          obtain rfl := e0 l0
          have E2 := Lib.hid e2; have E3 := Lib.hid e3; have E4 := Lib.hid e4; have E5 := Lib.hid e5; have E6 := Lib.hid e6; have E7 := Lib.hid e7; have E8 := Lib.hid e8; have E9 := Lib.hid e9; have E10 := Lib.hid e10; have E11 := Lib.hid e11
          clear e0 e1 e2 e3 e4 e5 e6 e7 e8 e9 e10 e11 hw0
          obtain ⟨k1, j1, ⟨a0, a1, a2, a3, a4, a5⟩, ⟨b0, b1, b2, b3, b4, b5⟩⟩ := HCC.out _ HF0.out
          refine wpOp_step rfl (fun K hK => ?_)
          go_simp
          exact hK _ _ ⟨_, _, _, _, _, _, _, _, _, _, _, _, rfl, (fun _ => rfl), (fun _ => rfl), (fun h => E2.out (by simpa [upOn] using h)), (fun h => E3.out (by simpa [upOn] using h)), (fun h => E4.out (by simpa [upOn] using h)), (fun h => E5.out (by simpa [upOn] using h)), (fun h => E6.out (by simpa [upOn] using h)), (fun h => E7.out (by simpa [upOn] using h)), (fun h => E8.out (by simpa [upOn] using h)), (fun h => E9.out (by simpa [upOn] using h)), (fun h => E10.out (by simpa [upOn] using h)), (fun h => E11.out (by simpa [upOn] using h)), HF0.out⟩
        · have HF0 := Lib.hid hw0
          have E0 := Lib.hid e0; have E1 := Lib.hid e1; have E3 := Lib.hid e3; have E4 := Lib.hid e4; have E5 := Lib.hid e5; have E6 := Lib.hid e6; have E7 := Lib.hid e7; have E8 := Lib.hid e8; have E9 := Lib.hid e9; have E10 := Lib.hid e10; have E11 := Lib.hid e11
          clear e0 e1 e2 e3 e4 e5 e6 e7 e8 e9 e10 e11 hw0
          refine wpOp_step rfl (fun K hK => ?_)
          go_simp
          exact hK _ _ ⟨_, _, _, _, _, _, _, _, _, _, _, _, rfl, (fun h => E0.out (by simpa [upOn] using h)), (fun h => E1.out (by simpa [upOn] using h)), (fun _ => rfl), (fun h => E3.out (by simpa [upOn] using h)), (fun h => E4.out (by simpa [upOn] using h)), (fun h => E5.out (by simpa [upOn] using h)), (fun h => E6.out (by simpa [upOn] using h)), (fun h => E7.out (by simpa [upOn] using h)), (fun h => E8.out (by simpa [upOn] using h)), (fun h => E9.out (by simpa [upOn] using h)), (fun h => E10.out (by simpa [upOn] using h)), (fun h => E11.out (by simpa [upOn] using h)), HF0.out⟩
        · have HF0 := Lib.hid hw0
          have l1 := (hdp 1 (by kernel_rfl))
          have l2 := (hdp 2 (by kernel_rfl))
          obtain rfl := e1 l1
          obtain rfl := e2 l2
          have E0 := Lib.hid e0; have E4 := Lib.hid e4; have E5 := Lib.hid e5; have E6 := Lib.hid e6; have E7 := Lib.hid e7; have E8 := Lib.hid e8; have E9 := Lib.hid e9; have E10 := Lib.hid e10; have E11 := Lib.hid e11
          clear e0 e1 e2 e3 e4 e5 e6 e7 e8 e9 e10 e11 hw0
          refine wpOp_step rfl (fun K hK => ?_)
          go_simp
          exact hK _ _ ⟨_, _, _, _, _, _, _, _, _, _, _, _, rfl, (fun h => E0.out (by simpa [upOn] using h)), (fun _ => rfl), (fun _ => rfl), (fun _ => rfl), (fun h => E4.out (by simpa [upOn] using h)), (fun h => E5.out (by simpa [upOn] using h)), (fun h => E6.out (by simpa [upOn] using h)), (fun h => E7.out (by simpa [upOn] using h)), (fun h => E8.out (by simpa [upOn] using h)), (fun h => E9.out (by simpa [upOn] using h)), (fun h => E10.out (by simpa [upOn] using h)), (fun h => E11.out (by simpa [upOn] using h)), HF0.out⟩
        · have HF0 := Lib.hid hw0
          have l3 := (hdp 3 (by kernel_rfl))
          obtain rfl := e3 l3
          have E0 := Lib.hid e0; have E1 := Lib.hid e1; have E2 := Lib.hid e2; have E5 := Lib.hid e5; have E6 := Lib.hid e6; have E7 := Lib.hid e7; have E8 := Lib.hid e8; have E9 := Lib.hid e9; have E10 := Lib.hid e10; have E11 := Lib.hid e11
          clear e0 e1 e2 e3 e4 e5 e6 e7 e8 e9 e10 e11 hw0
          obtain ⟨k1, j1, ⟨a0, a1, a2, a3, a4, a5⟩, ⟨b0, b1, b2, b3, b4, b5⟩⟩ := HCC.out _ HF0.out
          refine wpOp_step rfl (fun K hK => ?_)
          go_simp
          exact hK _ _ ⟨_, _, _, _, _, _, _, _, _, _, _, _, rfl, (fun h => E0.out (by simpa [upOn] using h)), (fun h => E1.out (by simpa [upOn] using h)), (fun h => E2.out (by simpa [upOn] using h)), (fun _ => rfl), (fun _ => rfl), (fun h => E5.out (by simpa [upOn] using h)), (fun h => E6.out (by simpa [upOn] using h)), (fun h => E7.out (by simpa [upOn] using h)), (fun h => E8.out (by simpa [upOn] using h)), (fun h => E9.out (by simpa [upOn] using h)), (fun h => E10.out (by simpa [upOn] using h)), (fun h => E11.out (by simpa [upOn] using h)), HF0.out⟩
        · have HF0 := Lib.hid hw0
          have E0 := Lib.hid e0; have E1 := Lib.hid e1; have E2 := Lib.hid e2; have E3 := Lib.hid e3; have E4 := Lib.hid e4; have E6 := Lib.hid e6; have E7 := Lib.hid e7; have E8 := Lib.hid e8; have E9 := Lib.hid e9; have E10 := Lib.hid e10; have E11 := Lib.hid e11
          clear e0 e1 e2 e3 e4 e5 e6 e7 e8 e9 e10 e11 hw0
          refine wpOp_step rfl (fun K hK => ?_)
          go_simp
          exact hK _ _ ⟨_, _, _, _, _, _, _, _, _, _, _, _, rfl, (fun h => E0.out (by simpa [upOn] using h)), (fun h => E1.out (by simpa [upOn] using h)), (fun h => E2.out (by simpa [upOn] using h)), (fun h => E3.out (by simpa [upOn] using h)), (fun h => E4.out (by simpa [upOn] using h)), (fun _ => rfl), (fun h => E6.out (by simpa [upOn] using h)), (fun h => E7.out (by simpa [upOn] using h)), (fun h => E8.out (by simpa [upOn] using h)), (fun h => E9.out (by simpa [upOn] using h)), (fun h => E10.out (by simpa [upOn] using h)), (fun h => E11.out (by simpa [upOn] using h)), HF0.out⟩
        · have HF0 := Lib.hid hw0
          have l5 := (hdp 5 (by kernel_rfl))
          obtain rfl := e5 l5
          have E0 := Lib.hid e0; have E1 := Lib.hid e1; have E2 := Lib.hid e2; have E3 := Lib.hid e3; have E4 := Lib.hid e4; have E7 := Lib.hid e7; have E8 := Lib.hid e8; have E9 := Lib.hid e9; have E10 := Lib.hid e10; have E11 := Lib.hid e11
          clear e0 e1 e2 e3 e4 e5 e6 e7 e8 e9 e10 e11 hw0
          obtain ⟨k1, j1, ⟨a0, a1, a2, a3, a4, a5⟩, ⟨b0, b1, b2, b3, b4, b5⟩⟩ := HCC.out _ HF0.out
          refine wpOp_step rfl (fun K hK => ?_)
          go_simp
          exact hK _ _ ⟨_, _, _, _, _, _, _, _, _, _, _, _, rfl, (fun h => E0.out (by simpa [upOn] using h)), (fun h => E1.out (by simpa [upOn] using h)), (fun h => E2.out (by simpa [upOn] using h)), (fun h => E3.out (by simpa [upOn] using h)), (fun h => E4.out (by simpa [upOn] using h)), (fun _ => rfl), (fun _ => rfl), (fun h => E7.out (by simpa [upOn] using h)), (fun h => E8.out (by simpa [upOn] using h)), (fun h => E9.out (by simpa [upOn] using h)), (fun h => E10.out (by simpa [upOn] using h)), (fun h => E11.out (by simpa [upOn] using h)), HF0.out⟩
        · have HF0 := Lib.hid hw0
          have E0 := Lib.hid e0; have E1 := Lib.hid e1; have E2 := Lib.hid e2; have E3 := Lib.hid e3; have E4 := Lib.hid e4; have E5 := Lib.hid e5; have E6 := Lib.hid e6; have E8 := Lib.hid e8; have E9 := Lib.hid e9; have E10 := Lib.hid e10; have E11 := Lib.hid e11
          clear e0 e1 e2 e3 e4 e5 e6 e7 e8 e9 e10 e11 hw0
          refine wpOp_step rfl (fun K hK => ?_)
          go_simp
          exact hK _ _ ⟨_, _, _, _, _, _, _, _, _, _, _, _, rfl, (fun h => E0.out (by simpa [upOn] using h)), (fun h => E1.out (by simpa [upOn] using h)), (fun h => E2.out (by simpa [upOn] using h)), (fun h => E3.out (by simpa [upOn] using h)), (fun h => E4.out (by simpa [upOn] using h)), (fun h => E5.out (by simpa [upOn] using h)), (fun h => E6.out (by simpa [upOn] using h)), (fun _ => rfl), (fun h => E8.out (by simpa [upOn] using h)), (fun h => E9.out (by simpa [upOn] using h)), (fun h => E10.out (by simpa [upOn] using h)), (fun h => E11.out (by simpa [upOn] using h)), HF0.out⟩
        · have HF0 := Lib.hid hw0
          have l6 := (hdp 6 (by kernel_rfl))
          have l7 := (hdp 7 (by kernel_rfl))
          obtain rfl := e6 l6
          obtain rfl := e7 l7
          have E0 := Lib.hid e0; have E1 := Lib.hid e1; have E2 := Lib.hid e2; have E3 := Lib.hid e3; have E4 := Lib.hid e4; have E5 := Lib.hid e5; have E9 := Lib.hid e9; have E10 := Lib.hid e10; have E11 := Lib.hid e11
          clear e0 e1 e2 e3 e4 e5 e6 e7 e8 e9 e10 e11 hw0
          refine wpOp_step rfl (fun K hK => ?_)
          go_simp
          exact hK _ _ ⟨_, _, _, _, _, _, _, _, _, _, _, _, rfl, (fun h => E0.out (by simpa [upOn] using h)), (fun h => E1.out (by simpa [upOn] using h)), (fun h => E2.out (by simpa [upOn] using h)), (fun h => E3.out (by simpa [upOn] using h)), (fun h => E4.out (by simpa [upOn] using h)), (fun h => E5.out (by simpa [upOn] using h)), (fun _ => rfl), (fun _ => rfl), (fun _ => rfl), (fun h => E9.out (by simpa [upOn] using h)), (fun h => E10.out (by simpa [upOn] using h)), (fun h => E11.out (by simpa [upOn] using h)), HF0.out⟩
        · have HF0 := Lib.hid hw0
          have l8 := (hdp 8 (by kernel_rfl))
          obtain rfl := e8 l8
          have E0 := Lib.hid e0; have E1 := Lib.hid e1; have E2 := Lib.hid e2; have E3 := Lib.hid e3; have E4 := Lib.hid e4; have E5 := Lib.hid e5; have E6 := Lib.hid e6; have E7 := Lib.hid e7; have E10 := Lib.hid e10; have E11 := Lib.hid e11
          clear e0 e1 e2 e3 e4 e5 e6 e7 e8 e9 e10 e11 hw0
          obtain ⟨k1, j1, ⟨a0, a1, a2, a3, a4, a5⟩, ⟨b0, b1, b2, b3, b4, b5⟩⟩ := HCC.out _ HF0.out
          refine wpOp_step rfl (fun K hK => ?_)
          go_simp
          exact hK _ _ ⟨_, _, _, _, _, _, _, _, _, _, _, _, rfl, (fun h => E0.out (by simpa [upOn] using h)), (fun h => E1.out (by simpa [upOn] using h)), (fun h => E2.out (by simpa [upOn] using h)), (fun h => E3.out (by simpa [upOn] using h)), (fun h => E4.out (by simpa [upOn] using h)), (fun h => E5.out (by simpa [upOn] using h)), (fun h => E6.out (by simpa [upOn] using h)), (fun h => E7.out (by simpa [upOn] using h)), (fun _ => rfl), (fun _ => rfl), (fun h => E10.out (by simpa [upOn] using h)), (fun h => E11.out (by simpa [upOn] using h)), HF0.out⟩
        · have HF0 := Lib.hid hw0
          have l4 := (hdp 4 (by kernel_rfl))
          have l9 := (hdp 9 (by kernel_rfl))
          obtain rfl := e4 l4
          obtain rfl := e9 l9
          have E0 := Lib.hid e0; have E1 := Lib.hid e1; have E2 := Lib.hid e2; have E3 := Lib.hid e3; have E5 := Lib.hid e5; have E6 := Lib.hid e6; have E7 := Lib.hid e7; have E8 := Lib.hid e8; have E11 := Lib.hid e11
          clear e0 e1 e2 e3 e4 e5 e6 e7 e8 e9 e10 e11 hw0
          refine wpOp_step rfl (fun K hK => ?_)
          go_simp
          refine (HSA.out _ HF0.out).mono ?_
          rintro e v1 ⟨rfl, hb⟩
          have HBV := HBT.out _ _ HF0.out hb
          exact hK _ _ ⟨_, _, _, _, _, _, _, _, _, _, _, _, rfl, (fun h => E0.out (by simpa [upOn] using h)), (fun h => E1.out (by simpa [upOn] using h)), (fun h => E2.out (by simpa [upOn] using h)), (fun h => E3.out (by simpa [upOn] using h)), (fun _ => rfl), (fun h => E5.out (by simpa [upOn] using h)), (fun h => E6.out (by simpa [upOn] using h)), (fun h => E7.out (by simpa [upOn] using h)), (fun h => E8.out (by simpa [upOn] using h)), (fun _ => rfl), (fun _ => rfl), (fun h => E11.out (by simpa [upOn] using h)), HBV⟩
        · have HF0 := Lib.hid hw0
          have l10 := (hdp 10 (by kernel_rfl))
          obtain rfl := e10 l10
          have E0 := Lib.hid e0; have E1 := Lib.hid e1; have E2 := Lib.hid e2; have E3 := Lib.hid e3; have E4 := Lib.hid e4; have E5 := Lib.hid e5; have E6 := Lib.hid e6; have E7 := Lib.hid e7; have E8 := Lib.hid e8; have E9 := Lib.hid e9
          clear e0 e1 e2 e3 e4 e5 e6 e7 e8 e9 e10 e11 hw0
          refine wpOp_step rfl (fun K hK => ?_)
          go_simp
          exact hK _ _ ⟨_, _, _, _, _, _, _, _, _, _, _, _, rfl, (fun h => E0.out (by simpa [upOn] using h)), (fun h => E1.out (by simpa [upOn] using h)), (fun h => E2.out (by simpa [upOn] using h)), (fun h => E3.out (by simpa [upOn] using h)), (fun h => E4.out (by simpa [upOn] using h)), (fun h => E5.out (by simpa [upOn] using h)), (fun h => E6.out (by simpa [upOn] using h)), (fun h => E7.out (by simpa [upOn] using h)), (fun h => E8.out (by simpa [upOn] using h)), (fun h => E9.out (by simpa [upOn] using h)), (fun _ => rfl), (fun _ => rfl), HF0.out⟩
      case fin =>
        rintro L a' w' hall ⟨y0, y1, y2, y3, y4, y5, y6, y7, y8, y9, y10, y11, rfl, e0, e1, e2, e3, e4, e5, e6, e7, e8, e9, e10, e11, hw0⟩
        obtain rfl := e0 (hall 0 (by omega))
        obtain rfl := e1 (hall 1 (by omega))
        obtain rfl := e2 (hall 2 (by omega))
        obtain rfl := e3 (hall 3 (by omega))
        obtain rfl := e4 (hall 4 (by omega))
        obtain rfl := e5 (hall 5 (by omega))
        obtain rfl := e6 (hall 6 (by omega))
        obtain rfl := e7 (hall 7 (by omega))
        obtain rfl := e8 (hall 8 (by omega))
        obtain rfl := e9 (hall 9 (by omega))
        obtain rfl := e10 (hall 10 (by omega))
        obtain rfl := e11 (hall 11 (by omega))
        have HB9 := Lib.hid hw0
        clear hw0 hall
        cases sb with
        | false =>
          have HNO : Hid (sameSB c l c l' = false) := Lib.hid (sameSB_no fun e => by have h1 := HAB.out.1; rw [e.2, HAB.out.2] at h1; have h2 := Option.some.inj h1; have h3 := HSB.out; rw [h2, sameAB_refl] at h3; cases h3)
          go_wp2_with fail
          go_ret
          exact ⟨ret_bool HNO.out.symm, HB.out.trans (HB9.out.mono HB.out.size)⟩
        | true =>
          have HE2 : Hid (∀ (j : Nat) (x y : Ac), j < k + 1 → l[j]? = some x → l'[j]? = some y → x = y) := Lib.hid fun j x y hj h1 h2 => by
            by_cases hjk : j = k
            · subst hjk
              rw [HAB.out.1] at h1; rw [HAB.out.2] at h2
              rw [← Option.some.inj h1, ← Option.some.inj h2]
              exact (sameAB_iff a b).1 HSB.out.symm
            · exact HEQ.out j x y (by omega) h1 h2
          go_wp2_with fail
          go_roundw
          case rel => exact ⟨k + 1, by omega, by go_num, HB9, HE2⟩
          case measure => simp [intOf]; omega
    · have hjn : k = n := by omega
      have HE : Hid (sameSB c l c l' = true) := Lib.hid ((sameSB_iff _ _ _ _).2 ⟨rfl, acs_eq (by rw [HLN.out.1, HLN.out.2]) fun j x y h1 h2 => HEQ.out j x y (by have := (List.getElem?_eq_some_iff.1 h1).1; have := HLN.out.1; omega) h1 h2⟩)
      go_wp2_with fail
      go_ret
      exact ⟨ret_bool HE.out.symm, HB.out.trans (HBR.out.mono HB.out.size)⟩
end Go.Proofs.YtlodoilihminaaaGreatDoor

/-
  A machine in memory: what a step loads.
-/
import Derived.Test.YtlgdlaohfkgkfaaGreatMacL
import Derived.Test.YtlgdlaohfkgkfaaGreatInv
import Derived.Deep.CutRange
namespace Go.Proofs.YtlgdlaohfkgkfaaGreat
open Go.ChangeShapes Go.WideShapes Go.ChangeAt Go.RowKit
set_option linter.unusedVariables false
set_option linter.unusedSimpArgs false
def ldV (f : Nat → Int) (q : Nat) (v : Bool) : Int := if v then f q else wdF f q
section
variable {w : World} {B : Nat} {p : Mp} {m : Mc}
set_option maxHeartbeats 8000000 in
set_option maxRecDepth 100000 in
theorem mload_any (h : MAt w B p m) (q : Nat) (v : Bool) (hq : q + 4 ≤ m.n ∨ v = true ∧ q < m.n) (h4 : v = true ∨ q % 4 = 0) :
    Calls Tryz.prog 69 #[.pointer (some ⟨p.b, 0, none⟩), .agg (evCells 1 (q : Int) v 4 0 0)] w fun e w' => e = .returned (.tuple #[]) ∧ MAt w' B p { m with cpu := ldC m.cpu 4 (ldV m.f q v) } ∧ Chg p w w' := by
  have hn := h.n1
  have hb1 := mbelow1 w (.cells (evCells 1 (q : Int) v 4 0 0) 119)
  have hm1 := h.next hb1
  have hg1 : Chg p w (w.alloc (.cells (evCells 1 (q : Int) v 4 0 0) 119)) := Chg.ofBelow hb1
  have hbk := heap_alloc_last w (.cells (evCells 1 (q : Int) v 4 0 0) 119)
  have HMY := may_any hm1 q (by omega) v
  have e : mayB m.n q v = true := by
    unfold mayB
    rcases h4 with rfl | h4
    · simp; omega
    · simp [h4]; omega
  rw [e] at HMY
  have HMM : Hid (Calls Tryz.prog 55 #[.pointer (some ⟨p.b, 0, none⟩), .int .u32 (q : Int), .bool v] (w.alloc (.cells (evCells 1 (q : Int) v 4 0 0) 119)) fun e w' => e = .returned (.bool true) ∧ (w.alloc (.cells (evCells 1 (q : Int) v 4 0 0) 119)) = w') := Lib.hid (HMY.mono fun _ _ h => ⟨h.1, h.2.symm⟩)
  clear HMY e
  go_enter Tryz.func69, Tryz.ntmps69
  go_upto_region 1 with (fail)
  change Code.wp _ _ _ _ (w.alloc (.cells (evCells 1 (q : Int) v 4 0 0) 119))
  have hlt1 : w.heap.size < (w.alloc (.cells (evCells 1 (q : Int) v 4 0 0) 119)).heap.size := by simp
  generalize w.alloc (.cells (evCells 1 (q : Int) v 4 0 0) 119) = V1 at *
  have k1 : V1.cell? ⟨w.heap.size, 1, none⟩ = some (.int .u32 (q : Int)) := (cell_at hbk 1).trans rfl
  have k2 : V1.cell? ⟨w.heap.size, 2, none⟩ = some (.bool v) := (cell_at hbk 2).trans rfl
  go_upto_if 15 with (go_at_call 55; (refine HMM.out.mono ?_); rintro e w' ⟨rfl, rfl⟩)
  go_cut [4] from 5 (fun z9 W => z9 = .int .u32 (ldV m.f q v) ∧ Hid (Below V1.heap.size V1 W))
  case first =>
    cases v with
    | true =>
      have kq := hm1.fm q (by omega)
      have k22 := hm1.mem
      go_wp2_with fail
      go_quiet (fail)
      go_wp2_with fail
      go_meet
      case rel => exact ⟨by show Value.int .u32 (m.f q % 4294967296) = Value.int .u32 (m.f q); rw [Int.emod_eq_of_lt (h.bd q).1 (by have := (h.bd q).2; omega)], Lib.hid (mdrewN _ _)⟩
    | false =>
      have HGT := Lib.hid (get_any hm1 q (by rcases hq with h9 | ⟨h9, -⟩; exact h9; exact absurd h9 (by decide)))
      go_wp2_with (go_at_call 28; (refine HGT.out.mono ?_); rintro e v2 ⟨rfl, hb2⟩)
      go_meet
      case rel => exact ⟨rfl, Lib.hid hb2⟩
  case rest =>
    obtain ⟨rfl, HBC⟩ := hcut
    have HM := Lib.hid ((hm1.next HBC.out).drew)
    have HE : Hid (wc.drew.heap[w.heap.size]? = some (.cells (evCells 1 (q : Int) v 4 0 0) 119 (0, 0))) := Lib.hid ((HBC.out.block _ hlt1).trans hbk)
    have HLT : Hid (w.heap.size < wc.drew.heap.size) := Lib.hid (Nat.lt_of_lt_of_le hlt1 HBC.out.size)
    have HG : Hid (Chg p w wc.drew) := Lib.hid (hg1.trans (Chg.ofBelow HBC.out)).drew
    have hz : 0 ≤ ldV m.f q v ∧ ldV m.f q v ≤ 4294967295 := by
      unfold ldV wdF
      have a0 := h.bd q
      have a1 := h.bd (q + 1)
      have a2 := h.bd (q + 2)
      have a3 := h.bd (q + 3)
      cases v <;> simp <;> omega
    obtain ⟨z0, z1⟩ := hz
    clear hm1 hg1 hbk hb1 hlt1 k1 k2 HMM h4 hq h
    generalize hz9 : ldV m.f q v = z at *
    have HZ := Lib.hid hz9
    clear hz9
    generalize wc = W1 at *
    go_wp2_with fail
    refine wp_region_inv' 15 rfl (fun L a' w' => ∃ y0 y1 y2 y3 y4 y5 y6 y7 y8 y9 y10 y11 y12 y13 : Value, a' = { tmps := #[.pointer (some ⟨p.b, 0, none⟩), .agg (evCells 1 (q : Int) v 4 0 0), undef, .pointer (some ⟨w.heap.size, 0, none⟩), .int .u32 z, u5, u6, u7, u8, u9, u10, u11, u12, u13, u14, u15, u16, u17, u18, u19, u20, u21, u22, u23, u24, u25, u26, u27, u28, y9, y0, y1, y2, y3, y4, y5, y6, y7, y8, y10, y11, y12, y13], defers := [] } ∧ (L 0 = true → y0 = .pointer (some ⟨p.b, 0, none⟩)) ∧ (L 1 = true → y1 = .pointer (some ⟨p.b, 0, none⟩)) ∧ (L 2 = true → y2 = .pointer (some ⟨p.b, 0, none⟩)) ∧ (L 3 = true → y3 = .pointer (some ⟨p.b, 0, none⟩)) ∧ (L 4 = true → y4 = .agg (cpuCells m.cpu)) ∧ (L 5 = true → y5 = .pointer (some ⟨w.heap.size, 3, none⟩)) ∧ (L 6 = true → y6 = .int .i64 4) ∧ (L 7 = true → y7 = .int .u32 z) ∧ (L 8 = true → y8 = .tuple #[.agg (cpuCells (ldC m.cpu 4 z)), .int .i64 0]) ∧ (L 9 = true → y9 = .tuple #[.agg (cpuCells (ldC m.cpu 4 z)), .int .i64 0]) ∧ (L 10 = true → y10 = .agg (cpuCells (ldC m.cpu 4 z))) ∧ (L 11 = true → y11 = .int .i64 0) ∧ (L 12 = true → y12 = .pointer (some ⟨p.b, 0, none⟩)) ∧ (L 13 = true → y13 = .pointer (some ⟨p.b, 0, none⟩)) ∧ (L 14 = false → Below W1.drew.heap.size W1.drew w') ∧ (L 14 = true → MAt w' B p { m with cpu := ldC m.cpu 4 z } ∧ Chg p w w')) (by kernel_rfl) (by kernel_rfl) ?h0 ?step ?fin
    case h0 => exact ⟨u30, u31, u32, u33, u34, u35, u36, u37, u38, u29, u39, u40, u41, u42, rfl, (fun e => by simp at e), (fun e => by simp at e), (fun e => by simp at e), (fun e => by simp at e), (fun e => by simp at e), (fun e => by simp at e), (fun e => by simp at e), (fun e => by simp at e), (fun e => by simp at e), (fun e => by simp at e), (fun e => by simp at e), (fun e => by simp at e), (fun e => by simp at e), (fun e => by simp at e), fun _ => Below.refl _ _, fun e => by simp at e⟩
    case step =>
      rintro i hi L a' w' hLi hcl hdp ⟨y0, y1, y2, y3, y4, y5, y6, y7, y8, y9, y10, y11, y12, y13, rfl, e0, e1, e2, e3, e4, e5, e6, e7, e8, e9, e10, e11, e12, e13, hw1, hw2⟩
      have hi : i = 0 ∨ i = 1 ∨ i = 2 ∨ i = 3 ∨ i = 4 ∨ i = 5 ∨ i = 6 ∨ i = 7 ∨ i = 8 ∨ i = 9 ∨ i = 10 ∨ i = 11 ∨ i = 12 ∨ i = 13 ∨ i = 14 := by omega
      rcases hi with rfl | rfl | rfl | rfl | rfl | rfl | rfl | rfl | rfl | rfl | rfl | rfl | rfl | rfl | rfl
      · have l14 : L 14 = false := by
          cases h : L 14
          · rfl
          · exact absurd (hcl 14 0 h (by kernel_rfl)) (by rw [hLi]; decide)
        have HBW := Lib.hid (hw1 l14)
        clear hcl hw1 hw2
        have E1 := Lib.hid e1; have E2 := Lib.hid e2; have E3 := Lib.hid e3; have E4 := Lib.hid e4; have E5 := Lib.hid e5; have E6 := Lib.hid e6; have E7 := Lib.hid e7; have E8 := Lib.hid e8; have E9 := Lib.hid e9; have E10 := Lib.hid e10; have E11 := Lib.hid e11; have E12 := Lib.hid e12; have E13 := Lib.hid e13
        clear hdp e0 e1 e2 e3 e4 e5 e6 e7 e8 e9 e10 e11 e12 e13
        refine wpOp_step rfl (fun K hK => ?_)
        go_simp
        exact hK _ _ ⟨_, _, _, _, _, _, _, _, _, _, _, _, _, _, rfl, (fun _ => rfl), (fun h => E1.out (by simpa [upOn] using h)), (fun h => E2.out (by simpa [upOn] using h)), (fun h => E3.out (by simpa [upOn] using h)), (fun h => E4.out (by simpa [upOn] using h)), (fun h => E5.out (by simpa [upOn] using h)), (fun h => E6.out (by simpa [upOn] using h)), (fun h => E7.out (by simpa [upOn] using h)), (fun h => E8.out (by simpa [upOn] using h)), (fun h => E9.out (by simpa [upOn] using h)), (fun h => E10.out (by simpa [upOn] using h)), (fun h => E11.out (by simpa [upOn] using h)), (fun h => E12.out (by simpa [upOn] using h)), (fun h => E13.out (by simpa [upOn] using h)), (fun _ => HBW.out), (fun h => by simp [upOn, l14] at h)⟩
      · have l14 : L 14 = false := by
          cases h : L 14
          · rfl
          · exact absurd (hcl 14 1 h (by kernel_rfl)) (by rw [hLi]; decide)
        have HBW := Lib.hid (hw1 l14)
        clear hcl hw1 hw2
        have E0 := Lib.hid e0; have E2 := Lib.hid e2; have E3 := Lib.hid e3; have E4 := Lib.hid e4; have E5 := Lib.hid e5; have E6 := Lib.hid e6; have E7 := Lib.hid e7; have E8 := Lib.hid e8; have E9 := Lib.hid e9; have E10 := Lib.hid e10; have E11 := Lib.hid e11; have E12 := Lib.hid e12; have E13 := Lib.hid e13
        clear hdp e0 e1 e2 e3 e4 e5 e6 e7 e8 e9 e10 e11 e12 e13
        refine wpOp_step rfl (fun K hK => ?_)
        go_simp
        exact hK _ _ ⟨_, _, _, _, _, _, _, _, _, _, _, _, _, _, rfl, (fun h => E0.out (by simpa [upOn] using h)), (fun _ => rfl), (fun h => E2.out (by simpa [upOn] using h)), (fun h => E3.out (by simpa [upOn] using h)), (fun h => E4.out (by simpa [upOn] using h)), (fun h => E5.out (by simpa [upOn] using h)), (fun h => E6.out (by simpa [upOn] using h)), (fun h => E7.out (by simpa [upOn] using h)), (fun h => E8.out (by simpa [upOn] using h)), (fun h => E9.out (by simpa [upOn] using h)), (fun h => E10.out (by simpa [upOn] using h)), (fun h => E11.out (by simpa [upOn] using h)), (fun h => E12.out (by simpa [upOn] using h)), (fun h => E13.out (by simpa [upOn] using h)), (fun _ => HBW.out), (fun h => by simp [upOn, l14] at h)⟩
      · have l14 : L 14 = false := by
          cases h : L 14
          · rfl
          · exact absurd (hcl 14 2 h (by kernel_rfl)) (by rw [hLi]; decide)
        have HBW := Lib.hid (hw1 l14)
        clear hcl hw1 hw2
        obtain rfl := e1 (hdp 1 (by kernel_rfl))
        have E0 := Lib.hid e0; have E3 := Lib.hid e3; have E4 := Lib.hid e4; have E5 := Lib.hid e5; have E6 := Lib.hid e6; have E7 := Lib.hid e7; have E8 := Lib.hid e8; have E9 := Lib.hid e9; have E10 := Lib.hid e10; have E11 := Lib.hid e11; have E12 := Lib.hid e12; have E13 := Lib.hid e13
        clear hdp e0 e1 e2 e3 e4 e5 e6 e7 e8 e9 e10 e11 e12 e13
        refine wpOp_step rfl (fun K hK => ?_)
        go_simp
        exact hK _ _ ⟨_, _, _, _, _, _, _, _, _, _, _, _, _, _, rfl, (fun h => E0.out (by simpa [upOn] using h)), (fun _ => rfl), (fun _ => rfl), (fun h => E3.out (by simpa [upOn] using h)), (fun h => E4.out (by simpa [upOn] using h)), (fun h => E5.out (by simpa [upOn] using h)), (fun h => E6.out (by simpa [upOn] using h)), (fun h => E7.out (by simpa [upOn] using h)), (fun h => E8.out (by simpa [upOn] using h)), (fun h => E9.out (by simpa [upOn] using h)), (fun h => E10.out (by simpa [upOn] using h)), (fun h => E11.out (by simpa [upOn] using h)), (fun h => E12.out (by simpa [upOn] using h)), (fun h => E13.out (by simpa [upOn] using h)), (fun _ => HBW.out), (fun h => by simp [upOn, l14] at h)⟩
      · have l14 : L 14 = false := by
          cases h : L 14
          · rfl
          · exact absurd (hcl 14 3 h (by kernel_rfl)) (by rw [hLi]; decide)
        have HBW := Lib.hid (hw1 l14)
        clear hcl hw1 hw2
        obtain rfl := e2 (hdp 2 (by kernel_rfl))
        have E0 := Lib.hid e0; have E1 := Lib.hid e1; have E4 := Lib.hid e4; have E5 := Lib.hid e5; have E6 := Lib.hid e6; have E7 := Lib.hid e7; have E8 := Lib.hid e8; have E9 := Lib.hid e9; have E10 := Lib.hid e10; have E11 := Lib.hid e11; have E12 := Lib.hid e12; have E13 := Lib.hid e13
        clear hdp e0 e1 e2 e3 e4 e5 e6 e7 e8 e9 e10 e11 e12 e13
        refine wpOp_step rfl (fun K hK => ?_)
        go_simp
        exact hK _ _ ⟨_, _, _, _, _, _, _, _, _, _, _, _, _, _, rfl, (fun h => E0.out (by simpa [upOn] using h)), (fun h => E1.out (by simpa [upOn] using h)), (fun _ => rfl), (fun _ => rfl), (fun h => E4.out (by simpa [upOn] using h)), (fun h => E5.out (by simpa [upOn] using h)), (fun h => E6.out (by simpa [upOn] using h)), (fun h => E7.out (by simpa [upOn] using h)), (fun h => E8.out (by simpa [upOn] using h)), (fun h => E9.out (by simpa [upOn] using h)), (fun h => E10.out (by simpa [upOn] using h)), (fun h => E11.out (by simpa [upOn] using h)), (fun h => E12.out (by simpa [upOn] using h)), (fun h => E13.out (by simpa [upOn] using h)), (fun _ => HBW.out), (fun h => by simp [upOn, l14] at h)⟩
      · have l14 : L 14 = false := by
          cases h : L 14
          · rfl
          · exact absurd (hcl 14 4 h (by kernel_rfl)) (by rw [hLi]; decide)
        have HBW := Lib.hid (hw1 l14)
        clear hcl hw1 hw2
        obtain rfl := e3 (hdp 3 (by kernel_rfl))
        have E0 := Lib.hid e0; have E1 := Lib.hid e1; have E2 := Lib.hid e2; have E5 := Lib.hid e5; have E6 := Lib.hid e6; have E7 := Lib.hid e7; have E8 := Lib.hid e8; have E9 := Lib.hid e9; have E10 := Lib.hid e10; have E11 := Lib.hid e11; have E12 := Lib.hid e12; have E13 := Lib.hid e13
        clear hdp e0 e1 e2 e3 e4 e5 e6 e7 e8 e9 e10 e11 e12 e13
        refine wpOp_step rfl (fun K hK => ?_)
        rw [if_pos (by rfl)]
        refine wp_load_mid 53 _ rfl p.b 0 rfl (cpuCells m.cpu).toList _ (HM.out.next HBW.out).cpu Tryz.underlying53 rfl (mcpu_len m.cpu) ?_
        rw [Array.toArray_toList]
        exact hK _ _ ⟨_, _, _, _, _, _, _, _, _, _, _, _, _, _, rfl, (fun h => E0.out (by simpa [upOn] using h)), (fun h => E1.out (by simpa [upOn] using h)), (fun h => E2.out (by simpa [upOn] using h)), (fun _ => rfl), (fun _ => rfl), (fun h => E5.out (by simpa [upOn] using h)), (fun h => E6.out (by simpa [upOn] using h)), (fun h => E7.out (by simpa [upOn] using h)), (fun h => E8.out (by simpa [upOn] using h)), (fun h => E9.out (by simpa [upOn] using h)), (fun h => E10.out (by simpa [upOn] using h)), (fun h => E11.out (by simpa [upOn] using h)), (fun h => E12.out (by simpa [upOn] using h)), (fun h => E13.out (by simpa [upOn] using h)), (fun _ => HBW.out), (fun h => by simp [upOn, l14] at h)⟩
      · have l14 : L 14 = false := by
          cases h : L 14
          · rfl
          · exact absurd (hcl 14 5 h (by kernel_rfl)) (by rw [hLi]; decide)
        have HBW := Lib.hid (hw1 l14)
        clear hcl hw1 hw2
        have E0 := Lib.hid e0; have E1 := Lib.hid e1; have E2 := Lib.hid e2; have E3 := Lib.hid e3; have E4 := Lib.hid e4; have E6 := Lib.hid e6; have E7 := Lib.hid e7; have E8 := Lib.hid e8; have E9 := Lib.hid e9; have E10 := Lib.hid e10; have E11 := Lib.hid e11; have E12 := Lib.hid e12; have E13 := Lib.hid e13
        clear hdp e0 e1 e2 e3 e4 e5 e6 e7 e8 e9 e10 e11 e12 e13
        refine wpOp_step rfl (fun K hK => ?_)
        go_simp
        exact hK _ _ ⟨_, _, _, _, _, _, _, _, _, _, _, _, _, _, rfl, (fun h => E0.out (by simpa [upOn] using h)), (fun h => E1.out (by simpa [upOn] using h)), (fun h => E2.out (by simpa [upOn] using h)), (fun h => E3.out (by simpa [upOn] using h)), (fun h => E4.out (by simpa [upOn] using h)), (fun _ => rfl), (fun h => E6.out (by simpa [upOn] using h)), (fun h => E7.out (by simpa [upOn] using h)), (fun h => E8.out (by simpa [upOn] using h)), (fun h => E9.out (by simpa [upOn] using h)), (fun h => E10.out (by simpa [upOn] using h)), (fun h => E11.out (by simpa [upOn] using h)), (fun h => E12.out (by simpa [upOn] using h)), (fun h => E13.out (by simpa [upOn] using h)), (fun _ => HBW.out), (fun h => by simp [upOn, l14] at h)⟩
      · have l14 : L 14 = false := by
          cases h : L 14
          · rfl
          · exact absurd (hcl 14 6 h (by kernel_rfl)) (by rw [hLi]; decide)
        have HBW := Lib.hid (hw1 l14)
        clear hcl hw1 hw2
        obtain rfl := e5 (hdp 5 (by kernel_rfl))
        have E0 := Lib.hid e0; have E1 := Lib.hid e1; have E2 := Lib.hid e2; have E3 := Lib.hid e3; have E4 := Lib.hid e4; have E7 := Lib.hid e7; have E8 := Lib.hid e8; have E9 := Lib.hid e9; have E10 := Lib.hid e10; have E11 := Lib.hid e11; have E12 := Lib.hid e12; have E13 := Lib.hid e13
        clear hdp e0 e1 e2 e3 e4 e5 e6 e7 e8 e9 e10 e11 e12 e13
        refine wpOp_step rfl (fun K hK => ?_)
        have k3 : w'.cell? ⟨w.heap.size, 3, none⟩ = some (.int .i64 4) := (cell_at ((HBW.out.block _ HLT.out).trans HE.out) 3).trans rfl
        go_simp
        exact hK _ _ ⟨_, _, _, _, _, _, _, _, _, _, _, _, _, _, rfl, (fun h => E0.out (by simpa [upOn] using h)), (fun h => E1.out (by simpa [upOn] using h)), (fun h => E2.out (by simpa [upOn] using h)), (fun h => E3.out (by simpa [upOn] using h)), (fun h => E4.out (by simpa [upOn] using h)), (fun _ => rfl), (fun _ => rfl), (fun h => E7.out (by simpa [upOn] using h)), (fun h => E8.out (by simpa [upOn] using h)), (fun h => E9.out (by simpa [upOn] using h)), (fun h => E10.out (by simpa [upOn] using h)), (fun h => E11.out (by simpa [upOn] using h)), (fun h => E12.out (by simpa [upOn] using h)), (fun h => E13.out (by simpa [upOn] using h)), (fun _ => HBW.out), (fun h => by simp [upOn, l14] at h)⟩
      · have l14 : L 14 = false := by
          cases h : L 14
          · rfl
          · exact absurd (hcl 14 7 h (by kernel_rfl)) (by rw [hLi]; decide)
        have HBW := Lib.hid (hw1 l14)
        clear hcl hw1 hw2
        have E0 := Lib.hid e0; have E1 := Lib.hid e1; have E2 := Lib.hid e2; have E3 := Lib.hid e3; have E4 := Lib.hid e4; have E5 := Lib.hid e5; have E6 := Lib.hid e6; have E8 := Lib.hid e8; have E9 := Lib.hid e9; have E10 := Lib.hid e10; have E11 := Lib.hid e11; have E12 := Lib.hid e12; have E13 := Lib.hid e13
        clear hdp e0 e1 e2 e3 e4 e5 e6 e7 e8 e9 e10 e11 e12 e13
        refine wpOp_step rfl (fun K hK => ?_)
        go_simp
        exact hK _ _ ⟨_, _, _, _, _, _, _, _, _, _, _, _, _, _, rfl, (fun h => E0.out (by simpa [upOn] using h)), (fun h => E1.out (by simpa [upOn] using h)), (fun h => E2.out (by simpa [upOn] using h)), (fun h => E3.out (by simpa [upOn] using h)), (fun h => E4.out (by simpa [upOn] using h)), (fun h => E5.out (by simpa [upOn] using h)), (fun h => E6.out (by simpa [upOn] using h)), (fun _ => rfl), (fun h => E8.out (by simpa [upOn] using h)), (fun h => E9.out (by simpa [upOn] using h)), (fun h => E10.out (by simpa [upOn] using h)), (fun h => E11.out (by simpa [upOn] using h)), (fun h => E12.out (by simpa [upOn] using h)), (fun h => E13.out (by simpa [upOn] using h)), (fun _ => HBW.out), (fun h => by simp [upOn, l14] at h)⟩
      · have l14 : L 14 = false := by
          cases h : L 14
          · rfl
          · exact absurd (hcl 14 8 h (by kernel_rfl)) (by rw [hLi]; decide)
        have HBW := Lib.hid (hw1 l14)
        clear hcl hw1 hw2
        obtain rfl := e4 (hdp 4 (by kernel_rfl))
        obtain rfl := e6 (hdp 6 (by kernel_rfl))
        obtain rfl := e7 (hdp 7 (by kernel_rfl))
        have E0 := Lib.hid e0; have E1 := Lib.hid e1; have E2 := Lib.hid e2; have E3 := Lib.hid e3; have E5 := Lib.hid e5; have E9 := Lib.hid e9; have E10 := Lib.hid e10; have E11 := Lib.hid e11; have E12 := Lib.hid e12; have E13 := Lib.hid e13
        clear hdp e0 e1 e2 e3 e4 e5 e6 e7 e8 e9 e10 e11 e12 e13
        refine wpOp_step rfl (fun K hK => ?_)
        go_simp
        refine ((loaded_yes m.cpu 4 (by omega) z z0 z1 _).mono ?_)
        rintro e v1 ⟨rfl, hb1⟩
        have HBV := Lib.hid (HBW.out.trans (hb1.mono HBW.out.size))
        exact hK _ _ ⟨_, _, _, _, _, _, _, _, _, _, _, _, _, _, rfl, (fun h => E0.out (by simpa [upOn] using h)), (fun h => E1.out (by simpa [upOn] using h)), (fun h => E2.out (by simpa [upOn] using h)), (fun h => E3.out (by simpa [upOn] using h)), (fun _ => rfl), (fun h => E5.out (by simpa [upOn] using h)), (fun _ => rfl), (fun _ => rfl), (fun _ => rfl), (fun h => E9.out (by simpa [upOn] using h)), (fun h => E10.out (by simpa [upOn] using h)), (fun h => E11.out (by simpa [upOn] using h)), (fun h => E12.out (by simpa [upOn] using h)), (fun h => E13.out (by simpa [upOn] using h)), (fun _ => HBV.out), (fun h => by simp [upOn, l14] at h)⟩
      · have l14 : L 14 = false := by
          cases h : L 14
          · rfl
          · exact absurd (hcl 14 9 h (by kernel_rfl)) (by rw [hLi]; decide)
        have HBW := Lib.hid (hw1 l14)
        clear hcl hw1 hw2
        obtain rfl := e8 (hdp 8 (by kernel_rfl))
        have E0 := Lib.hid e0; have E1 := Lib.hid e1; have E2 := Lib.hid e2; have E3 := Lib.hid e3; have E4 := Lib.hid e4; have E5 := Lib.hid e5; have E6 := Lib.hid e6; have E7 := Lib.hid e7; have E10 := Lib.hid e10; have E11 := Lib.hid e11; have E12 := Lib.hid e12; have E13 := Lib.hid e13
        clear hdp e0 e1 e2 e3 e4 e5 e6 e7 e8 e9 e10 e11 e12 e13
        refine wpOp_step rfl (fun K hK => ?_)
        go_simp
        exact hK _ _ ⟨_, _, _, _, _, _, _, _, _, _, _, _, _, _, rfl, (fun h => E0.out (by simpa [upOn] using h)), (fun h => E1.out (by simpa [upOn] using h)), (fun h => E2.out (by simpa [upOn] using h)), (fun h => E3.out (by simpa [upOn] using h)), (fun h => E4.out (by simpa [upOn] using h)), (fun h => E5.out (by simpa [upOn] using h)), (fun h => E6.out (by simpa [upOn] using h)), (fun h => E7.out (by simpa [upOn] using h)), (fun _ => rfl), (fun _ => rfl), (fun h => E10.out (by simpa [upOn] using h)), (fun h => E11.out (by simpa [upOn] using h)), (fun h => E12.out (by simpa [upOn] using h)), (fun h => E13.out (by simpa [upOn] using h)), (fun _ => HBW.out), (fun h => by simp [upOn, l14] at h)⟩
      · have l14 : L 14 = false := by
          cases h : L 14
          · rfl
          · exact absurd (hcl 14 10 h (by kernel_rfl)) (by rw [hLi]; decide)
        have HBW := Lib.hid (hw1 l14)
        clear hcl hw1 hw2
        obtain rfl := e9 (hdp 9 (by kernel_rfl))
        have E0 := Lib.hid e0; have E1 := Lib.hid e1; have E2 := Lib.hid e2; have E3 := Lib.hid e3; have E4 := Lib.hid e4; have E5 := Lib.hid e5; have E6 := Lib.hid e6; have E7 := Lib.hid e7; have E8 := Lib.hid e8; have E11 := Lib.hid e11; have E12 := Lib.hid e12; have E13 := Lib.hid e13
        clear hdp e0 e1 e2 e3 e4 e5 e6 e7 e8 e9 e10 e11 e12 e13
        refine wpOp_step rfl (fun K hK => ?_)
        go_simp
        exact hK _ _ ⟨_, _, _, _, _, _, _, _, _, _, _, _, _, _, rfl, (fun h => E0.out (by simpa [upOn] using h)), (fun h => E1.out (by simpa [upOn] using h)), (fun h => E2.out (by simpa [upOn] using h)), (fun h => E3.out (by simpa [upOn] using h)), (fun h => E4.out (by simpa [upOn] using h)), (fun h => E5.out (by simpa [upOn] using h)), (fun h => E6.out (by simpa [upOn] using h)), (fun h => E7.out (by simpa [upOn] using h)), (fun h => E8.out (by simpa [upOn] using h)), (fun _ => rfl), (fun _ => rfl), (fun h => E11.out (by simpa [upOn] using h)), (fun h => E12.out (by simpa [upOn] using h)), (fun h => E13.out (by simpa [upOn] using h)), (fun _ => HBW.out), (fun h => by simp [upOn, l14] at h)⟩
      · have HW1 := Lib.hid hw1
        have HW2 := Lib.hid hw2
        clear hcl hw1 hw2
        obtain rfl := e9 (hdp 9 (by kernel_rfl))
        have E0 := Lib.hid e0; have E1 := Lib.hid e1; have E2 := Lib.hid e2; have E3 := Lib.hid e3; have E4 := Lib.hid e4; have E5 := Lib.hid e5; have E6 := Lib.hid e6; have E7 := Lib.hid e7; have E8 := Lib.hid e8; have E10 := Lib.hid e10; have E12 := Lib.hid e12; have E13 := Lib.hid e13
        clear hdp e0 e1 e2 e3 e4 e5 e6 e7 e8 e9 e10 e11 e12 e13
        refine wpOp_step rfl (fun K hK => ?_)
        go_simp
        exact hK _ _ ⟨_, _, _, _, _, _, _, _, _, _, _, _, _, _, rfl, (fun h => E0.out (by simpa [upOn] using h)), (fun h => E1.out (by simpa [upOn] using h)), (fun h => E2.out (by simpa [upOn] using h)), (fun h => E3.out (by simpa [upOn] using h)), (fun h => E4.out (by simpa [upOn] using h)), (fun h => E5.out (by simpa [upOn] using h)), (fun h => E6.out (by simpa [upOn] using h)), (fun h => E7.out (by simpa [upOn] using h)), (fun h => E8.out (by simpa [upOn] using h)), (fun _ => rfl), (fun h => E10.out (by simpa [upOn] using h)), (fun _ => rfl), (fun h => E12.out (by simpa [upOn] using h)), (fun h => E13.out (by simpa [upOn] using h)), (fun h => HW1.out (by simpa [upOn] using h)), (fun h => HW2.out (by simpa [upOn] using h))⟩
      · have l14 : L 14 = false := by
          cases h : L 14
          · rfl
          · exact absurd (hcl 13 12 (hcl 14 13 h (by kernel_rfl)) (by kernel_rfl)) (by rw [hLi]; decide)
        have HBW := Lib.hid (hw1 l14)
        clear hcl hw1 hw2
        obtain rfl := e0 (hdp 0 (by kernel_rfl))
        have E1 := Lib.hid e1; have E2 := Lib.hid e2; have E3 := Lib.hid e3; have E4 := Lib.hid e4; have E5 := Lib.hid e5; have E6 := Lib.hid e6; have E7 := Lib.hid e7; have E8 := Lib.hid e8; have E9 := Lib.hid e9; have E10 := Lib.hid e10; have E11 := Lib.hid e11; have E13 := Lib.hid e13
        clear hdp e0 e1 e2 e3 e4 e5 e6 e7 e8 e9 e10 e11 e12 e13
        refine wpOp_step rfl (fun K hK => ?_)
        go_simp
        exact hK _ _ ⟨_, _, _, _, _, _, _, _, _, _, _, _, _, _, rfl, (fun _ => rfl), (fun h => E1.out (by simpa [upOn] using h)), (fun h => E2.out (by simpa [upOn] using h)), (fun h => E3.out (by simpa [upOn] using h)), (fun h => E4.out (by simpa [upOn] using h)), (fun h => E5.out (by simpa [upOn] using h)), (fun h => E6.out (by simpa [upOn] using h)), (fun h => E7.out (by simpa [upOn] using h)), (fun h => E8.out (by simpa [upOn] using h)), (fun h => E9.out (by simpa [upOn] using h)), (fun h => E10.out (by simpa [upOn] using h)), (fun h => E11.out (by simpa [upOn] using h)), (fun _ => rfl), (fun h => E13.out (by simpa [upOn] using h)), (fun _ => HBW.out), (fun h => by simp [upOn, l14] at h)⟩
      · have l14 : L 14 = false := by
          cases h : L 14
          · rfl
          · exact absurd (hcl 14 13 h (by kernel_rfl)) (by rw [hLi]; decide)
        have HBW := Lib.hid (hw1 l14)
        clear hcl hw1 hw2
        obtain rfl := e12 (hdp 12 (by kernel_rfl))
        have E0 := Lib.hid e0; have E1 := Lib.hid e1; have E2 := Lib.hid e2; have E3 := Lib.hid e3; have E4 := Lib.hid e4; have E5 := Lib.hid e5; have E6 := Lib.hid e6; have E7 := Lib.hid e7; have E8 := Lib.hid e8; have E9 := Lib.hid e9; have E10 := Lib.hid e10; have E11 := Lib.hid e11
        clear hdp e0 e1 e2 e3 e4 e5 e6 e7 e8 e9 e10 e11 e12 e13
        refine wpOp_step rfl (fun K hK => ?_)
        go_simp
        exact hK _ _ ⟨_, _, _, _, _, _, _, _, _, _, _, _, _, _, rfl, (fun h => E0.out (by simpa [upOn] using h)), (fun h => E1.out (by simpa [upOn] using h)), (fun h => E2.out (by simpa [upOn] using h)), (fun h => E3.out (by simpa [upOn] using h)), (fun h => E4.out (by simpa [upOn] using h)), (fun h => E5.out (by simpa [upOn] using h)), (fun h => E6.out (by simpa [upOn] using h)), (fun h => E7.out (by simpa [upOn] using h)), (fun h => E8.out (by simpa [upOn] using h)), (fun h => E9.out (by simpa [upOn] using h)), (fun h => E10.out (by simpa [upOn] using h)), (fun h => E11.out (by simpa [upOn] using h)), (fun _ => rfl), (fun _ => rfl), (fun _ => HBW.out), (fun h => by simp [upOn, l14] at h)⟩
      · have l14 : L 14 = false := by
          exact hLi
        have HBW := Lib.hid (hw1 l14)
        clear hcl hw1 hw2
        obtain rfl := e13 (hdp 13 (by kernel_rfl))
        obtain rfl := e10 (hdp 10 (by kernel_rfl))
        have E0 := Lib.hid e0; have E1 := Lib.hid e1; have E2 := Lib.hid e2; have E3 := Lib.hid e3; have E4 := Lib.hid e4; have E5 := Lib.hid e5; have E6 := Lib.hid e6; have E7 := Lib.hid e7; have E8 := Lib.hid e8; have E9 := Lib.hid e9; have E11 := Lib.hid e11; have E12 := Lib.hid e12
        clear hdp e0 e1 e2 e3 e4 e5 e6 e7 e8 e9 e10 e11 e12 e13
        refine wpOp_step rfl (fun K hK => ?_)
        rw [if_pos (by rfl)]
        have HB0 : Hid (w'.there p.b 0 (cpuCells (ldC m.cpu 4 z)).size) := Lib.hid fun j hj => (HM.out.next HBW.out).bt j (by have : (cpuCells (ldC m.cpu 4 z)).size = 22 := rfl; omega)
        refine wp_store_mid 53 _ _ rfl p.b 0 (cpuCells (ldC m.cpu 4 z)) rfl rfl HB0.out (mcpu_size _) (mcpu_one _) ?_
        have HS : Hid (MAt (w'.setCells p.b 0 (cpuCells (ldC m.cpu 4 z)).toList) B p { m with cpu := ldC m.cpu 4 z } ∧ Chg p w (w'.setCells p.b 0 (cpuCells (ldC m.cpu 4 z)).toList)) := Lib.hid ⟨(HM.out.next HBW.out).put 0 (cpuCells (ldC m.cpu 4 z)).toList { m with cpu := ldC m.cpu 4 z } (by show 0 + 22 ≤ 28; omega) rfl rfl rfl, Chg.setCells p.b (.inl rfl) _ 0 _ (HG.out.trans (Chg.ofBelow HBW.out))⟩
        exact hK _ _ ⟨_, _, _, _, _, _, _, _, _, _, _, _, _, _, rfl, (fun h => E0.out (by simpa [upOn] using h)), (fun h => E1.out (by simpa [upOn] using h)), (fun h => E2.out (by simpa [upOn] using h)), (fun h => E3.out (by simpa [upOn] using h)), (fun h => E4.out (by simpa [upOn] using h)), (fun h => E5.out (by simpa [upOn] using h)), (fun h => E6.out (by simpa [upOn] using h)), (fun h => E7.out (by simpa [upOn] using h)), (fun h => E8.out (by simpa [upOn] using h)), (fun h => E9.out (by simpa [upOn] using h)), (fun _ => rfl), (fun h => E11.out (by simpa [upOn] using h)), (fun h => E12.out (by simpa [upOn] using h)), (fun _ => rfl), (fun h => by simp [upOn] at h), (fun _ => HS.out)⟩
    case fin =>
      rintro L a' w' hall ⟨y0, y1, y2, y3, y4, y5, y6, y7, y8, y9, y10, y11, y12, y13, rfl, e0, e1, e2, e3, e4, e5, e6, e7, e8, e9, e10, e11, e12, e13, -, hw2⟩
      obtain rfl := e0 (hall 0 (by omega))
      obtain rfl := e1 (hall 1 (by omega))
      obtain rfl := e2 (hall 2 (by omega))
      obtain rfl := e3 (hall 3 (by omega))
      obtain rfl := e4 (hall 4 (by omega))
      obtain rfl := e5 (hall 5 (by omega))
      obtain rfl := e6 (hall 6 (by omega))
      obtain rfl := e7 (hall 7 (by omega))
      obtain rfl := e8 (hall 8 (by omega))
      obtain rfl := e9 (hall 9 (by omega))
      obtain rfl := e10 (hall 10 (by omega))
      obtain rfl := e11 (hall 11 (by omega))
      obtain rfl := e12 (hall 12 (by omega))
      obtain rfl := e13 (hall 13 (by omega))
      have HS := Lib.hid (hw2 (hall 14 (by omega)))
      clear hw2 hall e0 e1 e2 e3 e4 e5 e6 e7 e8 e9 e10 e11 e12 e13
      go_wp2_with fail
      go_end0
      exact ⟨rfl, by rw [HZ.out]; exact HS.out.1, HS.out.2⟩
end
end Go.Proofs.YtlgdlaohfkgkfaaGreat
